/-
  What the document's own Two returns where the sum is finite. Condition: floats of 64 bits.
-/
import Derived.Test.YtffjkfjokikhnaaRwj
import Derived.Deep.RegionHeld3
import Derived.Deep.DeepCutAuto
namespace Go.Proofs.Ytffjkfjokikhnaa.Rb
open Go.RowKit Nb Fl Ieee
theorem Rest.newE {W : World} {r : Nat} (h : r = W.heap.size) : Rest (W.alloc (.cells #[.bool false, .slice none 0 0] 49)) r := by subst h; exact Rest.new W
theorem Rest.alloc {W : World} {r : Nat} (h : Rest W r) (o : Obj) : Rest (W.alloc o) r := h.on ((Below.refl _ _).alloc (Nat.le_refl _) o)
theorem Rest.cells {W : World} {r : Nat} (h : Rest W r) (n : Bool) (V : Option Addr) (l e : Nat) :
    ((W.setCell ⟨r, 0, none⟩ (.bool n)).setCell ⟨r, 1, none⟩ (.slice V l e)).cell? ⟨r, 0, none⟩ = some (.bool n) ∧ ((W.setCell ⟨r, 0, none⟩ (.bool n)).setCell ⟨r, 1, none⟩ (.slice V l e)).cell? ⟨r, 1, none⟩ = some (.slice V l e) := by
  have h0 := h.r0
  have h1 := h.r1
  constructor
  · go_cell
  · go_cell
theorem kept_b {W w' w'' : World} {P X : Prop} (h : (P ∧ Below W.heap.size W w') ∧ X) (hb : Below w'.heap.size w' w'') : Below W.heap.size W w'' := h.1.2.trans (hb.mono h.1.2.size)
theorem kept_g {W w' : World} {nz : Bool} {V : Option Addr} {us : List Nat} {kk : Nat} {X : Prop} (h : (Bg w' nz V us kk maxLen ∧ Below W.heap.size W w') ∧ X) : Bg w' nz V us kk maxLen := h.1.1
section
variable {w W W' : World} {p q r r0 : Nat} {n1 n2 n3 : Bool} {A B C : Option Addr} {xs ys zs : List Nat} {c d k : Nat} {X : Prop}
theorem Tri3.set (h : Tri3 w W p q r n1 n2 n3 A B C xs ys zs c d k) {a : Addr} (hw : w.heap.size ≤ a.block) (hp : p ≠ a.block) (hq : q ≠ a.block) (hr : r ≠ a.block) (u : Value) : Tri3 w (W.setCell a u) p q r n1 n2 n3 A B C xs ys zs c d k :=
  ⟨h.below.setCell hw u, by simpa using h.lp, by simpa using h.lq, by simpa using h.lr, h.sa.setCell hw u, h.sb.setCell hw u, h.sc.setCell hw u,
   (World.cell?_setCell_other _ _ _ _ (fun e => hp (by rw [e]))).trans h.a0, (World.cell?_setCell_other _ _ _ _ (fun e => hp (by rw [e]))).trans h.a1, (World.cell?_setCell_other _ _ _ _ (fun e => hq (by rw [e]))).trans h.b0, (World.cell?_setCell_other _ _ _ _ (fun e => hq (by rw [e]))).trans h.b1, (World.cell?_setCell_other _ _ _ _ (fun e => hr (by rw [e]))).trans h.c0, (World.cell?_setCell_other _ _ _ _ (fun e => hr (by rw [e]))).trans h.c1⟩
theorem Tri3.put (h : Tri3 w W p q r n1 n2 n3 A B C xs ys zs c d k ∧ X) (hw : w.heap.size ≤ r0) (hp : p ≠ r0) (hq : q ≠ r0) (hr : r ≠ r0) (u v : Value) : TriS w ((W.setCell ⟨r0, 0, none⟩ u).setCell ⟨r0, 1, none⟩ v) p q r n1 n2 n3 A B C xs ys zs c d k :=
  ((h.1.set (a := ⟨r0, 0, none⟩) hw hp hq hr u).set (a := ⟨r0, 1, none⟩) hw hp hq hr v).all
end
set_option maxHeartbeats 8000000 in
set_option maxRecDepth 20000 in
theorem rtwo_fin (a b s l : Nat) (w : World) (ha : a < 18446744073709551616) (hb : b < 18446744073709551616) (hs : s < 18446744073709551616) (fa : mg a < 9218868437227405312) (fb : mg b < 9218868437227405312) (fs : mg s < 9218868437227405312) (hsum : double.add a b = some s)
    (hl : l < 18446744073709551616) (fl : mg l < 9218868437227405312) (hlost : sval l = sval a + sval b - sval s) (z : Nat) (hz : z = if mg l = 0 then 0 else l) :
    Calls Try.prog 25 #[.float .f64 a, .float .f64 b] w fun r w' => r = .returned (.tuple #[.float .f64 s, .float .f64 z]) ∧ Below w.heap.size w w' := by
  have HA := worth_any' a ha fa
  have HB := worth_any' b hb fb
  have HS := worth_any' s hs fs
  have hadd : ∀ (t : TypeId) (W : World), (binOp .add t (.float .f64 a) (.float .f64 b)).run Try.prog W = .ok (.float .f64 s) W := fun t W => by
    have hf := fop_some (op := .add) hsum W
    rw [run_add, hf.1, hf.2]
    rfl
  have HF : Hid (∀ w : World, Calls Try.prog 46 #[.float .f64 s] w fun e w' => e = .returned (.bool true) ∧ w' = w) := Lib.hid (fun w => by
    have := finite_any s w hs
    rwa [decide_eq_true fs] at this)
  have HZ := Lib.hid hz
  clear ha hb hs fa fb fs hsum hz
  go_enter Try.func25, Try.ntmps25
  go_wp2_with fail
  refine (HF.out _).mono ?_
  rintro _ w0 ⟨rfl, rfl⟩
  go_wp2_with fail
  refine (HA.out _).mono ?_
  rintro _ w1 ⟨n1, A, xs, c, E1, rfl, bg1, hx2, hE1, hv1, hm1, hb1⟩
  have BG1 := Lib.hid bg1
  have HV1 := Lib.hid hv1
  have HB1 := Lib.hid hb1
  clear bg1 hv1 hb1 hm1
  go_wp2_with fail
  refine (HB.out _).mono ?_
  rintro _ w2 ⟨n2, B, ys, d, E2, rfl, bg2, hy2, hE2, hv2, hm2, hb2⟩
  have BG2 := Lib.hid bg2
  have HV2 := Lib.hid hv2
  have HB2 := Lib.hid hb2
  clear bg2 hv2 hb2 hm2
  go_wp2_with fail
  refine (HS.out _).mono ?_
  rintro _ w3 ⟨n3, C, zs, k, E3, rfl, bg3, hz2, hE3, hv3, hm3, hb3⟩
  have HT := Lib.hid (tri_made BG1.out HB2.out BG2.out hb3 bg3).all
  have HBW : Hid (Below w0.heap.size w0 w3) := Lib.hid ((HB1.out.trans ((cells_then HB2.out).2.2.2.mono HB1.out.size)).trans ((cells_then hb3).2.2.2.mono (Nat.le_trans HB1.out.size (cells_then HB2.out).2.2.2.size)))
  have BG3 := Lib.hid bg3
  have HV3 := Lib.hid hv3
  clear bg3 hv3 hb3 hm3
  obtain ⟨e1, he1⟩ : ∃ e1 : Int, (E1 : Int) - 1074 = e1 := ⟨_, rfl⟩
  obtain ⟨e2, he2⟩ : ∃ e2 : Int, (E2 : Int) - 1074 = e2 := ⟨_, rfl⟩
  obtain ⟨e3, he3⟩ : ∃ e3 : Int, (E3 : Int) - 1074 = e3 := ⟨_, rfl⟩
  obtain ⟨l1, hl1⟩ : ∃ l1 : Int, l1 = (if xs.length = 0 then e2 else if ys.length = 0 then e1 else min e1 e2) := ⟨_, rfl⟩
  obtain ⟨l2, hl2⟩ : ∃ l2 : Int, l2 = (if xs.length = 0 then e3 else if zs.length = 0 then e1 else min e1 e3) := ⟨_, rfl⟩
  have hpl := least_place hl1 hl2
  have HL1 : Hid (∀ W : World, Sl .u32 W W.heap.size A xs → Sl .u32 W W.heap.size B ys → Calls Try.prog 48 #[big n1 A xs.length c, .int .i64 e1, big n2 B ys.length d, .int .i64 e2] W fun r w' => r = .returned (.int .i64 l1) ∧ Below W.heap.size W w') := Lib.hid (fun W h1 h2 => by
    rw [hl1]
    exact least_any n1 n2 A B xs ys c d e1 e2 W h1 h2 (by omega) (by omega) (by omega) (by omega) (by omega) (by omega))
  have HL2 : Hid (∀ W : World, Sl .u32 W W.heap.size A xs → Sl .u32 W W.heap.size C zs → Calls Try.prog 48 #[big n1 A xs.length c, .int .i64 e1, big n3 C zs.length k, .int .i64 e3] W fun r w' => r = .returned (.int .i64 l2) ∧ Below W.heap.size W w') := Lib.hid (fun W h1 h2 => by
    rw [hl2]
    exact least_any n1 n3 A C xs zs c k e1 e3 W h1 h2 (by omega) (by omega) (by omega) (by omega) (by omega) (by omega))
  obtain ⟨L, hL⟩ : ∃ L, min l1 l2 = L := ⟨_, rfl⟩
  rw [hL] at hpl
  have hLm : (l1 ≤ l2 → l1 = L) ∧ (l2 < l1 → l2 = L) := by omega
  have HPL := Lib.hid hpl
  have HLM := Lib.hid hLm
  clear hl1 hl2 hL hLm hpl
  go_wp2_with fail
  generalize (w3.alloc (.cells #[.bool n3, .slice C zs.length k] 49)) = W3 at *
  go_cut [13] (fun s13 wx => s13 = .int .i64 L ∧ TriS w3 wx w1.heap.size w2.heap.size w3.heap.size n1 n2 n3 A B C xs ys zs c d k)
  case first =>
    have hall := HT.out
    go_region_held3 (fun wx => Tri3 w3 wx w1.heap.size w2.heap.size w3.heap.size n1 n2 n3 A B C xs ys zs c d k ∧ wx.cell? ⟨w1.heap.size, 0, none⟩ = some (.bool n1) ∧ wx.cell? ⟨w1.heap.size, 1, none⟩ = some (.slice A xs.length c) ∧ wx.cell? ⟨w2.heap.size, 0, none⟩ = some (.bool n2) ∧ wx.cell? ⟨w2.heap.size, 1, none⟩ = some (.slice B ys.length d) ∧ wx.cell? ⟨w3.heap.size, 0, none⟩ = some (.bool n3) ∧ wx.cell? ⟨w3.heap.size, 1, none⟩ = some (.slice C zs.length k))
      (first | exact hall | assumption | exact Tri3.keep hall ((Below.refl _ _).drew) | exact Tri3.keep (by assumption) (by assumption) | exact Tri3.keep (by assumption) ((Below.refl _ _).drew))
      (first
        | (go_at_call 48; (with_reducible refine (HL1.out _ (Tri3.sa' (by assumption)) (Tri3.sb' (by assumption))).mono ?_); rintro _ wi ⟨rfl, hbi⟩)
        | (go_at_call 48; (with_reducible refine (HL2.out _ (Tri3.sa' (by assumption)) (Tri3.sc' (by assumption))).mono ?_); rintro _ wj ⟨rfl, hbj⟩))
    all_goals (try (go_wp2_with fail))
    all_goals
      go_meet
      exact ⟨by first | rw [HLM.out.1 (by assumption)] | rw [HLM.out.2 (by assumption)], by assumption⟩
  case rest =>
    obtain ⟨rfl, hall⟩ := hcut
    have HALL := Lib.hid hall
    have hLb : -1074 ≤ L ∧ L ≤ 971 := by have := HPL.out.2.2.2; omega
    obtain ⟨t1, ht1⟩ : ∃ t1 : Int, e1 - L = t1 := ⟨_, rfl⟩
    obtain ⟨t2, ht2⟩ : ∃ t2 : Int, e2 - L = t2 := ⟨_, rfl⟩
    obtain ⟨t3, ht3⟩ : ∃ t3 : Int, e3 - L = t3 := ⟨_, rfl⟩
    have HW1 : Hid (IntKind.i64.wrap (e1 - L) = t1) := Lib.hid (by rw [IntKind.wrap_i64]; omega)
    have HW2 : Hid (IntKind.i64.wrap (e2 - L) = t2) := Lib.hid (by rw [IntKind.wrap_i64]; omega)
    have HW3 : Hid (IntKind.i64.wrap (e3 - L) = t3) := Lib.hid (by rw [IntKind.wrap_i64]; omega)
    have HD1 : Hid (∀ W : World, Sl .u32 W W.heap.size A xs → Calls Try.prog 51 #[big n1 A xs.length c, .int .i64 t1] W (Givl W (sv n1 (val W32 xs) * (2 ^ t1.toNat : Nat)) (xs.length + t1.toNat / 32 + 1))) := Lib.hid (fun W h => rdouble_int n1 A xs c t1 W ⟨h, BG1.out.dig, BG1.out.norm, BG1.out.sign, BG1.out.len, BG1.out.cap⟩ (by omega) (by omega) (by have := HPL.out.1; omega))
    have HD2 : Hid (∀ W : World, Sl .u32 W W.heap.size B ys → Calls Try.prog 51 #[big n2 B ys.length d, .int .i64 t2] W (Givl W (sv n2 (val W32 ys) * (2 ^ t2.toNat : Nat)) (ys.length + t2.toNat / 32 + 1))) := Lib.hid (fun W h => rdouble_int n2 B ys d t2 W ⟨h, BG2.out.dig, BG2.out.norm, BG2.out.sign, BG2.out.len, BG2.out.cap⟩ (by omega) (by omega) (by have := HPL.out.2.1; omega))
    have HD3 : Hid (∀ W : World, Sl .u32 W W.heap.size C zs → Calls Try.prog 51 #[big n3 C zs.length k, .int .i64 t3] W (Givl W (sv n3 (val W32 zs) * (2 ^ t3.toNat : Nat)) (zs.length + t3.toNat / 32 + 1))) := Lib.hid (fun W h => rdouble_int n3 C zs k t3 W ⟨h, BG3.out.dig, BG3.out.norm, BG3.out.sign, BG3.out.len, BG3.out.cap⟩ (by omega) (by omega) (by have := HPL.out.2.2.1; omega))
    have hb1 : xs.length + t1.toNat / 32 + 1 ≤ 200 := by omega
    have hb2 : ys.length + t2.toNat / 32 + 1 ≤ 200 := by omega
    have hb3 : zs.length + t3.toNat / 32 + 1 ≤ 200 := by omega
    obtain ⟨X1, hX1⟩ : ∃ X1, sv n1 (val W32 xs) * (2 ^ t1.toNat : Nat) = X1 := ⟨_, rfl⟩
    obtain ⟨X2, hX2⟩ : ∃ X2, sv n2 (val W32 ys) * (2 ^ t2.toNat : Nat) = X2 := ⟨_, rfl⟩
    obtain ⟨X3, hX3⟩ : ∃ X3, sv n3 (val W32 zs) * (2 ^ t3.toNat : Nat) = X3 := ⟨_, rfl⟩
    simp only [hX1] at HD1
    simp only [hX2] at HD2
    simp only [hX3] at HD3
    have HX := Lib.hid (And.intro hX1 (And.intro hX2 hX3))
    generalize xs.length + t1.toNat / 32 + 1 = y1 at *
    generalize ys.length + t2.toNat / 32 + 1 = y2 at *
    generalize zs.length + t3.toNat / 32 + 1 = y3 at *
    have HTS := Lib.hid (And.intro ht1 (And.intro ht2 ht3))
    have HEE := Lib.hid (And.intro he1 (And.intro he2 he3))
    have HLB := Lib.hid hLb
    have hBW3 : ∀ {wx : World}, Below w3.heap.size w3 wx → Below w3.heap.size w3 wx := fun h => h
    clear hX1 hX2 hX3 ht1 ht2 ht3 he1 he2 he3 hall hLb
    have hall := HALL.out
    go_wp2_with fail
    go_cut [14] (fun s14 wx => ∃ (q : Nat) (nz : Bool) (V : Option Addr) (us : List Nat) (kk : Nat), s14 = .pointer (some ⟨q, 0, none⟩) ∧ q < wx.heap.size ∧ wx.cell? ⟨q, 0, none⟩ = some (.bool nz) ∧ wx.cell? ⟨q, 1, none⟩ = some (.slice V us.length kk) ∧ Bg wx nz V us kk maxLen ∧ sv nz (val W32 us) = X1 + X2 - X3 ∧ us.length ≤ 210 ∧ Below w3.heap.size w3 wx)
    case first =>
      have R := hall.1
      clear hall
      refine wp_region_noPanic ?_
      replace R := R.on (Below.drew (Below.refl _ _))
      have g : Below wc.heap.size wc wc.drew := Below.drew (Below.refl _ _)
      refine wp_region_held_drew (S := (fun wx => wx.cell? ⟨w1.heap.size, 0, none⟩ = some (.bool n1) ∧ wx.cell? ⟨w1.heap.size, 1, none⟩ = some (.slice A xs.length c) ∧ wx.cell? ⟨w2.heap.size, 0, none⟩ = some (.bool n2) ∧ wx.cell? ⟨w2.heap.size, 1, none⟩ = some (.slice B ys.length d) ∧ wx.cell? ⟨w3.heap.size, 0, none⟩ = some (.bool n3) ∧ wx.cell? ⟨w3.heap.size, 1, none⟩ = some (.slice C zs.length k))) (by kernel_rfl) ⟨R.a0, R.a1, R.b0, R.b1, R.c0, R.c1⟩ (fun hHeld => ?_)
      generalize wc.drew = Vd at *
      refine wpAnyH_take (i := 0) (v := ?_) (by (simp only [List.getElem?_toArray, List.getElem?_cons_zero]; rfl)) (by kernel_rfl) (by kernel_rfl) (by kernel_rfl) (fun _ _ _ h => h) (Or.inl ⟨by rfl, ?_⟩) (by assumption) ?_
      rotate_left
      · intro wt hSw
        (try dsimp only at hSw)
        go_simp
        (try with_reducible rfl)
      (try simp only [Act.put, List.setIfInBounds_toArray, List.set_cons_zero, List.set_cons_succ])
      refine wpAnyH_take (i := 1) (v := ?_) (by (simp only [List.getElem?_toArray, List.getElem?_cons_succ, List.getElem?_cons_zero]; rfl)) (by kernel_rfl) (by kernel_rfl) (by kernel_rfl) (fun _ _ _ h => h) (Or.inl ⟨by rfl, ?_⟩) (by assumption) ?_
      rotate_left
      · intro wt hSw
        (try dsimp only at hSw)
        go_simp
        (try with_reducible rfl)
      (try simp only [Act.put, List.setIfInBounds_toArray, List.set_cons_zero, List.set_cons_succ])
      refine wpAnyH_take (i := 2) (v := ?_) (by (simp only [List.getElem?_toArray, List.getElem?_cons_succ, List.getElem?_cons_zero]; rfl)) (by kernel_rfl) (by kernel_rfl) (by kernel_rfl) (fun _ _ _ h => h) (Or.inl ⟨by rfl, ?_⟩) (by assumption) ?_
      rotate_left
      · intro wt hSw
        (try dsimp only at hSw)
        go_simp
        (try with_reducible rfl)
      (try simp only [Act.put, List.setIfInBounds_toArray, List.set_cons_zero, List.set_cons_succ])
      refine wpAnyH_take (i := 3) (v := ?_) (by (simp only [List.getElem?_toArray, List.getElem?_cons_succ, List.getElem?_cons_zero]; rfl)) (by kernel_rfl) (by kernel_rfl) (by kernel_rfl) (fun _ _ _ h => h) (Or.inl ⟨by rfl, ?_⟩) (by assumption) ?_
      rotate_left
      · intro wt hSw
        (try dsimp only at hSw)
        go_simp
        (try with_reducible rfl)
      (try simp only [Act.put, List.setIfInBounds_toArray, List.set_cons_zero, List.set_cons_succ])
      refine wpAnyH_take (i := 5) (v := ?_) (by (simp only [List.getElem?_toArray, List.getElem?_cons_succ, List.getElem?_cons_zero]; rfl)) (by kernel_rfl) (by kernel_rfl) (by kernel_rfl) (fun _ _ _ h => h) (Or.inl ⟨by rfl, ?_⟩) (by assumption) ?_
      rotate_left
      · intro wt hSw
        (try dsimp only at hSw)
        go_simp
        (try with_reducible rfl)
      (try simp only [Act.put, List.setIfInBounds_toArray, List.set_cons_zero, List.set_cons_succ])
      refine wpAnyH_take (i := 6) (v := ?_) (by (simp only [List.getElem?_toArray, List.getElem?_cons_succ, List.getElem?_cons_zero]; rfl)) (by kernel_rfl) (by kernel_rfl) (by kernel_rfl) (fun _ _ _ h => h) (Or.inl ⟨by rfl, ?_⟩) (by assumption) ?_
      rotate_left
      · intro wt hSw
        (try dsimp only at hSw)
        go_simp
        (try with_reducible rfl)
      (try simp only [Act.put, List.setIfInBounds_toArray, List.set_cons_zero, List.set_cons_succ])
      refine wpAnyH_take (i := 7) (v := ?_) (by (simp only [List.getElem?_toArray, List.getElem?_cons_succ, List.getElem?_cons_zero]; rfl)) (by kernel_rfl) (by kernel_rfl) (by kernel_rfl) (fun _ _ _ h => h) (Or.inl ⟨by rfl, ?_⟩) (by assumption) ?_
      rotate_left
      · intro wt hSw
        (try dsimp only at hSw)
        go_simp
        (try with_reducible rfl)
      (try simp only [Act.put, List.setIfInBounds_toArray, List.set_cons_zero, List.set_cons_succ])
      refine wpAnyH_take (i := 8) (v := ?_) (by (simp only [List.getElem?_toArray, List.getElem?_cons_succ, List.getElem?_cons_zero]; rfl)) (by kernel_rfl) (by kernel_rfl) (by kernel_rfl) (fun _ _ _ h => h) (Or.inl ⟨by rfl, ?_⟩) (by assumption) ?_
      rotate_left
      · intro wt hSw
        (try dsimp only at hSw)
        go_simp
        (try with_reducible rfl)
      (try simp only [Act.put, List.setIfInBounds_toArray, List.set_cons_zero, List.set_cons_succ])
      refine wpAnyH_take (i := 11) (v := ?_) (by (simp only [List.getElem?_toArray, List.getElem?_cons_succ, List.getElem?_cons_zero]; rfl)) (by kernel_rfl) (by kernel_rfl) (by kernel_rfl) (fun _ _ _ h => h) (Or.inl ⟨by rfl, ?_⟩) (by assumption) ?_
      rotate_left
      · intro wt hSw
        (try dsimp only at hSw)
        go_simp
        (try with_reducible rfl)
      (try simp only [Act.put, List.setIfInBounds_toArray, List.set_cons_zero, List.set_cons_succ])
      refine wpAnyH_take (i := 12) (v := ?_) (by (simp only [List.getElem?_toArray, List.getElem?_cons_succ, List.getElem?_cons_zero]; rfl)) (by kernel_rfl) (by kernel_rfl) (by kernel_rfl) (fun _ _ _ h => h) (Or.inl ⟨by rfl, ?_⟩) (by assumption) ?_
      rotate_left
      · intro wt hSw
        (try dsimp only at hSw)
        go_simp
        (try with_reducible rfl)
      (try simp only [Act.put, List.setIfInBounds_toArray, List.set_cons_zero, List.set_cons_succ])
      refine wpAnyH_take (i := 13) (v := ?_) (by (simp only [List.getElem?_toArray, List.getElem?_cons_succ, List.getElem?_cons_zero]; rfl)) (by kernel_rfl) (by kernel_rfl) (by kernel_rfl) (fun _ _ _ h => h) (Or.inl ⟨by rfl, ?_⟩) (by assumption) ?_
      rotate_left
      · intro wt hSw
        (try dsimp only at hSw)
        go_simp
        (try with_reducible rfl)
      (try simp only [Act.put, List.setIfInBounds_toArray, List.set_cons_zero, List.set_cons_succ])
      refine wpAnyH_take (i := 14) (v := ?_) (by (simp only [List.getElem?_toArray, List.getElem?_cons_succ, List.getElem?_cons_zero]; rfl)) (by kernel_rfl) (by kernel_rfl) (by kernel_rfl) (fun _ _ _ h => h) (Or.inl ⟨by rfl, ?_⟩) (by assumption) ?_
      rotate_left
      · intro wt hSw
        (try dsimp only at hSw)
        go_simp
        (try with_reducible rfl)
      (try simp only [Act.put, List.setIfInBounds_toArray, List.set_cons_zero, List.set_cons_succ])
      refine wpAnyH_ready (rs := [4, 17]) (by kernel_rfl) (by simp) (AllReadyH.cons (by (simp only [List.getElem?_toArray, List.getElem?_cons_succ, List.getElem?_cons_zero]; rfl)) (fun K hK => ?_) (AllReadyH.cons (by (simp only [List.getElem?_toArray, List.getElem?_cons_succ, List.getElem?_cons_zero]; rfl)) (fun K hK => ?_) AllReadyH.nil))
      · go_simp
        (go_at_call 51; rw [HW1.out]; with_reducible refine (HD1.out _ (Tri3.sa' R.all)).mono ?_)
        rintro f1 w4 ⟨m1, V1, us1, k1, rfl, bA, vA, lA, hb⟩
        (try go_wp2_with fail)
        replace R := R.on hb
        replace g := g.trans (hb.mono g.size)
        clear hb
        refine hK.out _ _ ⟨R.a0, R.a1, R.b0, R.b1, R.c0, R.c1⟩ (fun hHeld => ?_)
        clear hK
        (try simp only [Act.put, List.setIfInBounds_toArray, List.set_cons_zero, List.set_cons_succ])
        refine wpAnyH_ready (rs := [9, 17]) (by kernel_rfl) (by simp) (AllReadyH.cons (by (simp only [List.getElem?_toArray, List.getElem?_cons_succ, List.getElem?_cons_zero]; rfl)) (fun K hK => ?_) (AllReadyH.cons (by (simp only [List.getElem?_toArray, List.getElem?_cons_succ, List.getElem?_cons_zero]; rfl)) (fun K hK => ?_) AllReadyH.nil))
        · go_simp
          (go_at_call 51; rw [HW2.out]; with_reducible refine (HD2.out _ (Tri3.sb' R.all)).mono ?_)
          rintro f2 w5 ⟨m2, V2, us2, k2, rfl, bB, vB, lB, hb⟩
          (try go_wp2_with fail)
          replace R := R.on hb
          replace g := g.trans (hb.mono g.size)
          replace bA := bA.below hb
          clear hb
          refine hK.out _ _ ⟨R.a0, R.a1, R.b0, R.b1, R.c0, R.c1⟩ (fun hHeld => ?_)
          clear hK
          (try simp only [Act.put, List.setIfInBounds_toArray, List.set_cons_zero, List.set_cons_succ])
          refine wpAnyH_ready (rs := [10, 17]) (by kernel_rfl) (by simp) (AllReadyH.cons (by (simp only [List.getElem?_toArray, List.getElem?_cons_succ, List.getElem?_cons_zero]; rfl)) (fun K hK => ?_) (AllReadyH.cons (by (simp only [List.getElem?_toArray, List.getElem?_cons_succ, List.getElem?_cons_zero]; rfl)) (fun K hK => ?_) AllReadyH.nil))
          · go_simp
            (go_at_call 50; with_reducible refine (rplus_any m1 m2 V1 V2 us1 us2 k1 k2 _ bA.sl bB.sl bA.dig bB.dig bA.norm bB.norm (by omega)).mono ?_)
            rintro f3 w6 ⟨m3, V3, us3, k3, rfl, bC, vC, lC, hb⟩
            (try go_wp2_with fail)
            replace R := R.on hb
            replace g := g.trans (hb.mono g.size)
            replace bA := bA.below hb
            replace bB := bB.below hb
            clear hb
            refine hK.out _ _ ⟨R.a0, R.a1, R.b0, R.b1, R.c0, R.c1⟩ (fun hHeld => ?_)
            clear hK
            (try simp only [Act.put, List.setIfInBounds_toArray, List.set_cons_zero, List.set_cons_succ])
            refine wpAnyH_ready (rs := [15, 17]) (by kernel_rfl) (by simp) (AllReadyH.cons (by (simp only [List.getElem?_toArray, List.getElem?_cons_succ, List.getElem?_cons_zero]; rfl)) (fun K hK => ?_) (AllReadyH.cons (by (simp only [List.getElem?_toArray, List.getElem?_cons_succ, List.getElem?_cons_zero]; rfl)) (fun K hK => ?_) AllReadyH.nil))
            · go_simp
              (go_at_call 51; rw [HW3.out]; with_reducible refine (HD3.out _ (Tri3.sc' R.all)).mono ?_)
              rintro f4 w7 ⟨m4, V4, us4, k4, rfl, bD, vD, lD, hb⟩
              (try go_wp2_with fail)
              replace R := R.on hb
              replace g := g.trans (hb.mono g.size)
              replace bC := bC.below hb
              clear hb
              refine hK.out _ _ ⟨R.a0, R.a1, R.b0, R.b1, R.c0, R.c1⟩ (fun hHeld => ?_)
              clear hK
              (try simp only [Act.put, List.setIfInBounds_toArray, List.set_cons_zero, List.set_cons_succ])
              refine wpAnyH_ready (rs := [16, 17]) (by kernel_rfl) (by simp) (AllReadyH.cons (by (simp only [List.getElem?_toArray, List.getElem?_cons_succ, List.getElem?_cons_zero]; rfl)) (fun K hK => ?_) (AllReadyH.cons (by (simp only [List.getElem?_toArray, List.getElem?_cons_succ, List.getElem?_cons_zero]; rfl)) (fun K hK => ?_) AllReadyH.nil))
              · go_simp
                (go_at_call 68; with_reducible refine (rminus_any m3 m4 V3 V4 us3 us4 k3 k4 _ bC bD (by omega)).mono ?_)
                rintro f5 w8 ⟨m5, V5, us5, k5, rfl, bE, vE, lE, hb⟩
                (try go_wp2_with fail)
                replace R := R.on hb
                replace g := g.trans (hb.mono g.size)
                replace bC := bC.below hb
                replace bD := bD.below hb
                clear hb
                refine hK.out _ _ ⟨R.a0, R.a1, R.b0, R.b1, R.c0, R.c1⟩ (fun hHeld => ?_)
                clear hK
                (try simp only [Act.put, List.setIfInBounds_toArray, List.set_cons_zero, List.set_cons_succ])
                refine wpAnyH_ready (rs := [17]) (by kernel_rfl) (by simp) (AllReadyH.cons (by (simp only [List.getElem?_toArray, List.getElem?_cons_succ, List.getElem?_cons_zero]; rfl)) (fun K hK => ?_) AllReadyH.nil)
                go_simp
                have Z := Rest.new w8
                have hp := R.lp
                have hq := R.lq
                have hr := R.lr
                have hg := g.size
                have hb : Below w8.heap.size w8 (w8.alloc (.cells #[.bool false, .slice none 0 0] 49)) := (Below.refl _ _).alloc (Nat.le_refl _) _
                replace R := R.on hb
                replace g := g.trans (hb.mono g.size)
                replace bE := bE.below hb
                clear hb
                generalize w8.heap.size = gz at *
                generalize (w8.alloc (.cells #[.bool false, .slice none 0 0] 49)) = wz5 at *
                refine hK.out _ _ ⟨R.a0, R.a1, R.b0, R.b1, R.c0, R.c1⟩ (fun hHeld => ?_)
                clear hK
                (try simp only [Act.put, List.setIfInBounds_toArray, List.set_cons_zero, List.set_cons_succ])
                have z0 := Z.r0
                have z1 := Z.r1
                have z2 := Z.f0
                have z3 := Z.f1
                have hw : w3.heap.size ≤ gz := by have := R.below.size; omega
                refine wpAnyH_ready (rs := [18]) (by kernel_rfl) (by simp) (AllReadyH.cons (by (simp only [List.getElem?_toArray, List.getElem?_cons_succ, List.getElem?_cons_zero]; rfl)) (fun K hK => ?_) AllReadyH.nil)
                go_simp
                have hx := Z.laid g hg bE
                have hy := Rest.cells Z m5 V5 us5.length k5
                have hlt : gz < ((wz5.setCell ⟨gz, 0, none⟩ (.bool m5)).setCell ⟨gz, 1, none⟩ (.slice V5 us5.length k5)).heap.size := by have := Z.lr; simpa using this
                have R2 := (R.set (a := ⟨gz, 0, none⟩) hw (Nat.ne_of_lt hp) (Nat.ne_of_lt hq) (Nat.ne_of_lt hr) (.bool m5)).set (a := ⟨gz, 1, none⟩) hw (Nat.ne_of_lt hp) (Nat.ne_of_lt hq) (Nat.ne_of_lt hr) (.slice V5 us5.length k5)
                clear R z0 z1 z2 z3 Z g bE
                generalize ((wz5.setCell ⟨gz, 0, none⟩ (.bool m5)).setCell ⟨gz, 1, none⟩ (.slice V5 us5.length k5)) = Ws at *
                have R := R2
                clear R2
                refine hK.out _ _ ⟨R.a0, R.a1, R.b0, R.b1, R.c0, R.c1⟩ (fun hHeld => ?_)
                clear hK
                (try simp only [Act.put, List.setIfInBounds_toArray, List.set_cons_zero, List.set_cons_succ])
                refine wpAnyH_done (by kernel_rfl) (NoPanic.normal ?_) _
                go_wp2
                go_meet
                exact ⟨gz, m5, V5, us5, k5, rfl, hlt, hy.1, hy.2, hx.1, by rw [vE, vC, vA, vB, vD], by omega, R.below⟩
              · go_simp
                have Z := Rest.new w7
                have hp := R.lp
                have hq := R.lq
                have hr := R.lr
                have hg := g.size
                have hb : Below w7.heap.size w7 (w7.alloc (.cells #[.bool false, .slice none 0 0] 49)) := (Below.refl _ _).alloc (Nat.le_refl _) _
                replace R := R.on hb
                replace g := g.trans (hb.mono g.size)
                replace bC := bC.below hb
                replace bD := bD.below hb
                clear hb
                generalize w7.heap.size = gz at *
                generalize (w7.alloc (.cells #[.bool false, .slice none 0 0] 49)) = wz4 at *
                refine hK.out _ _ ⟨R.a0, R.a1, R.b0, R.b1, R.c0, R.c1⟩ (fun hHeld => ?_)
                clear hK
                (try simp only [Act.put, List.setIfInBounds_toArray, List.set_cons_zero, List.set_cons_succ])
                refine wpAnyH_ready (rs := [16]) (by kernel_rfl) (by simp) (AllReadyH.cons (by (simp only [List.getElem?_toArray, List.getElem?_cons_succ, List.getElem?_cons_zero]; rfl)) (fun K hK => ?_) AllReadyH.nil)
                go_simp
                (go_at_call 68; with_reducible refine (rminus_any m3 m4 V3 V4 us3 us4 k3 k4 _ bC bD (by omega)).mono ?_)
                rintro f5 w8z ⟨m5, V5, us5, k5, rfl, bE, vE, lE, hb⟩
                (try go_wp2_with fail)
                replace R := R.on hb
                replace g := g.trans (hb.mono g.size)
                replace Z := Z.on hb
                replace bC := bC.below hb
                replace bD := bD.below hb
                clear hb
                refine hK.out _ _ ⟨R.a0, R.a1, R.b0, R.b1, R.c0, R.c1⟩ (fun hHeld => ?_)
                clear hK
                (try simp only [Act.put, List.setIfInBounds_toArray, List.set_cons_zero, List.set_cons_succ])
                have z0 := Z.r0
                have z1 := Z.r1
                have z2 := Z.f0
                have z3 := Z.f1
                have hw : w3.heap.size ≤ gz := by have := R.below.size; omega
                refine wpAnyH_ready (rs := [18]) (by kernel_rfl) (by simp) (AllReadyH.cons (by (simp only [List.getElem?_toArray, List.getElem?_cons_succ, List.getElem?_cons_zero]; rfl)) (fun K hK => ?_) AllReadyH.nil)
                go_simp
                have hx := Z.laid g hg bE
                have hy := Rest.cells Z m5 V5 us5.length k5
                have hlt : gz < ((w8z.setCell ⟨gz, 0, none⟩ (.bool m5)).setCell ⟨gz, 1, none⟩ (.slice V5 us5.length k5)).heap.size := by have := Z.lr; simpa using this
                have R2 := (R.set (a := ⟨gz, 0, none⟩) hw (Nat.ne_of_lt hp) (Nat.ne_of_lt hq) (Nat.ne_of_lt hr) (.bool m5)).set (a := ⟨gz, 1, none⟩) hw (Nat.ne_of_lt hp) (Nat.ne_of_lt hq) (Nat.ne_of_lt hr) (.slice V5 us5.length k5)
                clear R z0 z1 z2 z3 Z g bE
                generalize ((w8z.setCell ⟨gz, 0, none⟩ (.bool m5)).setCell ⟨gz, 1, none⟩ (.slice V5 us5.length k5)) = Ws at *
                have R := R2
                clear R2
                refine hK.out _ _ ⟨R.a0, R.a1, R.b0, R.b1, R.c0, R.c1⟩ (fun hHeld => ?_)
                clear hK
                (try simp only [Act.put, List.setIfInBounds_toArray, List.set_cons_zero, List.set_cons_succ])
                refine wpAnyH_done (by kernel_rfl) (NoPanic.normal ?_) _
                go_wp2
                go_meet
                exact ⟨gz, m5, V5, us5, k5, rfl, hlt, hy.1, hy.2, hx.1, by rw [vE, vC, vA, vB, vD], by omega, R.below⟩
            · go_simp
              have Z := Rest.new w6
              have hp := R.lp
              have hq := R.lq
              have hr := R.lr
              have hg := g.size
              have hb : Below w6.heap.size w6 (w6.alloc (.cells #[.bool false, .slice none 0 0] 49)) := (Below.refl _ _).alloc (Nat.le_refl _) _
              replace R := R.on hb
              replace g := g.trans (hb.mono g.size)
              replace bC := bC.below hb
              clear hb
              generalize w6.heap.size = gz at *
              generalize (w6.alloc (.cells #[.bool false, .slice none 0 0] 49)) = wz3 at *
              refine hK.out _ _ ⟨R.a0, R.a1, R.b0, R.b1, R.c0, R.c1⟩ (fun hHeld => ?_)
              clear hK
              (try simp only [Act.put, List.setIfInBounds_toArray, List.set_cons_zero, List.set_cons_succ])
              refine wpAnyH_ready (rs := [15]) (by kernel_rfl) (by simp) (AllReadyH.cons (by (simp only [List.getElem?_toArray, List.getElem?_cons_succ, List.getElem?_cons_zero]; rfl)) (fun K hK => ?_) AllReadyH.nil)
              go_simp
              (go_at_call 51; rw [HW3.out]; with_reducible refine (HD3.out _ (Tri3.sc' R.all)).mono ?_)
              rintro f4 w7z ⟨m4, V4, us4, k4, rfl, bD, vD, lD, hb⟩
              (try go_wp2_with fail)
              replace R := R.on hb
              replace g := g.trans (hb.mono g.size)
              replace Z := Z.on hb
              replace bC := bC.below hb
              clear hb
              refine hK.out _ _ ⟨R.a0, R.a1, R.b0, R.b1, R.c0, R.c1⟩ (fun hHeld => ?_)
              clear hK
              (try simp only [Act.put, List.setIfInBounds_toArray, List.set_cons_zero, List.set_cons_succ])
              refine wpAnyH_ready (rs := [16]) (by kernel_rfl) (by simp) (AllReadyH.cons (by (simp only [List.getElem?_toArray, List.getElem?_cons_succ, List.getElem?_cons_zero]; rfl)) (fun K hK => ?_) AllReadyH.nil)
              go_simp
              (go_at_call 68; with_reducible refine (rminus_any m3 m4 V3 V4 us3 us4 k3 k4 _ bC bD (by omega)).mono ?_)
              rintro f5 w8z ⟨m5, V5, us5, k5, rfl, bE, vE, lE, hb⟩
              (try go_wp2_with fail)
              replace R := R.on hb
              replace g := g.trans (hb.mono g.size)
              replace Z := Z.on hb
              replace bC := bC.below hb
              replace bD := bD.below hb
              clear hb
              refine hK.out _ _ ⟨R.a0, R.a1, R.b0, R.b1, R.c0, R.c1⟩ (fun hHeld => ?_)
              clear hK
              (try simp only [Act.put, List.setIfInBounds_toArray, List.set_cons_zero, List.set_cons_succ])
              have z0 := Z.r0
              have z1 := Z.r1
              have z2 := Z.f0
              have z3 := Z.f1
              have hw : w3.heap.size ≤ gz := by have := R.below.size; omega
              refine wpAnyH_ready (rs := [18]) (by kernel_rfl) (by simp) (AllReadyH.cons (by (simp only [List.getElem?_toArray, List.getElem?_cons_succ, List.getElem?_cons_zero]; rfl)) (fun K hK => ?_) AllReadyH.nil)
              go_simp
              have hx := Z.laid g hg bE
              have hy := Rest.cells Z m5 V5 us5.length k5
              have hlt : gz < ((w8z.setCell ⟨gz, 0, none⟩ (.bool m5)).setCell ⟨gz, 1, none⟩ (.slice V5 us5.length k5)).heap.size := by have := Z.lr; simpa using this
              have R2 := (R.set (a := ⟨gz, 0, none⟩) hw (Nat.ne_of_lt hp) (Nat.ne_of_lt hq) (Nat.ne_of_lt hr) (.bool m5)).set (a := ⟨gz, 1, none⟩) hw (Nat.ne_of_lt hp) (Nat.ne_of_lt hq) (Nat.ne_of_lt hr) (.slice V5 us5.length k5)
              clear R z0 z1 z2 z3 Z g bE
              generalize ((w8z.setCell ⟨gz, 0, none⟩ (.bool m5)).setCell ⟨gz, 1, none⟩ (.slice V5 us5.length k5)) = Ws at *
              have R := R2
              clear R2
              refine hK.out _ _ ⟨R.a0, R.a1, R.b0, R.b1, R.c0, R.c1⟩ (fun hHeld => ?_)
              clear hK
              (try simp only [Act.put, List.setIfInBounds_toArray, List.set_cons_zero, List.set_cons_succ])
              refine wpAnyH_done (by kernel_rfl) (NoPanic.normal ?_) _
              go_wp2
              go_meet
              exact ⟨gz, m5, V5, us5, k5, rfl, hlt, hy.1, hy.2, hx.1, by rw [vE, vC, vA, vB, vD], by omega, R.below⟩
          · go_simp
            have Z := Rest.new w5
            have hp := R.lp
            have hq := R.lq
            have hr := R.lr
            have hg := g.size
            have hb : Below w5.heap.size w5 (w5.alloc (.cells #[.bool false, .slice none 0 0] 49)) := (Below.refl _ _).alloc (Nat.le_refl _) _
            replace R := R.on hb
            replace g := g.trans (hb.mono g.size)
            replace bA := bA.below hb
            replace bB := bB.below hb
            clear hb
            generalize w5.heap.size = gz at *
            generalize (w5.alloc (.cells #[.bool false, .slice none 0 0] 49)) = wz2 at *
            refine hK.out _ _ ⟨R.a0, R.a1, R.b0, R.b1, R.c0, R.c1⟩ (fun hHeld => ?_)
            clear hK
            (try simp only [Act.put, List.setIfInBounds_toArray, List.set_cons_zero, List.set_cons_succ])
            refine wpAnyH_ready (rs := [10]) (by kernel_rfl) (by simp) (AllReadyH.cons (by (simp only [List.getElem?_toArray, List.getElem?_cons_succ, List.getElem?_cons_zero]; rfl)) (fun K hK => ?_) AllReadyH.nil)
            go_simp
            (go_at_call 50; with_reducible refine (rplus_any m1 m2 V1 V2 us1 us2 k1 k2 _ bA.sl bB.sl bA.dig bB.dig bA.norm bB.norm (by omega)).mono ?_)
            rintro f3 w6z ⟨m3, V3, us3, k3, rfl, bC, vC, lC, hb⟩
            (try go_wp2_with fail)
            replace R := R.on hb
            replace g := g.trans (hb.mono g.size)
            replace Z := Z.on hb
            replace bA := bA.below hb
            replace bB := bB.below hb
            clear hb
            refine hK.out _ _ ⟨R.a0, R.a1, R.b0, R.b1, R.c0, R.c1⟩ (fun hHeld => ?_)
            clear hK
            (try simp only [Act.put, List.setIfInBounds_toArray, List.set_cons_zero, List.set_cons_succ])
            refine wpAnyH_ready (rs := [15]) (by kernel_rfl) (by simp) (AllReadyH.cons (by (simp only [List.getElem?_toArray, List.getElem?_cons_succ, List.getElem?_cons_zero]; rfl)) (fun K hK => ?_) AllReadyH.nil)
            go_simp
            (go_at_call 51; rw [HW3.out]; with_reducible refine (HD3.out _ (Tri3.sc' R.all)).mono ?_)
            rintro f4 w7z ⟨m4, V4, us4, k4, rfl, bD, vD, lD, hb⟩
            (try go_wp2_with fail)
            replace R := R.on hb
            replace g := g.trans (hb.mono g.size)
            replace Z := Z.on hb
            replace bC := bC.below hb
            clear hb
            refine hK.out _ _ ⟨R.a0, R.a1, R.b0, R.b1, R.c0, R.c1⟩ (fun hHeld => ?_)
            clear hK
            (try simp only [Act.put, List.setIfInBounds_toArray, List.set_cons_zero, List.set_cons_succ])
            refine wpAnyH_ready (rs := [16]) (by kernel_rfl) (by simp) (AllReadyH.cons (by (simp only [List.getElem?_toArray, List.getElem?_cons_succ, List.getElem?_cons_zero]; rfl)) (fun K hK => ?_) AllReadyH.nil)
            go_simp
            (go_at_call 68; with_reducible refine (rminus_any m3 m4 V3 V4 us3 us4 k3 k4 _ bC bD (by omega)).mono ?_)
            rintro f5 w8z ⟨m5, V5, us5, k5, rfl, bE, vE, lE, hb⟩
            (try go_wp2_with fail)
            replace R := R.on hb
            replace g := g.trans (hb.mono g.size)
            replace Z := Z.on hb
            replace bC := bC.below hb
            replace bD := bD.below hb
            clear hb
            refine hK.out _ _ ⟨R.a0, R.a1, R.b0, R.b1, R.c0, R.c1⟩ (fun hHeld => ?_)
            clear hK
            (try simp only [Act.put, List.setIfInBounds_toArray, List.set_cons_zero, List.set_cons_succ])
            have z0 := Z.r0
            have z1 := Z.r1
            have z2 := Z.f0
            have z3 := Z.f1
            have hw : w3.heap.size ≤ gz := by have := R.below.size; omega
            refine wpAnyH_ready (rs := [18]) (by kernel_rfl) (by simp) (AllReadyH.cons (by (simp only [List.getElem?_toArray, List.getElem?_cons_succ, List.getElem?_cons_zero]; rfl)) (fun K hK => ?_) AllReadyH.nil)
            go_simp
            have hx := Z.laid g hg bE
            have hy := Rest.cells Z m5 V5 us5.length k5
            have hlt : gz < ((w8z.setCell ⟨gz, 0, none⟩ (.bool m5)).setCell ⟨gz, 1, none⟩ (.slice V5 us5.length k5)).heap.size := by have := Z.lr; simpa using this
            have R2 := (R.set (a := ⟨gz, 0, none⟩) hw (Nat.ne_of_lt hp) (Nat.ne_of_lt hq) (Nat.ne_of_lt hr) (.bool m5)).set (a := ⟨gz, 1, none⟩) hw (Nat.ne_of_lt hp) (Nat.ne_of_lt hq) (Nat.ne_of_lt hr) (.slice V5 us5.length k5)
            clear R z0 z1 z2 z3 Z g bE
            generalize ((w8z.setCell ⟨gz, 0, none⟩ (.bool m5)).setCell ⟨gz, 1, none⟩ (.slice V5 us5.length k5)) = Ws at *
            have R := R2
            clear R2
            refine hK.out _ _ ⟨R.a0, R.a1, R.b0, R.b1, R.c0, R.c1⟩ (fun hHeld => ?_)
            clear hK
            (try simp only [Act.put, List.setIfInBounds_toArray, List.set_cons_zero, List.set_cons_succ])
            refine wpAnyH_done (by kernel_rfl) (NoPanic.normal ?_) _
            go_wp2
            go_meet
            exact ⟨gz, m5, V5, us5, k5, rfl, hlt, hy.1, hy.2, hx.1, by rw [vE, vC, vA, vB, vD], by omega, R.below⟩
        · go_simp
          have Z := Rest.new w4
          have hp := R.lp
          have hq := R.lq
          have hr := R.lr
          have hg := g.size
          have hb : Below w4.heap.size w4 (w4.alloc (.cells #[.bool false, .slice none 0 0] 49)) := (Below.refl _ _).alloc (Nat.le_refl _) _
          replace R := R.on hb
          replace g := g.trans (hb.mono g.size)
          replace bA := bA.below hb
          clear hb
          generalize w4.heap.size = gz at *
          generalize (w4.alloc (.cells #[.bool false, .slice none 0 0] 49)) = wz1 at *
          refine hK.out _ _ ⟨R.a0, R.a1, R.b0, R.b1, R.c0, R.c1⟩ (fun hHeld => ?_)
          clear hK
          (try simp only [Act.put, List.setIfInBounds_toArray, List.set_cons_zero, List.set_cons_succ])
          refine wpAnyH_ready (rs := [9]) (by kernel_rfl) (by simp) (AllReadyH.cons (by (simp only [List.getElem?_toArray, List.getElem?_cons_succ, List.getElem?_cons_zero]; rfl)) (fun K hK => ?_) AllReadyH.nil)
          go_simp
          (go_at_call 51; rw [HW2.out]; with_reducible refine (HD2.out _ (Tri3.sb' R.all)).mono ?_)
          rintro f2 w5z ⟨m2, V2, us2, k2, rfl, bB, vB, lB, hb⟩
          (try go_wp2_with fail)
          replace R := R.on hb
          replace g := g.trans (hb.mono g.size)
          replace Z := Z.on hb
          replace bA := bA.below hb
          clear hb
          refine hK.out _ _ ⟨R.a0, R.a1, R.b0, R.b1, R.c0, R.c1⟩ (fun hHeld => ?_)
          clear hK
          (try simp only [Act.put, List.setIfInBounds_toArray, List.set_cons_zero, List.set_cons_succ])
          refine wpAnyH_ready (rs := [10]) (by kernel_rfl) (by simp) (AllReadyH.cons (by (simp only [List.getElem?_toArray, List.getElem?_cons_succ, List.getElem?_cons_zero]; rfl)) (fun K hK => ?_) AllReadyH.nil)
          go_simp
          (go_at_call 50; with_reducible refine (rplus_any m1 m2 V1 V2 us1 us2 k1 k2 _ bA.sl bB.sl bA.dig bB.dig bA.norm bB.norm (by omega)).mono ?_)
          rintro f3 w6z ⟨m3, V3, us3, k3, rfl, bC, vC, lC, hb⟩
          (try go_wp2_with fail)
          replace R := R.on hb
          replace g := g.trans (hb.mono g.size)
          replace Z := Z.on hb
          replace bA := bA.below hb
          replace bB := bB.below hb
          clear hb
          refine hK.out _ _ ⟨R.a0, R.a1, R.b0, R.b1, R.c0, R.c1⟩ (fun hHeld => ?_)
          clear hK
          (try simp only [Act.put, List.setIfInBounds_toArray, List.set_cons_zero, List.set_cons_succ])
          refine wpAnyH_ready (rs := [15]) (by kernel_rfl) (by simp) (AllReadyH.cons (by (simp only [List.getElem?_toArray, List.getElem?_cons_succ, List.getElem?_cons_zero]; rfl)) (fun K hK => ?_) AllReadyH.nil)
          go_simp
          (go_at_call 51; rw [HW3.out]; with_reducible refine (HD3.out _ (Tri3.sc' R.all)).mono ?_)
          rintro f4 w7z ⟨m4, V4, us4, k4, rfl, bD, vD, lD, hb⟩
          (try go_wp2_with fail)
          replace R := R.on hb
          replace g := g.trans (hb.mono g.size)
          replace Z := Z.on hb
          replace bC := bC.below hb
          clear hb
          refine hK.out _ _ ⟨R.a0, R.a1, R.b0, R.b1, R.c0, R.c1⟩ (fun hHeld => ?_)
          clear hK
          (try simp only [Act.put, List.setIfInBounds_toArray, List.set_cons_zero, List.set_cons_succ])
          refine wpAnyH_ready (rs := [16]) (by kernel_rfl) (by simp) (AllReadyH.cons (by (simp only [List.getElem?_toArray, List.getElem?_cons_succ, List.getElem?_cons_zero]; rfl)) (fun K hK => ?_) AllReadyH.nil)
          go_simp
          (go_at_call 68; with_reducible refine (rminus_any m3 m4 V3 V4 us3 us4 k3 k4 _ bC bD (by omega)).mono ?_)
          rintro f5 w8z ⟨m5, V5, us5, k5, rfl, bE, vE, lE, hb⟩
          (try go_wp2_with fail)
          replace R := R.on hb
          replace g := g.trans (hb.mono g.size)
          replace Z := Z.on hb
          replace bC := bC.below hb
          replace bD := bD.below hb
          clear hb
          refine hK.out _ _ ⟨R.a0, R.a1, R.b0, R.b1, R.c0, R.c1⟩ (fun hHeld => ?_)
          clear hK
          (try simp only [Act.put, List.setIfInBounds_toArray, List.set_cons_zero, List.set_cons_succ])
          have z0 := Z.r0
          have z1 := Z.r1
          have z2 := Z.f0
          have z3 := Z.f1
          have hw : w3.heap.size ≤ gz := by have := R.below.size; omega
          refine wpAnyH_ready (rs := [18]) (by kernel_rfl) (by simp) (AllReadyH.cons (by (simp only [List.getElem?_toArray, List.getElem?_cons_succ, List.getElem?_cons_zero]; rfl)) (fun K hK => ?_) AllReadyH.nil)
          go_simp
          have hx := Z.laid g hg bE
          have hy := Rest.cells Z m5 V5 us5.length k5
          have hlt : gz < ((w8z.setCell ⟨gz, 0, none⟩ (.bool m5)).setCell ⟨gz, 1, none⟩ (.slice V5 us5.length k5)).heap.size := by have := Z.lr; simpa using this
          have R2 := (R.set (a := ⟨gz, 0, none⟩) hw (Nat.ne_of_lt hp) (Nat.ne_of_lt hq) (Nat.ne_of_lt hr) (.bool m5)).set (a := ⟨gz, 1, none⟩) hw (Nat.ne_of_lt hp) (Nat.ne_of_lt hq) (Nat.ne_of_lt hr) (.slice V5 us5.length k5)
          clear R z0 z1 z2 z3 Z g bE
          generalize ((w8z.setCell ⟨gz, 0, none⟩ (.bool m5)).setCell ⟨gz, 1, none⟩ (.slice V5 us5.length k5)) = Ws at *
          have R := R2
          clear R2
          refine hK.out _ _ ⟨R.a0, R.a1, R.b0, R.b1, R.c0, R.c1⟩ (fun hHeld => ?_)
          clear hK
          (try simp only [Act.put, List.setIfInBounds_toArray, List.set_cons_zero, List.set_cons_succ])
          refine wpAnyH_done (by kernel_rfl) (NoPanic.normal ?_) _
          go_wp2
          go_meet
          exact ⟨gz, m5, V5, us5, k5, rfl, hlt, hy.1, hy.2, hx.1, by rw [vE, vC, vA, vB, vD], by omega, R.below⟩
      · go_simp
        have Z := Rest.new Vd
        have hp := R.lp
        have hq := R.lq
        have hr := R.lr
        have hg := g.size
        have hb : Below Vd.heap.size Vd (Vd.alloc (.cells #[.bool false, .slice none 0 0] 49)) := (Below.refl _ _).alloc (Nat.le_refl _) _
        replace R := R.on hb
        replace g := g.trans (hb.mono g.size)
        clear hb
        generalize Vd.heap.size = gz at *
        generalize (Vd.alloc (.cells #[.bool false, .slice none 0 0] 49)) = wz0 at *
        refine hK.out _ _ ⟨R.a0, R.a1, R.b0, R.b1, R.c0, R.c1⟩ (fun hHeld => ?_)
        clear hK
        (try simp only [Act.put, List.setIfInBounds_toArray, List.set_cons_zero, List.set_cons_succ])
        refine wpAnyH_ready (rs := [4]) (by kernel_rfl) (by simp) (AllReadyH.cons (by (simp only [List.getElem?_toArray, List.getElem?_cons_succ, List.getElem?_cons_zero]; rfl)) (fun K hK => ?_) AllReadyH.nil)
        go_simp
        (go_at_call 51; rw [HW1.out]; with_reducible refine (HD1.out _ (Tri3.sa' R.all)).mono ?_)
        rintro f1 w4z ⟨m1, V1, us1, k1, rfl, bA, vA, lA, hb⟩
        (try go_wp2_with fail)
        replace R := R.on hb
        replace g := g.trans (hb.mono g.size)
        replace Z := Z.on hb
        clear hb
        refine hK.out _ _ ⟨R.a0, R.a1, R.b0, R.b1, R.c0, R.c1⟩ (fun hHeld => ?_)
        clear hK
        (try simp only [Act.put, List.setIfInBounds_toArray, List.set_cons_zero, List.set_cons_succ])
        refine wpAnyH_ready (rs := [9]) (by kernel_rfl) (by simp) (AllReadyH.cons (by (simp only [List.getElem?_toArray, List.getElem?_cons_succ, List.getElem?_cons_zero]; rfl)) (fun K hK => ?_) AllReadyH.nil)
        go_simp
        (go_at_call 51; rw [HW2.out]; with_reducible refine (HD2.out _ (Tri3.sb' R.all)).mono ?_)
        rintro f2 w5z ⟨m2, V2, us2, k2, rfl, bB, vB, lB, hb⟩
        (try go_wp2_with fail)
        replace R := R.on hb
        replace g := g.trans (hb.mono g.size)
        replace Z := Z.on hb
        replace bA := bA.below hb
        clear hb
        refine hK.out _ _ ⟨R.a0, R.a1, R.b0, R.b1, R.c0, R.c1⟩ (fun hHeld => ?_)
        clear hK
        (try simp only [Act.put, List.setIfInBounds_toArray, List.set_cons_zero, List.set_cons_succ])
        refine wpAnyH_ready (rs := [10]) (by kernel_rfl) (by simp) (AllReadyH.cons (by (simp only [List.getElem?_toArray, List.getElem?_cons_succ, List.getElem?_cons_zero]; rfl)) (fun K hK => ?_) AllReadyH.nil)
        go_simp
        (go_at_call 50; with_reducible refine (rplus_any m1 m2 V1 V2 us1 us2 k1 k2 _ bA.sl bB.sl bA.dig bB.dig bA.norm bB.norm (by omega)).mono ?_)
        rintro f3 w6z ⟨m3, V3, us3, k3, rfl, bC, vC, lC, hb⟩
        (try go_wp2_with fail)
        replace R := R.on hb
        replace g := g.trans (hb.mono g.size)
        replace Z := Z.on hb
        replace bA := bA.below hb
        replace bB := bB.below hb
        clear hb
        refine hK.out _ _ ⟨R.a0, R.a1, R.b0, R.b1, R.c0, R.c1⟩ (fun hHeld => ?_)
        clear hK
        (try simp only [Act.put, List.setIfInBounds_toArray, List.set_cons_zero, List.set_cons_succ])
        refine wpAnyH_ready (rs := [15]) (by kernel_rfl) (by simp) (AllReadyH.cons (by (simp only [List.getElem?_toArray, List.getElem?_cons_succ, List.getElem?_cons_zero]; rfl)) (fun K hK => ?_) AllReadyH.nil)
        go_simp
        (go_at_call 51; rw [HW3.out]; with_reducible refine (HD3.out _ (Tri3.sc' R.all)).mono ?_)
        rintro f4 w7z ⟨m4, V4, us4, k4, rfl, bD, vD, lD, hb⟩
        (try go_wp2_with fail)
        replace R := R.on hb
        replace g := g.trans (hb.mono g.size)
        replace Z := Z.on hb
        replace bC := bC.below hb
        clear hb
        refine hK.out _ _ ⟨R.a0, R.a1, R.b0, R.b1, R.c0, R.c1⟩ (fun hHeld => ?_)
        clear hK
        (try simp only [Act.put, List.setIfInBounds_toArray, List.set_cons_zero, List.set_cons_succ])
        refine wpAnyH_ready (rs := [16]) (by kernel_rfl) (by simp) (AllReadyH.cons (by (simp only [List.getElem?_toArray, List.getElem?_cons_succ, List.getElem?_cons_zero]; rfl)) (fun K hK => ?_) AllReadyH.nil)
        go_simp
        (go_at_call 68; with_reducible refine (rminus_any m3 m4 V3 V4 us3 us4 k3 k4 _ bC bD (by omega)).mono ?_)
        rintro f5 w8z ⟨m5, V5, us5, k5, rfl, bE, vE, lE, hb⟩
        (try go_wp2_with fail)
        replace R := R.on hb
        replace g := g.trans (hb.mono g.size)
        replace Z := Z.on hb
        replace bC := bC.below hb
        replace bD := bD.below hb
        clear hb
        refine hK.out _ _ ⟨R.a0, R.a1, R.b0, R.b1, R.c0, R.c1⟩ (fun hHeld => ?_)
        clear hK
        (try simp only [Act.put, List.setIfInBounds_toArray, List.set_cons_zero, List.set_cons_succ])
        have z0 := Z.r0
        have z1 := Z.r1
        have z2 := Z.f0
        have z3 := Z.f1
        have hw : w3.heap.size ≤ gz := by have := R.below.size; omega
        refine wpAnyH_ready (rs := [18]) (by kernel_rfl) (by simp) (AllReadyH.cons (by (simp only [List.getElem?_toArray, List.getElem?_cons_succ, List.getElem?_cons_zero]; rfl)) (fun K hK => ?_) AllReadyH.nil)
        go_simp
        have hx := Z.laid g hg bE
        have hy := Rest.cells Z m5 V5 us5.length k5
        have hlt : gz < ((w8z.setCell ⟨gz, 0, none⟩ (.bool m5)).setCell ⟨gz, 1, none⟩ (.slice V5 us5.length k5)).heap.size := by have := Z.lr; simpa using this
        have R2 := (R.set (a := ⟨gz, 0, none⟩) hw (Nat.ne_of_lt hp) (Nat.ne_of_lt hq) (Nat.ne_of_lt hr) (.bool m5)).set (a := ⟨gz, 1, none⟩) hw (Nat.ne_of_lt hp) (Nat.ne_of_lt hq) (Nat.ne_of_lt hr) (.slice V5 us5.length k5)
        clear R z0 z1 z2 z3 Z g bE
        generalize ((w8z.setCell ⟨gz, 0, none⟩ (.bool m5)).setCell ⟨gz, 1, none⟩ (.slice V5 us5.length k5)) = Ws at *
        have R := R2
        clear R2
        refine hK.out _ _ ⟨R.a0, R.a1, R.b0, R.b1, R.c0, R.c1⟩ (fun hHeld => ?_)
        clear hK
        (try simp only [Act.put, List.setIfInBounds_toArray, List.set_cons_zero, List.set_cons_succ])
        refine wpAnyH_done (by kernel_rfl) (NoPanic.normal ?_) _
        go_wp2
        go_meet
        exact ⟨gz, m5, V5, us5, k5, rfl, hlt, hy.1, hy.2, hx.1, by rw [vE, vC, vA, vB, vD], by omega, R.below⟩
    case rest =>
      obtain ⟨q, nz, V, us, kk, rfl, hq, q0, q1, bU, vU, lU, BW⟩ := hcut
      obtain ⟨F, hF⟩ : ∃ F : Nat, L = (F : Int) - 1074 := ⟨(L + 1074).toNat, by have := HLB.out; omega⟩
      have hee := HEE.out
      have hts := HTS.out
      have hpl := HPL.out
      have hxx := HX.out
      have hV1 := place_val (x := xs.length) (t := t1) (F := F) HV1.out (fun h => sv_nil h) (by omega) (by omega)
      have hV2 := place_val (x := ys.length) (t := t2) (F := F) HV2.out (fun h => sv_nil h) (by omega) (by omega)
      have hV3 := place_val (x := zs.length) (t := t3) (F := F) HV3.out (fun h => sv_nil h) (by omega) (by omega)
      rw [hxx.1] at hV1
      rw [hxx.2.1] at hV2
      rw [hxx.2.2] at hV3
      have hSS : (X1 + X2 - X3) * (2 ^ F : Nat) = sval l := by rw [Int.sub_mul, Int.add_mul, hV1, hV2, hV3]; exact hlost.symm
      have hsp := sum_parts bU.norm bU.sign vU hSS
      have hbl := bitLen_len bU.dig
      have hLB := HLB.out
      have HBT := HBW.out.trans ((hBW3 BW).mono HBW.out.size)
      have HBH := Lib.hid HBT
      clear HBT hee hts hpl hxx hV1 hV2 hV3 HX HTS HEE HPL HLM HD1 HD2 HD3 HALL
      by_cases h0 : us.length = 0
      · have hz : mg l = 0 := sval_zero.1 (hsp.2.1.1 h0)
        have HS0 := Lib.hid (fun W => sign_zero nz V us kk W h0)
        have HP : Hid (z = 0) := Lib.hid (HZ.out.trans (if_pos hz))
        clear hsp hbl hz h0 hF
        go_wp2_with fail
        refine (HS0.out _).mono ?_
        rintro _ wf ⟨rfl, hb⟩
        go_wp2
        go_ret2
        exact ⟨by first | rfl | (rw [HP.out]; rfl), HBH.out.trans (hb.mono HBH.out.size)⟩
      · have hnz : mg l ≠ 0 := fun k => h0 (hsp.2.1.2 (sval_zero.2 k))
        have hng : nz = ng l := by
          have k := hsp.2.2 h0
          have hp := uval_pos (m := mg l) (by omega)
          have e : ng l = decide (sval l < 0) := by unfold sval; cases ng l <;> simp <;> omega
          rw [e]
          cases nz
          · exact (decide_eq_false (fun g => by have := k.2 g; cases this)).symm
          · exact (decide_eq_true (k.1 rfl)).symm
        obtain ⟨r, hr0, hr1, hr2⟩ := sign_some nz V us kk wc (by omega) (by omega)
        have HSG := Lib.hid hr2
        have hrz : (r == 0) = false := beq_false_of_ne hr0
        have hU : val W32 us * 2 ^ F = uval (mg l) := by rw [hsp.1, sval_abs]
        have hov := ovr_exact (m := mg l) (by omega)
        have hlo := beside_exact hl fl (by omega) hng
        have HBE : Hid (∀ (W : World) B' d', Bg W nz V us kk maxLen → Bg W false B' [1] d' maxLen → Calls Try.prog 69 #[big nz V us.length kk, big false B' 1 d', .int .i64 L] W fun r w' => ∃ y : Nat, r = .returned (.tuple #[.float .f64 l, .float .f64 y]) ∧ Below W.heap.size W w') := Lib.hid (fun W B' d' k1 k2 => by
          refine (beside_any nz V B' us [1] rfl kk d' F L hF W k1 k2 (by omega) (by omega) (uval (mg l)) hU (mg l + 9223372036854775808) (fun _ => by rw [hov]; exact sub_zero (by omega) (by omega))).mono ?_
          rintro e w' ⟨rfl, hb⟩
          rw [hlo]
          exact ⟨_, rfl, hb⟩)
        have HP : Hid (z = l) := Lib.hid (HZ.out.trans (if_neg hnz))
        have HKC : Hid (∀ wx : World, Below wc.heap.size wc wx → (Bg wx nz V us kk maxLen ∧ Below wc.heap.size wc wx) ∧ wx.cell? ⟨q, 0, none⟩ = some (.bool nz) ∧ wx.cell? ⟨q, 1, none⟩ = some (.slice V us.length kk)) := Lib.hid (fun wx hb => ⟨⟨bU.below hb, hb⟩, (hb.cell (p := ⟨q, 0, none⟩) hq).trans q0, (hb.cell (p := ⟨q, 1, none⟩) hq).trans q1⟩)
        clear hr0 hr1 hr2 hU hov hlo hng hsp hbl hnz h0 hF
        go_wp2_with fail
        refine (HSG.out _).mono ?_
        rintro _ wf ⟨rfl, hbf⟩
        have K0 := HKC.out _ hbf
        have e0 := K0.2.1
        have e1 := K0.2.2
        have HK0 := Lib.hid K0
        clear K0
        go_wp2_with fail
        refine wp_region_noPanic ?_
        have KD := HKC.out _ hbf.drew
        refine wp_region_held_drew (S := (fun wx => wx.cell? ⟨q, 0, none⟩ = some (.bool nz) ∧ wx.cell? ⟨q, 1, none⟩ = some (.slice V us.length kk))) (by kernel_rfl) KD.2 (fun hHeld => ?_)
        generalize wf.drew = Vd at *
        refine wpAnyH_take (i := 0) (v := ?_) (by (simp only [List.getElem?_toArray, List.getElem?_cons_zero]; rfl)) (by kernel_rfl) (by kernel_rfl) (by kernel_rfl) (fun _ _ _ h => h) (Or.inl ⟨by rfl, ?_⟩) (by assumption) ?_
        rotate_left
        · intro wt hSw
          (try dsimp only at hSw)
          go_simp
          (try with_reducible rfl)
        (try simp only [Act.put, List.setIfInBounds_toArray, List.set_cons_zero, List.set_cons_succ])
        refine wpAnyH_take (i := 2) (v := ?_) (by (simp only [List.getElem?_toArray, List.getElem?_cons_succ, List.getElem?_cons_zero]; rfl)) (by kernel_rfl) (by kernel_rfl) (by kernel_rfl) (fun _ _ _ h => h) (Or.inl ⟨by rfl, ?_⟩) (by assumption) ?_
        rotate_left
        · intro wt hSw
          (try dsimp only at hSw)
          go_simp
          (try with_reducible rfl)
        (try simp only [Act.put, List.setIfInBounds_toArray, List.set_cons_zero, List.set_cons_succ])
        refine wpAnyH_ready (rs := [1]) (by kernel_rfl) (by simp) (AllReadyH.cons (by (simp only [List.getElem?_toArray, List.getElem?_cons_succ, List.getElem?_cons_zero]; rfl)) (fun K hK => ?_) AllReadyH.nil)
        go_simp
        (go_at_call 52; with_reducible refine (one_any _).mono ?_)
        rintro _ we ⟨B1, d1, rfl, bO, hbd⟩
        (try go_wp2_with fail)
        replace KD := HKC.out _ (KD.1.2.trans (hbd.mono KD.1.2.size))
        clear hbd
        refine hK.out _ _ KD.2 (fun hHeld => ?_)
        clear hK
        (try simp only [Act.put, List.setIfInBounds_toArray, List.set_cons_zero, List.set_cons_succ])
        refine wpAnyH_ready (rs := [3]) (by kernel_rfl) (by simp) (AllReadyH.cons (by (simp only [List.getElem?_toArray, List.getElem?_cons_succ, List.getElem?_cons_zero]; rfl)) (fun K hK => ?_) AllReadyH.nil)
        go_simp
        (go_at_call 69; with_reducible refine (HBE.out _ B1 d1 KD.1.1 bO).mono ?_)
        rintro _ wg ⟨y, rfl, hbe⟩
        (try go_wp2_with fail)
        replace KD := HKC.out _ (KD.1.2.trans (hbe.mono KD.1.2.size))
        clear hbe
        refine hK.out _ _ KD.2 (fun hHeld => ?_)
        clear hK
        (try simp only [Act.put, List.setIfInBounds_toArray, List.set_cons_zero, List.set_cons_succ])
        refine wpAnyH_take (i := 4) (v := ?_) (by (simp only [List.getElem?_toArray, List.getElem?_cons_succ, List.getElem?_cons_zero]; rfl)) (by kernel_rfl) (by kernel_rfl) (by kernel_rfl) (fun _ _ _ h => h) (Or.inl ⟨by rfl, ?_⟩) (by assumption) ?_
        rotate_left
        · intro wt hSw
          (try dsimp only at hSw)
          go_simp
          (try with_reducible rfl)
        (try simp only [Act.put, List.setIfInBounds_toArray, List.set_cons_zero, List.set_cons_succ])
        refine wpAnyH_take (i := 5) (v := ?_) (by (simp only [List.getElem?_toArray, List.getElem?_cons_succ, List.getElem?_cons_zero]; rfl)) (by kernel_rfl) (by kernel_rfl) (by kernel_rfl) (fun _ _ _ h => h) (Or.inl ⟨by rfl, ?_⟩) (by assumption) ?_
        rotate_left
        · intro wt hSw
          (try dsimp only at hSw)
          go_simp
          (try with_reducible rfl)
        (try simp only [Act.put, List.setIfInBounds_toArray, List.set_cons_zero, List.set_cons_succ])
        refine wpAnyH_take (i := 6) (v := ?_) (by (simp only [List.getElem?_toArray, List.getElem?_cons_succ, List.getElem?_cons_zero]; rfl)) (by kernel_rfl) (by kernel_rfl) (by kernel_rfl) (fun _ _ _ h => h) (Or.inl ⟨by rfl, ?_⟩) (by assumption) ?_
        rotate_left
        · intro wt hSw
          (try dsimp only at hSw)
          go_simp
          (try with_reducible rfl)
        (try simp only [Act.put, List.setIfInBounds_toArray, List.set_cons_zero, List.set_cons_succ])
        refine wpAnyH_take (i := 7) (v := ?_) (by (simp only [List.getElem?_toArray, List.getElem?_cons_succ, List.getElem?_cons_zero]; rfl)) (by kernel_rfl) (by kernel_rfl) (by kernel_rfl) (fun _ _ _ h => h) (Or.inl ⟨by rfl, ?_⟩) (by assumption) ?_
        rotate_left
        · intro wt hSw
          (try dsimp only at hSw)
          go_simp
          (try with_reducible rfl)
        (try simp only [Act.put, List.setIfInBounds_toArray, List.set_cons_zero, List.set_cons_succ])
        refine wpAnyH_take (i := 8) (v := ?_) (by (simp only [List.getElem?_toArray, List.getElem?_cons_succ, List.getElem?_cons_zero]; rfl)) (by kernel_rfl) (by kernel_rfl) (by kernel_rfl) (fun _ _ _ h => h) (Or.inl ⟨by rfl, ?_⟩) (by assumption) ?_
        rotate_left
        · intro wt hSw
          (try dsimp only at hSw)
          go_simp
          (try with_reducible rfl)
        (try simp only [Act.put, List.setIfInBounds_toArray, List.set_cons_zero, List.set_cons_succ])
        refine wpAnyH_done (by kernel_rfl) (NoPanic.normal ?_) _
        have hfin := KD.1.2
        go_wp2
        go_ret2
        exact ⟨by first | rfl | (rw [HP.out]; rfl), HBH.out.trans (hfin.mono HBH.out.size)⟩
end Go.Proofs.Ytffjkfjokikhnaa.Rb
