/-
  What the document's own Double returns. Condition: that the number is one, and that it is not shifted beyond memory.
-/
import Derived.Test.YtffjkfjokikhnaaRb3
namespace Go.Proofs.Ytffjkfjokikhnaa.Rb
open Go.RowKit Nb

theorem map_oneR (ls : List Nat) : ∀ u ∈ ls.map (fun n : Nat => Value.int .u32 n), u.oneCell' = true := by
  intro u hu
  simp only [List.mem_map] at hu
  obtain ⟨n, _, rfl⟩ := hu
  rfl
theorem sl_cellsR {k : IntKind} {w : World} {B : Nat} {A : Option Addr} {ls : List Nat} (h : Sl k w B A ls) : ∀ ad, A = some ad → ∀ j u, (ls.map fun n : Nat => Value.int k n)[j]? = some u → w.cell? (ad.add j) = some u := by
  intro ad hA j u hu
  rw [List.getElem?_map] at hu
  rcases Nat.lt_or_ge j ls.length with hj | hj
  · rw [List.getElem?_eq_getElem hj] at hu
    simp at hu
    subst hu
    obtain ⟨ad', e, _, hc⟩ := h (by omega)
    rw [hA] at e
    injection e with e
    subst e
    exact hc j hj
  · rw [List.getElem?_eq_none hj] at hu; simp at hu
theorem own_row {w : World} {B g : Nat} {e : TypeId} {k : IntKind} {ls : List Nat} (h : Row k w g e ls) (hB : B ≤ g) (hm : ls.length ≤ maxLen) : w.ownsRow B e 1 (.slice (some ⟨g, 0, none⟩) ls.length ls.length) ls.length (ls.map fun n : Nat => Value.int k n) := by
  refine ⟨by simp, .inr ⟨g, ls.length, _, rfl, hB, h, Nat.le_refl _, hm, by simp, ?_⟩⟩
  simp [List.take_of_length_le]
theorem own_out {w : World} {B n : Nat} {e : TypeId} {k : IntKind} {v : Value} {ls : List Nat} (h : w.ownsRow B e 1 v n (ls.map fun n : Nat => Value.int k n)) (hn : ls.length = n) (hpos : 0 < n) :
    ∃ A c, v = .slice A n c ∧ Sl k w w.heap.size A ls ∧ n ≤ c ∧ c ≤ maxLen := by
  subst hn
  rcases h.2 with ⟨_, h2⟩ | ⟨g', cap, cur, h1, h2, h3, h4, h5, _⟩
  · omega
  · subst h1
    exact ⟨_, _, rfl, Sl.of_own h, h4, h5⟩
theorem double_val (N : Nat) (xs : List Nat) : 2 ^ (N % 32) * val W32 (List.replicate (N / 32) 0 ++ xs) = val W32 xs * 2 ^ N := by
  rw [val_append, val_replicate, List.length_replicate]
  have e : W32 ^ (N / 32) = 2 ^ (32 * (N / 32)) := by rw [Nat.pow_mul]
  have e2 : (2 : Nat) ^ N = 2 ^ (N % 32) * 2 ^ (32 * (N / 32)) := by rw [← Nat.pow_add]; congr 1; omega
  rw [e, e2, Nat.zero_add, Nat.mul_comm (val W32 xs), Nat.mul_assoc]
/-- A sign in a cell of its own. -/
structure Solo (p : Nat) (n : Bool) (W : World) : Prop where
  c0 : W.cell? ⟨p, 0, none⟩ = some (.bool n)
  lt : p + 1 < W.heap.size
theorem Solo.keep {p : Nat} {n : Bool} {W W' : World} {X : Prop} (h : Solo p n W ∧ X) (hb : Below W.heap.size W W') : Solo p n W' ∧ W'.cell? ⟨p, 0, none⟩ = some (.bool n) := by
  have hc := (hb.cell (p := ⟨p, 0, none⟩) (by have := h.1.lt; show p < _; omega)).trans h.1.c0
  exact ⟨⟨hc, by have := h.1.lt; have := hb.size; omega⟩, hc⟩
theorem Solo.put {p r : Nat} {n : Bool} {W : World} {X : Prop} (h : Solo p n W ∧ X) (hp : p ≠ r) (u v : Value) : Solo p n ((W.setCell ⟨r, 0, none⟩ u).setCell ⟨r, 1, none⟩ v) ∧ ((W.setCell ⟨r, 0, none⟩ u).setCell ⟨r, 1, none⟩ v).cell? ⟨p, 0, none⟩ = some (.bool n) := by
  have hc : ((W.setCell ⟨r, 0, none⟩ u).setCell ⟨r, 1, none⟩ v).cell? ⟨p, 0, none⟩ = some (.bool n) := by
    rw [World.cell?_setCell_other _ _ _ _ (fun e => hp (by injection e with e; exact e.symm)), World.cell?_setCell_other _ _ _ _ (fun e => hp (by injection e with e; exact e.symm))]
    exact h.1.c0
  exact ⟨⟨hc, by simpa using h.1.lt⟩, hc⟩
set_option maxHeartbeats 4000000 in
set_option maxRecDepth 20000 in
theorem rdouble_any (n : Bool) (A : Option Addr) (xs : List Nat) (c N : Nat) (w : World) (hx : Bg w n A xs c maxLen) (hl : xs.length ≤ 1000000) (hN : N ≤ 10000000) :
    Calls Try.prog 51 #[big n A xs.length c, .int .i64 N] w (Givl w (sv n (val W32 xs) * (2 ^ N : Nat)) (xs.length + N / 32 + 1)) := by
  obtain ⟨i0, hi, hz0, hz1, hz2⟩ := info_parts info_u32
  have hr := Rest.new (w.alloc (.cells #[.bool n, .slice A xs.length c] 49))
  rw [show (w.alloc (.cells #[.bool n, .slice A xs.length c] 49)).heap.size = w.heap.size + 1 by go_size] at hr
  have hb0 : Below w.heap.size w ((w.alloc (.cells #[.bool n, .slice A xs.length c] 49)).alloc (.cells #[.bool false, .slice none 0 0] 49)) := by go_grown
  have hsl := (hx.sl.below hb0).more hb0.size
  have hc0 : ((w.alloc (.cells #[.bool n, .slice A xs.length c] 49)).alloc (.cells #[.bool false, .slice none 0 0] 49)).cell? ⟨w.heap.size, 0, none⟩ = some (.bool n) := by go_cell
  have hc1 : ((w.alloc (.cells #[.bool n, .slice A xs.length c] 49)).alloc (.cells #[.bool false, .slice none 0 0] 49)).cell? ⟨w.heap.size, 1, none⟩ = some (.slice A xs.length c) := by go_cell
  have hdx := hx.dig
  have hsg := hx.sign
  have hz0s : ((w.alloc (.cells #[.bool n, .slice A xs.length c] 49)).alloc (.cells #[.bool false, .slice none 0 0] 49)).heap.size = w.heap.size + 1 + 1 := by go_size
  clear hx
  rcases Nat.eq_zero_or_pos xs.length with h0 | h0
  · obtain rfl : xs = [] := List.eq_nil_of_length_eq_zero h0
    obtain rfl := hsg rfl
    have g0 := hr.r0
    have g1 := hr.r1
    have g2 := hr.f0
    have g3 := hr.f1
    have HB : Hid (Bg ((w.alloc (.cells #[.bool false, .slice A ([] : List Nat).length c] 49)).alloc (.cells #[.bool false, .slice none 0 0] 49)) false none ([] : List Nat) 0 maxLen) := Lib.hid ⟨Sl.none_, Dig.nil _, Norm.nil, fun _ => rfl, Nat.le_refl _, Nat.zero_le _⟩
    have hL := hr.laid hb0 (by omega) HB.out
    have HL := Lib.hid hL
    clear hL hz0s hsl
    go_enter Try.func51, Try.ntmps51
    go_wp2
    refine bodyPost_ret (v := big false none ([] : List Nat).length 0) (by simp [results, Try.results51, go_sem]) rfl ?_
    refine ⟨false, none, [], 0, rfl, ?_, by simp [sv, val], Nat.zero_le _, ?_⟩
    · first | exact HB.out | exact HL.out.1
    · first | exact hb0 | exact HL.out.2
  · obtain ⟨ad, rfl, _, _⟩ := hsl.at_ h0
    have hi0 : ((xs.length : Int) == 0) = false := beq_false_of_ne (by omega)
    obtain ⟨q, hq⟩ : ∃ q, N / 32 = q := ⟨_, rfl⟩
    obtain ⟨r, hrr⟩ : ∃ r, N % 32 = r := ⟨_, rfl⟩
    have hqi : (N : Int) / 32 = (q : Int) := by omega
    have hri : (N : Int) % 32 = (r : Int) := by omega
    have hqb : q ≤ 1000000 := by omega
    have hrb : r ≤ 31 := by omega
    have HD : Hid (2 ^ r * val W32 (List.replicate q 0 ++ xs) = val W32 xs * 2 ^ N) := Lib.hid (by rw [← hq, ← hrr]; exact double_val N xs)
    have HQ := Lib.hid hq
    have HR := Lib.hid hr
    have HZ := Lib.hid hz0s
    clear hq hrr hr hz0s
    go_enter Try.func51, Try.ntmps51
    go_wp2_with (first
      | (at_make; refine wpList_make_row _ rfl _ _ 47 rfl 85 .u32 4 Try.underlying47 info_u32 _ _ _ _ q rfl rfl (by omega) (by omega) (by omega) (by unfold maxLen; omega) ?_
         intro w1 hrow1 hbel1
         have k0 : w1.cell? ⟨w.heap.size, 0, none⟩ = some (.bool n) := (hbel1.cell (p := ⟨w.heap.size, 0, none⟩) (by simp; omega)).trans hc0
         have k1 : w1.cell? ⟨w.heap.size, 1, none⟩ = some (.slice (some ad) xs.length c) := (hbel1.cell (p := ⟨w.heap.size, 1, none⟩) (by simp; omega)).trans hc1
         have hs1 := (hsl.below hbel1).more hbel1.size
         have hr1 := Lib.hid (HR.out.on hbel1)
         have hw1 : Below w.heap.size w w1 := hb0.trans (hbel1.mono hb0.size)
         rw [HZ.out] at hrow1 hbel1
         have hgt := hrow1.lt
         have hown1 := own_row (B := w.heap.size + 1 + 1) hrow1 (Nat.le_refl _) (by unfold maxLen; simp; omega)
         have hln1 : (List.replicate q 0).length = q := List.length_replicate
         rw [hln1] at hown1
         have hnews := sl_cellsR hs1 ad rfl
         clear hsl hb0 hc0 hc1)
      | (at_builtin; refine wpList_append_own _ rfl (.tmp 16) (.tmp 18) 47 rfl (w.heap.size + 1 + 1) 85 i0 (.int .u32 0) 1 4 Try.underlying47 hi hz0 hz1 hz2 rfl (by decide) _ q _ rfl hown1 ad xs.length c (xs.map fun n : Nat => Value.int .u32 n) rfl (by simp) hnews (map_oneR xs) (by unfold maxLen; omega) (by omega) (by omega) ?_
         intro v' w3 hown3 hgrow3 _))
    have hgs := hgrow3.size
    have hne3 : ∀ g : Nat, g < w.heap.size + 1 + 1 → w3.heap[g]? = w1.heap[g]? := fun g hg => hgrow3.block g (by omega) (fun e => by have := (hown1.lt g e.symm).1; omega)
    have k3 : w3.cell? ⟨w.heap.size, 0, none⟩ = some (.bool n) := (World.cell?_of_block (w := w1) (w' := w3) (a := ⟨w.heap.size, 0, none⟩) (hne3 _ (by show w.heap.size < _; omega))).trans k0
    have hb3 : Below (w.heap.size + 1 + 1) w1 w3 := (Below.refl _ w1).grown hgrow3 (by omega) (fun q2 hq2 => (hown1.lt q2 hq2).1)
    have hw3 : Below w.heap.size w w3 := hw1.trans (hb3.mono (by omega))
    have hr3 : Rest w3 (w.heap.size + 1) := by
      have h := hr1.out
      refine ⟨by have := h.lr; omega, ?_, ?_, ?_, ?_⟩
      · exact (hb3.cell (p := ⟨w.heap.size + 1, 0, none⟩) (by show w.heap.size + 1 < _; omega)).trans h.r0
      · exact (hb3.cell (p := ⟨w.heap.size + 1, 1, none⟩) (by show w.heap.size + 1 < _; omega)).trans h.r1
      · exact (hb3.frozen (p := ⟨w.heap.size + 1, 0, none⟩) (by show w.heap.size + 1 < _; omega)).trans h.f0
      · exact (hb3.frozen (p := ⟨w.heap.size + 1, 1, none⟩) (by show w.heap.size + 1 < _; omega)).trans h.f1
    obtain ⟨zs, hzs⟩ : ∃ zs, List.replicate q 0 ++ xs = zs := ⟨_, rfl⟩
    have hzl : zs.length = q + xs.length := by rw [← hzs]; simp
    have hzd : Dig W32 zs := by rw [← hzs]; exact (Dig.replicate (by decide) _).append hdx
    rw [hzs] at HD
    have hown4 : w3.ownsRow (w.heap.size + 1 + 1) 85 1 v' (q + xs.length) (zs.map fun n : Nat => Value.int .u32 n) := by
      rw [← hzs, List.map_append]; exact hown3
    obtain ⟨A3, c3, rfl, hs3, hc3, hcm3⟩ := own_out hown4 hzl (by omega)
    have HRR := Lib.hid hr3
    have HWW := Lib.hid hw3
    have HS := Lib.hid hs3
    have HZL := Lib.hid hzl
    have HHT : Hid (∀ (F : Nat) W, F = 2 ^ r → F ≤ 4294967295 → Sl .u32 W W.heap.size A3 zs → Calls Try.prog 94 #[.slice A3 (q + xs.length) c3, .int .u32 F] W fun e w' => ∃ v, e = .returned v ∧ Limbs W (F * val W32 zs) (q + xs.length + 1) v w') := Lib.hid (fun F W _ hF h => by
      have := rtimes_any A3 zs c3 F W h hzd hF (by omega)
      rw [hzl] at this
      exact this)
    clear hown1 hown3 hown4 hgrow3 hb3 hne3 hr1 hw1 hrow1 hbel1 hnews hs1 k0 k1 hs3 hzs hzd hln1 hgs hgt hr3 hw3 HR hzl
    go_loopg [6, 7] r (fun h fv iv wx => ∃ j F : Nat, iv = .int .i64 j ∧ j + h = r ∧ fv = .int .u32 F ∧ Hid (F = 2 ^ j) ∧ wx = w3)
    case atStart => exact ⟨0, 1, rfl, by omega, rfl, rfl, rfl⟩
    case round =>
      obtain ⟨j, F, rfl, hjh, rfl, hF, rfl⟩ := hrel
      have HJ := Lib.hid hjh
      cases gk with
      | zero =>
        obtain rfl : j = r := by omega
        have hFb : F ≤ 4294967295 := by
          have h1 : F = 2 ^ j := hF
          have h2 : 2 ^ j ≤ 2 ^ 31 := Nat.pow_le_pow_right (by omega) hrb
          omega
        have hall : Solo w.heap.size n wr ∧ wr.cell? ⟨w.heap.size, 0, none⟩ = some (.bool n) := ⟨⟨k3, HRR.out.lr⟩, k3⟩
        have hr := HRR.out
        have hfF := Lib.hid hF
        clear hjh HJ hF
        go_wp2_with fail
        go_region_held3 (fun W' => Solo w.heap.size n W' ∧ W'.cell? ⟨w.heap.size, 0, none⟩ = some (.bool n))
          (first | exact hall | exact Solo.keep hall ((Below.refl _ _).drew) | exact Solo.keep (by assumption) (by assumption) | exact Solo.keep (by assumption) ((Below.refl _ _).drew) | exact Solo.put (by assumption) (by omega) _ _)
          (first
            | (go_at_call 94; refine (HHT.out F _ hfF.out hFb (by exact HS.out)).mono ?_; rintro e w' ⟨v, rfl, V, us, k, rfl, hs1, hd1, hn1, hv1, hk1, hk2, hb⟩
               have hr1 := (Rest.drew hr).on hb
               have hw1 := (HWW.out.drew).trans (hb.mono HWW.out.size)
               have HV := Lib.hid hv1
               clear hv1)
            | (go_at_call 90; refine (sgd_any _ V us k _ (by assumption) hd1 hk1 (by unfold maxLen; omega)).mono ?_; rintro e w2 ⟨V2, k2, rfl, hB2, hb2⟩
               have hr2 := hr1.on hb2
               have hw2 := hw1.trans (hb2.mono hw1.size)
               have g0 := hr2.r0
               have g1 := hr2.r1
               have g2 := hr2.f0
               have g3 := hr2.f1))
        have hL := hr2.laid hw2 (by omega) hB2
        have hln := trimL_len us
        go_wp2
        refine bodyPost_ret (v := big (n && decide (0 < (trimL us).length)) V2 (trimL us).length k2) (by simp [results, Try.results51, go_sem, g0, g1]) rfl ⟨_, V2, trimL us, k2, rfl, hL.1, ?_, by have := HQ.out; omega, hL.2⟩
        rw [sv_trim, HV.out, show F = 2 ^ j from hfF.out, HD.out]
        cases n <;> simp [sv, Int.neg_mul]
      | succ h1 =>
        have hjr : (j : Int) < (r : Int) := by omega
        have hF2 : F * 2 = 2 ^ (j + 1) := by rw [Nat.pow_succ, ← (hF : F = 2 ^ j)]
        have hFb : F ≤ 2147483647 := by
          have h2 : 2 ^ (j + 1) ≤ 2 ^ 31 := Nat.pow_le_pow_right (by omega) (by omega)
          omega
        have HF2 := Lib.hid hF2
        clear hF2
        go_wp2_with fail
        go_roundg h1
        case measure => omega
        case rel => exact ⟨j + 1, 2 * F, by go_num, by omega, by first | rfl | go_num, by have := HF2.out; show 2 * F = _; omega, rfl⟩
end Go.Proofs.Ytffjkfjokikhnaa.Rb
