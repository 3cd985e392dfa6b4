/-
  What the document's own Add returns of two finite floats. Condition: that the floats are words.
-/
import Derived.Test.YtffjkfjokikhnaaRwe
import Derived.Test.YtffjkfjokikhnaaRwc
namespace Go.Proofs.Ytffjkfjokikhnaa.Rb
open Go.RowKit Nb Fl Ieee
theorem worth_any' (v : Nat) (hv : v < 18446744073709551616) (hf : mg v < 9218868437227405312) : Hid (∀ w, Calls Try.prog 47 #[.float .f64 v] w (WorthIs v w)) := Lib.hid (fun w => worth_any v w hv hf)
/-- The least place of three numbers, noughts aside. -/
theorem least_place {x y z : Nat} {e f g l1 l2 : Int} (h1 : l1 = if x = 0 then f else if y = 0 then e else min e f) (h2 : l2 = if x = 0 then g else if z = 0 then e else min e g) :
    (x = 0 ∨ min l1 l2 ≤ e) ∧ (y = 0 ∨ min l1 l2 ≤ f) ∧ (z = 0 ∨ min l1 l2 ≤ g) ∧ (min l1 l2 = e ∨ min l1 l2 = f ∨ min l1 l2 = g) := by
  subst h1 h2
  split <;> (try split) <;> (try split) <;> omega
theorem place_val {S : Int} {E F x : Nat} {s : Int} {t : Int} (h : S * (2 ^ E : Nat) = s) (h0 : x = 0 → S = 0) (ht : t = (E : Int) - F) (hle : x = 0 ∨ 0 ≤ t) : S * (2 ^ t.toNat : Nat) * (2 ^ F : Nat) = s := by
  rcases Nat.eq_zero_or_pos x with hx | hx
  · rw [h0 hx] at h ⊢
    simp at h ⊢
    exact h
  · have : E = t.toNat + F := by omega
    rw [← h, this, Nat.pow_add, Int.natCast_mul, Int.mul_assoc]
theorem sv_nil {n : Bool} {zs : List Nat} (h : zs.length = 0) : sv n (val W32 zs) = 0 := by
  rw [List.eq_nil_of_length_eq_zero h]; cases n <;> rfl
theorem duo_made {w1 w2 : World} {n1 n2 : Bool} {A B : Option Addr} {xs ys : List Nat} {c d : Nat} (b1 : Bg w1 n1 A xs c maxLen) (hb2 : Below (w1.alloc (.cells #[.bool n1, .slice A xs.length c] 49)).heap.size (w1.alloc (.cells #[.bool n1, .slice A xs.length c] 49)) w2)
    (b2 : Bg w2 n2 B ys d maxLen) : Duo w2 (w2.alloc (.cells #[.bool n2, .slice B ys.length d] 49)) w1.heap.size w2.heap.size n1 n2 A B xs ys xs.length c ys.length d := by
  have h2 := cells_then hb2
  have h4 := cells_then (Below.refl _ (w2.alloc (.cells #[.bool n2, .slice B ys.length d] 49)))
  have b12 := b1.below h2.2.2.2
  refine ⟨h4.2.2.2, by omega, by omega, b12.sl.below h4.2.2.2, b2.sl.below h4.2.2.2, ?_, ?_, h4.1, h4.2.1⟩
  · exact (h4.2.2.2.cell (p := ⟨w1.heap.size, 0, none⟩) h2.2.2.1).trans h2.1
  · exact (h4.2.2.2.cell (p := ⟨w1.heap.size, 1, none⟩) h2.2.2.1).trans h2.2.1
/-- What the document's Add answers: the sum's own answer at an exact nought, else the floats beside the exact sum. -/
def addLo (S : Int) (s D : Nat) : Nat := if S = 0 then s else if S < 0 then D else (undr S.natAbs).1
def addHi (S : Int) (s : Nat) : Nat := if S = 0 then s else if S < 0 then (undr S.natAbs).1 + 9223372036854775808 else ovr S.natAbs
theorem sum_parts {n : Bool} {us : List Nat} (hn : Norm us) (hs : us = [] → n = false) {Z S : Int} {F : Nat} (hZ : sv n (val W32 us) = Z) (hS : Z * (2 ^ F : Nat) = S) :
    val W32 us * 2 ^ F = S.natAbs ∧ (us.length = 0 ↔ S = 0) ∧ (us.length ≠ 0 → (n = true ↔ S < 0)) := by
  have hp : 0 < ((2 ^ F : Nat) : Int) := by have := Nat.two_pow_pos F; omega
  have h1 : val W32 us * 2 ^ F = S.natAbs := by
    rw [← hS, Int.natAbs_mul, ← hZ]
    congr 1
    cases n <;> simp [sv]
  refine ⟨h1, ⟨fun h => ?_, fun h => ?_⟩, fun h => ?_⟩
  · rw [List.eq_nil_of_length_eq_zero h] at h1
    simp [val] at h1
    omega
  · refine val_zero hn ?_
    rw [h] at h1
    rcases Nat.mul_eq_zero.1 h1 with h2 | h2
    · exact h2
    · have := Nat.two_pow_pos F; omega
  · have h0 : 0 < val W32 us := by
      have h3 := norm_ge (B := W32) hn (by omega)
      have h4 : 0 < W32 ^ (us.length - 1) := Nat.pow_pos (by decide)
      omega
    rw [← hS]
    cases n
    · have hz : 0 < Z := by rw [← hZ]; simp [sv]; omega
      have := Int.mul_pos hz hp
      exact ⟨fun h => (by cases h), fun h => absurd h (Int.not_lt.2 (Int.le_of_lt this))⟩
    · have hz : Z < 0 := by rw [← hZ]; simp [sv]; omega
      have := Int.mul_neg_of_neg_of_pos hz hp
      exact ⟨fun _ => this, fun _ => rfl⟩
theorem bitLen_len {us : List Nat} (hd : Dig W32 us) : bitLen (val W32 us) ≤ 32 * us.length := by
  refine bitLen_le_iff.2 ?_
  have h := Nb.val_lt (B := W32) hd
  rwa [show W32 ^ us.length = 2 ^ (32 * us.length) by rw [Nat.pow_mul]] at h
set_option maxHeartbeats 4000000 in
set_option maxRecDepth 20000 in
theorem radd_fin (a b s D : Nat) (w : World) (ha : a < 18446744073709551616) (hb : b < 18446744073709551616) (fa : mg a < 9218868437227405312) (fb : mg b < 9218868437227405312) (hsum : double.add a b = some s)
    (hD : sval a + sval b < 0 → double.sub 0 (ovr (sval a + sval b).natAbs) = some D) :
    Calls Try.prog 12 #[.float .f64 a, .float .f64 b] w fun r w' => r = .returned (.tuple #[.float .f64 (addLo (sval a + sval b) s D), .float .f64 (addHi (sval a + sval b) s)]) ∧ Below w.heap.size w w' := by
  have HA := worth_any' a ha fa
  have HB := worth_any' b hb fb
  have hadd : ∀ (t : TypeId) (W : World), (binOp .add t (.float .f64 a) (.float .f64 b)).run Try.prog W = .ok (.float .f64 s) W := fun t W => by
    have hf := fop_some (op := .add) hsum W
    rw [run_add, hf.1, hf.2]
    rfl
  have HF : Hid (∀ w : World, Calls Try.prog 46 #[.float .f64 a] w fun e w' => e = .returned (.bool true) ∧ w' = w) := Lib.hid (fun w => by
    have := finite_any a w ha
    rwa [decide_eq_true fa] at this)
  have HG : Hid (∀ w : World, Calls Try.prog 46 #[.float .f64 b] w fun e w' => e = .returned (.bool true) ∧ w' = w) := Lib.hid (fun w => by
    have := finite_any b w hb
    rwa [decide_eq_true fb] at this)
  have HD := Lib.hid hD
  clear ha hb fa fb hsum hD
  go_enter Try.func12, Try.ntmps12
  go_wp2_with fail
  refine (HF.out _).mono ?_
  rintro _ w0 ⟨rfl, rfl⟩
  go_wp2_with fail
  refine (HG.out _).mono ?_
  rintro _ w0 ⟨rfl, rfl⟩
  go_wp2_with fail
  refine (HA.out _).mono ?_
  rintro _ w1 ⟨n1, A, xs, c, E1, rfl, bg1, hx2, hE1, hv1, hm1, hb1⟩
  have BG1 := Lib.hid bg1
  have HV1 := Lib.hid hv1
  have HB1 := Lib.hid hb1
  clear bg1 hv1 hb1 hm1
  go_wp2_with fail
  refine (HB.out _).mono ?_
  rintro _ w2 ⟨n2, B, ys, d, E2, rfl, bg2, hy2, hE2, hv2, hm2, hb2⟩
  have HT := Lib.hid (duo_made BG1.out hb2 bg2).all
  have HBW : Hid (Below w0.heap.size w0 w2) := Lib.hid (HB1.out.trans ((cells_then hb2).2.2.2.mono HB1.out.size))
  have BG2 := Lib.hid bg2
  have HV2 := Lib.hid hv2
  clear bg2 hv2 hb2 hm2
  obtain ⟨e1, he1⟩ : ∃ e1 : Int, (E1 : Int) - 1074 = e1 := ⟨_, rfl⟩
  obtain ⟨e2, he2⟩ : ∃ e2 : Int, (E2 : Int) - 1074 = e2 := ⟨_, rfl⟩
  obtain ⟨L, hL⟩ : ∃ L : Int, (if xs.length = 0 then e2 else if ys.length = 0 then e1 else min e1 e2) = L := ⟨_, rfl⟩
  have hpl : (xs.length = 0 ∨ L ≤ e1) ∧ (ys.length = 0 ∨ L ≤ e2) ∧ (L = e1 ∨ L = e2) := by
    rw [← hL]; split <;> (try split) <;> omega
  have HLE : Hid (∀ W : World, Sl .u32 W W.heap.size A xs → Sl .u32 W W.heap.size B ys → Calls Try.prog 48 #[big n1 A xs.length c, .int .i64 e1, big n2 B ys.length d, .int .i64 e2] W fun r w' => r = .returned (.int .i64 L) ∧ Below W.heap.size W w') := Lib.hid (fun W h1 h2 => by
    rw [← hL]
    exact least_any n1 n2 A B xs ys c d e1 e2 W h1 h2 (by omega) (by omega) (by omega) (by omega) (by omega) (by omega))
  have hLb : -1074 ≤ L ∧ L ≤ 971 := by omega
  obtain ⟨F, hFL⟩ : ∃ F : Nat, L = (F : Int) - 1074 := ⟨(L + 1074).toNat, by omega⟩
  obtain ⟨t1, ht1⟩ : ∃ t1 : Int, e1 - L = t1 := ⟨_, rfl⟩
  obtain ⟨t2, ht2⟩ : ∃ t2 : Int, e2 - L = t2 := ⟨_, rfl⟩
  have HW1 : Hid (IntKind.i64.wrap (e1 - L) = t1) := Lib.hid (by rw [IntKind.wrap_i64]; omega)
  have HW2 : Hid (IntKind.i64.wrap (e2 - L) = t2) := Lib.hid (by rw [IntKind.wrap_i64]; omega)
  have hV1 := place_val (x := xs.length) (t := t1) (F := F) HV1.out (fun h => sv_nil h) (by omega) (by omega)
  have hV2 := place_val (x := ys.length) (t := t2) (F := F) HV2.out (fun h => sv_nil h) (by omega) (by omega)
  have HD1 : Hid (∀ W : World, Sl .u32 W W.heap.size A xs → Calls Try.prog 51 #[big n1 A xs.length c, .int .i64 t1] W (Givl W (sv n1 (val W32 xs) * (2 ^ t1.toNat : Nat)) (xs.length + t1.toNat / 32 + 1))) := Lib.hid (fun W h => rdouble_int n1 A xs c t1 W ⟨h, BG1.out.dig, BG1.out.norm, BG1.out.sign, BG1.out.len, BG1.out.cap⟩ (by omega) (by omega) (by omega))
  have HD2 : Hid (∀ W : World, Sl .u32 W W.heap.size B ys → Calls Try.prog 51 #[big n2 B ys.length d, .int .i64 t2] W (Givl W (sv n2 (val W32 ys) * (2 ^ t2.toNat : Nat)) (ys.length + t2.toNat / 32 + 1))) := Lib.hid (fun W h => rdouble_int n2 B ys d t2 W ⟨h, BG2.out.dig, BG2.out.norm, BG2.out.sign, BG2.out.len, BG2.out.cap⟩ (by omega) (by omega) (by omega))
  have hb1 : xs.length + t1.toNat / 32 + 1 ≤ 100 := by omega
  have hb2 : ys.length + t2.toNat / 32 + 1 ≤ 100 := by omega
  generalize sv n1 (val W32 xs) * (2 ^ t1.toNat : Nat) = X1 at *
  generalize sv n2 (val W32 ys) * (2 ^ t2.toNat : Nat) = X2 at *
  have hSS : (X1 + X2) * (2 ^ F : Nat) = sval a + sval b := by rw [Int.add_mul, hV1, hV2]
  have HTO : Hid (∀ (W : World) n V us k B' d', Bg W n V us k maxLen → sv n (val W32 us) = X1 + X2 → us.length ≤ 200 → Bg W false B' [1] d' maxLen → Calls Try.prog 49 #[.float .f64 s, big n V us.length k, big false B' [1].length d', .int .i64 L] W fun r w' => r = .returned (.tuple #[.float .f64 (addLo (sval a + sval b) s D), .float .f64 (addHi (sval a + sval b) s)]) ∧ Below W.heap.size W w') := Lib.hid (fun W n V us k B' d' h1 h2 h3 h4 => by
    have hsp := sum_parts h1.norm h1.sign h2 hSS
    have hbl := bitLen_len h1.dig
    have hd := HD.out
    generalize sval a + sval b = S at *
    by_cases h0 : us.length = 0
    · have hS0 := hsp.2.1.1 h0
      have hnf : n = false := h1.sign (List.eq_nil_of_length_eq_zero h0)
      have := told_any s n V B' us [1] rfl k d' F L hFL W h1 h4 (by omega) (by omega) _ hsp.1 D (fun h => by rw [hnf] at h; cases h)
      rw [if_pos h0, if_pos h0] at this
      unfold addLo addHi
      rw [if_pos hS0, if_pos hS0]
      exact this
    · have hS0 : ¬ S = 0 := fun h => h0 (hsp.2.1.2 h)
      have hni := hsp.2.2 h0
      have := told_any s n V B' us [1] rfl k d' F L hFL W h1 h4 (by omega) (by omega) _ hsp.1 D (fun h => hd (hni.1 h))
      rw [if_neg h0, if_neg h0] at this
      unfold addLo addHi
      rw [if_neg hS0, if_neg hS0]
      cases n
      · have hn : ¬ S < 0 := fun h => by have := hni.2 h; cases this
        rw [if_neg hn, if_neg hn]
        simpa using this
      · have hn : S < 0 := hni.1 rfl
        rw [if_pos hn, if_pos hn]
        simpa using this)
  generalize xs.length + t1.toNat / 32 + 1 = y1 at *
  generalize ys.length + t2.toNat / 32 + 1 = y2 at *
  clear hL hpl hLb hFL ht1 ht2 hV1 hV2 hSS HV1 HV2
  have k0 := HT.out.1.a0
  have k1 := HT.out.1.a1
  have k2 := HT.out.1.b0
  have k3 := HT.out.1.b1
  go_wp2_with fail
  clear k0 k1 k2 k3
  generalize (w2.alloc (.cells #[.bool n2, .slice B ys.length d] 49)) = W2 at *
  refine (HLE.out _ (Duo.sa' HT.out) (Duo.sb' HT.out)).mono ?_
  rintro _ w3 ⟨rfl, hb3⟩
  have hall := Duo.keep HT.out hb3
  clear hb3 HT
  go_wp2_with fail
  go_region_held3 (fun W' => Duo w2 W' w1.heap.size w2.heap.size n1 n2 A B xs ys xs.length c ys.length d ∧ W'.cell? ⟨w1.heap.size, 0, none⟩ = some (.bool n1) ∧ W'.cell? ⟨w1.heap.size, 1, none⟩ = some (.slice A xs.length c) ∧ W'.cell? ⟨w2.heap.size, 0, none⟩ = some (.bool n2) ∧ W'.cell? ⟨w2.heap.size, 1, none⟩ = some (.slice B ys.length d))
    (first | exact hall | assumption | exact Duo.keep hall ((Below.refl _ _).drew) | exact Duo.keep (by assumption) (by assumption) | exact Duo.keep (by assumption) ((Below.refl _ _).drew))
    (first
      | (go_at_call 51; rw [HW1.out]; refine (HD1.out _ (Duo.sa' (by assumption))).mono ?_; rintro _ wa ⟨m1, V1, us1, k1, rfl, bA, vA, lA, hba⟩)
      | (go_at_call 51; rw [HW2.out]; refine (HD2.out _ (Duo.sb' (by assumption))).mono ?_; rintro _ wb ⟨m2, V2, us2, k2, rfl, bB, vB, lB, hbb⟩
         have bAb := bA.below hbb)
      | (go_at_call 50; refine (rplus_any m1 m2 V1 V2 us1 us2 k1 k2 _ bAb.sl bB.sl bAb.dig bB.dig bAb.norm bB.norm (by omega)).mono ?_; rintro _ wd ⟨m3, V3, us3, k3, rfl, bC, vC, lC, hbc⟩
         rw [vA, vB] at vC
         have lC2 : us3.length ≤ 200 := by omega)
      | (go_at_call 52; refine (one_any _).mono ?_; rintro _ we ⟨B1, d1, rfl, bO, hbd⟩
         have bCe := bC.below hbd)
      | (go_at_call 49; refine (HTO.out _ m3 V3 us3 k3 B1 d1 bCe vC lC2 bO).mono ?_; rintro _ wf ⟨rfl, hbe⟩))
  rename_i hDD
  have hbel := hDD.1.below
  go_wp2
  go_ret2
  exact ⟨rfl, HBW.out.trans (hbel.mono HBW.out.size)⟩
end Go.Proofs.Ytffjkfjokikhnaa.Rb
