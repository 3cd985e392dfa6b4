/-
  A float that is told exactly is its own lower and upper one; what the document's own finite returns. Condition: that the float is a word.
-/
import Derived.Test.YtffjkfjokikhnaaRwa
import Derived.Test.YtffjkfjokikhnaaExb
namespace Go.Proofs.Ytffjkfjokikhnaa.Rb
open Go.RowKit Nb Fl Ieee
theorem undr_exact {m : Nat} (h : m ≤ 9218868437227405311) : undr (uval m) = (m, true) := by
  rcases Nat.lt_or_ge m 9007199254740992 with g | g
  · have e : uval m = m := by
      unfold uval
      split
      · rfl
      · rw [show m / 4503599627370496 - 1 = 0 by omega]; omega
    rw [e]
    exact undr_low g
  · obtain ⟨k, hk⟩ : ∃ k, m / 4503599627370496 = k + 2 := ⟨m / 4503599627370496 - 2, by omega⟩
    have e : uval m = (4503599627370496 + m % 4503599627370496) * 2 ^ (k + 1) := by
      unfold uval
      rw [if_neg (by omega), hk]
      rfl
    have hq0 : 0 < 4503599627370496 + m % 4503599627370496 := by omega
    have hq : bitLen (4503599627370496 + m % 4503599627370496) = 53 := bitLen_eq (by rw [show (2 : Nat) ^ 53 = 9007199254740992 by decide]; omega) (.inr (by rw [show (2 : Nat) ^ (53 - 1) = 4503599627370496 by decide]; omega))
    have hb : bitLen (uval m) = k + 1 + 53 := by rw [e, bitLen_shift hq0, hq, Nat.add_comm]
    have hlow : ¬ uval m < 9007199254740992 := by rw [← undr_bits]; omega
    unfold undr
    rw [if_neg hlow, hb, Nat.add_sub_cancel, if_neg (by omega), e, Nat.mul_div_cancel _ (Nat.two_pow_pos _), Nat.mul_mod_left]
    refine Prod.ext ?_ ?_
    · show (k + 1) * 4503599627370496 + (4503599627370496 + m % 4503599627370496) = m
      omega
    · simp
theorem ovr_exact {m : Nat} (h : m ≤ 9218868437227405311) : ovr (uval m) = m := by
  unfold ovr
  rw [undr_exact h]
  rfl
/-- Nought without a float is the float with the other sign. -/
theorem sub_zero {h : Nat} (h0 : 0 < h) (h1 : h ≤ 9218868437227405311) : double.sub 0 h = some (h + 9223372036854775808) := by
  have hm : mg h = h := Nat.mod_eq_of_lt (by omega)
  have hn : ng h = false := by unfold ng; rw [Nat.div_eq_of_lt (by omega)]; rfl
  obtain ⟨r, hr⟩ := sub_fin (x := 0) (y := h) (by decide) (by omega)
  obtain ⟨R, e1, e2, e3, e4⟩ := sub_nr (x := 0) (y := h) (by decide) (by omega) (by omega) hr
  have hs0 : sval 0 = 0 := by decide
  have hs : sval h = (uval h : Int) := by unfold sval; rw [hn, hm]; rfl
  have hpos := uval_pos h0
  rw [hs0, hs] at e2 e3
  have ht := nr_told e1 e2 e3 ⟨h, by omega⟩ (by have := uval_lt (m := h) (n := 9218868437227405312) (by omega); omega)
  have hneg : ng r = true := by rw [e3 (by omega)]; simp; omega
  have hu : uval (mg r) = uval h := by
    have := ht.2
    unfold sval at this
    rw [hneg] at this
    simp at this
    omega
  have hmr : mg r = h := ((uval_cmp _ _).2).1 hu
  have := word_of r e4
  rw [hneg, hmr] at this
  rw [hr, ← this]
  unfold Format.word
  rw [d_sw]
  simp [Nat.add_comm]
/-- What Beside answers of a number that a float is. -/
theorem beside_exact {l : Nat} (hl : l < 18446744073709551616) (hf : mg l < 9218868437227405312) (h0 : 0 < mg l) {n : Bool} (hn : n = ng l) : (if n then mg l + 9223372036854775808 else (undr (uval (mg l))).1) = l := by
  rw [undr_exact (by omega), hn]
  have := word_of l hl
  unfold Format.word at this
  rw [d_sw] at this
  cases hg : ng l <;> rw [hg] at this <;> simp at this ⊢ <;> omega
theorem mg_mg (x : Nat) : mg (mg x) = mg x ∧ ng (mg x) = false := by
  have h : mg x < 9223372036854775808 := Nat.mod_lt _ (by omega)
  refine ⟨Nat.mod_eq_of_lt h, ?_⟩
  unfold ng
  rw [Nat.div_eq_of_lt h]; rfl
set_option maxHeartbeats 400000 in
theorem isInfAny_any (x : Nat) (w : World) (hx : x < 18446744073709551616) : Calls Try.prog 65 #[.float .f64 x, .int .i64 0] w fun e w' => e = .returned (.bool (decide (mg x = 9218868437227405312))) ∧ w' = w := by
  have h := gt_max (mg x)
  rw [(mg_mg x).1, (mg_mg x).2] at h
  simp only [and_true] at h
  have HA : Hid (∀ w : World, Calls Try.prog 42 #[.float .f64 x] w fun e w' => e = .returned (.float .f64 (mg x)) ∧ w' = w) := Lib.hid (fun w => abs_any x w hx)
  obtain ⟨b, hb⟩ : ∃ b, decide (mg x = 9218868437227405312) = b := ⟨_, rfl⟩
  rw [hb] at h ⊢
  generalize mg x = m at *
  clear hb hx
  go_enter Try.func65, Try.ntmps65
  go_wp2_with fail
  refine (HA.out _).mono ?_
  rintro _ w1 ⟨rfl, rfl⟩
  go_wp2
  go_ret; exact ⟨rfl, rfl⟩
set_option maxHeartbeats 1000000 in
theorem finite_any (x : Nat) (w : World) (hx : x < 18446744073709551616) : Calls Try.prog 46 #[.float .f64 x] w fun e w' => e = .returned (.bool (decide (mg x < 9218868437227405312))) ∧ w' = w := by
  rcases Nat.lt_or_ge 9218868437227405312 (mg x) with g | g
  · have HN : Hid (∀ w : World, Calls Try.prog 64 #[.float .f64 x] w fun e w' => e = .returned (.bool true) ∧ w' = w) := Lib.hid (fun w => by
      have := isNaN_any x w
      rwa [decide_eq_true g] at this)
    rw [decide_eq_false (by omega)]
    clear g hx
    go_enter Try.func46, Try.ntmps46
    go_wp2_with fail
    refine (HN.out _).mono ?_
    rintro _ w1 ⟨rfl, rfl⟩
    go_wp2
    go_ret; exact ⟨rfl, rfl⟩
  · have HN : Hid (∀ w : World, Calls Try.prog 64 #[.float .f64 x] w fun e w' => e = .returned (.bool false) ∧ w' = w) := Lib.hid (fun w => by
      have := isNaN_any x w
      rwa [decide_eq_false (by omega)] at this)
    obtain ⟨b, hb⟩ : ∃ b, decide (mg x = 9218868437227405312) = b := ⟨_, rfl⟩
    have HI : Hid (∀ w : World, Calls Try.prog 65 #[.float .f64 x, .int .i64 0] w fun e w' => e = .returned (.bool b) ∧ w' = w) := Lib.hid (fun w => by
      have := isInfAny_any x w hx
      rwa [hb] at this)
    have hr : decide (mg x < 9218868437227405312) = !b := by
      rw [← hb]
      by_cases h : mg x = 9218868437227405312
      · rw [decide_eq_true h, decide_eq_false (by omega)]; rfl
      · rw [decide_eq_false h, decide_eq_true (by omega)]; rfl
    rw [hr]
    clear g hx hb hr
    go_enter Try.func46, Try.ntmps46
    go_wp2_with fail
    refine (HN.out _).mono ?_
    rintro _ w1 ⟨rfl, rfl⟩
    go_wp2_with fail
    refine (HI.out _).mono ?_
    rintro _ w2 ⟨rfl, rfl⟩
    go_wp2
    go_ret; exact ⟨rfl, rfl⟩
end Go.Proofs.Ytffjkfjokikhnaa.Rb
