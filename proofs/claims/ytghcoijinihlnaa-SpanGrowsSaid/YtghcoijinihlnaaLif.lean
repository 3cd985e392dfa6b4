/-
  What left reckons: it always answers where the operands are finite, turns with them, and does not hang on their order. No conditions but those that each law names.
-/
import Derived.Test.YtghcoijinihlnaaSym
namespace Go.Proofs.Ytghcoijinihlnaa.Fl
open Ieee
/-- Each number of at most 53 binary digits, and noughts behind, is a float's size (infinity aside). -/
theorem uval_surj : ∀ (e k : Nat), k < 9007199254740992 → ∃ R, uval R = k * 2 ^ e
  | 0, k, hk => ⟨k, by have := uval_bin (e := 0) (k := k) (.inl rfl) (Nat.le_of_lt hk); simpa using this⟩
  | e + 1, k, hk => by
    by_cases h : 4503599627370496 ≤ k
    · exact ⟨_, uval_bin (.inr h) (Nat.le_of_lt hk)⟩
    · obtain ⟨R, hR⟩ := uval_surj e (2 * k) (by omega)
      exact ⟨R, by rw [hR, Nat.pow_succ, Nat.mul_comm 2 k, Nat.mul_assoc, Nat.mul_comm 2]⟩
theorem uval_form (m : Nat) : ∃ e k, k < 9007199254740992 ∧ uval m = k * 2 ^ e := by
  unfold uval
  by_cases h : m < 4503599627370496
  · exact ⟨0, m, by omega, by rw [if_pos h]; simp⟩
  · exact ⟨m / 4503599627370496 - 1, 4503599627370496 + m % 4503599627370496, by omega, by rw [if_neg h]⟩
theorem uval_inf (E : Nat) (h : E = 2098) : uval 9218868437227405312 = 2 ^ E := by
  unfold uval
  obtain ⟨k, hk⟩ : ∃ k, E = 52 + k := ⟨E - 52, by omega⟩
  rw [if_neg (by omega), show 4503599627370496 + 9218868437227405312 % 4503599627370496 = 2 ^ 52 by decide, show 9218868437227405312 / 4503599627370496 - 1 = k by omega, ← Nat.pow_add, hk]
theorem uval_le_inf {R : Nat} {n : Nat} (h : uval R ≤ 2 ^ n) (hn : n < 2098) : R < 9218868437227405312 := by
  obtain ⟨E, hE⟩ : ∃ E, E = 2098 := ⟨_, rfl⟩
  rw [← (uval_cmp R 9218868437227405312).1, uval_inf E hE]
  exact Nat.lt_of_le_of_lt h (Nat.pow_lt_pow_right (by omega) (by omega))
theorem mg_L : mg 5507902344274116608 = 5507902344274116608 ∧ ng 5507902344274116608 = false := by decide
theorem read_L : double.read 5507902344274116608 = .number false 4503599627370496 148 := by decide +kernel
/-- Two to the power 900 below one: left lifts what is less. -/
theorem uval_small900 : uval 553942754166571008 = 2 ^ 174 := by
  unfold uval
  rw [if_neg (by omega), show 4503599627370496 + 553942754166571008 % 4503599627370496 = 2 ^ 52 by decide, show 553942754166571008 / 4503599627370496 - 1 = 122 by decide, ← Nat.pow_add]
theorem lsmall_is {z : Nat} (h : mg z ≤ 9218868437227405312) : lsmall z = true ↔ mg z < 553942754166571008 := by
  unfold lsmall
  rw [ord_lt]
  have h1 : mg z < 9223372036854775808 := by omega
  have e1 : mg (mg z) = mg z := Nat.mod_eq_of_lt h1
  have e2 : ng (mg z) = false := by unfold ng; rw [Nat.div_eq_of_lt h1]; rfl
  have k1 : key (mg z) = mg z := by unfold key; rw [e1, e2]; rfl
  have k2 : key 553942754166571008 = 553942754166571008 := by decide
  have k3 : mg 553942754166571008 = 553942754166571008 := by decide
  rw [e1, k1, k2, k3]
  simp
  omega
/-- A product with 2 to the power 200 is exact where it is not too great. -/
theorem lift_exact {x n : Nat} (h : uval (mg x) ≤ 2 ^ n) (hn : n < 1898) : ∃ x1, double.mul x 5507902344274116608 = some x1 ∧ x1 < 18446744073709551616 ∧ ng x1 = ng x ∧ mg x1 < 9218868437227405312 ∧ uval (mg x1) = uval (mg x) * 2 ^ 200 := by
  have hf : mg x < 9218868437227405312 := uval_le_inf h (by omega)
  obtain ⟨M, P, e1, p1, v1⟩ := read_fin x hf
  obtain ⟨e, k, hk, hu⟩ := uval_form (mg x)
  obtain ⟨R, hR⟩ := uval_surj (e + 200) k hk
  have hR2 : uval R = uval (mg x) * 2 ^ 200 := by rw [hR, hu, Nat.pow_add, Nat.mul_assoc]
  have hRf : R < 9218868437227405312 := by
    refine uval_le_inf (n := n + 200) ?_ (by omega)
    rw [hR2, Nat.pow_add]
    exact Nat.mul_le_mul_right _ h
  have hw := word_mg (ng x) R (by omega)
  refine ⟨double.word (ng x) R, ?_, word_lt64 _ _ (by omega), hw.2, by rw [hw.1]; exact hRf, by rw [hw.1]; exact hR2⟩
  unfold Format.mul
  rw [e1, read_L]
  show some (double.nearest (ng x ^^ false) (M * 4503599627370496) (P + 148)) = _
  rw [Bool.xor_false]
  congr 1
  refine nearest_exact _ (P + 1074 + 148).toNat 0 (by omega) ?_ (by omega)
  rw [hR2, ← v1, Nat.pow_zero, Nat.mul_one]
  rw [show (P + 1074 + 148).toNat = (P + 1074).toNat + 148 by omega, Nat.pow_add]
  rw [show (4503599627370496 : Nat) = 2 ^ 52 by decide, show (2 : Nat) ^ 200 = 2 ^ 52 * 2 ^ 148 by rw [← Nat.pow_add]]
  simp only [Nat.mul_assoc, Nat.mul_left_comm]
theorem lift_small {z : Nat} (h : mg z < 553942754166571008) : ∃ z1, double.mul z 5507902344274116608 = some z1 ∧ z1 < 18446744073709551616 ∧ ng z1 = ng z ∧ mg z1 < 9218868437227405312 ∧ uval (mg z1) = uval (mg z) * 2 ^ 200 := by
  refine lift_exact (n := 174) ?_ (by omega)
  rw [← uval_small900]
  exact Nat.le_of_lt (uval_lt h)
theorem lift_any {x : Nat} (h : mg x ≤ 9218868437227405312) : ∃ x1, double.mul x 5507902344274116608 = some x1 ∧ x1 < 18446744073709551616 ∧ mg x1 ≤ 9218868437227405312 := by
  rcases Nat.lt_or_eq_of_le h with g | g
  · obtain ⟨r, hr⟩ := mul_fin g (show mg 5507902344274116608 < _ by decide)
    exact ⟨r, hr, (mul_told hr).2, (mul_told hr).1⟩
  · have : double.mul x 5507902344274116608 = some (double.write (.infinity (ng x ^^ false))) := by
      unfold Format.mul; rw [read_inf x g, read_L]; rfl
    exact ⟨_, this, (mul_told this).2, (mul_told this).1⟩
theorem fma_some' {x y z : Nat} (hx : x < 18446744073709551616) (hm : mg x ≤ 9218868437227405312) (hy : Pl y) (hz : mg z < 9218868437227405312) : ∃ r, double.fma (ngf x) y z = some r := by
  unfold Format.fma
  obtain ⟨N, Q, e2, _, v2⟩ := read_fin y hy.2
  obtain ⟨K, T, e3, _, _⟩ := read_fin z hz
  have hN : N ≠ 0 := by
    have := uval_pos hy.1
    intro h; subst h; simp at v2; omega
  have hn := ngf_is hx
  rcases Nat.lt_or_eq_of_le hm with g | g
  · obtain ⟨M, P, e1, _, _⟩ := read_fin (ngf x) (by rw [hn.1]; exact g)
    rw [e1, e2, e3]; exact ⟨_, rfl⟩
  · rw [read_inf (ngf x) (by rw [hn.1]; exact g), e2, e3]
    simp only [Datum.product, if_neg hN]
    exact ⟨_, rfl⟩
/-- What left reckons is a number. -/
theorem leftIs_ex {x y z : Nat} (hx : x < 18446744073709551616) (hm : mg x ≤ 9218868437227405312) (hy : Pl y) (hz : mg z < 9218868437227405312) : ∃ r, LeftIs x y z r ∧ mg r ≤ 9218868437227405312 ∧ r < 18446744073709551616 := by
  cases hs : lsmall z
  · obtain ⟨r, hr⟩ := fma_some' hx hm hy hz
    exact ⟨r, ⟨x, z, by rw [hs]; exact ⟨rfl, rfl⟩, hr⟩, fma_told hr⟩
  · obtain ⟨x1, e1, l1, m1⟩ := lift_any hm
    obtain ⟨z1, e2, l2, _, m2, _⟩ := lift_small ((lsmall_is (Nat.le_of_lt hz)).1 hs)
    obtain ⟨r, hr⟩ := fma_some' l1 m1 hy m2
    exact ⟨r, ⟨x1, z1, by rw [hs]; exact ⟨e1, e2⟩, hr⟩, fma_told hr⟩
theorem lsmall_mg {z z' : Nat} (h : mg z' = mg z) : lsmall z' = lsmall z := by unfold lsmall; rw [h]
/-- Both the first factor and what it is taken from turned. -/
theorem leftIs_opp {x y z r : Nat} (hx : x < 18446744073709551616) (hz : z < 18446744073709551616) (hzm : mg z ≤ 9218868437227405312) (h : LeftIs x y z r) : ∃ r', LeftIs (ngf x) y (ngf z) r' ∧ Opp r r' := by
  obtain ⟨x1, z1, hc, hr⟩ := h
  have hs := lsmall_mg (ngf_is hz).1
  cases hb : lsmall z
  · rw [hb] at hc
    obtain ⟨rfl, rfl⟩ := hc
    obtain ⟨r', e, ho⟩ := fma_opp (ngf_lt hx) (opp_ngf hz hzm) hr
    exact ⟨r', ⟨ngf x1, ngf z1, by rw [hs, hb]; exact ⟨rfl, rfl⟩, e⟩, ho⟩
  · rw [hb] at hc
    obtain ⟨h1, h2⟩ := hc
    have l1 := (mul_told h1).2
    have l2 := mul_told h2
    obtain ⟨r', e, ho⟩ := fma_opp (ngf_lt l1) (opp_ngf l2.2 l2.1) hr
    refine ⟨r', ⟨ngf x1, ngf z1, ?_, e⟩, ho⟩
    rw [hs, hb]
    simp only [if_true]
    rw [mul_ngf hx, mul_ngf hz, h1, h2]
    exact ⟨rfl, rfl⟩
/-- Both factors turned. -/
theorem leftIs_turn {x y z r : Nat} (hx : x < 18446744073709551616) (hy : y < 18446744073709551616) (h : LeftIs x y z r) : LeftIs (ngf x) (ngf y) z r := by
  obtain ⟨x1, z1, hc, hr⟩ := h
  cases hb : lsmall z
  · rw [hb] at hc
    obtain ⟨rfl, rfl⟩ := hc
    refine ⟨ngf x1, z1, by rw [hb]; exact ⟨rfl, rfl⟩, ?_⟩
    rw [fma_turn (ngf_lt hx) hy]; exact hr
  · rw [hb] at hc
    obtain ⟨h1, h2⟩ := hc
    refine ⟨ngf x1, z1, ?_, ?_⟩
    · rw [hb]; simp only [if_true]; rw [mul_ngf hx, h1]; exact ⟨rfl, h2⟩
    · rw [fma_turn (ngf_lt (mul_told h1).2) hy]; exact hr
end Go.Proofs.Ytghcoijinihlnaa.Fl
