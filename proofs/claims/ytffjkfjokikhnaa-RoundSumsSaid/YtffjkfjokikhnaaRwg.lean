/-
  Between which floats a number of units lies. No conditions.
-/
import Derived.Test.YtffjkfjokikhnaaRwb
namespace Go.Proofs.Ytffjkfjokikhnaa.Rb
open Go.RowKit Nb Fl Ieee
theorem uval_form {h q : Nat} (h0 : 4503599627370496 ≤ q) (h1 : q ≤ 9007199254740992) : uval (h * 4503599627370496 + q) = q * 2 ^ h := by
  unfold uval
  rw [if_neg (by omega)]
  rcases Nat.lt_or_ge q 9007199254740992 with g | g
  · rw [show (h * 4503599627370496 + q) / 4503599627370496 - 1 = h by omega, show 4503599627370496 + (h * 4503599627370496 + q) % 4503599627370496 = q by omega]
  · rw [show (h * 4503599627370496 + q) / 4503599627370496 - 1 = h + 1 by omega, show 4503599627370496 + (h * 4503599627370496 + q) % 4503599627370496 = 4503599627370496 by omega, Nat.pow_succ, Nat.mul_comm (2 ^ h) 2, ← Nat.mul_assoc, show q = 4503599627370496 * 2 by omega]
theorem uval_low {m : Nat} (h : m ≤ 9007199254740992) : uval m = m := by
  rcases Nat.lt_or_ge m 4503599627370496 with g | g
  · exact uval_small g
  · have := uval_form (h := 0) g h
    simpa using this
/-- What undr answers. -/
theorem undr_spec (U : Nat) : uval (undr U).1 ≤ U ∧ (U < uval ((undr U).1 + 1)) ∧ (undr U).2 = decide (uval (undr U).1 = U) ∨ (undr U = (9218868437227405311, false) ∧ uval 9218868437227405312 ≤ U) := by
  unfold undr
  by_cases h1 : U < 9007199254740992
  · rw [if_pos h1]
    refine .inl ⟨?_, ?_, ?_⟩
    · show uval U ≤ U
      rw [uval_low (by omega)]; exact Nat.le_refl _
    · show U < uval (U + 1)
      rw [uval_low (by omega)]; omega
    · show true = decide (uval U = U)
      rw [uval_low (by omega)]; simp
  · rw [if_neg h1]
    have hb := undr_bits (U := U)
    obtain ⟨h, hh⟩ : ∃ h, bitLen U = h + 53 := ⟨bitLen U - 53, by omega⟩
    rw [hh, Nat.add_sub_cancel]
    have a : U < 2 ^ (h + 53) := by rw [← hh]; exact bitLen_le_iff.1 (Nat.le_refl _)
    have b : ¬ U < 2 ^ (h + 52) := fun g => by have := bitLen_le_iff.2 g; omega
    have hp := Nat.two_pow_pos h
    have c : U / 2 ^ h < 2 ^ 53 := by rw [Nat.div_lt_iff_lt_mul hp, ← Nat.pow_add, Nat.add_comm]; exact a
    have d : 2 ^ 52 ≤ U / 2 ^ h := by rw [Nat.le_div_iff_mul_le hp, ← Nat.pow_add, Nat.add_comm]; omega
    have e1 : (2 : Nat) ^ 53 = 9007199254740992 := by decide
    have e2 : (2 : Nat) ^ 52 = 4503599627370496 := by decide
    have hdm := Nat.div_add_mod U (2 ^ h)
    have hml := Nat.mod_lt U hp
    by_cases h2 : 2045 < h
    · rw [if_pos h2]
      refine .inr ⟨rfl, ?_⟩
      obtain ⟨g, hg⟩ : ∃ g : Nat, g = 2046 := ⟨_, rfl⟩
      have hu := uval_form (h := g) (q := 4503599627370496) (by omega) (by omega)
      rw [show (9218868437227405312 : Nat) = g * 4503599627370496 + 4503599627370496 by omega, hu, ← e2, ← Nat.pow_add]
      exact Nat.le_trans (Nat.pow_le_pow_right (by omega) (by omega)) (Nat.not_lt.1 b)
    · rw [if_neg h2]
      rw [e1] at c
      rw [e2] at d
      generalize U / 2 ^ h = q at *
      have f1 := uval_form (h := h) (q := q) d (by omega)
      have f2 := uval_form (h := h) (q := q + 1) (by omega) (by omega)
      refine .inl ⟨?_, ?_, ?_⟩
      · show uval (h * 4503599627370496 + q) ≤ U
        rw [f1, Nat.mul_comm]; omega
      · show U < uval (h * 4503599627370496 + q + 1)
        rw [Nat.add_assoc, f2, Nat.add_mul, Nat.mul_comm]; omega
      · show decide (U % 2 ^ h = 0) = decide (uval (h * 4503599627370496 + q) = U)
        rw [f1, Nat.mul_comm]
        exact decide_eq_decide.2 (by omega)
/-- Where a number lies between two floats beside each other, strictly. -/
theorem undr_between {U m : Nat} (hm : m ≤ 9218868437227405311) (h0 : uval m < U) (h1 : U < uval (m + 1)) : undr U = (m, false) ∧ ovr U = m + 1 := by
  have h := undr_spec U
  have hle := undr_le U
  have e : undr U = (m, false) := by
    rcases h with ⟨a, b, c⟩ | ⟨a, b⟩
    · have e1 : (undr U).1 = m := by
        have g1 : ¬ (undr U).1 < m := fun g => by
          have := (uval_cmp ((undr U).1 + 1) m).1
          have := (uval_cmp ((undr U).1 + 1) m).2
          rcases Nat.lt_or_ge ((undr U).1 + 1) m with k | k
          · have := uval_lt k; omega
          · have : (undr U).1 + 1 = m := by omega
            rw [this] at b; omega
        have g2 : ¬ m < (undr U).1 := fun g => by
          rcases Nat.lt_or_ge (m + 1) (undr U).1 with k | k
          · have := uval_lt k; omega
          · have : m + 1 = (undr U).1 := by omega
            rw [← this] at a; omega
        omega
      refine Prod.ext e1 ?_
      rw [c, e1]
      simp; omega
    · exfalso
      rcases Nat.lt_or_ge (m + 1) 9218868437227405312 with k | k
      · have := uval_lt k; omega
      · rw [show m + 1 = 9218868437227405312 by omega] at h1; omega
  refine ⟨e, ?_⟩
  unfold ovr
  rw [e]; rfl
/-- Beyond the greatest float. -/
theorem undr_beyond {U : Nat} (h : uval 9218868437227405311 < U) : undr U = (9218868437227405311, false) ∧ ovr U = 9218868437227405312 := by
  rcases Nat.lt_or_ge U (uval 9218868437227405312) with g | g
  · exact undr_between (Nat.le_refl _) h g
  · have e : undr U = (9218868437227405311, false) := by
      rcases undr_spec U with ⟨a, b, _⟩ | ⟨a, _⟩
      · exfalso
        have hle := undr_le U
        rcases Nat.lt_or_ge ((undr U).1 + 1) 9218868437227405312 with k | k
        · have := uval_lt k; omega
        · rw [show (undr U).1 + 1 = 9218868437227405312 by omega] at b; omega
      · exact a
    refine ⟨e, ?_⟩
    unfold ovr
    rw [e]; rfl
end Go.Proofs.Ytffjkfjokikhnaa.Rb
