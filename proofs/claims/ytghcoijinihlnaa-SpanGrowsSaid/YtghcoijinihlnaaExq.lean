/-
  What round.Quo answers of finite floats: the greatest float not above the exact quotient, and the least one not below it. Condition: floats of 64 bits; the divisor is no nought.
-/
import Derived.Test.YtghcoijinihlnaaExm
namespace Go.Proofs.Ytghcoijinihlnaa.Fl
open Ieee
theorem rung_form (R : Nat) : ∃ e k, R = e * 4503599627370496 + k ∧ uval R = k * 2 ^ e ∧ uval (R + 1) = (k + 1) * 2 ^ e ∧ k < 9007199254740992 ∧ (e = 0 ∨ 4503599627370496 ≤ k) := by
  by_cases h : R < 9007199254740992
  · have a := uval_bin (e := 0) (k := R) (.inl rfl) (by omega)
    have b := uval_bin (e := 0) (k := R + 1) (.inl rfl) (by omega)
    rw [Nat.zero_mul, Nat.zero_add] at a
    rw [Nat.zero_mul, Nat.zero_add (R + 1)] at b
    have c : R = 0 * 4503599627370496 + R := by rw [Nat.zero_mul, Nat.zero_add]
    exact ⟨0, R, c, a, b, h, Or.inl (Eq.refl 0)⟩
  · obtain ⟨e, k, hR, h1, h2⟩ : ∃ e k, R = e * 4503599627370496 + k ∧ 4503599627370496 ≤ k ∧ k < 9007199254740992 := ⟨R / 4503599627370496 - 1, R - (R / 4503599627370496 - 1) * 4503599627370496, by omega, by omega, by omega⟩
    have a := uval_bin (e := e) (k := k) (.inr h1) (by omega)
    have b := uval_bin (e := e) (k := k + 1) (.inr (by omega)) (by omega)
    exact ⟨e, k, hR, by rw [hR]; exact a, by rw [hR, Nat.add_assoc]; exact b, h2, .inr h1⟩
theorem pow_split {x y : Nat} (h : 2 * 2 ^ x < 2 ^ y) : ∃ f, y = x + 2 + f := by
  have h1 : 2 ^ (x + 1) < 2 ^ y := by rw [Nat.pow_succ]; omega
  have := (Nat.pow_lt_pow_iff_right (a := 2) (by omega)).1 h1
  exact ⟨y - (x + 2), by omega⟩
/-- A number of at least 54 digits with one more that says whether anything is left over: where the midpoints lie. -/
theorem sticky {q σ R A B : Nat} {p : Int} (hn : NearR (2 * q + σ) p R) (hq : 9007199254740992 ≤ q) (hσ : σ ≤ 1) (hAB : (A : Int) - B = p + 1074) :
    (∃ c, (uval R + uval (R + 1)) * 2 ^ B = c * (4 * 2 ^ A) ∧ q + σ ≤ c) ∧ ∀ Q, R = Q + 1 → (uval Q + uval R) * 2 ^ B ≤ q * (4 * 2 ^ A) := by
  have k := hn A B hAB
  obtain ⟨e, m, hR, u0, u1, hm, hem⟩ := rung_form R
  have hX := Nat.two_pow_pos A
  have hsum : (uval R + uval (R + 1)) * 2 ^ B = (2 * m + 1) * 2 ^ (e + B) := by
    rw [u0, u1, ← Nat.add_mul, Nat.mul_assoc, ← Nat.pow_add]; congr 1; omega
  have k1 := k.1
  rw [hsum] at k1
  have hbig : 2 * 2 ^ A < 2 ^ (e + B) := by
    have a : (2 * m + 1) * 2 ^ (e + B) ≤ 18014398509481983 * 2 ^ (e + B) := Nat.mul_le_mul_right _ (by omega)
    have b : 18014398509481984 * 2 ^ A ≤ (2 * q + σ) * 2 ^ A := Nat.mul_le_mul_right _ (by omega)
    have hY := Nat.two_pow_pos (e + B)
    omega
  obtain ⟨f, hf⟩ := pow_split hbig
  have hpow : 2 ^ (e + B) = 2 ^ f * (4 * 2 ^ A) := by
    rw [hf, Nat.pow_add, Nat.pow_add, show (2 : Nat) ^ 2 = 4 from rfl]
    rw [Nat.mul_comm (2 ^ A) 4, Nat.mul_comm]
  refine ⟨⟨(2 * m + 1) * 2 ^ f, by rw [hsum, hpow, Nat.mul_assoc], ?_⟩, fun Q hQ => ?_⟩
  · rw [hpow, ← Nat.mul_assoc (2 * m + 1)] at k1
    rcases Nat.lt_or_ge ((2 * m + 1) * 2 ^ f) (q + σ) with g | g
    · exfalso
      generalize (2 * m + 1) * 2 ^ f = c at *
      generalize 2 ^ A = X at *
      have e1 : c * (4 * X) = 4 * (c * X) := Nat.mul_left_comm _ _ _
      have e2 : 2 * ((2 * q + σ) * X) = 4 * (q * X) + 2 * (σ * X) := by rw [Nat.add_mul, Nat.mul_add, Nat.mul_assoc 2 q, ← Nat.mul_assoc 2 2]
      rw [e1, e2] at k1
      have h01 : σ = 0 ∨ σ = 1 := by omega
      rcases h01 with h | h
      · have a := Nat.mul_le_mul_right X (show c + 1 ≤ q by omega)
        rw [Nat.add_mul, Nat.one_mul] at a
        omega
      · have a := Nat.mul_le_mul_right X (show c ≤ q by omega)
        rw [h, Nat.one_mul] at k1
        omega
    · exact g
  · have k2 := (k.2.2 Q hQ).1
    by_cases hb : e ≠ 0 ∧ m = 4503599627370496
    · -- the rung is a power of two: the one before has half the step
      obtain ⟨g, hg⟩ : ∃ g, e = g + 1 := ⟨e - 1, by omega⟩
      have hQ2 : Q = g * 4503599627370496 + 9007199254740991 := by omega
      have uq := uval_bin (e := g) (k := 9007199254740991) (.inr (by omega)) (by omega)
      rw [← hQ2] at uq
      have ur : uval R = 9007199254740992 * 2 ^ g := by rw [u0, hb.2, hg, Nat.pow_succ]; omega
      rw [uq, ur, ← Nat.add_mul]
      have e1 : 2 * 2 ^ (g + B) = 2 ^ (e + B) := by rw [hg, show g + 1 + B = g + B + 1 by omega, Nat.pow_succ, Nat.mul_comm]
      have e2 : (9007199254740991 + 9007199254740992) * 2 ^ g * 2 ^ B = 18014398509481983 * 2 ^ (g + B) := by rw [Nat.mul_assoc, ← Nat.pow_add]
      rw [e2]
      rw [uq, ur, ← Nat.add_mul, e2] at k2
      rw [hpow] at e1
      rcases f with _ | f
      · simp only [Nat.pow_zero, Nat.one_mul] at e1
        have a : 9007199254740992 * (4 * 2 ^ A) ≤ q * (4 * 2 ^ A) := Nat.mul_le_mul_right _ hq
        omega
      · have e3 : 2 ^ (g + B) = 2 ^ f * (4 * 2 ^ A) := by
          rw [Nat.pow_succ] at e1
          have : 2 * 2 ^ (g + B) = 2 * (2 ^ f * (4 * 2 ^ A)) := by rw [e1, Nat.mul_right_comm, Nat.mul_comm]
          omega
        rw [e3, ← Nat.mul_assoc] at k2 ⊢
        generalize 18014398509481983 * 2 ^ f = c at *
        rcases Nat.lt_or_ge q c with g | g
        · exfalso
          have a : (q + 1) * (4 * 2 ^ A) ≤ c * (4 * 2 ^ A) := Nat.mul_le_mul_right _ g
          have b : (2 * q + σ) * 2 ^ A ≤ (2 * q + 1) * 2 ^ A := Nat.mul_le_mul_right _ (by omega)
          generalize 2 ^ A = X at *
          have e4 : (q + 1) * (4 * X) = 4 * (q * X) + 4 * X := by rw [Nat.add_mul, Nat.one_mul, Nat.mul_left_comm]
          have e5 : 2 * ((2 * q + 1) * X) = 4 * (q * X) + 2 * X := by rw [Nat.add_mul, Nat.mul_add, Nat.mul_assoc 2 q, ← Nat.mul_assoc 2 2, Nat.one_mul]
          omega
        · exact Nat.mul_le_mul_right _ g
    · have hm0 : 0 < m := by
        rcases hem with g | g
        · omega
        · omega
      have hQ2 : Q = e * 4503599627370496 + (m - 1) := by omega
      have uq := uval_bin (e := e) (k := m - 1) (by omega) (by omega)
      rw [← hQ2] at uq
      have e2 : (uval Q + uval R) * 2 ^ B = (2 * m - 1) * 2 ^ (e + B) := by
        rw [uq, u0, ← Nat.add_mul, Nat.mul_assoc, ← Nat.pow_add]; congr 1; omega
      rw [e2] at k2 ⊢
      rw [hpow, ← Nat.mul_assoc] at k2 ⊢
      generalize (2 * m - 1) * 2 ^ f = c at *
      rcases Nat.lt_or_ge q c with g | g
      · exfalso
        have a : (q + 1) * (4 * 2 ^ A) ≤ c * (4 * 2 ^ A) := Nat.mul_le_mul_right _ g
        have b : (2 * q + σ) * 2 ^ A ≤ (2 * q + 1) * 2 ^ A := Nat.mul_le_mul_right _ (by omega)
        generalize 2 ^ A = X at *
        have e4 : (q + 1) * (4 * X) = 4 * (q * X) + 4 * X := by rw [Nat.add_mul, Nat.one_mul, Nat.mul_left_comm]
        have e5 : 2 * ((2 * q + 1) * X) = 4 * (q * X) + 2 * X := by rw [Nat.add_mul, Nat.mul_add, Nat.mul_assoc 2 q, ← Nat.mul_assoc 2 2, Nat.one_mul]
        omega
      · exact Nat.mul_le_mul_right _ g
end Go.Proofs.Ytghcoijinihlnaa.Fl
