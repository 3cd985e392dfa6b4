/-
  What round.Sqrt answers of a finite float above nought: the greatest float not above the exact root, and the least one not below it. Condition: floats of 64 bits.
-/
import Derived.Test.YtghcoijinihlnaaExs
namespace Go.Proofs.Ytghcoijinihlnaa.Fl
open Ieee
theorem rootFrom_spec (n : Nat) : ∀ (todo root : Nat), root * root ≤ n → n < (root + 2 ^ todo) * (root + 2 ^ todo) → Datum.rootFrom n todo root * Datum.rootFrom n todo root ≤ n ∧ n < (Datum.rootFrom n todo root + 1) * (Datum.rootFrom n todo root + 1)
  | 0, root, h0, h1 => by
    unfold Datum.rootFrom
    exact ⟨h0, by simpa using h1⟩
  | todo + 1, root, h0, h1 => by
    unfold Datum.rootFrom
    simp only [Nat.shiftLeft_eq, Nat.one_mul]
    by_cases h : (root + 2 ^ todo) * (root + 2 ^ todo) ≤ n
    · rw [if_pos h]
      refine rootFrom_spec n todo _ h ?_
      have e : root + 2 ^ todo + 2 ^ todo = root + 2 ^ (todo + 1) := by rw [Nat.pow_succ]; omega
      rw [e]; exact h1
    · rw [if_neg h]
      exact rootFrom_spec n todo _ h0 (by omega)
theorem sq_le {x y : Nat} (h : x ≤ y) : x * x ≤ y * y := Nat.mul_le_mul h h
theorem sq_lt {x y : Nat} (h : x * x < y * y) : x < y := by
  rcases Nat.lt_or_ge x y with g | g
  · exact g
  · have := sq_le g; omega
theorem sq_le' {x y : Nat} (h : x * x ≤ y * y) : x ≤ y := by
  rcases Nat.lt_or_ge y x with g | g
  · have : y * y < x * x := Nat.mul_lt_mul_of_lt_of_le g (Nat.le_of_lt g) (by omega)
    omega
  · exact g
theorem root_start {n : Nat} (_h : n ≠ 0) : n < (0 + 2 ^ (n.log2 / 2 + 1)) * (0 + 2 ^ (n.log2 / 2 + 1)) := by
  rw [Nat.zero_add, ← Nat.pow_add]
  exact Nat.lt_of_lt_of_le Nat.lt_log2_self (Nat.pow_le_pow_right (by omega) (by omega))
/-- To which rung a root is rounded. -/
theorem sqrt_nr {a s E : Nat} (hE : E = 1074) (a0 : 0 < mg a) (fa : mg a < 9218868437227405312) (na : ng a = false) (hm : double.sqrt a = some s) :
    ∃ R, mg s = min R 9218868437227405312 ∧ 4 * (uval (mg a) * 2 ^ E) ≤ (uval R + uval (R + 1)) * (uval R + uval (R + 1)) ∧ (∀ Q, R = Q + 1 → (uval Q + uval R) * (uval Q + uval R) ≤ 4 * (uval (mg a) * 2 ^ E)) ∧ ng s = false := by
  obtain ⟨M, P, e1, p1, v1⟩ := read_fin a fa
  have hM : M ≠ 0 := fun h => by have := uval_pos a0; rw [← v1, h] at this; simp at this
  unfold Format.sqrt at hm
  rw [e1, na] at hm
  simp only [Datum.root, if_neg hM, Bool.false_eq_true, if_false] at hm
  have hfb : 2 * (double.fractionBits + 2) = 108 := rfl
  rw [hfb] at hm
  obtain ⟨m1, hm1⟩ : ∃ m1, 108 - M.log2 = m1 := ⟨_, rfl⟩
  rw [hm1] at hm
  obtain ⟨more, hmore⟩ : ∃ more, m1 + ((P - ↑m1) % 2).toNat = more := ⟨_, rfl⟩
  rw [hmore, Nat.shiftLeft_eq] at hm
  have hev : (P - ↑more) % 2 = 0 := by omega
  have hmm : 108 ≤ M.log2 + more := by omega
  have hbig : 2 ^ 108 ≤ M * 2 ^ more := by
    have h1 := Nat.mul_le_mul_right (2 ^ more) (Nat.log2_self_le hM)
    rw [← Nat.pow_add] at h1
    exact Nat.le_trans (Nat.pow_le_pow_right (by omega) hmm) h1
  obtain ⟨n, hn⟩ : ∃ n, M * 2 ^ more = n := ⟨_, rfl⟩
  rw [hn] at hm hbig
  have hn0 : n ≠ 0 := fun h => by have := Nat.two_pow_pos 108; omega
  obtain ⟨w1, w2⟩ := rootFrom_spec n (n.log2 / 2 + 1) 0 (by omega) (root_start hn0)
  obtain ⟨q, hq⟩ : ∃ q, Datum.rootFrom n (n.log2 / 2 + 1) 0 = q := ⟨_, rfl⟩
  rw [hq] at hm w1 w2
  have hq1 : 9007199254740992 ≤ q := by
    have : 18014398509481984 * 18014398509481984 < (q + 1) * (q + 1) := by
      have e : (18014398509481984 : Nat) * 18014398509481984 = 2 ^ 108 := by decide
      omega
    have := sq_lt this
    omega
  obtain ⟨σ, hσ⟩ : ∃ σ, (q * q != n).toNat = σ := ⟨_, rfl⟩
  have hσ1 : σ ≤ 1 := by rw [← hσ]; exact Bool.toNat_le _
  have hup : n ≤ (q + σ) * (q + σ) := by
    by_cases g : q * q = n
    · have : σ = 0 := by rw [← hσ, g]; simp
      rw [this, Nat.add_zero]; omega
    · have : σ = 1 := by rw [← hσ, show (q * q != n) = true from bne_iff_ne.2 g]; rfl
      rw [this]; omega
  rw [hσ] at hm
  cases hm
  obtain ⟨R, e, hR⟩ := near_spec false (2 * q + σ) ((P - ↑more) / 2 - 1)
  have hzz : double.write (.number false (2 * q + σ) ((P - ↑more) / 2 - 1)) = double.word false (min R 9218868437227405312) := e
  have hw := word_mg false (min R 9218868437227405312) (by omega)
  obtain ⟨B, hB⟩ : ∃ B : Nat, B = more := ⟨_, rfl⟩
  obtain ⟨A, hA⟩ : ∃ A : Nat, (A : Int) = B + (P - more) / 2 + 1073 := ⟨(B + (P - more) / 2 + 1073).toNat, by omega⟩
  obtain ⟨⟨c, hc1, hc2⟩, hlow⟩ := sticky hR hq1 hσ1 (A := A) (B := B) (by omega)
  have hX := Nat.two_pow_pos (2 * B)
  have hl : 4 * (uval (mg a) * 2 ^ E) * 2 ^ (2 * B) = n * (16 * (2 ^ A * 2 ^ A)) := by
    have e2 : (P + 1074).toNat + E + 2 * B = more + A + A + 2 := by omega
    have e3 : 2 ^ ((P + 1074).toNat + E + 2 * B) = 2 ^ (more + A + A + 2) := by rw [e2]
    rw [Nat.pow_add, Nat.pow_add, Nat.pow_add, Nat.pow_add, Nat.pow_add] at e3
    rw [← v1, ← hn]
    generalize 2 ^ (P + 1074).toNat = x1 at *
    generalize 2 ^ E = x2 at *
    generalize 2 ^ (2 * B) = x3 at *
    generalize 2 ^ more = x4 at *
    generalize 2 ^ A = x5 at *
    have e4 : x1 * x2 * x3 = x4 * x5 * x5 * 4 := e3
    have : 4 * (M * x1 * x2) * x3 = 4 * M * (x1 * x2 * x3) := by grind
    rw [this, e4]
    grind
  have hsq : ∀ T : Nat, T * T * 2 ^ (2 * B) = (T * 2 ^ B) * (T * 2 ^ B) := fun T => by
    rw [Nat.two_mul, Nat.pow_add]
    generalize 2 ^ B = x
    grind
  have h16 : ∀ c X : Nat, c * (4 * X) * (c * (4 * X)) = c * c * (16 * (X * X)) := fun c X => by grind
  refine ⟨R, ?_, ?_, fun Q' hQ' => ?_, ?_⟩
  · show mg (double.write (.number false (2 * q + σ) ((P - ↑more) / 2 - 1))) = _
    rw [hzz]; exact hw.1
  · refine Nat.le_of_mul_le_mul_right ?_ hX
    rw [hl, hsq, hc1, h16]
    exact Nat.mul_le_mul_right _ (Nat.le_trans hup (sq_le hc2))
  · refine Nat.le_of_mul_le_mul_right ?_ hX
    rw [hl, hsq]
    refine Nat.le_trans (sq_le (hlow Q' hQ')) ?_
    rw [h16]
    exact Nat.mul_le_mul_right _ w1
  · show ng (double.write (.number false (2 * q + σ) ((P - ↑more) / 2 - 1))) = _
    rw [hzz]; exact hw.2
end Go.Proofs.Ytghcoijinihlnaa.Fl
