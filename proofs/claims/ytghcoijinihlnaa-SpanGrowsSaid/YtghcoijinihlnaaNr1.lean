/-
  The nearest float is one alone, grows with the number, and is the number where that is a float; its size does not hang on the sign. No conditions.
-/
import Derived.Test.YtghcoijinihlnaaNr0
namespace Go.Proofs.Ytghcoijinihlnaa.Fl
open Ieee
theorem nearR_unique {m : Nat} {p : Int} {R S : Nat} (h : NearR m p R) (k : NearR m p S) : R = S := by
  have main : ∀ {R S : Nat}, NearR m p R → NearR m p S → ¬ R < S := fun {R S} h k hlt => by
    obtain ⟨A, B, hab⟩ : ∃ A B : Nat, (A : Int) - B = p + 1074 := ⟨(p + 1074).toNat, (-(p + 1074)).toNat, by omega⟩
    have h1 := h A B hab
    obtain ⟨Q, rfl⟩ : ∃ Q, S = Q + 1 := ⟨S - 1, by omega⟩
    have k1 := (k A B hab).2.2 Q rfl
    have hB := Nat.two_pow_pos B
    rcases Nat.lt_or_eq_of_le (show R ≤ Q by omega) with g | g
    · have a := Nat.mul_lt_mul_of_pos_right (show uval R + uval (R + 1) < uval Q + uval (Q + 1) by
        have := uval_lt g; have := uval_lt (show R + 1 < Q + 1 by omega); omega) hB
      omega
    · subst g
      have e : 2 * (m * 2 ^ A) = (uval R + uval (R + 1)) * 2 ^ B := by omega
      have := h1.2.1 e
      have := k1.2 e.symm
      omega
  have a := main h k
  have b := main k h
  omega
/-- A greater number is not rounded to a lesser rung. -/
theorem nearR_mono {m n : Nat} {p q : Int} {R S : Nat} (h : NearR m p R) (k : NearR n q S) (A B C D : Nat) (h1 : (A : Int) - B = p + 1074) (h2 : (C : Int) - D = q + 1074) (hle : m * 2 ^ A * 2 ^ D ≤ n * 2 ^ C * 2 ^ B) : R ≤ S := by
  rcases Nat.lt_or_ge S R with g | g
  · exfalso
    obtain ⟨Q, rfl⟩ : ∃ Q, R = Q + 1 := ⟨R - 1, by omega⟩
    have a := (h A B h1).2.2 Q rfl
    have b := k C D h2
    have hBD : 0 < 2 ^ B * 2 ^ D := Nat.mul_pos (Nat.two_pow_pos B) (Nat.two_pow_pos D)
    have x1 := Nat.mul_le_mul_right (2 ^ D) a.1
    have x2 := Nat.mul_le_mul_right (2 ^ B) b.1
    have e1 : 2 * (m * 2 ^ A) * 2 ^ D = 2 * (m * 2 ^ A * 2 ^ D) := by rw [Nat.mul_assoc]
    have e2 : 2 * (n * 2 ^ C) * 2 ^ B = 2 * (n * 2 ^ C * 2 ^ B) := by rw [Nat.mul_assoc]
    have e3 : (uval S + uval (S + 1)) * 2 ^ D * 2 ^ B = (uval S + uval (S + 1)) * (2 ^ B * 2 ^ D) := by rw [Nat.mul_assoc, Nat.mul_comm (2 ^ D)]
    have e4 : (uval Q + uval (Q + 1)) * 2 ^ B * 2 ^ D = (uval Q + uval (Q + 1)) * (2 ^ B * 2 ^ D) := by rw [Nat.mul_assoc]
    rw [e1, e4] at x1
    rw [e2, e3] at x2
    rcases Nat.lt_or_eq_of_le (show S ≤ Q by omega) with g | g
    · have c := Nat.mul_lt_mul_of_pos_right (show uval S + uval (S + 1) < uval Q + uval (Q + 1) by
        have := uval_lt g; have := uval_lt (show S + 1 < Q + 1 by omega); omega) hBD
      omega
    · subst g
      have eq1 : (uval S + uval (S + 1)) * (2 ^ B * 2 ^ D) = 2 * (m * 2 ^ A * 2 ^ D) := by omega
      have eq2 : 2 * (n * 2 ^ C * 2 ^ B) = (uval S + uval (S + 1)) * (2 ^ B * 2 ^ D) := by omega
      have f1 : (uval S + uval (S + 1)) * 2 ^ B = 2 * (m * 2 ^ A) := by
        refine Nat.eq_of_mul_eq_mul_right (Nat.two_pow_pos D) ?_
        rw [e4, e1]; exact eq1
      have f2 : 2 * (n * 2 ^ C) = (uval S + uval (S + 1)) * 2 ^ D := by
        refine Nat.eq_of_mul_eq_mul_right (Nat.two_pow_pos B) ?_
        rw [e2, e3]; exact eq2
      have := a.2 f1
      have := b.2.1 f2
      omega
  · exact g
/-- What a float is worth is rounded to that float. -/
theorem nearR_exact {m : Nat} {p : Int} {R : Nat} (A B : Nat) (h1 : (A : Int) - B = p + 1074) (h : m * 2 ^ A = uval R * 2 ^ B) : NearR m p R := by
  intro C D hcd
  have hv : m * 2 ^ C = uval R * 2 ^ D := by
    refine Nat.eq_of_mul_eq_mul_right (Nat.two_pow_pos B) ?_
    have e : C + B = A + D := by omega
    rw [Nat.mul_assoc, ← Nat.pow_add, e, Nat.pow_add, ← Nat.mul_assoc, h]
    simp only [Nat.mul_assoc]; rw [Nat.mul_comm (2 ^ B)]
  have hD := Nat.two_pow_pos D
  have s1 := Nat.mul_lt_mul_of_pos_right (uval_step R) hD
  rw [hv]
  refine ⟨by rw [Nat.add_mul]; omega, fun h => by rw [Nat.add_mul] at h; omega, fun Q hQ => ?_⟩
  subst hQ
  have s2 := Nat.mul_lt_mul_of_pos_right (uval_step Q) hD
  exact ⟨by rw [Nat.add_mul]; omega, fun h => by rw [Nat.add_mul] at h; omega⟩
theorem nearest_exact (s : Bool) {m : Nat} {p : Int} {R : Nat} (A B : Nat) (h1 : (A : Int) - B = p + 1074) (h : m * 2 ^ A = uval R * 2 ^ B) (hR : R ≤ 9218868437227405312) : double.nearest s m p = double.word s R := by
  obtain ⟨S, e, hS⟩ := near_spec s m p
  rw [e, nearR_unique hS (nearR_exact A B h1 h), Nat.min_eq_left hR]
/-- A sign is of no matter to how far it is rounded. -/
theorem nearest_sign (s : Bool) (m : Nat) (p : Int) : ∃ R, R ≤ 9218868437227405312 ∧ ∀ s, double.nearest s m p = double.word s R := by
  obtain ⟨S, _, hS⟩ := near_spec s m p
  refine ⟨min S 9218868437227405312, Nat.min_le_right _ _, fun t => ?_⟩
  obtain ⟨S', e', hS'⟩ := near_spec t m p
  rw [e', nearR_unique hS' hS]
end Go.Proofs.Ytghcoijinihlnaa.Fl
