/-
  What the document's own Under returns where the divisor is 1. Condition: that the number is one and not beyond some thousand bits.
-/
import Derived.Test.YtffjkfjokikhnaaRw6
namespace Go.Proofs.Ytffjkfjokikhnaa.Rb
open Go.RowKit Nb Fl
/-- The greatest float not above so many of the least one, and whether it is that. -/
def undr (U : Nat) : Nat × Bool :=
  if U < 9007199254740992 then (U, true)
  else if 2045 < bitLen U - 53 then (9218868437227405311, false)
  else ((bitLen U - 53) * 4503599627370496 + U / 2 ^ (bitLen U - 53), decide (U % 2 ^ (bitLen U - 53) = 0))
def UnderIs (U : Nat) (w : World) (e : Ending) (w' : World) : Prop := e = .returned (.tuple #[.float .f64 (undr U).1, .bool (undr U).2]) ∧ Below w.heap.size w w'
theorem bitLen_shift {P : Nat} (h : 0 < P) (E : Nat) : bitLen (P * 2 ^ E) = bitLen P + E := by
  have h1 : P < 2 ^ bitLen P := bitLen_le_iff.1 (Nat.le_refl _)
  have h2 : ¬ P < 2 ^ (bitLen P - 1) := fun g => by
    have := bitLen_le_iff.2 g
    have : bitLen P ≠ 0 := fun e => by rw [e] at h1; simp at h1; omega
    omega
  have h0 : bitLen P ≠ 0 := fun e => by rw [e] at h1; simp at h1; omega
  have a : bitLen (P * 2 ^ E) ≤ bitLen P + E := bitLen_le_iff.2 (by rw [Nat.pow_add]; exact Nat.mul_lt_mul_of_pos_right h1 (Nat.two_pow_pos _))
  have b : ¬ bitLen (P * 2 ^ E) ≤ bitLen P - 1 + E := fun g => by
    have := bitLen_le_iff.1 g
    rw [Nat.pow_add] at this
    exact h2 (Nat.lt_of_mul_lt_mul_right this)
  omega
/-- What the quotient is, and what is lost by it. -/
theorem under_up {P E s : Nat} (hE : s ≤ E) : P * 2 ^ s / 2 = P * 2 ^ E / 2 ^ (E - s + 1) ∧ (true && decide (P * 2 ^ s % 2 = 0)) = decide (P * 2 ^ E % 2 ^ (E - s + 1) = 0) := by
  have e : P * 2 ^ E = P * 2 ^ s * 2 ^ (E - s) := by rw [Nat.mul_assoc, ← Nat.pow_add]; congr 2; omega
  rw [e, Nat.pow_succ, Nat.mul_comm _ 2]
  generalize P * 2 ^ s = N
  refine ⟨(Nat.mul_div_mul_right N 2 (Nat.two_pow_pos _)).symm, ?_⟩
  rw [Nat.mul_mod_mul_right, Bool.true_and]
  have := Nat.two_pow_pos (E - s)
  refine decide_eq_decide.2 ⟨fun h => by rw [h, Nat.zero_mul], fun h => ?_⟩
  rcases Nat.mul_eq_zero.1 h with h | h <;> omega
theorem under_down {P E t : Nat} : P / 2 ^ t / 2 = P * 2 ^ E / 2 ^ (E + t + 1) ∧ (decide (P % 2 ^ t = 0) && decide (P / 2 ^ t % 2 = 0)) = decide (P * 2 ^ E % 2 ^ (E + t + 1) = 0) := by
  have e : 2 ^ (E + t + 1) = 2 ^ t * 2 * 2 ^ E := by rw [show E + t + 1 = t + 1 + E by omega, Nat.pow_add, Nat.pow_succ]
  rw [e, Nat.mul_div_mul_right _ _ (Nat.two_pow_pos _), Nat.mul_mod_mul_right, Nat.div_div_eq_div_mul]
  refine ⟨rfl, ?_⟩
  rw [Nat.mod_mul, ← Bool.decide_and]
  have h1 := Nat.two_pow_pos E
  have h2 := Nat.two_pow_pos t
  refine decide_eq_decide.2 ⟨fun ⟨a, b⟩ => by rw [a, b]; simp, fun h => ?_⟩
  rcases Nat.mul_eq_zero.1 h with h | h
  · rcases Nat.add_eq_zero_iff.1 h with ⟨a, b⟩
    rcases Nat.mul_eq_zero.1 b with b | b
    · omega
    · exact ⟨a, b⟩
  · omega
theorem undr_low {U : Nat} (h : U < 9007199254740992) : undr U = (U, true) := if_pos h
theorem undr_bits {U : Nat} : bitLen U ≤ 53 ↔ U < 9007199254740992 := by
  have := bitLen_le_iff (x := U) (k := 53)
  rwa [show (2 : Nat) ^ 53 = 9007199254740992 by decide] at this
theorem undr_out {U : Nat} (h : 2099 ≤ bitLen U) : undr U = (9218868437227405311, false) := by
  unfold undr
  have := undr_bits (U := U)
  rw [if_neg (by omega), if_pos (by omega)]
theorem undr_in {U h N : Nat} {ex : Bool} (hh : bitLen U = h + 53) (h0 : 0 < h) (h1 : h ≤ 2045) (hN : N / 2 = U / 2 ^ h) (hex : (ex && decide (N % 2 = 0)) = decide (U % 2 ^ h = 0)) : undr U = (h * 4503599627370496 + N / 2, ex && decide (N % 2 = 0)) := by
  unfold undr
  have := undr_bits (U := U)
  rw [if_neg (by omega), if_neg (by omega), hh, Nat.add_sub_cancel, hN, hex]
theorem undr_range {U h N : Nat} (hh : bitLen U = h + 53) (hN : N / 2 = U / 2 ^ h) : 9007199254740992 ≤ N ∧ N < 18014398509481984 := by
  have a : U < 2 ^ (h + 53) := by rw [← hh]; exact bitLen_le_iff.1 (Nat.le_refl _)
  have b : ¬ U < 2 ^ (h + 52) := fun g => by have := bitLen_le_iff.2 g; omega
  have hp := Nat.two_pow_pos h
  have c : U / 2 ^ h < 2 ^ 53 := by rw [Nat.div_lt_iff_lt_mul hp, ← Nat.pow_add, Nat.add_comm]; exact a
  have d : 2 ^ 52 ≤ U / 2 ^ h := by rw [Nat.le_div_iff_mul_le hp, ← Nat.pow_add, Nat.add_comm]; omega
  rw [← hN] at c d
  have e1 : (2 : Nat) ^ 53 = 9007199254740992 := by decide
  have e2 : (2 : Nat) ^ 52 = 4503599627370496 := by decide
  omega
end Go.Proofs.Ytffjkfjokikhnaa.Rb
