/-
  What round.Quo answers of finite floats: the greatest float not above the exact quotient, and the least one not below it. Condition: floats of 64 bits; the divisor is no nought.
-/
import Derived.Test.YtghcoijinihlnaaExq
namespace Go.Proofs.Ytghcoijinihlnaa.Fl
open Ieee
theorem quot_big {M N more : Nat} (hM : M ≠ 0) (hN : N ≠ 0) (h : 54 + N.log2 - M.log2 = more) : 9007199254740992 ≤ M * 2 ^ more / N := by
  rw [Nat.le_div_iff_mul_le (by omega)]
  have h1 := Nat.log2_self_le hM
  have h2 := @Nat.lt_log2_self N
  have h3 : 2 ^ (54 + N.log2) ≤ 2 ^ (M.log2 + more) := Nat.pow_le_pow_right (by omega) (by omega)
  have h4 : 2 ^ (M.log2 + more) ≤ M * 2 ^ more := by rw [Nat.pow_add]; exact Nat.mul_le_mul_right _ h1
  have h5 : 9007199254740992 * N ≤ 9007199254740992 * 2 ^ (N.log2 + 1) := Nat.mul_le_mul_left _ (Nat.le_of_lt h2)
  have h6 : 9007199254740992 * 2 ^ (N.log2 + 1) = 2 ^ (54 + N.log2) := by
    rw [show (9007199254740992 : Nat) = 2 ^ 53 by decide, ← Nat.pow_add]; congr 1; omega
  omega
/-- To which rung a quotient is rounded. -/
theorem div_nr {a b s E : Nat} (hE : E = 1074) (fa : mg a < 9218868437227405312) (fb : mg b < 9218868437227405312) (a0 : 0 < mg a) (b0 : 0 < mg b) (hm : double.div a b = some s) :
    ∃ R, mg s = min R 9218868437227405312 ∧ 2 * (uval (mg a) * 2 ^ E) ≤ (uval R + uval (R + 1)) * uval (mg b) ∧ (∀ Q, R = Q + 1 → (uval Q + uval R) * uval (mg b) ≤ 2 * (uval (mg a) * 2 ^ E)) ∧ ng s = (ng a ^^ ng b) := by
  obtain ⟨M, P, e1, p1, v1⟩ := read_fin a fa
  obtain ⟨N, Q, e2, p2, v2⟩ := read_fin b fb
  have hM : M ≠ 0 := fun h => by have := uval_pos a0; rw [← v1, h] at this; simp at this
  have hN : N ≠ 0 := fun h => by have := uval_pos b0; rw [← v2, h] at this; simp at this
  unfold Format.div at hm
  rw [e1, e2] at hm
  simp only [Datum.quotient, if_neg hN] at hm
  have hfb : double.fractionBits + 2 = 54 := rfl
  rw [hfb] at hm
  obtain ⟨more, hmore⟩ : ∃ more, 54 + N.log2 - M.log2 = more := ⟨_, rfl⟩
  rw [hmore, Nat.shiftLeft_eq] at hm
  have hq := quot_big hM hN hmore
  have hdm := Nat.div_add_mod (M * 2 ^ more) N
  have hrl := Nat.mod_lt (M * 2 ^ more) (show N > 0 by omega)
  obtain ⟨dd, hdd⟩ : ∃ dd, M * 2 ^ more = dd := ⟨_, rfl⟩
  rw [hdd] at hm hq hdm hrl
  obtain ⟨q, hqq⟩ : ∃ q, dd / N = q := ⟨_, rfl⟩
  obtain ⟨rest, hrr⟩ : ∃ rest, dd % N = rest := ⟨_, rfl⟩
  rw [hqq] at hm hq hdm
  rw [hrr] at hm hdm hrl
  obtain ⟨σ, hσ⟩ : ∃ σ, (rest != 0).toNat = σ := ⟨_, rfl⟩
  have hσ1 : σ ≤ 1 := by rw [← hσ]; exact Bool.toNat_le _
  have hσr : rest ≤ σ * N := by
    rcases Nat.eq_zero_or_pos rest with g | g
    · omega
    · have : σ = 1 := by rw [← hσ, show (rest != 0) = true from bne_iff_ne.2 (by omega)]; rfl
      rw [this]; omega
  rw [hσ] at hm
  cases hm
  obtain ⟨R, e, hR⟩ := near_spec (ng a ^^ ng b) (2 * q + σ) (P - Q - ↑more - 1)
  have hzz : double.write (.number (ng a ^^ ng b) (2 * q + σ) (P - Q - ↑more - 1)) = double.word (ng a ^^ ng b) (min R 9218868437227405312) := e
  have hw := word_mg (ng a ^^ ng b) (min R 9218868437227405312) (by omega)
  obtain ⟨F, hF⟩ : ∃ F, E = F + 1 := ⟨1073, hE⟩
  obtain ⟨A, hA⟩ : ∃ A, A = (P + 1074).toNat + F := ⟨_, rfl⟩
  obtain ⟨B, hB⟩ : ∃ B, B = (Q + 1074).toNat + more := ⟨_, rfl⟩
  obtain ⟨⟨c, hc1, hc2⟩, hlow⟩ := sticky hR hq hσ1 (A := A) (B := B) (by omega)
  have hX := Nat.two_pow_pos more
  -- both sides times two to the power more
  have hl : 2 * (uval (mg a) * 2 ^ E) * 2 ^ more = dd * (4 * 2 ^ A) := by
    rw [← v1, ← hdd, hA, hF, Nat.pow_succ, Nat.pow_add]
    generalize 2 ^ (P + 1074).toNat = x
    generalize 2 ^ F = y
    generalize 2 ^ more = z
    grind
  have hr : ∀ T, T * uval (mg b) * 2 ^ more = T * 2 ^ B * N := fun T => by
    rw [← v2, hB, Nat.pow_add]
    generalize 2 ^ (Q + 1074).toNat = x
    generalize 2 ^ more = z
    grind
  refine ⟨R, ?_, ?_, fun Q' hQ' => ?_, ?_⟩
  · show mg (double.write (.number (ng a ^^ ng b) (2 * q + σ) (P - Q - ↑more - 1))) = _
    rw [hzz]; exact hw.1
  · refine Nat.le_of_mul_le_mul_right ?_ hX
    rw [hl, hr, hc1, Nat.mul_right_comm]
    refine Nat.mul_le_mul_right _ ?_
    have a1 := Nat.mul_le_mul_right N hc2
    rw [Nat.add_mul] at a1
    rw [Nat.mul_comm] at hdm
    omega
  · refine Nat.le_of_mul_le_mul_right ?_ hX
    rw [hl, hr]
    refine Nat.le_trans (Nat.mul_le_mul_right N (hlow Q' hQ')) ?_
    rw [Nat.mul_right_comm]
    refine Nat.mul_le_mul_right _ ?_
    rw [Nat.mul_comm] at hdm
    omega
  · show ng (double.write (.number (ng a ^^ ng b) (2 * q + σ) (P - Q - ↑more - 1))) = _
    rw [hzz]; exact hw.2
/-- A quotient as a ratio of whole numbers, the lower one above nought. -/
def qnum (a b E : Nat) : Int := if ng b then -(sval a * (2 ^ E : Nat)) else sval a * (2 ^ E : Nat)
theorem qnum_abs (a b E : Nat) : (qnum a b E).natAbs = uval (mg a) * 2 ^ E := by
  unfold qnum; cases ng b <;> simp only [Bool.false_eq_true, if_false, if_true, Int.natAbs_neg] <;> rw [Int.natAbs_mul, sval_abs, Int.natAbs_natCast]
end Go.Proofs.Ytghcoijinihlnaa.Fl
