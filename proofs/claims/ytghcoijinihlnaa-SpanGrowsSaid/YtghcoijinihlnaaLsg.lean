/-
  What left reckons has the sign of what is left, and is nought just if nothing is. Condition: what is taken is about as great as what it is taken from.
-/
import Derived.Test.YtghcoijinihlnaaExb
namespace Go.Proofs.Ytghcoijinihlnaa.Fl
open Ieee
theorem nr_zero {n : Nat} (h : Nr n 0) : n = 0 := by
  have h1 := h.1
  rw [uval_zero, show uval (0 + 1) = 1 from uval_small (by omega)] at h1
  omega
/-- The nearest float of a number that is a whole number of units: its sign, and when it is nought. -/
theorem fma_sign {x y z r : Nat} (hx : x < 18446744073709551616) (fx : mg x < 9218868437227405312) (fy : mg y < 9218868437227405312) (fz : mg z < 9218868437227405312) (h : double.fma (ngf x) y z = some r) {E : Nat} (hE : E = 1074) {t : Int}
    (ht : sval z * (2 ^ E : Nat) - sval x * sval y = t * (2 ^ E : Nat)) : (mg r = 0 ↔ t = 0) ∧ (t ≠ 0 → ng r = decide (t < 0)) ∧ ∃ R, mg r = min R 9218868437227405312 ∧ Nr t.natAbs R := by
  obtain ⟨M, P, e1, p1, v1⟩ := read_fin (ngf x) (by rw [(ngf_is hx).1]; exact fx)
  obtain ⟨N, Q, e2, p2, v2⟩ := read_fin y fy
  obtain ⟨K, W, e3, p3, v3⟩ := read_fin z fz
  unfold Format.fma at h
  rw [e1, e2, e3] at h
  simp only [Datum.product, Option.bind_some] at h
  cases h
  obtain ⟨b, hb⟩ : ∃ b, min (P + Q) W = b := ⟨_, rfl⟩
  obtain ⟨T, hT⟩ : ∃ T, signed (ng (ngf x) ^^ ng y) (M * N) (P + Q - min (P + Q) W).toNat + signed (ng z) K (W - min (P + Q) W).toNat = T := ⟨_, rfl⟩
  obtain ⟨sg, hsg⟩ : ∃ sg, (if T = 0 then (ng (ngf x) ^^ ng y) && ng z else decide (T < 0)) = sg := ⟨_, rfl⟩
  obtain ⟨R, e, hR⟩ := near_spec sg T.natAbs (min (P + Q) W)
  have hw : double.write (.number (if signed (ng (ngf x) ^^ ng y) (M * N) (P + Q - min (P + Q) W).toNat + signed (ng z) K (W - min (P + Q) W).toNat = 0 then (ng (ngf x) ^^ ng y) && ng z else decide (signed (ng (ngf x) ^^ ng y) (M * N) (P + Q - min (P + Q) W).toNat + signed (ng z) K (W - min (P + Q) W).toNat < 0))
      (signed (ng (ngf x) ^^ ng y) (M * N) (P + Q - min (P + Q) W).toNat + signed (ng z) K (W - min (P + Q) W).toNat).natAbs (min (P + Q) W)) = double.word sg (min R 9218868437227405312) := by
    rw [hT, hsg]; exact e
  have hmw := word_mg sg (min R 9218868437227405312) (by omega)
  -- the total, in units of the square of the least float
  have hS : T * (2 ^ (min (P + Q) W + 2 * E).toNat : Nat) = t * (2 ^ E : Nat) := by
    rw [← ht, ← hT, Int.add_mul, ← signed_scale, ← signed_scale]
    have a1 : (P + Q - min (P + Q) W).toNat + (min (P + Q) W + 2 * E).toNat = (P + 1074).toNat + (Q + 1074).toNat := by omega
    have a2 : (W - min (P + Q) W).toNat + (min (P + Q) W + 2 * E).toNat = (W + 1074).toNat + E := by omega
    rw [a1, a2]
    have b1 : signed (ng (ngf x) ^^ ng y) (M * N) ((P + 1074).toNat + (Q + 1074).toNat) = -(sval x * sval y) := by
      have c1 : M * N * 2 ^ ((P + 1074).toNat + (Q + 1074).toNat) = uval (mg x) * uval (mg y) := by
        rw [(ngf_is hx).1] at v1
        rw [← v1, ← v2, Nat.pow_add]; simp only [Nat.mul_assoc, Nat.mul_left_comm]
      unfold signed sval
      rw [Nat.shiftLeft_eq, c1, (ngf_is hx).2]
      cases ng x <;> cases ng y <;> simp [Int.neg_mul, Int.mul_neg]
    have b2 : signed (ng z) K ((W + 1074).toNat + E) = sval z * (2 ^ E : Nat) := by
      rw [signed_scale]
      congr 1
      unfold signed sval
      rw [Nat.shiftLeft_eq, v3]
    rw [b1, b2]; omega
  have hp : (0 : Int) < (2 ^ (min (P + Q) W + 2 * E).toNat : Nat) := Int.natCast_pos.2 (Nat.two_pow_pos _)
  have hq : (0 : Int) < (2 ^ E : Nat) := Int.natCast_pos.2 (Nat.two_pow_pos _)
  have hT0 : T = 0 ↔ t = 0 := by
    constructor
    · intro g
      rw [g, Int.zero_mul] at hS
      rcases Int.mul_eq_zero.1 hS.symm with k | k
      · exact k
      · omega
    · intro g
      rw [g, Int.zero_mul] at hS
      rcases Int.mul_eq_zero.1 hS with k | k
      · exact k
      · omega
  have hTn : T < 0 ↔ t < 0 := by
    constructor
    · intro g
      have := Int.mul_neg_of_neg_of_pos g hp
      rw [hS] at this
      rcases Int.lt_or_le t 0 with k | k
      · exact k
      · have := Int.mul_nonneg k (Int.le_of_lt hq); omega
    · intro g
      have := Int.mul_neg_of_neg_of_pos g hq
      rw [← hS] at this
      rcases Int.lt_or_le T 0 with k | k
      · exact k
      · have := Int.mul_nonneg k (Int.le_of_lt hp); omega
  have hNr : Nr t.natAbs R := by
    have k := hR (min (P + Q) W + 2 * E).toNat E (by omega)
    have hab : T.natAbs * 2 ^ (min (P + Q) W + 2 * E).toNat = t.natAbs * 2 ^ E := by
      have := congrArg Int.natAbs hS
      rw [Int.natAbs_mul, Int.natAbs_mul, Int.natAbs_natCast, Int.natAbs_natCast] at this
      exact this
    rw [hab] at k
    have hEp := Nat.two_pow_pos E
    have e9 : 2 * (t.natAbs * 2 ^ E) = 2 * t.natAbs * 2 ^ E := by rw [Nat.mul_assoc]
    rw [e9] at k
    refine ⟨Nat.le_of_mul_le_mul_right k.1 hEp, fun g => k.2.1 (by rw [g]), fun Q hQ => ?_⟩
    have k2 := k.2.2 Q hQ
    exact ⟨Nat.le_of_mul_le_mul_right k2.1 hEp, fun g => k2.2 (by rw [g])⟩
  have hmg : mg (double.write (.number (if signed (ng (ngf x) ^^ ng y) (M * N) (P + Q - min (P + Q) W).toNat + signed (ng z) K (W - min (P + Q) W).toNat = 0 then (ng (ngf x) ^^ ng y) && ng z else decide (signed (ng (ngf x) ^^ ng y) (M * N) (P + Q - min (P + Q) W).toNat + signed (ng z) K (W - min (P + Q) W).toNat < 0))
      (signed (ng (ngf x) ^^ ng y) (M * N) (P + Q - min (P + Q) W).toNat + signed (ng z) K (W - min (P + Q) W).toNat).natAbs (min (P + Q) W))) = min R 9218868437227405312 := (congrArg mg hw).trans hmw.1
  refine ⟨?_, ?_, R, hmg, hNr⟩
  · have : mg (double.write (.number (if signed (ng (ngf x) ^^ ng y) (M * N) (P + Q - min (P + Q) W).toNat + signed (ng z) K (W - min (P + Q) W).toNat = 0 then (ng (ngf x) ^^ ng y) && ng z else decide (signed (ng (ngf x) ^^ ng y) (M * N) (P + Q - min (P + Q) W).toNat + signed (ng z) K (W - min (P + Q) W).toNat < 0))
      (signed (ng (ngf x) ^^ ng y) (M * N) (P + Q - min (P + Q) W).toNat + signed (ng z) K (W - min (P + Q) W).toNat).natAbs (min (P + Q) W))) = 0 ↔ t = 0 := by
      rw [hmg]
      constructor
      · intro g
        have hR0 : R = 0 := by omega
        rw [hR0] at hNr
        have := nr_zero hNr
        omega
      · intro g
        rw [g] at hNr
        have : R = 0 := by
          have h2 := nr_unique hNr (by have := nr_exact 0; rw [uval_zero] at this; exact this)
          exact h2
        omega
    exact this
  · intro hne
    refine (congrArg ng hw).trans (hmw.2.trans ?_)
    rw [← hsg, if_neg (fun g => hne (hT0.1 g))]
    exact decide_eq_decide.2 hTn
end Go.Proofs.Ytghcoijinihlnaa.Fl
