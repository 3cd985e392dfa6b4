/-
  What round.Mul answers of finite floats: the greatest float not above the exact product, and the least one not below it. Condition: floats of 64 bits.
-/
import Derived.Test.YtghcoijinihlnaaExp
namespace Go.Proofs.Ytghcoijinihlnaa.Fl
open Ieee
/-- To which rung a product is rounded. -/
theorem mul_nr {a b s E : Nat} (hE : E = 1074) (fa : mg a < 9218868437227405312) (fb : mg b < 9218868437227405312) (hm : double.mul a b = some s) :
    ∃ R, mg s = min R 9218868437227405312 ∧ 2 * (uval (mg a) * uval (mg b)) ≤ (uval R + uval (R + 1)) * 2 ^ E ∧ (∀ Q, R = Q + 1 → (uval Q + uval R) * 2 ^ E ≤ 2 * (uval (mg a) * uval (mg b))) ∧ ng s = (ng a ^^ ng b) := by
  obtain ⟨M, P, e1, p1, v1⟩ := read_fin a fa
  obtain ⟨N, Q, e2, p2, v2⟩ := read_fin b fb
  unfold Format.mul at hm
  rw [e1, e2] at hm
  cases hm
  obtain ⟨R, e, hR⟩ := near_spec (ng a ^^ ng b) (M * N) (P + Q)
  have hzz : double.write (.number (ng a ^^ ng b) (M * N) (P + Q)) = double.word (ng a ^^ ng b) (min R 9218868437227405312) := e
  have hw := word_mg (ng a ^^ ng b) (min R 9218868437227405312) (by omega)
  have k := hR ((P + 1074).toNat + (Q + 1074).toNat) E (by omega)
  have e3 : M * N * 2 ^ ((P + 1074).toNat + (Q + 1074).toNat) = uval (mg a) * uval (mg b) := by
    rw [← v1, ← v2, Nat.pow_add]
    simp only [Nat.mul_assoc, Nat.mul_left_comm]
  rw [e3] at k
  refine ⟨R, ?_, k.1, fun Q hQ => (k.2.2 Q hQ).1, ?_⟩
  · show mg (double.write (.number (ng a ^^ ng b) (M * N) (P + Q))) = _
    rw [hzz]; exact hw.1
  · show ng (double.write (.number (ng a ^^ ng b) (M * N) (P + Q))) = _
    rw [hzz]; exact hw.2
theorem sval_mul (a b : Nat) : (sval a * sval b).natAbs = uval (mg a) * uval (mg b) := by rw [Int.natAbs_mul, sval_abs, sval_abs]
theorem sval_sign {a : Nat} (h : 0 < mg a) : ng a = decide (sval a < 0) := by
  have := uval_pos h
  unfold sval; cases ng a <;> simp <;> omega
theorem mul_sign {a b : Nat} (ha : 0 < mg a) (hb : 0 < mg b) : (ng a ^^ ng b) = decide (sval a * sval b < 0) := by
  have h1 := uval_pos ha
  have h2 := uval_pos hb
  have hp : (0 : Int) < (uval (mg a) : Int) * uval (mg b) := Int.mul_pos (by omega) (by omega)
  unfold sval
  cases ng a <;> cases ng b <;> simp [Int.neg_mul, Int.mul_neg] <;> omega
/-- The conditions on the size of a product that 'left' asks for, from the rung. -/
theorem left_conds {s R V E : Nat} (hE : E = 1074) (h0 : 0 < mg s) (hf : mg s < 9218868437227405312) (hm : mg s = min R 9218868437227405312) (h1 : 2 * V ≤ (uval R + uval (R + 1)) * 2 ^ E) (h2 : ∀ Q, R = Q + 1 → (uval Q + uval R) * 2 ^ E ≤ 2 * V) :
    2 ^ (E - 2) ≤ V ∧ (lsmall s = false → 2 ^ (E + 172) ≤ V) ∧ (lsmall s = true → V ≤ 2 ^ (E + 176)) := by
  have hR : R = mg s := by omega
  obtain ⟨Q, hQ⟩ : ∃ Q, R = Q + 1 := ⟨R - 1, by omega⟩
  have k2 := h2 Q hQ
  have hls := lsmall_is (z := s) (Nat.le_of_lt hf)
  have hu := uval_small900
  have e1 : 2 ^ E = 4 * 2 ^ (E - 2) := by
    obtain ⟨F, hF⟩ : ∃ F, E = F + 2 := ⟨E - 2, by omega⟩
    rw [hF, Nat.add_sub_cancel, Nat.pow_add]; omega
  have e2 : 2 ^ (E + 172) = 2 ^ 172 * 2 ^ E := by rw [Nat.pow_add, Nat.mul_comm]
  have e3 : 2 ^ (E + 176) = 16 * (2 ^ 172 * 2 ^ E) := by rw [Nat.pow_add, show (2 : Nat) ^ 176 = 16 * 2 ^ 172 by decide, Nat.mul_comm, Nat.mul_assoc]
  have e4 : (2 : Nat) ^ 174 = 4 * 2 ^ 172 := by decide
  rw [e4] at hu
  rw [e2, e3]
  generalize (2 : Nat) ^ 172 = T at *
  have hX := Nat.two_pow_pos E
  refine ⟨?_, fun k => ?_, fun k => ?_⟩
  · have : 1 ≤ uval R := uval_pos (by omega)
    have a := Nat.mul_le_mul_right (2 ^ E) (show 1 ≤ uval Q + uval R by omega)
    omega
  · have hge : ¬ mg s < 553942754166571008 := fun g => by rw [hls.2 g] at k; cases k
    have : 4 * T ≤ uval R := by rw [← hu]; exact uval_le (by omega)
    have a := Nat.mul_le_mul_right (2 ^ E) (show 4 * T ≤ uval Q + uval R by omega)
    rw [Nat.mul_assoc] at a
    omega
  · have hlt := hls.1 k
    have b1 : uval R ≤ 4 * T := by rw [← hu]; exact uval_le (by omega)
    have b2 : uval (R + 1) ≤ 4 * T := by rw [← hu]; exact uval_le (by omega)
    have a := Nat.mul_le_mul_right (2 ^ E) (show uval R + uval (R + 1) ≤ 8 * T by omega)
    rw [Nat.mul_assoc] at a
    omega
theorem mul_dn {a b s d u E : Nat} (hE : E = 1074) (ha : a < 18446744073709551616) (fa : mg a < 9218868437227405312) (fb : mg b < 9218868437227405312) (hm : double.mul a b = some s) (h : OpIs a b s (MulLost a b s) d u) :
    Dn (sval a * sval b) (2 ^ E) d ∧ Up (sval a * sval b) (2 ^ E) u := by
  obtain ⟨R, e1, e2, e3, e4⟩ := mul_nr hE fa fb hm
  have hsl := (mul_told hm).2
  have hX := Nat.two_pow_pos E
  rcases h with ⟨hz, hd, hu⟩ | ⟨pa, pb, l, ⟨k, rfl, hk⟩, rfl, rfl⟩
  · rw [hd, hu]
    have hn : mg a = 0 ∨ mg b = 0 := by unfold Pl at hz; omega
    have hN : sval a * sval b = 0 := by
      rcases hn with g | g
      · rw [sval_zero.2 g, Int.zero_mul]
      · rw [sval_zero.2 g, Int.mul_zero]
    have hU : uval (mg a) * uval (mg b) = 0 := by rw [← sval_mul, hN]; rfl
    rw [hU] at e3
    have hs0 : mg s = 0 := by
      rcases Nat.eq_zero_or_pos R with g | g
      · omega
      · exfalso
        obtain ⟨Q, hQ⟩ : ∃ Q, R = Q + 1 := ⟨R - 1, by omega⟩
        have a := e3 Q hQ
        have : 1 ≤ uval R := uval_pos g
        have b := Nat.mul_le_mul_right (2 ^ E) (show 1 ≤ uval Q + uval R by omega)
        omega
    exact exact_dn hX (by omega) (by rw [sval_zero.2 hs0, hN, Int.zero_mul])
  · have hN : sval a * sval b ≠ 0 := fun g => by
      rcases Int.mul_eq_zero.1 g with g | g
      · have := sval_zero.1 g; have := pa.1; omega
      · have := sval_zero.1 g; have := pb.1; omega
    refine lohi_dn (R := R) hX hsl hN e1 (by rw [sval_mul]; exact e2) (fun Q hQ => by rw [sval_mul]; exact e3 Q hQ) (by rw [e4]; exact mul_sign pa.1 pb.1) (fun h0 hf => ?_)
    obtain ⟨r, hr, hr1, hr2⟩ := leftIs_ex ha (Nat.le_of_lt pa.2) pb hf
    have hkr := hk r hr
    subst hkr
    have c := left_conds hE h0 hf e1 e2 e3
    have g := left_sign hE ha pa pb hf c.1 c.2.1 c.2.2 hr
    have hng := ngf_is hr2
    have hcast : (((2 ^ E : Nat)) : Int) = ((2 ^ E : Nat) : Int) := rfl
    refine ⟨by rw [hng.1]; exact hr1, ⟨fun z => ?_, fun z => ?_⟩, fun z => ?_⟩
    · rw [hng.1] at z
      have := g.1.1 z
      omega
    · rw [hng.1]
      exact g.1.2 (by omega)
    · rw [hng.2, g.2 (by omega)]
      rw [← decide_not]
      exact decide_eq_decide.2 (by omega)
end Go.Proofs.Ytghcoijinihlnaa.Fl
