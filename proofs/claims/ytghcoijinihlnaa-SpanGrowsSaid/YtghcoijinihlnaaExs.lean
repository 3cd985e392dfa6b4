/-
  What round.Quo answers of finite floats: the greatest float not above the exact quotient, and the least one not below it. Condition: floats of 64 bits; the divisor is no nought.
-/
import Derived.Test.YtghcoijinihlnaaExr
namespace Go.Proofs.Ytghcoijinihlnaa.Fl
open Ieee
theorem uval_twice {R : Nat} (h : 0 < R) : uval (R + 1) ≤ 2 * uval R := by
  obtain ⟨e, k, hR, u0, u1, hk, hek⟩ := rung_form R
  have hk0 : 1 ≤ k := by
    rcases hek with g | g
    · rw [g, Nat.zero_mul, Nat.zero_add] at hR; omega
    · omega
  rw [u0, u1, ← Nat.mul_assoc]
  exact Nat.mul_le_mul_right _ (by omega)
theorem quot_conds {a _s R ub E : Nat} (hE : E = 1074) (a0 : 0 < mg a) (fa : mg a < 9218868437227405312) (h0 : 0 < R) (h1 : 2 * (uval (mg a) * 2 ^ E) ≤ (uval R + uval (R + 1)) * ub) (h2 : ∀ Q, R = Q + 1 → (uval Q + uval R) * ub ≤ 2 * (uval (mg a) * 2 ^ E)) :
    2 ^ (E - 2) ≤ uval R * ub ∧ (lsmall a = false → 2 ^ (E + 172) ≤ uval R * ub) ∧ (lsmall a = true → uval R * ub ≤ 2 ^ (E + 176)) := by
  obtain ⟨Q, hQ⟩ : ∃ Q, R = Q + 1 := ⟨R - 1, by omega⟩
  have k2 := h2 Q hQ
  have hls := lsmall_is (z := a) (Nat.le_of_lt fa)
  have hu := uval_small900
  have ht := uval_twice h0
  have hua := uval_pos a0
  have e1 : 2 ^ E = 4 * 2 ^ (E - 2) := by
    obtain ⟨F, hF⟩ : ∃ F, E = F + 2 := ⟨E - 2, by omega⟩
    rw [hF, Nat.add_sub_cancel, Nat.pow_add]; omega
  have e2 : 2 ^ (E + 172) = 2 ^ 172 * 2 ^ E := by rw [Nat.pow_add, Nat.mul_comm]
  have e3 : 2 ^ (E + 176) = 16 * (2 ^ 172 * 2 ^ E) := by rw [Nat.pow_add, show (2 : Nat) ^ 176 = 16 * 2 ^ 172 by decide, Nat.mul_comm, Nat.mul_assoc]
  have e4 : (2 : Nat) ^ 174 = 4 * 2 ^ 172 := by decide
  rw [e4] at hu
  rw [e2, e3]
  generalize (2 : Nat) ^ 172 = T at *
  have b1 : (uval R + uval (R + 1)) * ub ≤ 3 * uval R * ub := Nat.mul_le_mul_right _ (by omega)
  have b2 : uval R * ub ≤ (uval Q + uval R) * ub := Nat.mul_le_mul_right _ (by omega)
  rw [Nat.mul_assoc] at b1
  refine ⟨?_, fun k => ?_, fun k => ?_⟩
  · have a := Nat.mul_le_mul_right (2 ^ E) (show 1 ≤ uval (mg a) by omega)
    omega
  · have hge : ¬ mg a < 553942754166571008 := fun g => by rw [hls.2 g] at k; cases k
    have : 4 * T ≤ uval (mg a) := by rw [← hu]; exact uval_le (by omega)
    have a := Nat.mul_le_mul_right (2 ^ E) this
    rw [Nat.mul_assoc] at a
    omega
  · have : uval (mg a) ≤ 4 * T := by rw [← hu]; exact uval_le (Nat.le_of_lt (hls.1 k))
    have a := Nat.mul_le_mul_right (2 ^ E) this
    rw [Nat.mul_assoc] at a
    omega
theorem div_nought {a b s : Nat} (a0 : mg a = 0) (fb : mg b < 9218868437227405312) (b0 : 0 < mg b) (hm : double.div a b = some s) : mg s = 0 := by
  obtain ⟨M, P, e1, p1, v1⟩ := read_fin a (by omega)
  obtain ⟨N, Q, e2, p2, v2⟩ := read_fin b fb
  have hN : N ≠ 0 := fun h => by have := uval_pos b0; rw [← v2, h] at this; simp at this
  have hM : M = 0 := by
    rw [a0, uval_zero] at v1
    rcases Nat.mul_eq_zero.1 v1 with g | g
    · exact g
    · have := Nat.two_pow_pos (P + 1074).toNat; omega
  subst hM
  unfold Format.div at hm
  rw [e1, e2] at hm
  simp only [Datum.quotient, if_neg hN, Nat.zero_shiftLeft, Nat.zero_div, Nat.zero_mod, Option.map_some] at hm
  cases hm
  show mg (double.nearest _ _ _) = 0
  unfold Format.nearest
  rw [if_pos (by decide)]
  exact (word_mg _ 0 (by omega)).1
theorem quo_sign {a b E : Nat} (a0 : 0 < mg a) : (ng a ^^ ng b) = decide (qnum a b E < 0) := by
  have h1 := uval_pos a0
  have hp : (0 : Int) < (uval (mg a) : Int) * (2 ^ E : Nat) := Int.mul_pos (by omega) (Int.natCast_pos.2 (Nat.two_pow_pos _))
  unfold qnum sval
  cases ng a <;> cases ng b <;> simp only [Bool.false_eq_true, if_false, if_true, Bool.xor_false, Bool.xor_true, Bool.not_true, Bool.not_false, Int.neg_mul, Int.neg_neg]
  · exact (decide_eq_false (by omega)).symm
  · exact (decide_eq_true (by omega)).symm
  · exact (decide_eq_true (by omega)).symm
  · exact (decide_eq_false (by omega)).symm
theorem quo_dn {a b s d u E : Nat} (hE : E = 1074) (fa : mg a < 9218868437227405312) (fb : mg b < 9218868437227405312) (b0 : 0 < mg b) (hm : double.div a b = some s) (h : OpIs a b s (QuoLost a b s) d u) :
    Dn (qnum a b E) (uval (mg b)) d ∧ Up (qnum a b E) (uval (mg b)) u := by
  have hsl := (div_told hm).2
  have hX : 0 < uval (mg b) := uval_pos b0
  rcases h with ⟨hz, hd, hu⟩ | ⟨pa, pb, l, ⟨k, hlk, hk⟩, rfl, rfl⟩
  · rw [hd, hu]
    have a0 : mg a = 0 := by unfold Pl at hz; omega
    have hs0 := div_nought a0 fb b0 hm
    have hN : qnum a b E = 0 := by
      have := qnum_abs a b E
      rw [a0, uval_zero, Nat.zero_mul] at this; omega
    exact exact_dn hX (by omega) (by rw [sval_zero.2 hs0, hN, Int.zero_mul])
  · obtain ⟨R, e1, e2, e3, e4⟩ := div_nr hE fa fb pa.1 b0 hm
    have hN : qnum a b E ≠ 0 := fun g => by
      have := qnum_abs a b E
      rw [g] at this
      have h1 := Nat.mul_pos (uval_pos pa.1) (Nat.two_pow_pos E)
      simp at this; omega
    refine lohi_dn (R := R) hX hsl hN e1 (by rw [qnum_abs]; exact e2) (fun Q hQ => by rw [qnum_abs]; exact e3 Q hQ) (by rw [e4]; exact quo_sign pa.1) (fun h0 hf => ?_)
    have hR : R = mg s := by omega
    obtain ⟨r, hr, hr1, hr2⟩ := leftIs_ex hsl (Nat.le_of_lt hf) pb fa
    have hkr := hk r hr
    subst hkr
    have c := quot_conds (_s := s) hE pa.1 fa (by omega) e2 e3
    rw [hR] at c
    have g := left_sign hE hsl ⟨h0, hf⟩ pb fa c.1 c.2.1 c.2.2 hr
    have hng := ngf_is hr2
    have hb : sval b = if ng b then -(uval (mg b) : Int) else uval (mg b) := rfl
    rw [hb] at g
    rw [hlk]
    unfold qnum
    cases hbs : ng b
    · rw [hbs] at g
      simp only [Bool.false_eq_true, if_false] at g ⊢
      exact ⟨hr1, ⟨fun z => by have := g.1.1 z; omega, fun z => g.1.2 (by omega)⟩, fun z => by rw [g.2 (by omega)]; exact decide_eq_decide.2 (by omega)⟩
    · rw [hbs] at g
      simp only [if_true, Int.mul_neg] at g ⊢
      refine ⟨by rw [hng.1]; exact hr1, ⟨fun z => ?_, fun z => ?_⟩, fun z => ?_⟩
      · rw [hng.1] at z
        have := g.1.1 z; omega
      · rw [hng.1]; exact g.1.2 (by omega)
      · rw [hng.2, g.2 (by omega), ← decide_not]
        exact decide_eq_decide.2 (by omega)
end Go.Proofs.Ytghcoijinihlnaa.Fl
