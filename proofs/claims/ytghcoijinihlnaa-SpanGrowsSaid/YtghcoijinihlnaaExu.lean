/-
  What round.Sqrt answers of a finite float above nought, and what round.Add answers of finite floats: the floats on both sides of the exact result. Condition: floats of 64 bits.
-/
import Derived.Test.YtghcoijinihlnaaExt
namespace Go.Proofs.Ytghcoijinihlnaa.Fl
open Ieee
/-- d and u are the floats on both sides of the root of V units squared. -/
def Sq (V d u : Nat) : Prop := mg d < 9218868437227405312 ∧ mg u < 9218868437227405312 ∧ ng d = false ∧ ng u = false ∧ d < 18446744073709551616 ∧ u < 18446744073709551616 ∧
  ((u = d ∧ uval (mg d) * uval (mg d) = V) ∨ (mg u = mg d + 1 ∧ uval (mg d) * uval (mg d) < V ∧ V < uval (mg u) * uval (mg u)))
theorem sqrt_sq {a s d u E : Nat} (hE : E = 1074) (_ha : a < 18446744073709551616) (pa : Pl a) (na : ng a = false) (hm : double.sqrt a = some s) (h : SqrtIs a s d u) : Sq (uval (mg a) * 2 ^ E) d u := by
  obtain ⟨R, e1, e2, e3, e4⟩ := sqrt_nr hE pa.1 pa.2 na hm
  have hsl := (sqrt_told hm).2
  have hua := uval_pos pa.1
  have hX := Nat.two_pow_pos E
  have hV : 0 < uval (mg a) * 2 ^ E := Nat.mul_pos hua hX
  have hR0 : 0 < R := by
    rcases Nat.eq_zero_or_pos R with g | g
    · exfalso
      rw [g, uval_zero, show uval (0 + 1) = 1 from uval_small (by omega)] at e2
      omega
    · exact g
  obtain ⟨Q, hQ⟩ : ∃ Q, R = Q + 1 := ⟨R - 1, by omega⟩
  have e3' := e3 Q hQ
  have hqr := uval_step Q
  rw [← hQ] at hqr
  have hrr := uval_step R
  -- the rung is far below the greatest one
  have hRf : R + 1 < 9218868437227405312 := by
    rcases Nat.lt_or_ge (R + 1) 9218868437227405312 with g | g
    · exact g
    · exfalso
      obtain ⟨F, hF⟩ : ∃ F, F = 2098 := ⟨_, rfl⟩
      have i1 := uval_inf F hF
      have i2 : uval (mg a) < 2 ^ F := by rw [← i1]; exact uval_lt pa.2
      have i3 : 2 ^ F ≤ uval (R + 1) := by rw [← i1]; exact uval_le g
      have i4 := uval_twice hR0
      have i5 : 2 ^ F ≤ 2 * uval R := by omega
      have i6 : 2 ^ F * 2 ^ F ≤ 2 * uval R * (2 * uval R) := sq_le i5
      have i7 : uval R * uval R ≤ (uval Q + uval R) * (uval Q + uval R) := sq_le (by omega)
      have i8 : 2 * uval R * (2 * uval R) = 4 * (uval R * uval R) := by grind
      have i9 : uval (mg a) * 2 ^ E ≤ 2 ^ F * 2 ^ E := Nat.mul_le_mul_right _ (Nat.le_of_lt i2)
      have i10 : 16 * (2 ^ F * 2 ^ E) < 2 ^ F * 2 ^ F := by
        have hFE : ∃ G, G = 1024 ∧ F = E + G := ⟨1024, rfl, by omega⟩
        obtain ⟨G, hG, hFE⟩ := hFE
        have hpF : 2 ^ F = 2 ^ E * 2 ^ G := by rw [hFE, Nat.pow_add]
        have : 2 ^ F * 2 ^ F = 2 ^ F * 2 ^ E * 2 ^ G := by
          rw [Nat.mul_assoc, ← hpF]
        rw [this]
        have hp : 0 < 2 ^ F * 2 ^ E := Nat.mul_pos (Nat.two_pow_pos _) (Nat.two_pow_pos _)
        have hk : 17 ≤ 2 ^ G := Nat.le_trans (show 17 ≤ 2 ^ 5 by decide) (Nat.pow_le_pow_right (by omega) (by omega))
        have := Nat.mul_le_mul_left (2 ^ F * 2 ^ E) hk
        omega
      omega
  have hRs : R = mg s := by omega
  rcases h with ⟨hz, _⟩ | ⟨_, _, l, hl, rfl, rfl⟩
  · exact absurd ⟨pa, na⟩ hz
  · have ps : Pl s := ⟨by omega, by omega⟩
    have hw := word_of s hsl
    rw [e4] at hw
    have hsm : s = mg s := by
      have : double.word false (mg s) = mg s := by unfold Format.word; simp
      rw [this] at hw; exact hw.symm
    obtain ⟨r, hr, hr1, hr2⟩ := leftIs_ex hsl (Nat.le_of_lt ps.2) ps pa.2
    have hlr := hl r hr
    subst hlr
    -- how great the own answer's square is
    have i4 := uval_twice hR0
    have b1 : (uval R + uval (R + 1)) * (uval R + uval (R + 1)) ≤ 3 * uval R * (3 * uval R) := sq_le (by omega)
    have b2 : uval R * uval R ≤ (uval Q + uval R) * (uval Q + uval R) := sq_le (by omega)
    have b3 : 3 * uval R * (3 * uval R) = 9 * (uval R * uval R) := by grind
    have hconds : 2 ^ (E - 2) ≤ uval R * uval R ∧ (lsmall a = false → 2 ^ (E + 172) ≤ uval R * uval R) ∧ (lsmall a = true → uval R * uval R ≤ 2 ^ (E + 176)) := by
      have hls := lsmall_is (z := a) (Nat.le_of_lt pa.2)
      have hu := uval_small900
      have f1 : 2 ^ E = 4 * 2 ^ (E - 2) := by
        obtain ⟨F, hF⟩ : ∃ F, E = F + 2 := ⟨E - 2, by omega⟩
        rw [hF, Nat.add_sub_cancel, Nat.pow_add]; omega
      have f2 : 2 ^ (E + 172) = 2 ^ 172 * 2 ^ E := by rw [Nat.pow_add, Nat.mul_comm]
      have f3 : 2 ^ (E + 176) = 16 * (2 ^ 172 * 2 ^ E) := by rw [Nat.pow_add, show (2 : Nat) ^ 176 = 16 * 2 ^ 172 by decide, Nat.mul_comm, Nat.mul_assoc]
      have f4 : (2 : Nat) ^ 174 = 4 * 2 ^ 172 := by decide
      rw [f4] at hu
      rw [f2, f3]
      generalize (2 : Nat) ^ 172 = T at *
      refine ⟨?_, fun k => ?_, fun k => ?_⟩
      · have a := Nat.mul_le_mul_right (2 ^ E) (show 1 ≤ uval (mg a) by omega)
        omega
      · have hge : ¬ mg a < 553942754166571008 := fun g => by rw [hls.2 g] at k; cases k
        have : 4 * T ≤ uval (mg a) := by rw [← hu]; exact uval_le (by omega)
        have a := Nat.mul_le_mul_right (2 ^ E) this
        rw [Nat.mul_assoc] at a
        omega
      · have : uval (mg a) ≤ 4 * T := by rw [← hu]; exact uval_le (Nat.le_of_lt (hls.1 k))
        have a := Nat.mul_le_mul_right (2 ^ E) this
        rw [Nat.mul_assoc] at a
        omega
    rw [hRs] at hconds
    have g := left_sign hE hsl ps ps pa.2 hconds.1 hconds.2.1 hconds.2.2 hr
    have hsa : sval a = uval (mg a) := by unfold sval; rw [na]; rfl
    have hss : sval s = uval (mg s) := by unfold sval; rw [e4]; rfl
    rw [hsa, hss] at g
    have g1 : (mg l = 0 ↔ uval (mg a) * 2 ^ E = uval (mg s) * uval (mg s)) := by
      rw [g.1]
      constructor
      · intro h
        have : ((uval (mg a) * 2 ^ E : Nat) : Int) = ((uval (mg s) * uval (mg s) : Nat) : Int) := by rw [Int.natCast_mul, Int.natCast_mul]; omega
        exact_mod_cast this
      · intro h
        have : ((uval (mg a) * 2 ^ E : Nat) : Int) = ((uval (mg s) * uval (mg s) : Nat) : Int) := by rw [h]
        rw [Int.natCast_mul, Int.natCast_mul] at this; omega
    have g2 : uval (mg a) * 2 ^ E ≠ uval (mg s) * uval (mg s) → ng l = decide (uval (mg a) * 2 ^ E < uval (mg s) * uval (mg s)) := fun hne => by
      have hne' : (uval (mg a) : Int) * (2 ^ E : Nat) - (uval (mg s) : Int) * uval (mg s) ≠ 0 := fun h => hne (g1.1 (g.1.2 h))
      rw [g.2 hne']
      refine decide_eq_decide.2 ?_
      constructor
      · intro h
        have : ((uval (mg a) * 2 ^ E : Nat) : Int) < ((uval (mg s) * uval (mg s) : Nat) : Int) := by rw [Int.natCast_mul, Int.natCast_mul]; omega
        exact_mod_cast this
      · intro h
        have : ((uval (mg a) * 2 ^ E : Nat) : Int) < ((uval (mg s) * uval (mg s) : Nat) : Int) := by exact_mod_cast h
        rw [Int.natCast_mul, Int.natCast_mul] at this; omega
    have heq := eq_zero l
    by_cases hz : uval (mg a) * 2 ^ E = uval (mg s) * uval (mg s)
    · have hx := lohi_exact (own := s) (lost := l) ps.1 ps.2 (by rw [show (double.order l 0 == some .eq) = _ from heq]; exact decide_eq_true (g1.2 hz))
      rw [hx.1, hx.2]
      exact ⟨ps.2, ps.2, e4, e4, hsl, hsl, .inl ⟨rfl, hz.symm⟩⟩
    · have hl0 : mg l ≠ 0 := fun k => hz (g1.1 k)
      have hx : exactly s l = false := by
        unfold exactly
        rw [show (double.order l 0 == some .eq) = _ from heq, decide_eq_false hl0, Bool.and_false]
      have hlg := gt_zero' hr1
      have hsg := gt_zero' (Nat.le_of_lt ps.2)
      rw [g2 hz] at hlg
      rw [e4, decide_eq_true ⟨by have := ps.1; omega, rfl⟩] at hsg
      by_cases k : uval (mg a) * 2 ^ E < uval (mg s) * uval (mg s)
      · have hn : near s l + 1 = mg s := by
          unfold near
          rw [if_neg (by have := ps.1; omega), if_neg, ]
          · have := ps.1; omega
          · rintro ⟨_, e⟩
            rw [hlg, hsg, decide_eq_true k] at e
            simp at e
        have hq := (lohi_in hsl hx hn).1 e4
        rw [hq.1, hq.2]
        have w1 : mg (s - 1) = mg s - 1 := by
          have : s - 1 = double.word false (mg s - 1) := by unfold Format.word; simp; omega
          rw [this]; exact (word_mg _ _ (by have := ps.2; omega)).1
        have w2 : ng (s - 1) = false := by
          have : s - 1 = double.word false (mg s - 1) := by unfold Format.word; simp; omega
          rw [this]; exact (word_mg _ _ (by have := ps.2; omega)).2
        have hQs : mg s - 1 = Q := by omega
        refine ⟨by have := ps.2; omega, ps.2, w2, e4, by omega, hsl, .inr ⟨by have := ps.1; omega, ?_, k⟩⟩
        rw [w1, hQs]
        have c1 : 2 * uval Q * (2 * uval Q) < (uval Q + uval R) * (uval Q + uval R) := Nat.mul_lt_mul_of_lt_of_le (by omega) (by omega) (by omega)
        have c2 : 2 * uval Q * (2 * uval Q) = 4 * (uval Q * uval Q) := by grind
        omega
      · have hn : near s l = mg s := by
          unfold near
          rw [if_neg (by have := ps.1; omega), if_pos]
          refine ⟨ps.2, ?_⟩
          rw [hlg, hsg, decide_eq_false k]
          exact decide_eq_true ⟨hl0, rfl⟩
        have hq := (lohi_out hsl hx hn).1 e4
        rw [hq.1, hq.2]
        have w1 : mg (s + 1) = mg s + 1 := by
          have : s + 1 = double.word false (mg s + 1) := by unfold Format.word; simp; omega
          rw [this]; exact (word_mg _ _ (by have := ps.2; omega)).1
        have w2 : ng (s + 1) = false := by
          have : s + 1 = double.word false (mg s + 1) := by unfold Format.word; simp; omega
          rw [this]; exact (word_mg _ _ (by have := ps.2; omega)).2
        refine ⟨ps.2, by omega, e4, w2, hsl, by have := ps.2; omega, .inr ⟨w1, by omega, ?_⟩⟩
        rw [w1, ← hRs]
        have c1 : (uval R + uval (R + 1)) * (uval R + uval (R + 1)) < 2 * uval (R + 1) * (2 * uval (R + 1)) := Nat.mul_lt_mul_of_lt_of_le (by omega) (by omega) (by omega)
        have c2 : 2 * uval (R + 1) * (2 * uval (R + 1)) = 4 * (uval (R + 1) * uval (R + 1)) := by grind
        omega
/-- What round.Add answers. -/
theorem add_dn {a b s d u : Nat} (ha : a < 18446744073709551616) (hb : b < 18446744073709551616) (fa : mg a < 9218868437227405312) (fb : mg b < 9218868437227405312) (hr : double.add a b = some s) (h : AddIs a b s d u) :
    Dn (sval a + sval b) 1 d ∧ Up (sval a + sval b) 1 u := by
  obtain ⟨R, e1, e2, e3, hsl⟩ := add_nr fa fb hr
  have exact1 : mg s < 9218868437227405312 → sval s = sval a + sval b → Dn (sval a + sval b) 1 s ∧ Up (sval a + sval b) 1 s := fun f k => exact_dn (by omega) f (by rw [k]; simp)
  rcases h with ⟨k, hd, hu⟩ | ⟨pa, pb, hz, l, hl, rfl, rfl⟩
  · rw [hd, hu]
    by_cases h0 : mg s = 0
    · have hR : R = 0 := by omega
      subst hR
      have hS : sval a + sval b = 0 := by have := nr_zero e2; omega
      exact exact1 (by omega) (by rw [sval_zero.2 h0, hS])
    · have hn : mg a = 0 ∨ mg b = 0 := by
        rcases k with k | k
        · unfold Pl at k; omega
        · exact absurd k h0
      have hrep : Rep (sval a + sval b).natAbs ∧ (sval a + sval b).natAbs < uval 9218868437227405312 := by
        rcases hn with k | k
        · rw [sval_zero.2 k, Int.zero_add]; exact ⟨sval_rep b, by rw [sval_abs]; exact uval_fin fb⟩
        · rw [sval_zero.2 k, Int.add_zero]; exact ⟨sval_rep a, by rw [sval_abs]; exact uval_fin fa⟩
      have t := nr_told e1 e2 e3 hrep.1 hrep.2
      exact exact1 t.1 t.2
  · have hS : sval a + sval b ≠ 0 := fun k => by
      rw [k] at e2
      have : uval R = 0 := nr_rep e2 rep_zero
      rcases Nat.eq_zero_or_pos R with g | g
      · omega
      · have := uval_pos g; omega
    refine lohi_dn (R := R) (by omega) hsl hS e1 (by rw [Nat.mul_one]; exact e2.1) (fun Q hQ => by rw [Nat.mul_one]; exact (e2.2.2 Q hQ).1) (e3 hS) (fun h0 hf => ?_)
    have t := two_exact ha hb hr hf hl
    refine ⟨Nat.le_of_lt t.1, ⟨fun g => ?_, fun g => ?_⟩, fun g => ?_⟩
    · have := sval_zero.2 g; simp; omega
    · simp at g; exact sval_zero.1 (by omega)
    · have h1 : mg l ≠ 0 := fun k => g (by have := sval_zero.2 k; simp; omega)
      rw [sval_sign (by omega)]
      refine decide_eq_decide.2 ?_
      simp; omega
end Go.Proofs.Ytghcoijinihlnaa.Fl
