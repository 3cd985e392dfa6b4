/-
  left's sign, lifted or not. Condition: what is taken is about as great as what it is taken from.
-/
import Derived.Test.YtghcoijinihlnaaLsg
namespace Go.Proofs.Ytghcoijinihlnaa.Fl
open Ieee
/-- A product that is not too small is a whole number of units (L digits more where it is lifted). -/
theorem prod_units {a b : Nat} (ha : Rep a) (hb : Rep b) {j L E : Nat} (hj : 2 ^ j ≤ a * b) (h : E ≤ j - 105 + L) (hj2 : 106 ≤ j) : ∃ c, a * 2 ^ L * b = c * 2 ^ E := by
  obtain ⟨ea, ka, bka, rfl, _⟩ := rep_form ha
  obtain ⟨eb, kb, bkb, rfl, _⟩ := rep_form hb
  have e1 : ka * 2 ^ ea * (kb * 2 ^ eb) = ka * kb * 2 ^ (ea + eb) := by rw [Nat.pow_add]; simp only [Nat.mul_assoc, Nat.mul_left_comm]
  rw [e1] at hj
  have hk : ka * kb < 2 ^ 106 := by
    have h1 : ka * kb ≤ 9007199254740991 * 9007199254740991 := Nat.mul_le_mul (by omega) (by omega)
    have h2 : 9007199254740991 * 9007199254740991 < 2 ^ 106 := by decide
    omega
  have h3 : 2 ^ j < 2 ^ (106 + (ea + eb)) := by
    rw [Nat.pow_add]
    exact Nat.lt_of_le_of_lt hj (Nat.mul_lt_mul_of_pos_right hk (Nat.two_pow_pos _))
  have h4 := (Nat.pow_lt_pow_iff_right (a := 2) (by omega)).1 h3
  obtain ⟨d, hd⟩ : ∃ d, ea + eb + L = d + E := ⟨ea + eb + L - E, by omega⟩
  refine ⟨ka * kb * 2 ^ d, ?_⟩
  rw [Nat.mul_assoc (ka * kb), ← Nat.pow_add, ← hd, Nat.pow_add, Nat.pow_add]
  simp only [Nat.mul_assoc, Nat.mul_left_comm, Nat.mul_comm]
theorem sval_mul_units {x y : Nat} {c L E : Nat} {u : Int} (hu : u = sval x * (2 ^ L : Nat)) (h : uval (mg x) * 2 ^ L * uval (mg y) = c * 2 ^ E) : ∃ d : Int, u * sval y = d * (2 ^ E : Nat) := by
  subst hu
  have h' : ((uval (mg x) * 2 ^ L * uval (mg y) : Nat) : Int) = ((c * 2 ^ E : Nat) : Int) := by rw [h]
  rw [Int.natCast_mul, Int.natCast_mul, Int.natCast_mul] at h'
  unfold sval
  cases ng x <;> cases ng y <;> simp only [Bool.false_eq_true, if_false, if_true]
  · exact ⟨c, h'⟩
  · exact ⟨-c, by rw [Int.mul_neg, h', Int.neg_mul]⟩
  · exact ⟨-c, by rw [Int.neg_mul, Int.neg_mul, h', Int.neg_mul]⟩
  · exact ⟨c, by rw [Int.neg_mul, Int.neg_mul, Int.mul_neg, Int.neg_neg, h']⟩
theorem sval_lift {x x1 : Nat} (h : uval (mg x1) = uval (mg x) * 2 ^ 200) (hs : ng x1 = ng x) : sval x1 = sval x * (2 ^ 200 : Nat) := by
  unfold sval
  rw [h, hs, Int.natCast_mul]
  cases ng x
  · simp
  · simp only [if_true, Int.neg_mul]
theorem sign_scale {D t : Int} {p q : Nat} (h : D * (2 ^ p : Nat) = t * (2 ^ q : Nat)) : (t = 0 ↔ D = 0) ∧ (t < 0 ↔ D < 0) := by
  have hp : (0 : Int) < (2 ^ p : Nat) := Int.natCast_pos.2 (Nat.two_pow_pos _)
  have hq : (0 : Int) < (2 ^ q : Nat) := Int.natCast_pos.2 (Nat.two_pow_pos _)
  constructor
  · constructor
    · intro g
      rw [g, Int.zero_mul] at h
      rcases Int.mul_eq_zero.1 h with k | k
      · exact k
      · omega
    · intro g
      rw [g, Int.zero_mul] at h
      rcases Int.mul_eq_zero.1 h.symm with k | k
      · exact k
      · omega
  · constructor
    · intro g
      have := Int.mul_neg_of_neg_of_pos g hq
      rw [← h] at this
      rcases Int.lt_or_le D 0 with k | k
      · exact k
      · have := Int.mul_nonneg k (Int.le_of_lt hp); omega
    · intro g
      have := Int.mul_neg_of_neg_of_pos g hp
      rw [h] at this
      rcases Int.lt_or_le t 0 with k | k
      · exact k
      · have := Int.mul_nonneg k (Int.le_of_lt hq); omega
/-- left tells the sign of what is left, and nought just if nothing is. -/
theorem left_sign {x y z r E : Nat} (hE : E = 1074) (hx : x < 18446744073709551616) (px : Pl x) (py : Pl y) (fz : mg z < 9218868437227405312)
    (hlow : 2 ^ (E - 2) ≤ uval (mg x) * uval (mg y)) (hbig : lsmall z = false → 2 ^ (E + 172) ≤ uval (mg x) * uval (mg y)) (hsm : lsmall z = true → uval (mg x) * uval (mg y) ≤ 2 ^ (E + 176)) (h : LeftIs x y z r) :
    (mg r = 0 ↔ sval z * (2 ^ E : Nat) - sval x * sval y = 0) ∧ (sval z * (2 ^ E : Nat) - sval x * sval y ≠ 0 → ng r = decide (sval z * (2 ^ E : Nat) - sval x * sval y < 0)) := by
  obtain ⟨x1, z1, hc, hr⟩ := h
  cases hs : lsmall z
  · rw [hs] at hc
    obtain ⟨rfl, rfl⟩ := hc
    obtain ⟨c, hcc⟩ := prod_units (L := 0) (E := E) ⟨_, rfl⟩ ⟨_, rfl⟩ (hbig hs) (by omega) (by omega)
    obtain ⟨d, hd⟩ := sval_mul_units (u := sval x1) (by simp) hcc
    have ht : sval z1 * (2 ^ E : Nat) - sval x1 * sval y = (sval z1 - d) * (2 ^ E : Nat) := by rw [hd, ← Int.sub_mul]
    obtain ⟨a1, a2, _⟩ := fma_sign hx px.2 py.2 fz hr hE ht
    have k := sign_scale (D := sval z1 * (2 ^ E : Nat) - sval x1 * sval y) (t := sval z1 - d) (p := 0) (q := E) (by rw [Nat.pow_zero, ht]; simp)
    refine ⟨a1.trans k.1, fun hne => ?_⟩
    rw [a2 (fun g => hne (k.1.1 g))]
    exact decide_eq_decide.2 k.2
  · rw [hs] at hc
    obtain ⟨h1, h2⟩ := hc
    have hux : uval (mg x) ≤ 2 ^ (E + 176) := by
      have := Nat.le_mul_of_pos_right (uval (mg x)) (uval_pos py.1)
      exact Nat.le_trans this (hsm hs)
    obtain ⟨x1', f1, l1, s1, m1, u1⟩ := lift_exact hux (by omega)
    rw [h1] at f1
    obtain rfl : x1 = x1' := Option.some.inj f1
    obtain ⟨z1', f2, l2, s2, m2, u2⟩ := lift_small ((lsmall_is (Nat.le_of_lt fz)).1 hs)
    rw [h2] at f2
    obtain rfl : z1 = z1' := Option.some.inj f2
    obtain ⟨c, hcc⟩ := prod_units (L := 200) (E := E) ⟨_, rfl⟩ ⟨_, rfl⟩ hlow (by omega) (by omega)
    have vx := sval_lift u1 s1
    have vz := sval_lift u2 s2
    obtain ⟨d, hd⟩ := sval_mul_units vx hcc
    have ht : sval z1 * (2 ^ E : Nat) - sval x1 * sval y = (sval z1 - d) * (2 ^ E : Nat) := by rw [hd, ← Int.sub_mul]
    obtain ⟨a1, a2, _⟩ := fma_sign l1 m1 py.2 m2 hr hE ht
    have hD : (sval z * (2 ^ E : Nat) - sval x * sval y) * (2 ^ 200 : Nat) = (sval z1 - d) * (2 ^ E : Nat) := by
      rw [← ht, vx, vz, Int.sub_mul]
      congr 1
      · rw [Int.mul_assoc, Int.mul_assoc, Int.mul_comm ((2 ^ E : Nat) : Int)]
      · rw [Int.mul_assoc, Int.mul_assoc, Int.mul_comm (sval y)]
    have k := sign_scale hD
    refine ⟨a1.trans k.1, fun hne => ?_⟩
    rw [a2 (fun g => hne (k.1.1 g))]
    exact decide_eq_decide.2 k.2
end Go.Proofs.Ytghcoijinihlnaa.Fl
