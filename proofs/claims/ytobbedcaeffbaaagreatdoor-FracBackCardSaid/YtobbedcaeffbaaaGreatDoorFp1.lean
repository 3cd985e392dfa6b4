/-
  What frac.Float answers of what a float is worth. Condition: floats of 64 bits.
-/
import Derived.Test.YtobbedcaeffbaaaGreatDoorFfl
import Derived.Test.YtobbedcaeffbaaaGreatDoorExu
import Derived.Test.YtobbedcaeffbaaaGreatDoorFnf
import Derived.Deep.RegionHeld3
import Derived.Deep.DeepCutAuto
import Derived.BigRegion
namespace Go.Proofs.YtobbedcaeffbaaaGreatDoor
open Fl
theorem rat_le_div {a b : Int} {c : Rat} (hc : 0 < c) : (a : Rat) ≤ (b : Rat) ↔ (a : Rat) / c ≤ (b : Rat) / c := by
  have e : ∀ x : Rat, x / c = x * c⁻¹ := fun x => Rat.div_def x c
  rw [e, e]
  have hi : 0 < c⁻¹ := Rat.inv_pos.2 hc
  exact ⟨fun h => Rat.mul_le_mul_of_nonneg_right h (Rat.le_of_lt hi), fun h => Rat.le_of_mul_le_mul_right h hi⟩
/-- N over D units. -/
def un (N : Int) (D : Nat) : Rat := (N : Rat) / (((D : Int) : Rat) * ((tw 1074 : Int) : Rat))
theorem fl_un (x D : Nat) (hD : 0 < D) : fl x = un (sval x * (D : Int)) D := by
  unfold fl un
  have h1 := two_ne 1074
  have h2 : ((D : Int) : Rat) ≠ 0 := by
    intro e
    have h : (D : Int) = 0 := by exact_mod_cast e
    omega
  rw [Rat.intCast_mul]
  generalize ((tw 1074 : Int) : Rat) = T at *
  generalize ((D : Int) : Rat) = E at *
  grind
theorem un_le {N M : Int} {D : Nat} (hD : 0 < D) : un N D ≤ un M D ↔ N ≤ M := by
  have hT : (0 : Rat) < ((tw 1074 : Int) : Rat) := by exact_mod_cast two_pos 1074
  have hE : (0 : Rat) < ((D : Int) : Rat) := by
    have : (0 : Int) < (D : Int) := by omega
    exact_mod_cast this
  have hc : (0 : Rat) < ((D : Int) : Rat) * ((tw 1074 : Int) : Rat) := Rat.mul_pos hE hT
  unfold un
  rw [← rat_le_div hc]
  exact Rat.intCast_le_intCast
theorem un_eq {N M : Int} {D : Nat} (hD : 0 < D) : un N D = un M D ↔ N = M := by
  constructor
  · intro h
    have h1 := (un_le (N := N) (M := M) hD).1 (by rw [h]; exact Rat.le_refl)
    have h2 := (un_le (N := M) (M := N) hD).1 (by rw [h]; exact Rat.le_refl)
    omega
  · intro h; rw [h]
end Go.Proofs.YtobbedcaeffbaaaGreatDoor
namespace Go.Proofs.YtobbedcaeffbaaaGreatDoor
open Go.RowKit Nb Fl Ieee
section
variable {a b : Nat} {w : World}
end
end Go.Proofs.YtobbedcaeffbaaaGreatDoor

namespace Go.Proofs.YtobbedcaeffbaaaGreatDoor
open Go.RowKit Nb Fl Ieee
/-! ### Nearness -/
theorem q_un2 (q : Rat) : un (q.num * (tw 1074 : Int)) q.den = q := by
  have h1 := two_ne 1074
  have h2 : ((q.den : Int) : Rat) ≠ 0 := by
    intro e
    have h : (q.den : Int) = 0 := by exact_mod_cast e
    have := q.den_pos
    omega
  have h3 := rat_whole q
  unfold un
  rw [Rat.intCast_mul]
  generalize ((tw 1074 : Int) : Rat) = T at *
  generalize ((q.den : Int) : Rat) = E at *
  generalize ((q.num : Int) : Rat) = M at *
  grind
end Go.Proofs.YtobbedcaeffbaaaGreatDoor

namespace Go.Proofs.YtobbedcaeffbaaaGreatDoor
open Go.RowKit Nb
open Fl Ieee
/-- A fraction, if the mark says so. -/
def Af (W : World) (z : Rat) (g : Fv) (ok : Bool) : Prop := ok = true → Ff W z g
theorem Af.kp {W W' : World} {z : Rat} {g : Fv} {ok : Bool} (h : Af W z g ok) (k : Kept W W') : Af W' z g ok := fun e => (h e).kp k
end Go.Proofs.YtobbedcaeffbaaaGreatDoor

namespace Go.Proofs.YtobbedcaeffbaaaGreatDoor
open Go.RowKit Nb
open Fl Ieee
theorem two_posF (k : Nat) : 0 < tw k := by unfold tw; exact Nat.pow_pos (by decide)
theorem fl_units {x : Nat} : (fl x).num * (tw 1074 : Int) = sval x * ((fl x).den : Int) :=
  (un_eq (fl x).den_pos).1 ((q_un2 (fl x)).trans (fl_un x _ (fl x).den_pos))
theorem sval_abs (x : Nat) : (sval x).natAbs = uval (mg x) := by
  unfold sval; split <;> simp
theorem fl_abs {x : Nat} : (fl x).num.natAbs * tw 1074 = uval (mg x) * (fl x).den := by
  have h := congrArg Int.natAbs (fl_units (x := x))
  rw [Int.natAbs_mul, Int.natAbs_mul, Int.natAbs_natCast, Int.natAbs_natCast, sval_abs] at h
  exact h
theorem fl_neg {x : Nat} : (fl x).num < 0 ↔ sval x < 0 := by
  have h := fl_units (x := x)
  have hD : (0 : Int) < ((fl x).den : Int) := by have := (fl x).den_pos; omega
  have hT : (0 : Int) < (tw 1074 : Int) := by have := two_posF 1074; omega
  generalize ((fl x).den : Int) = D at *
  generalize (tw 1074 : Int) = T at *
  constructor
  · intro g
    have h1 := Int.mul_neg_of_neg_of_pos g hT
    rcases Int.lt_or_le (sval x) 0 with k | k
    · exact k
    · have := Int.mul_nonneg k (Int.le_of_lt hD); omega
  · intro g
    have h1 := Int.mul_neg_of_neg_of_pos g hD
    rcases Int.lt_or_le (fl x).num 0 with k | k
    · exact k
    · have := Int.mul_nonneg k (Int.le_of_lt hT); omega
theorem nrt_exact {m Y R : Nat} (hY : 0 < Y) (h : NrT (uval m * Y) Y R) : R = m := by
  have hs := uval_step R
  have h1 : 2 * uval m ≤ uval R + uval (R + 1) := Nat.le_of_mul_le_mul_right (by have := h.hi; rw [← Nat.mul_assoc] at this; exact this) hY
  rcases Nat.lt_trichotomy m R with g | g | g
  · obtain ⟨Q, rfl⟩ : ∃ Q, R = Q + 1 := ⟨R - 1, by omega⟩
    have h2 : uval Q + uval (Q + 1) ≤ 2 * uval m := Nat.le_of_mul_le_mul_right (by have := (h.lo Q rfl).1; rw [← Nat.mul_assoc] at this; exact this) hY
    have h3 := uval_step Q
    rcases Nat.lt_or_ge m Q with k | k
    · have := uval_lt k; omega
    · obtain rfl : m = Q := by omega
      omega
  · exact g.symm
  · rcases Nat.lt_or_ge (R + 1) m with k | k
    · have := uval_lt k; omega
    · obtain rfl : m = R + 1 := by omega
      omega
theorem float_back {x v : Nat} {er : Int} (_hx : x < 18446744073709551616) (hf : mg x < 9218868437227405312) (h : FloatIs (fl x) v er) :
    er = 0 ∧ v < 18446744073709551616 ∧ mg v < 9218868437227405312 ∧ key v = key x ∧ ng v = decide (key x < 0) := by
  have hn := fl_neg (x := x)
  have ha := fl_abs (x := x)
  have hD := (fl x).den_pos
  rcases h with ⟨rfl, R, hR, hN, rfl⟩ | ⟨_, _, h⟩
  · have hN' : NrT ((fl x).num.natAbs * tw 1074) (fl x).den R := hN
    rw [ha] at hN'
    obtain rfl := nrt_exact hD hN'
    have u0 : uval 0 = 0 := by decide +kernel
    have h0 : mg x ≠ 0 → 0 < uval (mg x) := fun e => by
      have := uval_lt (m := 0) (n := mg x) (by omega); omega
    have hs : sval x < 0 ↔ ng x = true ∧ mg x ≠ 0 := by
      unfold sval
      cases hg : ng x
      · simp
      · rw [if_pos rfl]
        constructor
        · intro e
          refine ⟨rfl, fun e0 => ?_⟩
          rw [e0, u0] at e; omega
        · rintro ⟨_, e⟩
          have := h0 e; omega
    have hk : key x < 0 ↔ ng x = true ∧ mg x ≠ 0 := by
      unfold key
      cases hg : ng x
      · simp <;> omega
      · simp <;> omega
    have w1 : double.word true (mg x) = mg x + 9223372036854775808 := by unfold Format.word; rw [d_sw]; simp <;> omega
    have w0 : double.word false (mg x) = mg x := by unfold Format.word; simp <;> omega
    have hm : mg x < 9223372036854775808 := by omega
    refine ⟨rfl, ?_⟩
    by_cases c : ng x = true ∧ mg x ≠ 0
    · rw [if_pos ⟨hn.2 (hs.2 c), c.2⟩, ← w1, (word_mg true (mg x) hm).1, (word_mg true (mg x) hm).2, decide_eq_true (hk.2 c)]
      refine ⟨by rw [w1]; omega, hf, ?_, rfl⟩
      unfold key
      rw [(word_mg true (mg x) hm).1, (word_mg true (mg x) hm).2, c.1]
    · rw [if_neg (fun e => c (hs.1 (hn.1 e.1))), ← w0, (word_mg false (mg x) hm).1, (word_mg false (mg x) hm).2, decide_eq_false (fun e => c (hk.1 e))]
      refine ⟨by rw [w0]; omega, hf, ?_, rfl⟩
      unfold key
      rw [(word_mg false (mg x) hm).1, (word_mg false (mg x) hm).2]
      cases hg : ng x
      · rfl
      · have : mg x = 0 := by
          rcases Nat.eq_zero_or_pos (mg x) with k | k
          · exact k
          · exact absurd ⟨hg, by omega⟩ c
        rw [this]; rfl
  · have h1 : (uval 9218868437227405311 + uval 9218868437227405312) * (fl x).den ≤ 2 * ((fl x).num.natAbs * tw 1074) := h
    rw [ha, ← Nat.mul_assoc] at h1
    have h2 := Nat.le_of_mul_le_mul_right h1 hD
    have h3 : uval 9218868437227405311 < uval 9218868437227405312 := uval_step _
    rcases Nat.lt_or_ge (mg x) 9218868437227405311 with k | k
    · have := uval_lt k; omega
    · have e : mg x = 9218868437227405311 := by omega
      rw [e] at h2; omega
end Go.Proofs.YtobbedcaeffbaaaGreatDoor
