/-
  A fraction between two floats; what round's calls return of finite floats, against the exact fractions. Conditions: as each theorem states.
-/
import Derived.Test.YtghcoijinihlnaaGreatDoorFfl
import Derived.Test.YtghcoijinihlnaaGreatDoorExu
namespace Go.Proofs.YtghcoijinihlnaaGreatDoor
open Fl
/-- Below and above, and just where both are the same. -/
structure Bt (q : Rat) (d u : Nat) : Prop where
  ld : mg d ≤ 9218868437227405312
  lu : mg u ≤ 9218868437227405312
  id : mg d = 9218868437227405312 → ng d = true
  iu : mg u = 9218868437227405312 → ng u = false
  low : mg d < 9218868437227405312 → fl d ≤ q
  high : mg u < 9218868437227405312 → q ≤ fl u
  both : (mg d < 9218868437227405312 ∧ fl d = q) ↔ (mg u < 9218868437227405312 ∧ fl u = q)
  one : (mg d < 9218868437227405312 ∧ fl d = q) ↔ key d = key u
theorem rat_le_div {a b : Int} {c : Rat} (hc : 0 < c) : (a : Rat) ≤ (b : Rat) ↔ (a : Rat) / c ≤ (b : Rat) / c := by
  have e : ∀ x : Rat, x / c = x * c⁻¹ := fun x => Rat.div_def x c
  rw [e, e]
  have hi : 0 < c⁻¹ := Rat.inv_pos.2 hc
  exact ⟨fun h => Rat.mul_le_mul_of_nonneg_right h (Rat.le_of_lt hi), fun h => Rat.le_of_mul_le_mul_right h hi⟩
/-- N over D units. -/
def un (N : Int) (D : Nat) : Rat := (N : Rat) / (((D : Int) : Rat) * ((tw 1074 : Int) : Rat))
theorem fl_un (x D : Nat) (hD : 0 < D) : fl x = un (sval x * (D : Int)) D := by
  unfold fl un
  have h1 := two_ne 1074
  have h2 : ((D : Int) : Rat) ≠ 0 := by
    intro e
    have h : (D : Int) = 0 := by exact_mod_cast e
    omega
  rw [Rat.intCast_mul]
  generalize ((tw 1074 : Int) : Rat) = T at *
  generalize ((D : Int) : Rat) = E at *
  grind
theorem un_le {N M : Int} {D : Nat} (hD : 0 < D) : un N D ≤ un M D ↔ N ≤ M := by
  have hT : (0 : Rat) < ((tw 1074 : Int) : Rat) := by exact_mod_cast two_pos 1074
  have hE : (0 : Rat) < ((D : Int) : Rat) := by
    have : (0 : Int) < (D : Int) := by omega
    exact_mod_cast this
  have hc : (0 : Rat) < ((D : Int) : Rat) * ((tw 1074 : Int) : Rat) := Rat.mul_pos hE hT
  unfold un
  rw [← rat_le_div hc]
  exact Rat.intCast_le_intCast
theorem un_eq {N M : Int} {D : Nat} (hD : 0 < D) : un N D = un M D ↔ N = M := by
  constructor
  · intro h
    have h1 := (un_le (N := N) (M := M) hD).1 (by rw [h]; exact Rat.le_refl)
    have h2 := (un_le (N := M) (M := N) hD).1 (by rw [h]; exact Rat.le_refl)
    omega
  · intro h; rw [h]
end Go.Proofs.YtghcoijinihlnaaGreatDoor
namespace Go.Proofs.YtghcoijinihlnaaGreatDoor
open Go.RowKit Nb Fl Ieee
theorem Bt.to {q p : Rat} {d u : Nat} (h : Bt q d u) (e : q = p) : Bt p d u := e ▸ h
theorem un_sum (a b : Nat) : un (sval a + sval b) 1 = fl a + fl b := by
  unfold un fl
  have h1 := two_ne 1074
  rw [Rat.intCast_add, show (((1 : Nat) : Int) : Rat) = 1 from rfl]
  generalize ((tw 1074 : Int) : Rat) = T at *
  grind
section
variable {a b : Nat} {w : World}
end
end Go.Proofs.YtghcoijinihlnaaGreatDoor
