/-
  The text of a number that is worth so much; squares of fractions in lowest terms. No condition.
-/
import Derived.Test.YtobbedcaeffbaaaGreatDoorFp0
import Derived.Test.YtobbedcaeffbaaaGreatDoorFqe
namespace Go.Proofs.YtobbedcaeffbaaaGreatDoor
open Go.RowKit Nb
theorem nl_txt {W : World} {Z : Int} {n : Bool} {A : Option Addr} {ls : List Nat} {c : Nat} (h : Nl W Z n A ls c) : txt n (val W32 ls) = txt (decide (Z < 0)) Z.natAbs := by
  have hp : n = true → 0 < val W32 ls := fun hn => by
    rcases Nat.eq_zero_or_pos (val W32 ls) with h0 | h0
    · have := h.lm.ok.sign ((norm_zero (B := W32) (by decide) h.lm.ok.norm).1 h0)
      rw [hn] at this; cases this
    · exact h0
  have hv := h.v
  have h1 : Z.natAbs = val W32 ls := by
    rw [← hv]; unfold sv; split <;> simp
  have h2 : decide (Z < 0) = n := by
    rw [← hv]; unfold sv
    cases n
    · simp <;> omega
    · have := hp rfl
      simp <;> omega
  rw [h1, h2]
theorem sq_parts (x : Rat) : (x * x).num = x.num * x.num ∧ (x * x).den = x.den * x.den := by
  have hd := x.den_pos
  have e : x * x = Rat.divInt (x.num * x.num) ((x.den * x.den : Nat) : Int) := by
    have h := Rat.divInt_mul_divInt x.num x.num (d₁ := (x.den : Int)) (d₂ := (x.den : Int))
    rw [Rat.num_divInt_den] at h
    rw [h, Int.natCast_mul]
  have hg : Nat.gcd (x.num * x.num).natAbs ((x.den * x.den : Nat) : Int).natAbs = 1 := by
    have h1 : Nat.Coprime x.num.natAbs x.den := x.reduced
    rw [Int.natAbs_mul, Int.natAbs_natCast]
    exact Nat.Coprime.mul_left (Nat.Coprime.mul_right h1 h1) (Nat.Coprime.mul_right h1 h1)
  have hp : (0 : Int) < ((x.den * x.den : Nat) : Int) := by have := Nat.mul_pos hd hd; omega
  have := rat_partsF hp hg
  rw [← e] at this
  exact ⟨this.1, by rw [this.2, Int.natAbs_natCast]⟩
end Go.Proofs.YtobbedcaeffbaaaGreatDoor
