/-
  Plain facts on division on paper, on Newton's root, on Euclid's steps; no Go and no program is named here. No conditions.
-/
import Derived.Test.YtiofglgpgjnonaaDoorNums
namespace Go.Proofs.YtiofglgpgjnonaaDoor
namespace Nb
/-- The guess by the three highest digits over the two highest is not below the true one. -/
theorem guess_ge {u P0 V v V0 : Nat} (hP : P0 < V) (hv : 0 < v) : (u * V + P0) / (v * V + V0) ≤ u / v := by
  have hV : 0 < V := by omega
  have h1 : (u * V + P0) / (v * V + V0) ≤ (u * V + P0) / (v * V) := Nat.div_le_div_left (by omega) (Nat.mul_pos hv hV)
  have h2 : (u * V + P0) / (v * V) = u / v := by
    rw [Nat.mul_comm v, ← Nat.div_div_eq_div_mul]
    congr 1
    rw [Nat.mul_comm, Nat.mul_add_div hV, Nat.div_eq_of_lt hP]; rfl
  omega
/-- A guess that is not too small is right where nothing is missing. -/
theorem quo_done {P P' Y g : Nat} (hY : 0 < Y) (h : P' + Y * g = P) (hg : P / Y ≤ g) : g = P / Y ∧ P' = P % Y := by
  have h1 : g ≤ P / Y := (Nat.le_div_iff_mul_le hY).2 (by rw [Nat.mul_comm]; omega)
  have h2 : g = P / Y := by omega
  refine ⟨h2, ?_⟩
  have := Nat.div_add_mod P Y
  rw [← h2] at this
  omega
/-- Where something is missing the guess was too great. -/
theorem quo_more {P P' Y g M : Nat} (hY : 0 < Y) (h : P' + Y * g = P + M) (hM : P' < M) (_hg : P / Y ≤ g) : P / Y < g := by
  refine (Nat.div_lt_iff_lt_mul hY).2 ?_
  rw [Nat.mul_comm]; omega
/-- Newton's step does not fall below the root. -/
theorem newton_ge {X r s : Nat} (hr : 0 < r) (hs : s * s ≤ X) : s ≤ (r + X / r) / 2 := by
  have h1 : s * s / r ≤ X / r := Nat.div_le_div_right hs
  have h2 : 2 * s ≤ r + s * s / r := by
    have e : r + s * s / r = (s * s + r * r) / r := by rw [Nat.add_mul_div_left _ _ hr, Nat.add_comm]
    rw [e, Nat.le_div_iff_mul_le hr]
    rcases Nat.le_total r s with h | h
    · obtain ⟨d, rfl⟩ : ∃ d, s = r + d := ⟨s - r, by omega⟩
      have := Nat.zero_le (d * d)
      grind
    · obtain ⟨d, rfl⟩ : ∃ d, r = s + d := ⟨r - s, by omega⟩
      have := Nat.zero_le (d * d)
      grind
  omega
/-- Where it does not fall, it is the root. -/
theorem newton_done {X r : Nat} (hr : 0 < r) (h : r ≤ (r + X / r) / 2) : r * r ≤ X := by
  have : r ≤ X / r := by omega
  exact (Nat.le_div_iff_mul_le hr).1 this
end Nb
end Go.Proofs.YtiofglgpgjnonaaDoor
