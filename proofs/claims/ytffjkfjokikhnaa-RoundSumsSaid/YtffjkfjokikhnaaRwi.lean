/-
  What round's Add answers of two finite floats is what the document's reckoning gives: the floats beside the exact sum, or the own answer where that is a nought. Condition: floats of 64 bits.
-/
import Derived.Test.YtffjkfjokikhnaaRwh
import Derived.Test.YtffjkfjokikhnaaRwf
namespace Go.Proofs.Ytffjkfjokikhnaa.Rb
open Go.RowKit Nb Fl Ieee

theorem ovr_bounds {U : Nat} (h : 0 < U) : 0 < ovr U ∧ ovr U ≤ 9218868437227405312 := by
  have h1 := undr_le U
  have e : ovr U = if (undr U).2 then (undr U).1 else (undr U).1 + 1 := rfl
  rw [e]
  rcases undr_spec U with ⟨a, b, c⟩ | ⟨a, _⟩
  · split
    · rename_i g
      rw [c] at g
      have g := of_decide_eq_true g
      refine ⟨?_, by omega⟩
      rcases Nat.eq_zero_or_pos (undr U).1 with k | k
      · rw [k, uval_zero] at g; omega
      · exact k
    · exact ⟨by omega, by omega⟩
  · rw [a]; simp
theorem sub_zero_any {h : Nat} (h0 : 0 < h) (h1 : h ≤ 9218868437227405312) : double.sub 0 h = some (h + 9223372036854775808) := by
  rcases Nat.lt_or_eq_of_le h1 with g | g
  · exact sub_zero h0 (by omega)
  · subst g; decide +kernel
/-- The document's float below a sum that is less than nought. -/
def addD (S : Int) : Nat := ovr S.natAbs + 9223372036854775808
theorem addD_is {S : Int} (h : S < 0) : double.sub 0 (ovr S.natAbs) = some (addD S) := by
  have := ovr_bounds (U := S.natAbs) (by omega)
  exact sub_zero_any this.1 this.2
/-- Where a sum is exactly a float, that float it is. -/
theorem addLo_float {s : Nat} {S : Int} (hs : s < 18446744073709551616) (fs : mg s < 9218868437227405312) (h : sval s = S) (h0 : S ≠ 0) : addLo S s (addD S) = s ∧ addHi S s = s := by
  have hu := sval_abs s
  rw [h] at hu
  have h1 : mg s ≤ 9218868437227405311 := by omega
  have e1 := undr_exact h1
  have e2 := ovr_exact h1
  have hsg : ng s = decide (S < 0) := by
    rw [← h]
    have hp : mg s ≠ 0 := fun k => h0 (by rw [← h]; exact sval_zero.2 k)
    have := uval_pos (m := mg s) (by omega)
    unfold sval
    cases ng s <;> simp <;> omega
  unfold addLo addHi addD
  rw [if_neg h0, if_neg h0, hu, e1, e2]
  by_cases k : S < 0
  · simp only [if_pos k]
    have := word_neg hs (by rw [hsg]; exact decide_eq_true k)
    exact ⟨by omega, by omega⟩
  · simp only [if_neg k]
    have := word_pos hs (by rw [hsg]; exact decide_eq_false k)
    exact ⟨by omega, by omega⟩
theorem addLo_nought {s : Nat} {S : Int} (h : S = 0) (D : Nat) : addLo S s D = s ∧ addHi S s = s := ⟨if_pos h, if_pos h⟩
theorem nr_nought {n : Nat} (h : Nr n 0) : n = 0 := by
  have k := h.1
  have u0 : uval 0 = 0 := uval_zero
  have u1 : uval (0 + 1) = 1 := uval_small (by omega)
  omega
/-- What Add answers. -/
theorem add_lohi {a b s d u : Nat} (ha : a < 18446744073709551616) (hb : b < 18446744073709551616) (fa : mg a < 9218868437227405312) (fb : mg b < 9218868437227405312) (hr : double.add a b = some s) (h : AddIs a b s d u) :
    d = addLo (sval a + sval b) s (addD (sval a + sval b)) ∧ u = addHi (sval a + sval b) s := by
  obtain ⟨R, e1, e2, e3, hsl⟩ := add_nr fa fb hr
  by_cases h0 : mg s = 0
  · have hR : R = 0 := by omega
    subst hR
    have hS : sval a + sval b = 0 := by have := nr_nought e2; omega
    have hd : d = s ∧ u = s := by
      rcases h with ⟨_, rfl, rfl⟩ | ⟨_, _, k, _⟩
      · exact ⟨rfl, rfl⟩
      · exact absurd h0 k
    have := addLo_nought (s := s) hS (addD (sval a + sval b))
    exact ⟨hd.1.trans this.1.symm, hd.2.trans this.2.symm⟩
  · have hS : sval a + sval b ≠ 0 := fun k => by
      rw [k] at e2
      have : uval R = 0 := nr_rep e2 rep_zero
      rcases Nat.eq_zero_or_pos R with g | g
      · omega
      · have := uval_pos g; omega
    rcases h with ⟨k, rfl, rfl⟩ | ⟨pa, pb, _, l, hl, rfl, rfl⟩
    · have hn : mg a = 0 ∨ mg b = 0 := by
        rcases k with k | k
        · unfold Pl at k; omega
        · exact absurd k h0
      have hrep : Rep (sval a + sval b).natAbs := by
        rcases hn with k | k
        · rw [sval_zero.2 k, Int.zero_add]; exact sval_rep b
        · rw [sval_zero.2 k, Int.add_zero]; exact sval_rep a
      have hlt : (sval a + sval b).natAbs < uval 9218868437227405312 := by
        rcases hn with k | k
        · rw [sval_zero.2 k, Int.zero_add, sval_abs]; exact uval_fin fb
        · rw [sval_zero.2 k, Int.add_zero, sval_abs]; exact uval_fin fa
      have t := nr_told e1 e2 e3 hrep hlt
      have := addLo_float hsl t.1 t.2 hS
      exact ⟨this.1.symm, this.2.symm⟩
    · exact sum_lohi hsl hS (by omega) e1 e2 (e3 hS) (fun f => two_exact ha hb hr f hl) (fun _ => rfl)
end Go.Proofs.Ytffjkfjokikhnaa.Rb
