/-
  The floats that round tells: where the own answer is the nearest float and what it has lost has the right sign, they are the greatest one not above the exact result and the least one not below it. No conditions but those that each law names.
-/
import Derived.Test.YtghcoijinihlnaaExo
namespace Go.Proofs.Ytghcoijinihlnaa.Fl
open Ieee
theorem gt_zero' {x : Nat} (h : mg x ≤ 9218868437227405312) : (double.order x 0 == some .gt) = decide (mg x ≠ 0 ∧ ng x = false) := by
  by_cases h0 : mg x = 0
  · have e : (FloatKind.f64.format.order x 0 == some .gt) = _ := ord_gt x 0
    rw [show (double.order x 0 == some .gt) = _ from e]
    refine decide_eq_decide.2 ⟨fun k => ?_, fun k => absurd h0 k.1⟩
    have k := k.2.2
    unfold key at k
    rw [h0, show mg 0 = 0 by decide, show ng 0 = false by decide] at k
    cases h1 : ng x <;> rw [h1] at k <;> simp at k
  · have e : (FloatKind.f64.format.order x 0 == some .gt) = !ng x := gt_zero x (by omega) h
    rw [show (double.order x 0 == some .gt) = _ from e]
    cases ng x <;> simp [h0]
theorem lohi_dn {s l D R : Nat} {N : Int} (hD : 0 < D) (_hs : s < 18446744073709551616) (hN : N ≠ 0) (hm : mg s = min R 9218868437227405312)
    (h1 : 2 * N.natAbs ≤ (uval R + uval (R + 1)) * D) (h2 : ∀ Q, R = Q + 1 → (uval Q + uval R) * D ≤ 2 * N.natAbs) (hn : ng s = decide (N < 0))
    (hl : 0 < mg s → mg s < 9218868437227405312 → mg l ≤ 9218868437227405312 ∧ (mg l = 0 ↔ sval s * (D : Int) = N) ∧ (sval s * (D : Int) ≠ N → ng l = decide (N < sval s * (D : Int)))) :
    Dn N D (lo s l) ∧ Up N D (hi s l) := by
  obtain ⟨U, hU⟩ : ∃ U, N.natAbs = U := ⟨_, rfl⟩
  rw [hU] at h1 h2
  have hU0 : 0 < U := by omega
  have hNs : N = if ng s then -(U : Int) else U := by
    rw [hn]; by_cases k : N < 0
    · simp [k]; omega
    · simp [k]; omega
  have hp : (0 : Int) < D := by omega
  have below_next : ∀ r, r = R → U < uval (r + 1) * D := fun r hr => by
    subst hr
    have := Nat.mul_lt_mul_of_pos_right (uval_step r) hD
    rw [Nat.add_mul] at h1; omega
  have above_prev : ∀ Q, R = Q + 1 → uval Q * D < U := fun Q hQ => by
    have a := h2 Q hQ
    have := Nat.mul_lt_mul_of_pos_right (uval_step Q) hD
    rw [← hQ] at this
    rw [Nat.add_mul] at a; omega
  have outer : uval (mg s) * D < U → mg s < 9218868437227405312 → exactly s l = false → near s l = mg s → Dn N D (lo s l) ∧ Up N D (hi s l) := fun a b c d => by
    have hR : R = mg s := by omega
    have := rungs (r := mg s) (D := D) (U := U) b a (.inr (below_next _ hR.symm)) (ng s) hNs
    unfold lo hi; rw [c, d]; exact this
  have inner : ∀ r, r + 1 = mg s → uval r * D < U → (mg s = 9218868437227405312 ∨ U < uval (mg s) * D) → exactly s l = false → near s l = r → Dn N D (lo s l) ∧ Up N D (hi s l) := fun r hr a b c d => by
    have := rungs (r := r) (D := D) (U := U) (by omega) a (by rw [hr]; exact b) (ng s) hNs
    unfold lo hi; rw [c, d]; exact this
  rcases Nat.eq_zero_or_pos (mg s) with h0 | h0
  · refine outer (by rw [h0, uval_zero]; omega) (by omega) ?_ ?_
    · unfold exactly; rw [decide_eq_false (by omega)]; rfl
    · unfold near; rw [if_pos h0, h0]
  · rcases Nat.lt_or_ge (mg s) 9218868437227405312 with hf | hf
    · obtain ⟨l0, l1, l2⟩ := hl h0 hf
      have hR : R = mg s := by omega
      have heq := eq_zero l
      by_cases hz : sval s * (D : Int) = N
      · have hx : exactly s l = true := by
          unfold exactly
          rw [show (double.order l 0 == some .eq) = _ from heq, decide_eq_true (l1.2 hz), decide_eq_true ⟨h0, hf⟩]; rfl
        have := exact_dn hD hf hz
        unfold lo hi; rw [hx]; exact this
      · have hl0 : mg l ≠ 0 := fun k => hz (l1.1 k)
        have hx : exactly s l = false := by
          unfold exactly
          rw [show (double.order l 0 == some .eq) = _ from heq, decide_eq_false hl0, Bool.and_false]
        have hng := l2 hz
        have g1 := gt_zero' l0
        have g2 := gt_zero' (Nat.le_of_lt hf)
        have hsv : sval s * (D : Int) = if ng s then -((uval (mg s) * D : Nat) : Int) else ((uval (mg s) * D : Nat) : Int) := by
          unfold sval; cases ng s <;> simp [Int.neg_mul]
        have hne : uval (mg s) * D ≠ U := fun k => hz (by rw [hsv, hNs, k])
        -- lost is above nought just if the exact result is the greater one
        have hlg : (double.order l 0 == some .gt) = decide (sval s * (D : Int) < N) := by
          rw [g1, hng]
          refine decide_eq_decide.2 ⟨fun k => ?_, fun k => ⟨hl0, decide_eq_false (by omega)⟩⟩
          have := of_decide_eq_false k.2
          omega
        have hsg : (double.order s 0 == some .gt) = !ng s := by
          rw [g2]; cases ng s <;> simp <;> omega
        have hcase : near s l = if uval (mg s) * D < U then mg s else mg s - 1 := by
          unfold near
          rw [if_neg (by omega), hlg, hsg]
          by_cases k : uval (mg s) * D < U
          · have hc : decide (sval s * (D : Int) < N) = !ng s := by
              have k' : ((uval (mg s) * D : Nat) : Int) < U := by exact_mod_cast k
              rw [hsv, hNs]
              cases ng s
              · simp only [Bool.false_eq_true, if_false, Bool.not_false]; exact decide_eq_true k'
              · simp only [if_true, Bool.not_true]; exact decide_eq_false (by omega)
            rw [if_pos k, if_pos ⟨hf, hc⟩]
          · rw [if_neg k, if_neg]
            rintro ⟨_, e⟩
            rw [hsv, hNs] at e
            have k' : U < uval (mg s) * D := by omega
            cases hg : ng s <;> rw [hg] at e
            · simp at e; have e' : uval (mg s) * D < U := by exact_mod_cast e
              omega
            · simp at e; have e' : uval (mg s) * D ≤ U := by exact_mod_cast e
              omega
        by_cases k : uval (mg s) * D < U
        · rw [if_pos k] at hcase
          exact outer k hf hx hcase
        · rw [if_neg k] at hcase
          obtain ⟨Q, hQ⟩ : ∃ Q, R = Q + 1 := ⟨R - 1, by omega⟩
          exact inner Q (by omega) (above_prev Q hQ) (.inr (by omega)) hx (by rw [hcase]; omega)
    · have hf' : mg s = 9218868437227405312 := by omega
      obtain ⟨Q, hQ⟩ : ∃ Q, R = Q + 1 := ⟨R - 1, by omega⟩
      refine inner 9218868437227405311 (by omega) ?_ (.inl hf') ?_ ?_
      · have a := above_prev Q hQ
        have b := Nat.mul_le_mul_right D (uval_le (show 9218868437227405311 ≤ Q by omega))
        omega
      · unfold exactly; rw [decide_eq_false (by omega), Bool.false_and]
      · unfold near; rw [if_neg (by omega), if_neg (fun k => by omega)]; omega
end Go.Proofs.Ytghcoijinihlnaa.Fl
