/-
  The two floats that round.Add answers are those beside the exact sum. Conditions: as the theorem states.
-/
import Derived.Test.YtffjkfjokikhnaaRwf
import Derived.Test.YtffjkfjokikhnaaRwg
namespace Go.Proofs.Ytffjkfjokikhnaa.Rb
open Go.RowKit Nb Fl Ieee
theorem nr_over {U R : Nat} (h : Nr U R) (g : uval R < U) : U < uval (R + 1) := by
  have := h.1
  omega
theorem nr_under {U R : Nat} (h : Nr U R) (g : U < uval R) : ∃ Q, R = Q + 1 ∧ uval Q < U := by
  rcases R with _ | Q
  · rw [uval_small (by omega)] at g; omega
  · have := (h.2.2 Q rfl).1
    exact ⟨Q, rfl, by omega⟩
theorem word_pos {s : Nat} (hs : s < 18446744073709551616) (h : ng s = false) : s = mg s := by
  have := word_of s hs
  unfold Format.word at this
  rw [d_sw, h] at this
  simp at this
  omega
theorem word_neg {s : Nat} (hs : s < 18446744073709551616) (h : ng s = true) : s = mg s + 9223372036854775808 := by
  have := word_of s hs
  unfold Format.word at this
  rw [d_sw, h] at this
  simp at this
  omega
theorem key_beyond {s l : Nat} {S : Int} {R : Nat} (hm : mg s = min R 9218868437227405312) (hN : Nr S.natAbs R) (hR : ¬ mg s < 9218868437227405312) :
    exactly s l = false ∧ near s l + 1 = mg s ∧ undr S.natAbs = (mg s - 1, false) := by
  refine ⟨?_, ?_, ?_⟩
  · unfold exactly
    rw [decide_eq_false (by omega), Bool.false_and]
  · unfold near
    rw [if_neg (by omega), if_neg (fun h => hR h.1)]
    omega
  · have hg : uval 9218868437227405311 < S.natAbs := by
      obtain ⟨Q, hQ⟩ : ∃ Q, R = Q + 1 := ⟨R - 1, by omega⟩
      have h1 := (hN.2.2 Q hQ).1
      have h2 : uval 9218868437227405311 ≤ uval Q := uval_le (by omega)
      have h3 : uval 9218868437227405312 ≤ uval R := uval_le (by omega)
      have h4 : uval 9218868437227405311 < uval 9218868437227405312 := uval_lt (by omega)
      omega
    have he : mg s - 1 = 9218868437227405311 := by omega
    rw [he]
    exact (undr_beyond hg).1
theorem sum_key {s l : Nat} {S : Int} {R : Nat} (_hs : s < 18446744073709551616) (_hS : S ≠ 0) (h0 : 0 < mg s) (hm : mg s = min R 9218868437227405312) (hN : Nr S.natAbs R) (hn : ng s = decide (S < 0))
    (hl : mg s < 9218868437227405312 → mg l < 9218868437227405312 ∧ sval l = S - sval s) :
    (exactly s l = true ∧ undr S.natAbs = (mg s, true)) ∨ (exactly s l = false ∧ near s l = mg s ∧ undr S.natAbs = (mg s, false)) ∨ (exactly s l = false ∧ near s l + 1 = mg s ∧ undr S.natAbs = (mg s - 1, false)) := by
  by_cases hR : mg s < 9218868437227405312
  · obtain rfl : R = mg s := by omega
    obtain ⟨l1, l2⟩ := hl hR
    have hsv : sval s = if S < 0 then -(uval (mg s) : Int) else uval (mg s) := by
      unfold sval; rw [hn]; simp
    have heq := eq_zero l
    by_cases hl0 : mg l = 0
    · refine .inl ⟨?_, ?_⟩
      · unfold exactly
        rw [show (double.order l 0 == some .eq) = true from by rw [show (double.order l 0 == some .eq) = _ from heq]; simpa using hl0, Bool.and_true]
        exact decide_eq_true ⟨h0, hR⟩
      · have hz := sval_zero.2 hl0
        have : S.natAbs = uval (mg s) := by
          rw [hz] at l2
          by_cases g : S < 0
          · rw [if_pos g] at hsv; omega
          · rw [if_neg g] at hsv; omega
        rw [this]
        exact undr_exact (by omega)
    · have hx : exactly s l = false := by
        unfold exactly
        rw [show (double.order l 0 == some .eq) = false from by rw [show (double.order l 0 == some .eq) = _ from heq]; simpa using hl0, Bool.and_false]
      have hgl : (double.order l 0 == some .gt) = !ng l := gt_zero l (by omega) (by omega)
      have hgs : (double.order s 0 == some .gt) = !ng s := gt_zero s h0 (by omega)
      have hlp := uval_pos (show 0 < mg l by omega)
      have hls : sval l = if ng l then -(uval (mg l) : Int) else uval (mg l) := rfl
      have hnear : near s l = if ng l = ng s then mg s else mg s - 1 := by
        unfold near
        rw [if_neg (by omega), hgl, hgs]
        by_cases g : ng l = ng s
        · rw [if_pos g, if_pos ⟨hR, by rw [g]⟩]
        · rw [if_neg g, if_neg (fun h => g (by have := congrArg (fun b => !b) h.2; simpa using this))]
      by_cases g : ng l = ng s
      · refine .inr (.inl ⟨hx, by rw [hnear, if_pos g], ?_⟩)
        have hgt : uval (mg s) < S.natAbs := by
          rw [g, hn] at hls
          by_cases k : S < 0
          · rw [if_pos k] at hsv; rw [if_pos (by simpa using k)] at hls; omega
          · rw [if_neg k] at hsv; rw [if_neg (by simpa using k)] at hls; omega
        exact (undr_between (by omega) hgt (nr_over hN hgt)).1
      · refine .inr (.inr ⟨hx, by rw [hnear, if_neg g]; omega, ?_⟩)
        have hlt : S.natAbs < uval (mg s) := by
          by_cases k : S < 0
          · have e : ng l = false := by
              have : ng s = true := by rw [hn]; simpa using k
              rw [this] at g
              cases h : ng l with
              | false => rfl
              | true => exact absurd h g
            rw [if_pos k] at hsv; rw [e, if_neg (by simp)] at hls; omega
          · have e : ng l = true := by
              have : ng s = false := by rw [hn]; simpa using k
              rw [this] at g
              cases h : ng l with
              | false => exact absurd h g
              | true => rfl
            rw [if_neg k] at hsv; rw [e, if_pos rfl] at hls; omega
        obtain ⟨Q, hQ, hq⟩ := nr_under hN hlt
        rw [hQ] at hlt
        rw [show mg s - 1 = Q by omega]
        exact (undr_between (by omega) hq hlt).1
  · exact .inr (.inr (key_beyond hm hN hR))
theorem sum_lohi {s l : Nat} {S : Int} {R D : Nat} (hs : s < 18446744073709551616) (hS : S ≠ 0) (h0 : 0 < mg s) (hm : mg s = min R 9218868437227405312) (hN : Nr S.natAbs R) (hn : ng s = decide (S < 0))
    (hl : mg s < 9218868437227405312 → mg l < 9218868437227405312 ∧ sval l = S - sval s) (hD : S < 0 → D = ovr S.natAbs + 9223372036854775808) : lo s l = addLo S s D ∧ hi s l = addHi S s := by
  have key := sum_key hs hS h0 hm hN hn hl
  have hov : ovr S.natAbs = if (undr S.natAbs).2 then (undr S.natAbs).1 else (undr S.natAbs).1 + 1 := rfl
  unfold addLo addHi
  rw [if_neg hS, if_neg hS]
  by_cases k : S < 0
  · have hng : ng s = true := by rw [hn]; simpa using k
    have hw := word_neg hs hng
    rw [if_pos k, if_pos k, hD k]
    rcases key with ⟨a, b⟩ | ⟨a, b, c⟩ | ⟨a, b, c⟩
    · rw [hov, b]
      unfold lo hi
      rw [a]
      simp only [if_true, eq_self]
      omega
    · have h := (lohi_out hs a b).2 hng
      rw [h.1, h.2, hov, c]
      simp only [Bool.false_eq_true, if_false]
      omega
    · have h := (lohi_in hs a b).2 hng
      rw [h.1, h.2, hov, c]
      simp only [Bool.false_eq_true, if_false]
      omega
  · have hng : ng s = false := by rw [hn]; simpa using k
    have hw := word_pos hs hng
    rw [if_neg k, if_neg k]
    rcases key with ⟨a, b⟩ | ⟨a, b, c⟩ | ⟨a, b, c⟩
    · rw [hov, b]
      unfold lo hi
      rw [a]
      simp only [if_true, eq_self]
      omega
    · have h := (lohi_out hs a b).1 hng
      rw [h.1, h.2, hov, c]
      simp only [Bool.false_eq_true, if_false]
      omega
    · have h := (lohi_in hs a b).1 hng
      rw [h.1, h.2, hov, c]
      simp only [Bool.false_eq_true, if_false]
      omega
end Go.Proofs.Ytffjkfjokikhnaa.Rb
