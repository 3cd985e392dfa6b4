/-
  In one word what the calls return that look at one number, whether it may be or not. No conditions but that the lists are lists of limbs.
-/
import Derived.Test.YtdfbakdfakijbaaLook5
import Derived.Test.YtdfbakdfakijbaaSize
namespace Go.Proofs.Ytdfbakdfakijbaa
open Go.RowKit Nb

noncomputable def i64V (neg : Bool) (ls : List Nat) : Int := open Classical in if Ok neg ls ∧ -9223372036854775808 ≤ sv neg (val W32 ls) ∧ sv neg (val W32 ls) ≤ 9223372036854775807 then sv neg (val W32 ls) else 0
noncomputable def i64B (neg : Bool) (ls : List Nat) : Bool := open Classical in decide (Ok neg ls ∧ -9223372036854775808 ≤ sv neg (val W32 ls) ∧ sv neg (val W32 ls) ≤ 9223372036854775807)
noncomputable def sgnV (neg : Bool) (ls : List Nat) : Int := open Classical in if Ok neg ls then sgn neg ls else 0
noncomputable def bitsV (neg : Bool) (ls : List Nat) : Int := open Classical in if Ok neg ls then (bitLen (val W32 ls) : Int) else 0

theorem i64B_yes {neg : Bool} {ls : List Nat} (h : Ok neg ls ∧ -9223372036854775808 ≤ sv neg (val W32 ls) ∧ sv neg (val W32 ls) ≤ 9223372036854775807) : i64B neg ls = true := by simp [i64B, h]
theorem i64B_no {neg : Bool} {ls : List Nat} (h : ¬ (Ok neg ls ∧ -9223372036854775808 ≤ sv neg (val W32 ls) ∧ sv neg (val W32 ls) ≤ 9223372036854775807)) : i64B neg ls = false := by unfold i64B; simpa using h
section
variable (neg : Bool) (A : Option Addr) (ls : List Nat) (c : Nat) (w : World) (hr : Sl .u32 w w.heap.size A ls) (hd : Dig W32 ls) (hl : ls.length * 4 ≤ 140737488351232)
include hr hd hl
theorem wint64_u : Calls Try.prog 7 #[big neg A ls.length c] w fun e w' => e = .returned (.tuple #[.int .i64 (i64V neg ls), .bool (i64B neg ls)]) ∧ Below w.heap.size w w' := by
  unfold i64V
  by_cases h : Ok neg ls ∧ -9223372036854775808 ≤ sv neg (val W32 ls) ∧ sv neg (val W32 ls) ≤ 9223372036854775807
  · rw [if_pos h, i64B_yes h]
    exact wint64_yes neg A ls c w hr hd h.1 _ rfl h.2.1 h.2.2
  · rw [if_neg h, i64B_no h]
    by_cases ho : Ok neg ls
    · refine wint64_no neg A ls c w hr hd ho ?_
      rcases Int.lt_or_le (sv neg (val W32 ls)) (-9223372036854775808) with h1 | h1
      · exact .inl h1
      · rcases Int.lt_or_le 9223372036854775807 (sv neg (val W32 ls)) with h2 | h2
        · exact .inr h2
        · exact absurd ⟨ho, h1, h2⟩ h
    · exact wint64_bad neg A ls c w hr hl ho
theorem rint64_u : Calls Try.prog 17 #[big neg A ls.length c] w fun e w' => e = .returned (.tuple #[.int .i64 (i64V neg ls), .bool (i64B neg ls)]) ∧ Below w.heap.size w w' := by
  unfold i64V
  by_cases h : Ok neg ls ∧ -9223372036854775808 ≤ sv neg (val W32 ls) ∧ sv neg (val W32 ls) ≤ 9223372036854775807
  · rw [if_pos h, i64B_yes h]
    exact rint64_mid neg A ls c w hr hd h.1 h.2.1 h.2.2
  · rw [if_neg h, i64B_no h]
    by_cases ho : Ok neg ls
    · rcases Int.lt_or_le (sv neg (val W32 ls)) (-9223372036854775808) with h1 | h1
      · exact rint64_lo neg A ls c w hr hd ho h1
      · rcases Int.lt_or_le 9223372036854775807 (sv neg (val W32 ls)) with h2 | h2
        · exact rint64_hi neg A ls c w hr hd ho h2
        · exact absurd ⟨ho, h1, h2⟩ h
    · exact rint64_bad neg A ls c w hr hl ho
theorem wsign_u : Calls Try.prog 10 #[big neg A ls.length c] w fun e w' => e = .returned (.int .i64 (sgnV neg ls)) ∧ Below w.heap.size w w' := by
  unfold sgnV
  by_cases h : Ok neg ls
  · rw [if_pos h]; exact wsign_ok neg A ls c w hr hd h
  · rw [if_neg h]; exact wsign_bad neg A ls c w hr hl h
theorem wbits_u : Calls Try.prog 12 #[big neg A ls.length c] w fun e w' => e = .returned (.int .i64 (bitsV neg ls)) ∧ Below w.heap.size w w' := by
  unfold bitsV
  by_cases h : Ok neg ls
  · rw [if_pos h]; exact wbits_ok neg A ls c w hr hd h
  · rw [if_neg h]; exact wbits_bad neg A ls c w hr hl h
theorem rbitsof_u : Calls Try.prog 20 #[big neg A ls.length c] w fun e w' => e = .returned (.int .i64 (bitsV neg ls)) ∧ Below w.heap.size w w' := by
  unfold bitsV
  by_cases h : Ok neg ls
  · rw [if_pos h]; exact rbitsof_ok neg A ls c w hr hd h
  · rw [if_neg h]; exact rbitsof_bad neg A ls c w hr hl h
end

theorem rsignof_u (neg : Bool) (A : Option Addr) (ls : List Nat) (c : Nat) (w : World) (hr : Sl .u32 w w.heap.size A ls) (hl : ls.length * 4 ≤ 140737488351232) : Calls Try.prog 19 #[big neg A ls.length c] w fun e w' => e = .returned (.int .i64 (sgnV neg ls)) ∧ Below w.heap.size w w' := by
  unfold sgnV
  by_cases h : Ok neg ls
  · rw [if_pos h]; exact rsignof_ok neg A ls c w hr h
  · rw [if_neg h]; exact rsignof_bad neg A ls c w hr hl h
theorem bcell {W w1 : World} (hb : Below W.heap.size W w1) : (∀ b o, b < W.heap.size → w1.cell? ⟨b, o, none⟩ = W.cell? ⟨b, o, none⟩) ∧ (∀ b o, b < W.heap.size → w1.frozen? ⟨b, o, none⟩ = W.frozen? ⟨b, o, none⟩) :=
  ⟨fun b o h => hb.cell (p := ⟨b, o, none⟩) h, fun b o h => hb.frozen (p := ⟨b, o, none⟩) h⟩
end Go.Proofs.Ytdfbakdfakijbaa
