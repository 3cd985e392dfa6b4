/-
  Down is not above up, both are the same or beside one another, and the own answer is one of them: of all that round answers (RoundBeside's walk). No conditions.
-/
import Derived.Test.YtghcoijinihlnaaFl5
namespace Go.Proofs.Ytghcoijinihlnaa.Fl
open Go.RowKit Ieee
theorem lohi_cases (own lost : Nat) (hn : mg own ≤ 9218868437227405312) : (lo own lost = own ∧ hi own lost = own) ∨
    ∃ r, r < 9218868437227405312 ∧ (r = mg own ∨ r + 1 = mg own) ∧ lo own lost = double.word (ng own) (r + (ng own).toNat) ∧ hi own lost = double.word (ng own) (r + (!ng own).toNat) := by
  unfold lo hi
  cases h : exactly own lost
  · right
    refine ⟨near own lost, ?_, ?_, rfl, rfl⟩
    · unfold near; split
      · omega
      · split <;> omega
    · unfold near; split
      · omega
      · split
        · left; rfl
        · right; omega
  · left; exact ⟨rfl, rfl⟩
/-- What the statement's own 'beside' asks. -/
def BesOk (d u o : Nat) : Prop := (9218868437227405312 < mg d ∧ 9218868437227405312 < mg u ∧ 9218868437227405312 < mg o) ∨
  (mg d ≤ 9218868437227405312 ∧ mg u ≤ 9218868437227405312 ∧ mg o ≤ 9218868437227405312 ∧ (key o = key d ∨ key o = key u) ∧
    (key d = key u ∨ key d < key u ∧ mg (nextf d true) ≤ 9218868437227405312 ∧ key (nextf d true) = key u ∧ mg (nextf u false) ≤ 9218868437227405312 ∧ key (nextf u false) = key d))
theorem key_word (s : Bool) (k : Nat) (h : k < 9223372036854775808) : key (double.word s k) = if s then -(k : Int) else k := by
  unfold key; rw [(word_mg s k h).1, (word_mg s k h).2]
theorem word_succ (s : Bool) (k : Nat) : double.word s k + 1 = double.word s (k + 1) := by
  unfold Format.word; split <;> rfl
theorem word_pred (s : Bool) (k : Nat) : double.word s (k + 1) - 1 = double.word s k := by
  unfold Format.word; split <;> rfl
theorem word_one : double.word false 1 = 1 := by decide
theorem word_one' : double.word true 1 = 9223372036854775809 := by decide
/-- Which float is beside. -/
theorem nextf_word (s : Bool) (r : Nat) (h : r < 9218868437227405312) : nextf (double.word s r) (!s) = double.word s (r + 1) ∧ nextf (double.word s (r + 1)) s = double.word s r := by
  have a := word_mg s r (by omega)
  have b := word_mg s (r + 1) (by omega)
  constructor
  · unfold nextf
    rw [a.1, a.2, if_neg (by omega), if_neg (by omega)]
    by_cases h0 : r = 0
    · rw [if_pos h0, h0]
      cases s
      · exact word_one.symm
      · exact word_one'.symm
    · rw [if_neg h0, if_pos (by simp), word_succ]
  · unfold nextf
    rw [b.1, b.2, if_neg (by omega), if_neg (by cases s <;> simp), if_neg (by omega), if_neg (by cases s <;> simp), word_pred]
theorem bes_same {o o' : Nat} (h : (mg o ≤ 9218868437227405312 ∧ o' = o) ∨ (9218868437227405312 < mg o ∧ 9218868437227405312 < mg o')) : BesOk o o o' := by
  rcases h with ⟨h, rfl⟩ | ⟨h, h'⟩
  · exact .inr ⟨h, h, h, .inl rfl, .inl rfl⟩
  · exact .inl ⟨h, h, h'⟩
theorem bes_about {o : Nat} (lost : Nat) (ho : o < 18446744073709551616) (h : mg o ≤ 9218868437227405312) : BesOk (lo o lost) (hi o lost) o := by
  rcases lohi_cases o lost h with ⟨e1, e2⟩ | ⟨r, hr, ho2, e1, e2⟩
  · rw [e1, e2]; exact bes_same (.inl ⟨h, rfl⟩)
  · rw [e1, e2]
    have hw := word_of o ho
    obtain ⟨s, hs⟩ : ∃ s, ng o = s := ⟨_, rfl⟩
    rw [hs] at hw ⊢
    have n := nextf_word s r hr
    have a := word_mg s r (by omega)
    have b := word_mg s (r + 1) (by omega)
    have c := key_word s r (by omega)
    have d := key_word s (r + 1) (by omega)
    have ho3 : o = double.word s r ∨ o = double.word s (r + 1) := by
      rcases ho2 with h | h
      · left; rw [h]; exact hw.symm
      · right; rw [h]; exact hw.symm
    cases s
    · simp only [Bool.toNat_false, Bool.not_false, Bool.toNat_true, Nat.add_zero] at *
      refine .inr ⟨by omega, by omega, h, ?_, .inr ⟨?_, ?_, ?_, ?_, ?_⟩⟩
      · rcases ho3 with rfl | rfl
        · left; rfl
        · right; rfl
      · rw [c, d]; simp; omega
      · rw [n.1]; omega
      · rw [n.1]
      · rw [n.2]; omega
      · rw [n.2]
    · simp only [Bool.toNat_false, Bool.not_true, Bool.toNat_true, Nat.add_zero] at *
      refine .inr ⟨by omega, by omega, h, ?_, .inr ⟨?_, ?_, ?_, ?_, ?_⟩⟩
      · rcases ho3 with rfl | rfl
        · right; rfl
        · left; rfl
      · rw [c, d]; simp; omega
      · rw [n.2]; omega
      · rw [n.2]
      · rw [n.1]; omega
      · rw [n.1]
end Go.Proofs.Ytghcoijinihlnaa.Fl
