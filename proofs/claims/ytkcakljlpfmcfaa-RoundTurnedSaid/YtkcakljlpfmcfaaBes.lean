/-
  Down is not above up, both are the same or beside one another, and the own answer is one of them: of all that round answers (RoundBeside's walk). No conditions.
-/
import Derived.Test.YtkcakljlpfmcfaaFl5
namespace Go.Proofs.Ytkcakljlpfmcfaa.Fl
open Go.RowKit Ieee

theorem lohi_cases (own lost : Nat) (hn : mg own ≤ 9218868437227405312) : (lo own lost = own ∧ hi own lost = own) ∨
    ∃ r, r < 9218868437227405312 ∧ (r = mg own ∨ r + 1 = mg own) ∧ lo own lost = double.word (ng own) (r + (ng own).toNat) ∧ hi own lost = double.word (ng own) (r + (!ng own).toNat) := by
  unfold lo hi
  cases h : exactly own lost
  · right
    refine ⟨near own lost, ?_, ?_, rfl, rfl⟩
    · unfold near; split
      · omega
      · split <;> omega
    · unfold near; split
      · omega
      · split
        · left; rfl
        · right; omega
  · left; exact ⟨rfl, rfl⟩

/-- What the statement's own 'beside' asks. -/
def BesOk (d u o : Nat) : Prop := (9218868437227405312 < mg d ∧ 9218868437227405312 < mg u ∧ 9218868437227405312 < mg o) ∨
  (mg d ≤ 9218868437227405312 ∧ mg u ≤ 9218868437227405312 ∧ mg o ≤ 9218868437227405312 ∧ (key o = key d ∨ key o = key u) ∧
    (key d = key u ∨ key d < key u ∧ mg (nextf d true) ≤ 9218868437227405312 ∧ key (nextf d true) = key u ∧ mg (nextf u false) ≤ 9218868437227405312 ∧ key (nextf u false) = key d))

theorem key_word (s : Bool) (k : Nat) (h : k < 9223372036854775808) : key (double.word s k) = if s then -(k : Int) else k := by
  unfold key; rw [(word_mg s k h).1, (word_mg s k h).2]
theorem word_succ (s : Bool) (k : Nat) : double.word s k + 1 = double.word s (k + 1) := by
  unfold Format.word; split <;> rfl
theorem word_pred (s : Bool) (k : Nat) : double.word s (k + 1) - 1 = double.word s k := by
  unfold Format.word; split <;> rfl
theorem word_one : double.word false 1 = 1 := by decide
theorem word_one' : double.word true 1 = 9223372036854775809 := by decide
/-- Which float is beside. -/
theorem nextf_word (s : Bool) (r : Nat) (h : r < 9218868437227405312) : nextf (double.word s r) (!s) = double.word s (r + 1) ∧ nextf (double.word s (r + 1)) s = double.word s r := by
  have a := word_mg s r (by omega)
  have b := word_mg s (r + 1) (by omega)
  constructor
  · unfold nextf
    rw [a.1, a.2, if_neg (by omega), if_neg (by omega)]
    by_cases h0 : r = 0
    · rw [if_pos h0, h0]
      cases s
      · exact word_one.symm
      · exact word_one'.symm
    · rw [if_neg h0, if_pos (by simp), word_succ]
  · unfold nextf
    rw [b.1, b.2, if_neg (by omega), if_neg (by cases s <;> simp), if_neg (by omega), if_neg (by cases s <;> simp), word_pred]
theorem bes_same {o o' : Nat} (h : (mg o ≤ 9218868437227405312 ∧ o' = o) ∨ (9218868437227405312 < mg o ∧ 9218868437227405312 < mg o')) : BesOk o o o' := by
  rcases h with ⟨h, rfl⟩ | ⟨h, h'⟩
  · exact .inr ⟨h, h, h, .inl rfl, .inl rfl⟩
  · exact .inl ⟨h, h, h'⟩
theorem bes_about {o : Nat} (lost : Nat) (ho : o < 18446744073709551616) (h : mg o ≤ 9218868437227405312) : BesOk (lo o lost) (hi o lost) o := by
  rcases lohi_cases o lost h with ⟨e1, e2⟩ | ⟨r, hr, ho2, e1, e2⟩
  · rw [e1, e2]; exact bes_same (.inl ⟨h, rfl⟩)
  · rw [e1, e2]
    have hw := word_of o ho
    obtain ⟨s, hs⟩ : ∃ s, ng o = s := ⟨_, rfl⟩
    rw [hs] at hw ⊢
    have n := nextf_word s r hr
    have a := word_mg s r (by omega)
    have b := word_mg s (r + 1) (by omega)
    have c := key_word s r (by omega)
    have d := key_word s (r + 1) (by omega)
    have ho3 : o = double.word s r ∨ o = double.word s (r + 1) := by
      rcases ho2 with h | h
      · left; rw [h]; exact hw.symm
      · right; rw [h]; exact hw.symm
    cases s
    · simp only [Bool.toNat_false, Bool.not_false, Bool.toNat_true, Nat.add_zero] at *
      refine .inr ⟨by omega, by omega, h, ?_, .inr ⟨?_, ?_, ?_, ?_, ?_⟩⟩
      · rcases ho3 with rfl | rfl
        · left; rfl
        · right; rfl
      · rw [c, d]; simp; omega
      · rw [n.1]; omega
      · rw [n.1]
      · rw [n.2]; omega
      · rw [n.2]
    · simp only [Bool.toNat_false, Bool.not_true, Bool.toNat_true, Nat.add_zero] at *
      refine .inr ⟨by omega, by omega, h, ?_, .inr ⟨?_, ?_, ?_, ?_, ?_⟩⟩
      · rcases ho3 with rfl | rfl
        · right; rfl
        · left; rfl
      · rw [c, d]; simp; omega
      · rw [n.2]; omega
      · rw [n.2]
      · rw [n.1]; omega
      · rw [n.1]

set_option maxHeartbeats 4000000 in
theorem beside_any (d u o : Nat) (w : World) (h : BesOk d u o) (hd : d < 18446744073709551616) (hu : u < 18446744073709551616) : Calls Try.prog 25 #[.float .f64 d, .float .f64 u, .float .f64 o] w fun e w' => e = .returned (.bool true) ∧ w' = w := by
  have HD := Lib.hid (fun W => isNaN_any d W)
  have HU := Lib.hid (fun W => isNaN_any u W)
  have HO := Lib.hid (fun W => isNaN_any o W)
  have HX := Lib.hid (fun W => next_any d true W hd)
  have HY := Lib.hid (fun W => next_any u false W hu)
  clear hd hu
  rcases h with ⟨h1, h2, h3⟩ | ⟨h1, h2, h3, h4, h5⟩
  · rw [decide_eq_true h1] at HD
    rw [decide_eq_true h2] at HU
    rw [decide_eq_true h3] at HO
    clear h1 h2 h3
    go_enter Try.func25, Try.ntmps25
    go_wp2_with (go_at_call 47; first | (with_reducible refine (HO.out _).mono ?_; rintro e w' ⟨rfl, rfl⟩) | (with_reducible refine (HD.out _).mono ?_; rintro e w' ⟨rfl, rfl⟩) | (with_reducible refine (HU.out _).mono ?_; rintro e w' ⟨rfl, rfl⟩))
    go_ret; exact ⟨rfl, rfl⟩
  · rw [decide_eq_false (by omega)] at HD
    rw [decide_eq_false (by omega)] at HU
    rw [decide_eq_false (by omega)] at HO
    have e1 := ord_eq o d
    have e2 := ord_eq o u
    have e3 := ord_eq d u
    rcases h5 with h5 | ⟨h5, h6, h7, h8, h9⟩
    · rw [decide_eq_true ⟨h1, h2, h5⟩] at e3
      rw [decide_eq_true ⟨h3, h1, by omega⟩] at e1
      clear h1 h2 h3 h4 h5 e2 HX HY
      go_enter Try.func25, Try.ntmps25
      go_wp2_with (go_at_call 47; first | (with_reducible refine (HO.out _).mono ?_; rintro e w' ⟨rfl, rfl⟩) | (with_reducible refine (HD.out _).mono ?_; rintro e w' ⟨rfl, rfl⟩) | (with_reducible refine (HU.out _).mono ?_; rintro e w' ⟨rfl, rfl⟩))
      go_ret; exact ⟨rfl, rfl⟩
    · have e4 := ord_lt d u
      have e5 := ord_eq (nextf d true) u
      have e6 := ord_eq (nextf u false) d
      rw [decide_eq_true ⟨h1, h2, h5⟩] at e4
      rw [decide_eq_true ⟨h6, h2, h7⟩] at e5
      rw [decide_eq_true ⟨h8, h1, h9⟩] at e6
      rw [decide_eq_false (by omega)] at e3
      obtain ⟨p, hp⟩ : ∃ p, decide (mg o ≤ 9218868437227405312 ∧ mg d ≤ 9218868437227405312 ∧ key o = key d) = p := ⟨_, rfl⟩
      rw [hp] at e1
      have hpq : p = false → (FloatKind.f64.format.order o u == some .eq) = true := fun h => by
        rw [e2]; refine decide_eq_true ⟨h3, h2, ?_⟩
        rcases h4 with h4 | h4
        · rw [h] at hp; exact absurd ⟨h3, h1, h4⟩ (of_decide_eq_false hp)
        · exact h4
      obtain ⟨x, hx⟩ : ∃ x, nextf d true = x := ⟨_, rfl⟩
      obtain ⟨y, hy⟩ : ∃ y, nextf u false = y := ⟨_, rfl⟩
      rw [hx] at HX e5
      rw [hy] at HY e6
      clear h1 h2 h3 h4 h5 h6 h7 h8 h9 hp hx hy e2
      cases p
      · have e2 := hpq rfl
        clear hpq
        go_enter Try.func25, Try.ntmps25
        go_wp2_with (first | (go_at_call 47; first | (with_reducible refine (HO.out _).mono ?_; rintro e w' ⟨rfl, rfl⟩) | (with_reducible refine (HD.out _).mono ?_; rintro e w' ⟨rfl, rfl⟩) | (with_reducible refine (HU.out _).mono ?_; rintro e w' ⟨rfl, rfl⟩)) | (go_at_call 20; first | (with_reducible refine (HX.out _).mono ?_; rintro e w' ⟨rfl, rfl⟩) | (with_reducible refine (HY.out _).mono ?_; rintro e w' ⟨rfl, rfl⟩)))
        go_ret; exact ⟨rfl, rfl⟩
      · clear hpq
        go_enter Try.func25, Try.ntmps25
        go_wp2_with (first | (go_at_call 47; first | (with_reducible refine (HO.out _).mono ?_; rintro e w' ⟨rfl, rfl⟩) | (with_reducible refine (HD.out _).mono ?_; rintro e w' ⟨rfl, rfl⟩) | (with_reducible refine (HU.out _).mono ?_; rintro e w' ⟨rfl, rfl⟩)) | (go_at_call 20; first | (with_reducible refine (HX.out _).mono ?_; rintro e w' ⟨rfl, rfl⟩) | (with_reducible refine (HY.out _).mono ?_; rintro e w' ⟨rfl, rfl⟩)))
        go_ret; exact ⟨rfl, rfl⟩
end Go.Proofs.Ytkcakljlpfmcfaa.Fl
