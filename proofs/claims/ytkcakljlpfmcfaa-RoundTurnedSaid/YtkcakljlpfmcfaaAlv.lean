/-
  The statements' fixed examples of round are as the document has them. No conditions.
-/
import Derived.Test.YtkcakljlpfmcfaaBes
namespace Go.Proofs.Ytkcakljlpfmcfaa.Fl
open Go.RowKit Ieee

theorem pl_1 : Pl 4607182418800017408 := by unfold Pl; decide
theorem pl_3 : Pl 4613937818241073152 := by unfold Pl; decide
theorem pl_4 : Pl 4616189618054758400 := by unfold Pl; decide
theorem div_13 : double.div 4607182418800017408 4613937818241073152 = some 4599676419421066581 := by decide +kernel
theorem left_13 : LeftIs 4599676419421066581 4613937818241073152 4607182418800017408 4363988038922010624 := ⟨4599676419421066581, 4607182418800017408, by rw [show lsmall 4607182418800017408 = false by decide +kernel]; exact ⟨rfl, rfl⟩, by decide +kernel⟩
theorem lohi_13 : lo 4599676419421066581 4363988038922010624 = 4599676419421066581 ∧ hi 4599676419421066581 4363988038922010624 = 4599676419421066582 := by decide +kernel
theorem add_1 : double.add 4607182418800017408 4363988038922010624 = some 4607182418800017408 := by decide +kernel
theorem two_1 {l : Nat} (h : TwoIs 4607182418800017408 4363988038922010624 4607182418800017408 l) : l = 4363988038922010624 := by
  rcases h with ⟨h, _⟩ | ⟨_, z, y, h, h3⟩
  · exact absurd h (by decide)
  · rw [show (FloatKind.f64.format.order (mg 4607182418800017408) (mg 4363988038922010624) == some .lt) = false by decide +kernel] at h
    obtain ⟨h1, h2⟩ := h
    have e1 : double.sub 4607182418800017408 4607182418800017408 = some 0 := by decide +kernel
    rw [e1] at h1; cases h1
    have e2 : double.sub 4363988038922010624 0 = some 4363988038922010624 := by decide +kernel
    rw [e2] at h2; cases h2
    have e3 : double.add 4363988038922010624 0 = some 4363988038922010624 := by decide +kernel
    rw [e3] at h3; cases h3; rfl
theorem sqrt_4 : double.sqrt 4616189618054758400 = some 4611686018427387904 := by decide +kernel
theorem left_4 : LeftIs 4611686018427387904 4611686018427387904 4616189618054758400 0 := ⟨4611686018427387904, 4616189618054758400, by rw [show lsmall 4616189618054758400 = false by decide +kernel]; exact ⟨rfl, rfl⟩, by decide +kernel⟩
theorem lohi_4 : lo 4611686018427387904 0 = 4611686018427387904 ∧ hi 4611686018427387904 0 = 4611686018427387904 := by decide +kernel

set_option maxHeartbeats 1000000 in
theorem alive_any (w : World) : Calls Try.prog 24 #[] w fun e w' => e = .returned (.bool true) ∧ Below w.heap.size w w' := by
  have HQ : Hid (∀ W, Calls Try.prog 16 #[.float .f64 4607182418800017408, .float .f64 4613937818241073152] W fun e w' => e = .returned (.tuple #[.float .f64 4599676419421066581, .float .f64 4599676419421066582]) ∧ Below W.heap.size W w') := Lib.hid fun W =>
    (quo_any _ _ W (by decide) (by decide)).mono fun e w' ⟨d, u, he, hb, h⟩ => by
      rw [(fop_some (op := .quo) div_13 W).1] at h
      rcases h with ⟨h, _⟩ | ⟨_, _, l, ⟨k, hk, hk2⟩, hd, hu⟩
      · exact absurd ⟨pl_1, pl_3⟩ h
      · have := hk2 _ left_13
        subst this
        rw [show ng 4613937818241073152 = false by decide] at hk
        simp only [Bool.false_eq_true, if_false] at hk
        subst hk
        rw [he, hd, hu, lohi_13.1, lohi_13.2]; exact ⟨rfl, hb⟩
  have HT : Hid (∀ W, Calls Try.prog 22 #[.float .f64 4607182418800017408, .float .f64 4363988038922010624] W fun e w' => e = .returned (.tuple #[.float .f64 4607182418800017408, .float .f64 4363988038922010624]) ∧ Below W.heap.size W w') := Lib.hid fun W =>
    (two_any _ _ W (by decide) (by decide)).mono fun e w' ⟨l, he, hb, h⟩ => by
      rw [(add_fop add_1 W).1] at h he
      rw [he, two_1 h, hb]; exact ⟨rfl, below_dn (below_self _ _) _⟩
  have HS : Hid (∀ W, Calls Try.prog 18 #[.float .f64 4616189618054758400] W fun e w' => e = .returned (.tuple #[.float .f64 4611686018427387904, .float .f64 4611686018427387904]) ∧ Below W.heap.size W w') := Lib.hid fun W =>
    (sqrtd_any _ W (by decide)).mono fun e w' ⟨d, u, he, hb, h⟩ => by
      have e1 : sqw 4616189618054758400 W = 4611686018427387904 := by unfold sqw; rw [sqrt_4]; rfl
      rw [e1] at h
      rcases h with ⟨h, _⟩ | ⟨_, _, l, hl, hd, hu⟩
      · exact absurd ⟨pl_4, by decide⟩ h
      · have := hl _ left_4
        subst this
        rw [he, hd, hu, lohi_4.1, lohi_4.2]; exact ⟨rfl, hb⟩
  have hfb := run_bits
  have o1 : (FloatKind.f64.format.order 4607182418800017408 4607182418800017408 == some .eq) = true := by decide +kernel
  have o2 : (FloatKind.f64.format.order 4363988038922010624 4363988038922010624 == some .eq) = true := by decide +kernel
  have o3 : (FloatKind.f64.format.order 4611686018427387904 4611686018427387904 == some .eq) = true := by decide +kernel
  go_enter Try.func24, Try.ntmps24
  go_wp2_with fail
  refine (HQ.out _).mono ?_
  rintro e w1 ⟨rfl, hb1⟩
  go_wp2_with fail
  refine (HT.out _).mono ?_
  rintro e w2 ⟨rfl, hb2⟩
  go_wp2_with fail
  refine (HS.out _).mono ?_
  rintro e w3 ⟨rfl, hb3⟩
  have hb : Below w.heap.size w w3 := (hb1.trans (hb2.mono hb1.size)).trans (hb3.mono (Nat.le_trans hb1.size hb2.size))
  clear hb1 hb2 hb3
  go_wp2
  go_ret
  exact ⟨rfl, hb⟩
end Go.Proofs.Ytkcakljlpfmcfaa.Fl
