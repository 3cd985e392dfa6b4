/-
  What the document's own Least, one, above, finite return. Conditions: that the numbers are no longer than memory; that the float is a word.
-/
import Derived.Test.YtffjkfjokikhnaaRw0
import Derived.Deep.QuietTactic
import Derived.BigQuiet
namespace Go.Proofs.Ytffjkfjokikhnaa.Rb
open Go.RowKit Nb Fl
theorem sign_zero (n : Bool) (A : Option Addr) (xs : List Nat) (c : Nat) (W : World) (hl : xs.length = 0) :
    Calls Try.prog 56 #[big n A xs.length c] W fun e w' => e = .returned (.int .i64 0) ∧ Below W.heap.size W w' := by
  have := rsign_any n A xs c W (by omega)
  unfold rsgn at this
  rw [if_pos hl] at this
  exact this
theorem sign_some (n : Bool) (A : Option Addr) (xs : List Nat) (c : Nat) (_W : World) (hl : 0 < xs.length) (hm : xs.length * 4 ≤ 140737488351232) :
    ∃ r : Int, r ≠ 0 ∧ r = (if n then -1 else 1) ∧ ∀ W, Calls Try.prog 56 #[big n A xs.length c] W fun e w' => e = .returned (.int .i64 r) ∧ Below W.heap.size W w' := by
  refine ⟨if n then -1 else 1, by cases n <;> simp, rfl, fun W => ?_⟩
  have := rsign_any n A xs c W hm
  unfold rsgn at this
  rw [if_neg (by omega)] at this
  exact this
set_option maxHeartbeats 2000000 in
theorem least_any (n1 n2 : Bool) (A B : Option Addr) (xs ys : List Nat) (c d : Nat) (e f : Int) (w : World) (hx : Sl .u32 w w.heap.size A xs) (hy : Sl .u32 w w.heap.size B ys) (hlx : xs.length * 4 ≤ 140737488351232) (hly : ys.length * 4 ≤ 140737488351232)
    (_he0 : -1000000 ≤ e) (_he1 : e ≤ 1000000) (_hf0 : -1000000 ≤ f) (_hf1 : f ≤ 1000000) :
    Calls Try.prog 48 #[big n1 A xs.length c, .int .i64 e, big n2 B ys.length d, .int .i64 f] w fun r w' => r = .returned (.int .i64 (if xs.length = 0 then f else if ys.length = 0 then e else min e f)) ∧ Below w.heap.size w w' := by
  have ht := (Duo.boxed (n1 := n1) (n2 := n2) (l1 := xs.length) (c := c) (l2 := ys.length) (d := d) hx hy).all
  have HT := Lib.hid ht
  have a0 := ht.1.a0
  have a1 := ht.1.a1
  clear ht hx hy
  by_cases h1 : xs.length = 0
  · rw [if_pos h1]
    have HS : Hid (∀ W : World, Calls Try.prog 56 #[big n1 A xs.length c] W fun e w' => e = .returned (.int .i64 0) ∧ Below W.heap.size W w') := Lib.hid (fun W => sign_zero n1 A xs c W h1)
    clear h1
    go_enter Try.func48, Try.ntmps48
    go_wp2_with fail
    refine (HS.out _).mono ?_
    rintro _ w1 ⟨rfl, hb1⟩
    have hD := Lib.hid (HT.out.1.on hb1)
    clear a0 a1 hb1
    go_wp2
    go_ret
    exact ⟨rfl, hD.out.below⟩
  · rw [if_neg h1]
    obtain ⟨r1, hr1, hq1, hS1⟩ := sign_some n1 A xs c w (by omega) hlx
    clear hq1
    have HS := Lib.hid hS1
    clear hS1
    by_cases h2 : ys.length = 0
    · rw [if_pos h2]
      have HS2 : Hid (∀ W : World, Calls Try.prog 56 #[big n2 B ys.length d] W fun e w' => e = .returned (.int .i64 0) ∧ Below W.heap.size W w') := Lib.hid (fun W => sign_zero n2 B ys d W h2)
      clear h1 h2
      go_enter Try.func48, Try.ntmps48
      go_wp2_with fail
      refine (HS.out _).mono ?_
      rintro _ w1 ⟨rfl, hb1⟩
      have hD := Lib.hid (HT.out.1.on hb1)
      have b0 := hD.out.b0
      have b1 := hD.out.b1
      clear a0 a1 hb1
      go_wp2_with fail
      refine (HS2.out _).mono ?_
      rintro _ w2 ⟨rfl, hb2⟩
      have hD2 := Lib.hid (hD.out.on hb2)
      clear b0 b1 hb2
      go_wp2
      go_ret
      exact ⟨rfl, hD2.out.below⟩
    · rw [if_neg h2]
      obtain ⟨r2, hr2, hq2, hS2⟩ := sign_some n2 B ys d w (by omega) hly
      clear hq2
      have HS2 := Lib.hid hS2
      clear h1 h2 hS2
      go_enter Try.func48, Try.ntmps48
      go_wp2_with fail
      refine (HS.out _).mono ?_
      rintro _ w1 ⟨rfl, hb1⟩
      have hD := Lib.hid (HT.out.1.on hb1)
      have b0 := hD.out.b0
      have b1 := hD.out.b1
      clear a0 a1 hb1
      go_wp2_with fail
      refine (HS2.out _).mono ?_
      rintro _ w2 ⟨rfl, hb2⟩
      have hD2 := Lib.hid (hD.out.on hb2)
      clear b0 b1 hb2
      go_wp2
      all_goals go_ret
      all_goals first | exact ⟨by rw [show min e f = e by omega]; rfl, hD2.out.below⟩ | exact ⟨by rw [show min e f = f by omega]; rfl, hD2.out.below⟩

theorem above_any (v : Nat) (w : World) (hv : v < 18446744073709551615) :
    Calls Try.prog 62 #[.float .f64 v] w fun e w' => e = .returned (.float .f64 (v + 1 : Nat)) ∧ w' = w := by
  have hfb := run_bits
  have hff := run_from
  go_enter Try.func62, Try.ntmps62
  go_wp2
  go_ret
  exact ⟨by first | rfl | (congr 2; omega), rfl⟩

set_option maxHeartbeats 1000000 in
theorem one_any (w : World) :
    Calls Try.prog 52 #[] w fun e w' => ∃ A c, e = .returned (big false A [1].length c) ∧ Bg w' false A [1] c maxLen ∧ Below w.heap.size w w' := by
  have e1 : ofI 1 = [1] := by decide
  have HOF : Hid (∀ W : World, Calls Try.prog 89 #[.int .i64 1] W fun e w' => ∃ A c, e = .returned (big false A [1].length c) ∧ Bg w' false A [1] c maxLen ∧ Below W.heap.size W w') := Lib.hid (fun W => (rof_any 1 W (by decide) (by decide)).mono fun e w' ⟨A, c, h1, h2, h3, h4, h5⟩ => by
    rw [e1] at h1 h2 h3
    exact ⟨A, c, h1, ⟨h2, by intro x hx; simp at hx; subst hx; decide, by have := ofI_norm (n := 1) (by decide) (by decide); rwa [e1] at this, by simp, h3, by unfold maxLen; omega⟩, h5⟩)
  have hr := Rest.new w
  have HR := Lib.hid hr
  clear hr
  go_enter Try.func52, Try.ntmps52
  go_wp2_with fail
  refine (HOF.out _).mono ?_
  rintro e w1 ⟨A, c, rfl, hbg, hb1⟩
  have hr1 := HR.out.on hb1
  have hw1 : Below w.heap.size w w1 := Below.trans (by go_grown) (hb1.mono (by go_size))
  have hL := Lib.hid (hr1.laid hw1 (Nat.le_refl _) hbg)
  have g0 := hr1.r0
  have g1 := hr1.r1
  have g2 := hr1.f0
  have g3 := hr1.f1
  clear hbg hb1 hr1 hw1
  go_wp2
  refine bodyPost_ret (v := big false A [1].length c) (by simp [results, Try.results52, go_sem, g0, g1]) rfl ?_
  exact ⟨A, c, rfl, hL.out.1, hL.out.2⟩
end Go.Proofs.Ytffjkfjokikhnaa.Rb
