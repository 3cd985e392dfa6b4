/-
  What the functions that compare lists of words return. No conditions but that the lists are lists of words without noughts at the end.
-/
import Derived.Test.YtplgheabhekedaaGreatDoorLow
import Derived.Deep.QuietTactic
import Derived.BigQuiet
import Derived.Deep.LoopGhost
namespace Go.Proofs.YtplgheabhekedaaGreatDoor
open Go.RowKit Nb

def cmpI (x y : Int) : Int := if x < y then -1 else if y < x then 1 else 0
theorem cmpI_lt {x y : Int} (h : x < y) : cmpI x y = -1 := if_pos h
theorem cmpI_gt {x y : Int} (h : y < x) : cmpI x y = 1 := by unfold cmpI; rw [if_neg (by omega), if_pos h]
theorem cmpI_eq {x y : Int} (h : x = y) : cmpI x y = 0 := by unfold cmpI; rw [if_neg (by omega), if_neg (by omega)]

theorem cmpI_ne {x y : Nat} (h : x ≠ y) : (cmpI x y == 0) = false := by
  unfold cmpI; split <;> first | rfl | (split <;> first | rfl | omega)

set_option maxHeartbeats 400000 in
theorem cmp_int (x y : Int) (w : World) :
    Calls Tryz.prog 166 #[.int .i64 x, .int .i64 y] w fun e w' => e = .returned (.int .i64 (cmpI x y)) ∧ w = w' := by
  rcases Int.lt_trichotomy x y with h | h | h
  · have E := Lib.hid (cmpI_lt h)
    go_enter Tryz.func166, Tryz.ntmps166
    go_wp2
    go_ret
    exact ⟨by rw [E.out]; rfl, rfl⟩
  · subst h
    have E := Lib.hid (cmpI_eq (rfl : x = x))
    go_enter Tryz.func166, Tryz.ntmps166
    go_wp2
    go_ret
    exact ⟨by rw [E.out]; rfl, rfl⟩
  · have E := Lib.hid (cmpI_gt h)
    have hn : ¬ x < y := by omega
    go_enter Tryz.func166, Tryz.ntmps166
    go_wp2
    go_ret
    exact ⟨by rw [E.out]; rfl, rfl⟩

set_option maxHeartbeats 400000 in
theorem cmp_u64 (x y : Nat) (w : World) :
    Calls Tryz.prog 167 #[.int .u64 x, .int .u64 y] w fun e w' => e = .returned (.int .i64 (cmpI x y)) ∧ w = w' := by
  rcases Int.lt_trichotomy (x : Int) (y : Int) with h | h | h
  · have E := Lib.hid (cmpI_lt h)
    go_enter Tryz.func167, Tryz.ntmps167
    go_wp2
    go_ret
    exact ⟨by rw [E.out]; rfl, rfl⟩
  · obtain rfl : x = y := by omega
    have E := Lib.hid (cmpI_eq (rfl : (x : Int) = x))
    clear h
    go_enter Tryz.func167, Tryz.ntmps167
    go_wp2
    go_ret
    exact ⟨by rw [E.out]; rfl, rfl⟩
  · have E := Lib.hid (cmpI_gt h)
    have hn : ¬ (x : Int) < y := by omega
    go_enter Tryz.func167, Tryz.ntmps167
    go_wp2
    go_ret
    exact ⟨by rw [E.out]; rfl, rfl⟩

theorem cmp_u64q (x y : Nat) (w : World) :
    Calls Tryz.prog 167 #[.int .u64 x, .int .u64 y] w fun e w' => e = .returned (.int .i64 (cmpI x y)) ∧ w' = w := (cmp_u64 x y w).mono fun _ _ h => ⟨h.1, h.2.symm⟩
abbrev W64 : Nat := 18446744073709551616

set_option maxHeartbeats 400000 in
/-- Lists of unlike lengths: the lengths decide. -/
theorem compare_len (A B : Option Addr) (xs ys : List Nat) (c d : Nat) (w : World) (hl : xs.length * 8 ≤ 140737488351232) (_hk : ys.length * 8 ≤ 140737488351232) (hne : xs.length ≠ ys.length) :
    Calls Tryz.prog 149 #[.slice A xs.length c, .slice B ys.length d] w fun e w' => e = .returned (.int .i64 (cmpI xs.length ys.length)) ∧ w = w' := by
  have hc : (cmpI xs.length ys.length == 0) = false := by
    unfold cmpI; split <;> first | rfl | (split <;> first | rfl | omega)
  go_enter Tryz.func149, Tryz.ntmps149
  go_wp2_with (go_at_call 166; refine (cmp_int _ _ _).mono ?_; rintro e w' ⟨rfl, rfl⟩)
  go_rounds 1
  go_ret
  exact ⟨rfl, rfl⟩

/-- What the lists' values are, the highest unlike digit deciding. -/
theorem cmpI_top {xs ys : List Nat} (hx : Dig W64 xs) (hy : Dig W64 ys) (hl : xs.length = ys.length) {j : Nat} (h1 : j < xs.length) (h2 : j < ys.length) (hd : xs.drop (j + 1) = ys.drop (j + 1)) (hne : xs[j] ≠ ys[j]) :
    cmpI (xs[j] : Nat) (ys[j] : Nat) = cmpI (val W64 xs : Nat) (val W64 ys : Nat) := by
  rcases Nat.lt_or_gt_of_ne hne with h | h
  · rw [cmpI_lt (by omega), cmpI_lt]
    have := val_top hl (k := j + 1) (by omega) hd (cmp_dig hx hy h1 h2 h)
    omega
  · rw [cmpI_gt (by omega), cmpI_gt]
    have := val_top hl.symm (k := j + 1) (by omega) hd.symm (cmp_dig hy hx h2 h1 h)
    omega

set_option maxHeartbeats 400000 in
/-- Lists of one length. -/
theorem compare_same (A B : Option Addr) (xs ys : List Nat) (c d : Nat) (w : World) (hr : Sl .u64 w w.heap.size A xs) (hs : Sl .u64 w w.heap.size B ys) (hx : Dig W64 xs) (hy : Dig W64 ys)
    (hl : xs.length * 8 ≤ 140737488351232) (he : xs.length = ys.length) :
    Calls Tryz.prog 149 #[.slice A xs.length c, .slice B xs.length d] w fun e w' => e = .returned (.int .i64 (cmpI (val W64 xs : Nat) (val W64 ys : Nat))) ∧ Qu w w' := by
  have HE := Lib.hid he; clear he
  have H0 := Lib.hid (cmpI_eq (rfl : (xs.length : Int) = xs.length))
  go_enter Tryz.func149, Tryz.ntmps149
  go_wp2_with (go_at_call 166; refine (cmp_int _ _ _).mono ?_; rw [H0.out]; rintro e w' ⟨rfl, rfl⟩)
  go_loopw [5, 6] (fun cv i wr => ∃ (k : Nat) (z q : Int), k ≤ xs.length ∧ i = .int .i64 q ∧ q + 1 = k ∧ cv = .int .i64 z ∧ (z = 0 ∧ xs.drop k = ys.drop k ∨ (z == 0) = false ∧ z = cmpI (val W64 xs : Nat) (val W64 ys : Nat)) ∧ Qu w wr)
    (fun _ i _ => (intOf i + 1).toNat)
  case atStart => exact ⟨xs.length, 0, xs.length - 1, Nat.le_refl _, rfl, by omega, rfl, .inl ⟨rfl, by rw [List.drop_length, HE.out, List.drop_length]⟩, Qu.refl _⟩
  case round =>
    obtain ⟨k, z, q, hk, rfl, hq, rfl, ⟨rfl, hd⟩ | ⟨hz, hv⟩, hqu⟩ := hrel
    · have HD := Lib.hid hd; clear hd
      rcases k with _ | j
      · obtain rfl : q = -1 := by omega
        clear hq
        go_wp2
        go_ret
        exact ⟨by rw [cmpI_eq (by have := HD.out; simp at this; rw [this])]; rfl, hqu⟩
      · obtain rfl : q = j := by omega
        clear hq
        have hj : j < ys.length := by have := HE.out; omega
        obtain ⟨ad, rfl, hb, hcell⟩ := hr.at_ (i := j) (by omega)
        rw [← hqu.cell] at hcell
        obtain ⟨bd, rfl, hb', hcell'⟩ := hs.at_ (i := j) hj
        rw [← hqu.cell] at hcell'
        by_cases heq : xs[j] = ys[j]
        · have hdj : xs.drop j = ys.drop j := by
            rw [List.drop_eq_getElem_cons (by omega), List.drop_eq_getElem_cons hj, HD.out, heq]
          rw [heq] at hcell
          have HDJ := Lib.hid hdj; clear hdj heq
          have hjx : j < xs.length := by omega
          have hji : (j : Int) < (xs.length : Int) := by omega
          have H1 := Lib.hid (cmpI_eq (rfl : ((ys[j] : Nat) : Int) = ys[j]))
          go_wp2
          go_quiet ((go_at_call 167; exact Calls.quiet_of_same (cmp_u64q _ _ _)))
          go_wp2
          go_roundw
          case rel => exact ⟨j, _, _, by omega, rfl, by omega, rfl, .inl ⟨H1.out, HDJ.out⟩, hqu.drew _⟩
          case measure => simp [intOf]
        · have H1 := Lib.hid (cmpI_top hx hy HE.out (by omega) hj HD.out heq)
          have H2 := Lib.hid (cmpI_ne heq)
          have hjx : j < xs.length := by omega
          have hji : (j : Int) < (xs.length : Int) := by omega
          clear heq
          go_wp2
          go_quiet ((go_at_call 167; exact Calls.quiet_of_same (cmp_u64q _ _ _)))
          go_wp2
          go_roundw
          case rel => exact ⟨j, _, _, by omega, rfl, by omega, rfl, .inr ⟨H2.out, H1.out⟩, hqu.drew _⟩
          case measure => simp [intOf]
    · have HV := Lib.hid hv; clear hv
      go_wp2
      go_ret
      exact ⟨by rw [← HV.out]; rfl, hqu⟩

/-- Lists without noughts at the end: what they are worth decides. -/
theorem compare_any (A B : Option Addr) (xs ys : List Nat) (c d : Nat) (w : World) (hr : Sl .u64 w w.heap.size A xs) (hs : Sl .u64 w w.heap.size B ys) (hx : Dig W64 xs) (hy : Dig W64 ys) (nx : Norm xs) (ny : Norm ys)
    (hl : xs.length * 8 ≤ 140737488351232) (hk : ys.length * 8 ≤ 140737488351232) :
    Calls Tryz.prog 149 #[.slice A xs.length c, .slice B ys.length d] w fun e w' => e = .returned (.int .i64 (cmpI (val W64 xs : Nat) (val W64 ys : Nat))) ∧ Qu w w' := by
  by_cases he : xs.length = ys.length
  · have h := compare_same A B xs ys c d w hr hs hx hy hl he
    rw [← he]
    exact h
  · refine (compare_len A B xs ys c d w hl hk he).mono fun e w' ⟨h1, h2⟩ => ⟨?_, h2 ▸ Qu.refl _⟩
    rw [h1]
    rcases Nat.lt_or_gt_of_ne he with h | h
    · have := cmp_len (B := W64) (by decide) hx ny h
      rw [cmpI_lt (by omega), cmpI_lt (by omega)]
    · have := cmp_len (B := W64) (by decide) hy nx h
      rw [cmpI_gt (by omega), cmpI_gt (by omega)]
end Go.Proofs.YtplgheabhekedaaGreatDoor
