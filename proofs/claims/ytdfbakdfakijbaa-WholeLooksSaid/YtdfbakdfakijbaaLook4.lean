/-
  What the document's Int64 returns. No conditions but that the lists are lists of limbs.
-/
import Derived.Test.YtdfbakdfakijbaaLook3
namespace Go.Proofs.Ytdfbakdfakijbaa
open Go.RowKit Nb

theorem ret2_int {a b : Int} (h : a = b) : Ending.returned (.tuple #[.int .i64 a, .bool true]) = .returned (.tuple #[.int .i64 b, .bool true]) := by rw [h]

/-- One boxed number, told twice. -/
theorem Two.one {w : World} {n : Bool} {A : Option Addr} {xs : List Nat} {l c : Nat} (hr : Sl .u32 w w.heap.size A xs) :
    Two w (w.alloc (.cells #[.bool n, .slice A l c] 24)) w.heap.size w.heap.size n n A A xs xs l c l c :=
  ⟨by go_grown, by simp, by simp, (hr.alloc (Nat.le_refl _) _).more (by simp), (hr.alloc (Nat.le_refl _) _).more (by simp), by go_cell, by go_cell, by go_cell, by go_cell⟩

set_option maxHeartbeats 4000000 in
theorem rint64_bad (neg : Bool) (A : Option Addr) (ls : List Nat) (c : Nat) (w : World) (hr : Sl .u32 w w.heap.size A ls) (hl : ls.length * 4 ≤ 140737488351232) (ho : ¬ Ok neg ls) :
    Calls Try.prog 17 #[big neg A ls.length c] w fun e w' => e = .returned (.tuple #[.int .i64 0, .bool false]) ∧ Below w.heap.size w w' := by
  have ht := Two.one (n := neg) (l := ls.length) (c := c) hr
  have HT := Lib.hid ht.all
  go_enter Try.func17, Try.ntmps17
  go_wp2_with fail
  generalize w.alloc (.cells #[.bool neg, .slice A ls.length c] 24) = W at *
  have q0 := ht.a0
  have q1 := ht.a1
  go_region_with (go_at_call 18; refine (rcheck_bad neg A ls c _ (by exact (ht.on ((Below.refl _ _).drew)).sa) hl ho).mono ?_; rintro e w1 ⟨rfl, hb1⟩)
  all_goals
    go_wp2
    go_ret2
    exact ⟨rfl, ((ht.on ((Below.refl _ _).drew)).on hb1).below⟩

def minL : List Nat := ofI (-9223372036854775808)
def maxL : List Nat := ofI 9223372036854775807
theorem minL_ok : Ok true minL := by
  have h := ofI_ok (n := -9223372036854775808) (by decide) (by decide)
  rw [show decide ((-9223372036854775808 : Int) < 0) = true from by decide] at h
  exact h
theorem maxL_ok : Ok false maxL := by
  have h := ofI_ok (n := 9223372036854775807) (by decide) (by decide)
  rw [show decide ((9223372036854775807 : Int) < 0) = false from by decide] at h
  exact h
theorem minL_sv : sv true (val W32 minL) = -9223372036854775808 := by rw [minL, ofI_val (by decide) (by decide)]; rfl
theorem maxL_sv : sv false (val W32 maxL) = 9223372036854775807 := by rw [maxL, ofI_val (by decide) (by decide)]; rfl
theorem rof_min (w : World) : Calls Try.prog 6 #[.int .i64 (-9223372036854775808)] w fun e w' => ∃ A c, e = .returned (big true A minL.length c) ∧ Sl .u32 w' w'.heap.size A minL ∧ Below w.heap.size w w' :=
  (rof_any (-9223372036854775808) w (by decide) (by decide)).mono fun e w' ⟨A, c, h1, h2, _, _, h3⟩ => ⟨A, c, h1, h2, h3⟩
theorem rof_max (w : World) : Calls Try.prog 6 #[.int .i64 9223372036854775807] w fun e w' => ∃ A c, e = .returned (big false A maxL.length c) ∧ Sl .u32 w' w'.heap.size A maxL ∧ Below w.heap.size w w' :=
  (rof_any 9223372036854775807 w (by decide) (by decide)).mono fun e w' ⟨A, c, h1, h2, _, _, h3⟩ => ⟨A, c, h1, h2, h3⟩
theorem rCmp_min (r : Int) (neg : Bool) (A B : Option Addr) (ls : List Nat) (c d : Nat) (w : World) (hr : Sl .u32 w w.heap.size A ls) (hs : Sl .u32 w w.heap.size B minL) (hd : Dig W32 ls) (ho : Ok neg ls) (hv : cmpI (sv neg (val W32 ls)) (-9223372036854775808) = r) :
    Calls Try.prog 31 #[big neg A ls.length c, big true B minL.length d] w fun e w' => e = .returned (.int .i64 r) ∧ Below w.heap.size w w' := by
  have h := rCmp_any neg true A B ls minL c d w hr hs hd (ofI_dig _) ho minL_ok
  rw [minL_sv, hv] at h
  exact h
theorem rCmp_max (r : Int) (neg : Bool) (A B : Option Addr) (ls : List Nat) (c d : Nat) (w : World) (hr : Sl .u32 w w.heap.size A ls) (hs : Sl .u32 w w.heap.size B maxL) (hd : Dig W32 ls) (ho : Ok neg ls) (hv : cmpI (sv neg (val W32 ls)) 9223372036854775807 = r) :
    Calls Try.prog 31 #[big neg A ls.length c, big false B maxL.length d] w fun e w' => e = .returned (.int .i64 r) ∧ Below w.heap.size w w' := by
  have h := rCmp_any neg false A B ls maxL c d w hr hs hd (ofI_dig _) ho maxL_ok
  rw [maxL_sv, hv] at h
  exact h

set_option maxHeartbeats 4000000 in
theorem rint64_lo (neg : Bool) (A : Option Addr) (ls : List Nat) (c : Nat) (w : World) (hr : Sl .u32 w w.heap.size A ls) (hd : Dig W32 ls) (ho : Ok neg ls) (hz : sv neg (val W32 ls) < -9223372036854775808) :
    Calls Try.prog 17 #[big neg A ls.length c] w fun e w' => e = .returned (.tuple #[.int .i64 0, .bool false]) ∧ Below w.heap.size w w' := by
  have ht := Two.one (n := neg) (l := ls.length) (c := c) hr
  have R := Lib.hid (cmpI_lt hz)
  have T := Lib.hid (ht.on ((Below.refl _ _).drew))
  clear hz
  have q0 := ht.a0
  have q1 := ht.a1
  go_enter Try.func17, Try.ntmps17
  go_wp2_with fail
  generalize w.alloc (.cells #[.bool neg, .slice A ls.length c] 24) = W at *
  go_region_with (first
    | (go_at_call 18; refine (rcheck_ok neg A ls c _ (by exact T.out.sa) ho).mono ?_; rintro e w1 ⟨rfl, hb1⟩; have T1 := Lib.hid (T.out.on hb1); have p0 := T1.out.a0; have p1 := T1.out.a1)
    | (go_at_call 6; refine (rof_min _).mono ?_; rintro e w2 ⟨B, d, rfl, hsB, hb2⟩; have T2 := Lib.hid (T1.out.on hb2); have r0 := T2.out.a0; have r1 := T2.out.a1; have HSB := Lib.hid hsB; clear hsB)
    | (go_at_call 31; refine (rCmp_min (-1) neg A _ ls c _ _ (by exact T2.out.sa) (by exact HSB.out) hd ho R.out).mono ?_; rintro e w3 ⟨rfl, hb3⟩))
  all_goals
    go_wp2
    go_ret2
    exact ⟨rfl, (T2.out.on hb3).below⟩

set_option maxHeartbeats 8000000 in
theorem rint64_hi (neg : Bool) (A : Option Addr) (ls : List Nat) (c : Nat) (w : World) (hr : Sl .u32 w w.heap.size A ls) (hd : Dig W32 ls) (ho : Ok neg ls) (hz : 9223372036854775807 < sv neg (val W32 ls)) :
    Calls Try.prog 17 #[big neg A ls.length c] w fun e w' => e = .returned (.tuple #[.int .i64 0, .bool false]) ∧ Below w.heap.size w w' := by
  have ht := Two.one (n := neg) (l := ls.length) (c := c) hr
  have R1 := Lib.hid (cmpI_gt (show -9223372036854775808 < sv neg (val W32 ls) by omega))
  have R2 := Lib.hid (cmpI_gt hz)
  have T := Lib.hid (ht.on ((Below.refl _ _).drew))
  clear hz
  have q0 := ht.a0
  have q1 := ht.a1
  go_enter Try.func17, Try.ntmps17
  go_wp2_with fail
  generalize w.alloc (.cells #[.bool neg, .slice A ls.length c] 24) = W at *
  go_region_with (first
    | (go_at_call 18; refine (rcheck_ok neg A ls c _ (by exact T.out.sa) ho).mono ?_; rintro e w1 ⟨rfl, hb1⟩; have T1 := Lib.hid (T.out.on hb1); have p0 := T1.out.a0; have p1 := T1.out.a1)
    | (go_at_call 6; with_reducible refine (rof_min _).mono ?_; rintro e w2 ⟨B, d, rfl, hsB, hb2⟩; have T2 := Lib.hid (T1.out.on hb2); have r0 := T2.out.a0; have r1 := T2.out.a1; have HSB := Lib.hid hsB; clear hsB)
    | (go_at_call 31; with_reducible refine (rCmp_min 1 neg A B ls c d _ (by exact T2.out.sa) (by exact HSB.out) hd ho R1.out).mono ?_; rintro e w3 ⟨rfl, hb3⟩; have T3 := Lib.hid (T2.out.on hb3); have s0 := T3.out.a0; have s1 := T3.out.a1)
    | (go_at_call 6; with_reducible refine (rof_max _).mono ?_; rintro e w4 ⟨C, m, rfl, hsC, hb4⟩; have T4 := Lib.hid (T3.out.on hb4); have v0 := T4.out.a0; have v1 := T4.out.a1; have HSC := Lib.hid hsC; clear hsC)
    | (go_at_call 31; with_reducible refine (rCmp_max 1 neg A C ls c m _ (by exact T4.out.sa) (by exact HSC.out) hd ho R2.out).mono ?_; rintro e w5 ⟨rfl, hb5⟩; have T5 := Lib.hid (T4.out.on hb5); have x0 := T5.out.a0; have x1 := T5.out.a1))
  all_goals
    go_wp2
    go_ret2
    exact ⟨rfl, T5.out.below⟩
end Go.Proofs.Ytdfbakdfakijbaa
