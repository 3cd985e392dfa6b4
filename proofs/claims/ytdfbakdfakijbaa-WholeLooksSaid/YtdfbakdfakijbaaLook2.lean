/-
  What whole.Cmp returns. No conditions but that the lists are lists of limbs.
-/
import Derived.Test.YtdfbakdfakijbaaLook1
import Derived.Deep.RegionWith
namespace Go.Proofs.Ytdfbakdfakijbaa
open Go.RowKit Nb

/-- Two boxed numbers in words. -/
theorem lboxed {w : World} {n1 n2 : Bool} {A B : Option Addr} {xs ys : List Nat} {c d : Nat} (hr : Sl .u64 w w.heap.size A xs) (hs : Sl .u64 w w.heap.size B ys) (W : World)
    (hW : W = (w.alloc (.cells #[.bool n1, .slice A xs.length c] 38)).alloc (.cells #[.bool n2, .slice B ys.length d] 38)) :
    Below w.heap.size w W ∧ Sl .u64 W W.heap.size A xs ∧ Sl .u64 W W.heap.size B ys := by
  subst hW
  exact ⟨by go_grown, (((hr.alloc (Nat.le_refl _) _).alloc (by go_size) _).more (by go_size)), (((hs.alloc (Nat.le_refl _) _).alloc (by go_size) _).more (by go_size))⟩

set_option maxHeartbeats 1000000 in
theorem lcmp_any (n1 n2 : Bool) (A B : Option Addr) (xs ys : List Nat) (c d : Nat) (w : World) (hr : Sl .u64 w w.heap.size A xs) (hs : Sl .u64 w w.heap.size B ys) (hx : Dig W64 xs) (hy : Dig W64 ys) (nx : Norm xs) (ny : Norm ys)
    (hl : xs.length * 8 ≤ 140737488351232) (hk : ys.length * 8 ≤ 140737488351232) (p1 : n1 = true → 0 < val W64 xs) (p2 : n2 = true → 0 < val W64 ys) :
    Calls Try.prog 33 #[big n1 A xs.length c, big n2 B ys.length d] w fun e w' => e = .returned (.int .i64 (cmpI (sv n1 (val W64 xs)) (sv n2 (val W64 ys)))) ∧ Below w.heap.size w w' := by
  obtain ⟨hb, sx, sy⟩ := lboxed (n1 := n1) (n2 := n2) (c := c) (d := d) hr hs _ rfl
  rcases n1 with _ | _ <;> rcases n2 with _ | _
  · have C := Lib.hid (compare_any A B xs ys c d _ sx sy hx hy nx ny hl hk)
    clear hr hs sx sy p1 p2
    go_enter Try.func33, Try.ntmps33
    go_wp2_with fail
    refine (C.out).mono ?_
    rintro e w1 ⟨rfl, hq⟩
    go_wp2
    go_ret
    exact ⟨rfl, hb.trans (hq.below _)⟩
  · have e : cmpI (sv false (val W64 xs)) (sv true (val W64 ys)) = 1 := cmpI_gt (by have := p2 rfl; simp [sv]; omega)
    have E := Lib.hid e
    clear hr hs sx sy p1 p2 e
    go_enter Try.func33, Try.ntmps33
    go_wp2
    go_ret
    exact ⟨by rw [E.out]; rfl, hb⟩
  · have e : cmpI (sv true (val W64 xs)) (sv false (val W64 ys)) = -1 := cmpI_lt (by have := p1 rfl; simp [sv]; omega)
    have E := Lib.hid e
    clear hr hs sx sy p1 p2 e
    go_enter Try.func33, Try.ntmps33
    go_wp2
    go_ret
    exact ⟨by rw [E.out]; rfl, hb⟩
  · have e : cmpI (sv true (val W64 xs)) (sv true (val W64 ys)) = cmpI (val W64 ys : Nat) (val W64 xs : Nat) := cmpI_swap _ _
    have E := Lib.hid e
    have C := Lib.hid (compare_any B A ys xs d c _ sy sx hy hx ny nx hk hl)
    clear hr hs sx sy p1 p2 e
    go_enter Try.func33, Try.ntmps33
    go_wp2_with fail
    refine (C.out).mono ?_
    rintro e w1 ⟨rfl, hq⟩
    go_wp2
    go_ret
    exact ⟨by rw [E.out]; rfl, hb.trans (hq.below _)⟩

/-- What Check says, as a number. -/
noncomputable def chkV (neg : Bool) (ls : List Nat) : Int := open Classical in if Ok neg ls then 0 else 1
theorem chkV_ok {neg : Bool} {ls : List Nat} (h : Ok neg ls) : chkV neg ls = 0 := if_pos h
theorem chkV_bad {neg : Bool} {ls : List Nat} (h : ¬ Ok neg ls) : chkV neg ls = 1 := if_neg h
theorem check_u (neg : Bool) (A : Option Addr) (ls : List Nat) (c : Nat) (w : World) (hr : Sl .u32 w w.heap.size A ls) (hl : ls.length * 4 ≤ 140737488351232) :
    Calls Try.prog 9 #[big neg A ls.length c] w fun e w' => e = .returned (.int .i64 (chkV neg ls)) ∧ Below w.heap.size w w' := by
  by_cases h : Ok neg ls
  · rw [chkV_ok h]; exact check_ok neg A ls c w hr h
  · rw [chkV_bad h]; exact check_bad neg A ls c w hr hl h
theorem rcheck_u (neg : Bool) (A : Option Addr) (ls : List Nat) (c : Nat) (w : World) (hr : Sl .u32 w w.heap.size A ls) (hl : ls.length * 4 ≤ 140737488351232) :
    Calls Try.prog 18 #[big neg A ls.length c] w fun e w' => e = .returned (.int .i64 (chkV neg ls)) ∧ Below w.heap.size w w' := by
  by_cases h : Ok neg ls
  · rw [chkV_ok h]; exact rcheck_ok neg A ls c w hr h
  · rw [chkV_bad h]; exact rcheck_bad neg A ls c w hr hl h

set_option maxHeartbeats 1000000 in
/-- The gate, of two numbers in a list. -/
theorem check_two (g : Nat) (n1 n2 : Bool) (A B : Option Addr) (xs ys : List Nat) (l c d : Nat) (w : World) (hr : Sl .u32 w w.heap.size A xs) (hs : Sl .u32 w w.heap.size B ys) (hg : g < w.heap.size)
    (hl : xs.length * 4 ≤ 140737488351232) (hk : ys.length * 4 ≤ 140737488351232)
    (c0 : w.cell? ⟨g, 0, none⟩ = some (.bool n1)) (c1 : w.cell? ⟨g, 1, none⟩ = some (.slice A xs.length c)) (c2 : w.cell? ⟨g, 2, none⟩ = some (.bool n2)) (c3 : w.cell? ⟨g, 3, none⟩ = some (.slice B ys.length d)) :
    Calls Try.prog 32 #[.slice (some ⟨g, 0, none⟩) 2 l] w fun e w' => e = .returned (.int .i64 (if chkV n1 xs = 0 then chkV n2 ys else 1)) ∧ Below w.heap.size w w' := by
  have k1 : chkV n1 xs = 0 ∨ chkV n1 xs = 1 := by by_cases h : Ok n1 xs; exact .inl (chkV_ok h); exact .inr (chkV_bad h)
  have k2 : chkV n2 ys = 0 ∨ chkV n2 ys = 1 := by by_cases h : Ok n2 ys; exact .inl (chkV_ok h); exact .inr (chkV_bad h)
  have C1 := Lib.hid (fun W h => check_u n1 A xs c W h hl)
  have C2 := Lib.hid (fun W h => check_u n2 B ys d W h hk)
  generalize chkV n1 xs = a at *
  generalize chkV n2 ys = b at *
  go_enter Try.func32, Try.ntmps32
  go_wp2
  refine wp_loop_rounds 3 ?_
  rw [rounds_succ]
  go_wp2_with fail
  have s1 : Sl .u32 (w.alloc (.cells #[.bool n1, .slice A xs.length c] 24)) (w.alloc (.cells #[.bool n1, .slice A xs.length c] 24)).heap.size A xs := (hr.alloc (Nat.le_refl _) _).more (by simp)
  refine (C1.out _ s1).mono ?_
  rintro e w1 ⟨rfl, hb1⟩
  have hbw : Below w.heap.size w w1 := by refine Below.trans ?_ (hb1.mono (by go_size)); go_grown
  have hz1 : w.heap.size < w1.heap.size := by have := hb1.size; simp at this; omega
  have d2 := (hbw.cell (p := ⟨g, 2, none⟩) hg).trans c2
  have d3 := (hbw.cell (p := ⟨g, 3, none⟩) hg).trans c3
  rcases k1 with rfl | rfl
  · go_wp2
    rw [rounds_succ]
    go_wp2_with fail
    have s2 : Sl .u32 (w1.alloc (.cells #[.bool n2, .slice B ys.length d] 24)) (w1.alloc (.cells #[.bool n2, .slice B ys.length d] 24)).heap.size B ys := (((hs.below hbw).more hbw.size).alloc (Nat.le_refl _) _).more (by simp)
    refine (C2.out _ s2).mono ?_
    rintro e w2 ⟨rfl, hb2⟩
    have hbw2 : Below w1.heap.size w1 w2 := by refine Below.trans ?_ (hb2.mono (by go_size)); go_grown
    rcases k2 with rfl | rfl
    · go_wp2
      rw [rounds_succ]
      go_wp2
      go_ret
      exact ⟨rfl, hbw.trans (hbw2.mono hbw.size)⟩
    · go_wp2
      go_ret
      exact ⟨rfl, hbw.trans (hbw2.mono hbw.size)⟩
  · go_wp2
    go_ret
    exact ⟨rfl, hbw⟩
end Go.Proofs.Ytdfbakdfakijbaa
