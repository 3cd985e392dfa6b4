/-
  What the functions that look at lists of words return: how long, which is greater. No conditions but that the lists are lists of words.
-/
import Derived.Test.YtplgheabhekedaaGreatDoorLow
namespace Go.Proofs.YtplgheabhekedaaGreatDoor
open Go.RowKit Nb

set_option maxHeartbeats 400000 in
theorem length_any (A : Option Addr) (ls : List Nat) (c : Nat) (w : World) (hr : Sl .u64 w w.heap.size A ls) (hd : Dig 18446744073709551616 ls) (hl : ls.length * 8 ≤ 140737488351232) :
    Calls Tryz.prog 186 #[.slice A ls.length c] w fun e w' => e = .returned (.int .i64 (lenL ls)) ∧ w = w' := by
  rcases hn : ls.length with _ | j
  · have e : lenL ls = 0 := by unfold lenL; rw [dif_pos hn]
    have HN := Lib.hid hn; clear hn
    have HE := Lib.hid e; clear e
    go_enter Tryz.func186, Tryz.ntmps186
    go_wp2
    go_ret
    exact ⟨by rw [HE.out]; rfl, rfl⟩
  · obtain ⟨ad, rfl, hb, hcell⟩ := hr.at_ (i := j) (by omega)
    have e := lenL_pos hn
    have hbd : ls[j] < 18446744073709551616 := hd.get (by omega)
    have hb64 := bitLen_le64 _ hbd
    have hx := len64_any ls[j] w hbd
    have hj : j * 8 ≤ 140737488351232 := by omega
    generalize ls[j] = x at *
    have HB := Lib.hid hbd; clear hbd
    have HX := Lib.hid hx; clear hx
    have HN := Lib.hid hn; clear hn
    have HE := Lib.hid e; clear e hl hd
    go_enter Tryz.func186, Tryz.ntmps186
    go_wp2_with (go_at_call 195; refine (HX.out).mono ?_; rintro e w' ⟨rfl, rfl⟩)
    go_ret
    exact ⟨by rw [HE.out]; simp, rfl⟩
end Go.Proofs.YtplgheabhekedaaGreatDoor
