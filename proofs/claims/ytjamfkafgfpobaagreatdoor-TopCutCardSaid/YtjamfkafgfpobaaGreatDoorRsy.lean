/-
  Rays that are the same. Conditions: as each theorem states.
-/
import Derived.Test.YtjamfkafgfpobaaGreatDoorRgt
import Derived.Test.YtjamfkafgfpobaaGreatDoorRlb
import Derived.Deep.RegionHeld3
import Derived.Deep.DeepCutAuto
import Derived.BigRegion
namespace Go.Proofs.YtjamfkafgfpobaaGreatDoor
open Go.RowKit Nb
set_option maxHeartbeats 8000000 in
set_option maxRecDepth 20000 in
theorem y_sameY {q : Yq} {m n : Yv} {w : World} (Fa : Fy w q m) (Fb : Fy w q n) :
    Calls Tryz.prog 17 #[yv m, yv n] w (fun e w' => e = .returned (.bool true) ∧ Below w.heap.size w w') := by
 have BW : Below w.heap.size w w := Below.refl _ _
 obtain ⟨V2, e3, hb4, K5, -, z1⟩ := alloc_new w [.bool m.Y.n, .slice m.Y.A m.Y.xs.length m.Y.c, .bool m.Y.m, .slice m.Y.B m.Y.ds.length m.Y.d, .bool m.U.n, .slice m.U.A m.U.xs.length m.U.c, .bool m.U.m, .slice m.U.B m.U.ds.length m.U.d] 29
 replace K5 : Box V2 (w.heap.size) (ycs m) := K5
 replace Fa := Fa.kp (Kept.of hb4)
 replace Fb := Fb.kp (Kept.of hb4)
 replace BW := BW.trans (hb4.mono BW.size)
 clear hb4
 obtain ⟨V6, e7, hb8, K9, -, -⟩ := alloc_new V2 [.bool n.Y.n, .slice n.Y.A n.Y.xs.length n.Y.c, .bool n.Y.m, .slice n.Y.B n.Y.ds.length n.Y.d, .bool n.U.n, .slice n.U.A n.U.xs.length n.U.c, .bool n.U.m, .slice n.U.B n.U.ds.length n.U.d] 29
 rw [z1] at K9
 replace K9 : Box V6 (w.heap.size + 1) (ycs n) := K9
 replace K5 := K5.on hb8
 replace Fa := Fa.kp (Kept.of hb8)
 replace Fb := Fb.kp (Kept.of hb8)
 replace BW := BW.trans (hb8.mono BW.size)
 clear hb8
 clear z1
 go_enter Tryz.func17, Tryz.ntmps17
 go_wp2_with fail
 rw [← e3, ← e7]
 clear e3 e7
 refine (r_same Fa.fY Fb.fY).mono ?_
 rintro _ w10 ⟨rfl, hb⟩
 replace K5 := K5.on hb
 replace K9 := K9.on hb
 replace Fa := Fa.kp (Kept.of hb)
 replace Fb := Fb.kp (Kept.of hb)
 replace BW := BW.trans (hb.mono BW.size)
 clear hb
 rw [decide_eq_true rfl]
 obtain ⟨c11, c12, c13, c14, c15, c16, c17, c18⟩ := K5.c8
 obtain ⟨c19, c20, c21, c22, c23, c24, c25, c26⟩ := K9.c8
 go_wp2_with fail
 clear c11 c12 c13 c14 c15 c16 c17 c18 c19 c20 c21 c22 c23 c24 c25 c26
 refine (r_same Fa.fU Fb.fU).mono ?_
 rintro _ w27 ⟨rfl, hb⟩
 replace BW := BW.trans (hb.mono BW.size)
 clear hb
 rw [decide_eq_true rfl]
 go_wp2_with fail
 exact bodyPost_ret (v := .bool true) (by simp [results, Tryz.results17, go_sem]) rfl ⟨rfl, BW⟩
end Go.Proofs.YtjamfkafgfpobaaGreatDoor
