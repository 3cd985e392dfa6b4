/-
  What Sharp answers. Conditions: as each theorem states.
-/
import Derived.Test.YtplgheabhekedaaGreatImb
import Derived.Deep.RegionHeld3
import Derived.Deep.DeepCutAuto
import Derived.BigRegion
namespace Go.Proofs.YtplgheabhekedaaGreat
open Go.RowKit Nb

set_option maxHeartbeats 8000000 in
set_option maxRecDepth 20000 in
theorem i_SharpNo {m : Mv} {w : World} (X : Xm w m) (hn : ¬ MayM w m) :
    Calls Tryz.prog 41 #[mv m] w (fun e w' => e = .returned (.tuple #[.bool false, .int .i64 1]) ∧ Below w.heap.size w w') := by
 have HX := Lib.hid X
 have HN := Lib.hid hn
 clear hn
 have BW : Below w.heap.size w w := Below.refl _ _
 obtain ⟨V1, e2, hb3, K4, Z5, -⟩ := alloc_new w [.bool m.A.n, .slice m.A.A m.A.xs.length m.A.c, .bool m.A.m, .slice m.A.B m.A.ds.length m.A.d, .bool m.B.n, .slice m.B.A m.B.xs.length m.B.c, .bool m.B.m, .slice m.B.B m.B.ds.length m.B.d, .bool m.C.n, .slice m.C.A m.C.xs.length m.C.c, .bool m.C.m, .slice m.C.B m.C.ds.length m.C.d, .bool m.D.n, .slice m.D.A m.D.xs.length m.D.c, .bool m.D.m, .slice m.D.B m.D.ds.length m.D.d] 31
 replace K4 : Box V1 (w.heap.size) (mcs m) := K4
 have g6 : w.heap.size ≤ w.heap.size := BW.size
 replace X := X.kp (Kept.of hb3)
 replace BW := BW.trans (hb3.mono BW.size)
 clear hb3
 go_enter Tryz.func41, Tryz.ntmps41
 go_upto_region 1 with fail
 rw [← e2]
 clear e2
 have c7 : Box V1 (w.heap.size) [.bool m.A.n, .slice m.A.A m.A.xs.length m.A.c, .bool m.A.m, .slice m.A.B m.A.ds.length m.A.d, .bool m.B.n, .slice m.B.A m.B.xs.length m.B.c, .bool m.B.m, .slice m.B.B m.B.ds.length m.B.d, .bool m.C.n, .slice m.C.A m.C.xs.length m.C.c, .bool m.C.m, .slice m.C.B m.C.ds.length m.C.d, .bool m.D.n, .slice m.D.A m.D.xs.length m.D.c, .bool m.D.m, .slice m.D.B m.D.ds.length m.D.d] := K4
 go_wp2_with (first | (refine wpList_ldM (by rfl) (by rfl) (by rfl) c7 (by rfl) ?_))
 clear c7
 refine (y_check1 X (fun h => HN.out (MayM.at HX.out h))).mono ?_
 rintro _ w8 ⟨rfl, hb⟩
 replace BW := BW.trans (hb.mono BW.size)
 clear hb
 go_wp2_with fail
 exact bodyPost_ret (v := .tuple #[.bool false, .int .i64 1]) (by simp [results, Tryz.results41, go_sem]) rfl ⟨rfl, BW⟩
set_option maxHeartbeats 8000000 in
set_option maxRecDepth 20000 in
theorem i_Sharp {q : Mq} {m : Mv} {w : World} (G : Fm w q m) (hd : q.det = 1) :
    Calls Tryz.prog 41 #[mv m] w (fun e w' => ∃ r : Bool, e = .returned (.tuple #[.bool r, .int .i64 0]) ∧ (r = true ↔ q.b = 0) ∧ Below w.heap.size w w') := by
 have BW : Below w.heap.size w w := Below.refl _ _
 obtain ⟨V1, e2, hb3, K4, Z5, -⟩ := alloc_new w [.bool m.A.n, .slice m.A.A m.A.xs.length m.A.c, .bool m.A.m, .slice m.A.B m.A.ds.length m.A.d, .bool m.B.n, .slice m.B.A m.B.xs.length m.B.c, .bool m.B.m, .slice m.B.B m.B.ds.length m.B.d, .bool m.C.n, .slice m.C.A m.C.xs.length m.C.c, .bool m.C.m, .slice m.C.B m.C.ds.length m.C.d, .bool m.D.n, .slice m.D.A m.D.xs.length m.D.c, .bool m.D.m, .slice m.D.B m.D.ds.length m.D.d] 31
 replace K4 : Box V1 (w.heap.size) (mcs m) := K4
 have g6 : w.heap.size ≤ w.heap.size := BW.size
 replace G := G.kp (Kept.of hb3)
 replace BW := BW.trans (hb3.mono BW.size)
 clear hb3
 go_enter Tryz.func41, Tryz.ntmps41
 go_upto_region 1 with fail
 rw [← e2]
 clear e2
 have c7 : Box V1 (w.heap.size) [.bool m.A.n, .slice m.A.A m.A.xs.length m.A.c, .bool m.A.m, .slice m.A.B m.A.ds.length m.A.d, .bool m.B.n, .slice m.B.A m.B.xs.length m.B.c, .bool m.B.m, .slice m.B.B m.B.ds.length m.B.d, .bool m.C.n, .slice m.C.A m.C.xs.length m.C.c, .bool m.C.m, .slice m.C.B m.C.ds.length m.C.d, .bool m.D.n, .slice m.D.A m.D.xs.length m.D.c, .bool m.D.m, .slice m.D.B m.D.ds.length m.D.d] := K4
 go_wp2_with (first | (refine wpList_ldM (by rfl) (by rfl) (by rfl) c7 (by rfl) ?_))
 clear c7
 refine (y_check0 G hd).mono ?_
 rintro _ w8 ⟨rfl, hb⟩
 replace K4 := K4.on hb
 replace G := G.kp (Kept.of hb)
 replace BW := BW.trans (hb.mono BW.size)
 clear hb
 obtain ⟨c9, c10, c11, c12, c13, c14, c15, c16, c17, c18, c19, c20, c21, c22, c23, c24⟩ := K4.c16
 go_wp2_with fail
 clear c9 c10 c11 c12 c13 c14 c15 c16 c17 c18 c19 c20 c21 c22 c23 c24
 refine (r_sign G.fB).mono ?_
 rintro _ w25 ⟨rfl, hb⟩
 replace BW := BW.trans (hb.mono BW.size)
 clear hb
 generalize hs : sgnQ q.b = s at *
 have HS := Lib.hid hs
 clear hs
 by_cases hz : s = 0
 ·subst hz
  go_wp2_with fail
  exact bodyPost_ret (v := .tuple #[.bool true, .int .i64 0]) (by simp [results, Tryz.results41, go_sem]) rfl ⟨true, rfl, ⟨fun _ => sgn_zero.1 HS.out, fun _ => rfl⟩, BW⟩
 ·have hz2 : (s == 0) = false := by simpa using hz
  have HN := Lib.hid hz
  clear hz
  go_wp2_with fail
  exact bodyPost_ret (v := .tuple #[.bool false, .int .i64 0]) (by simp [results, Tryz.results41, go_sem]) rfl ⟨false, rfl, ⟨fun h => (by cases h), fun h => absurd (HS.out.symm.trans (sgn_zero.2 h)) HN.out⟩, BW⟩
end Go.Proofs.YtplgheabhekedaaGreat
