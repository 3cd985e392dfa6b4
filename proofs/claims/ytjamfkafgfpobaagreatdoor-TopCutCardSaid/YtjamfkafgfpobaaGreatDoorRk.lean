/-
  What ray's One and SameMatrix answer. Conditions: as each theorem states.
-/
import Derived.Test.YtjamfkafgfpobaaGreatDoorRf
import Derived.Test.YtjamfkafgfpobaaGreatDoorXtra
import Derived.Test.YtjamfkafgfpobaaGreatDoorRc0
import Derived.Test.YtjamfkafgfpobaaGreatDoorRlb
import Derived.Deep.RegionHeld3
import Derived.Deep.DeepCutAuto
import Derived.BigRegion
namespace Go.Proofs.YtjamfkafgfpobaaGreatDoor
open Go.RowKit Nb
set_option maxHeartbeats 8000000 in
set_option maxRecDepth 20000 in
theorem y_sameM {q : Mq} {m n : Mv} {w : World} (Fa : Fm w q m) (Fb : Fm w q n) :
    Calls Tryz.prog 23 #[mv m, mv n] w (fun e w' => e = .returned (.bool true) ∧ Below w.heap.size w w') := by
 have BW : Below w.heap.size w w := Below.refl _ _
 obtain ⟨V2, e3, hb4, K5, -, z1⟩ := alloc_new w [.bool m.A.n, .slice m.A.A m.A.xs.length m.A.c, .bool m.A.m, .slice m.A.B m.A.ds.length m.A.d, .bool m.B.n, .slice m.B.A m.B.xs.length m.B.c, .bool m.B.m, .slice m.B.B m.B.ds.length m.B.d, .bool m.C.n, .slice m.C.A m.C.xs.length m.C.c, .bool m.C.m, .slice m.C.B m.C.ds.length m.C.d, .bool m.D.n, .slice m.D.A m.D.xs.length m.D.c, .bool m.D.m, .slice m.D.B m.D.ds.length m.D.d] 37
 replace K5 : Box V2 (w.heap.size) (mcs m) := K5
 replace Fa := Fa.kp (Kept.of hb4)
 replace Fb := Fb.kp (Kept.of hb4)
 replace BW := BW.trans (hb4.mono BW.size)
 clear hb4
 obtain ⟨V6, e7, hb8, K9, -, -⟩ := alloc_new V2 [.bool n.A.n, .slice n.A.A n.A.xs.length n.A.c, .bool n.A.m, .slice n.A.B n.A.ds.length n.A.d, .bool n.B.n, .slice n.B.A n.B.xs.length n.B.c, .bool n.B.m, .slice n.B.B n.B.ds.length n.B.d, .bool n.C.n, .slice n.C.A n.C.xs.length n.C.c, .bool n.C.m, .slice n.C.B n.C.ds.length n.C.d, .bool n.D.n, .slice n.D.A n.D.xs.length n.D.c, .bool n.D.m, .slice n.D.B n.D.ds.length n.D.d] 37
 rw [z1] at K9
 replace K9 : Box V6 (w.heap.size + 1) (mcs n) := K9
 replace K5 := K5.on hb8
 replace Fa := Fa.kp (Kept.of hb8)
 replace Fb := Fb.kp (Kept.of hb8)
 replace BW := BW.trans (hb8.mono BW.size)
 clear hb8
 clear z1
 go_enter Tryz.func23, Tryz.ntmps23
 go_wp2_with fail
 rw [← e3, ← e7]
 clear e3 e7
 refine (r_same Fa.fA Fb.fA).mono ?_
 rintro _ w10 ⟨rfl, hb⟩
 replace K5 := K5.on hb
 replace K9 := K9.on hb
 replace Fa := Fa.kp (Kept.of hb)
 replace Fb := Fb.kp (Kept.of hb)
 replace BW := BW.trans (hb.mono BW.size)
 clear hb
 rw [decide_eq_true rfl]
 obtain ⟨c11, c12, c13, c14, c15, c16, c17, c18, c19, c20, c21, c22, c23, c24, c25, c26⟩ := K5.c16
 obtain ⟨c27, c28, c29, c30, c31, c32, c33, c34, c35, c36, c37, c38, c39, c40, c41, c42⟩ := K9.c16
 go_wp2_with fail
 clear c11 c12 c13 c14 c15 c16 c17 c18 c19 c20 c21 c22 c23 c24 c25 c26 c27 c28 c29 c30 c31 c32 c33 c34 c35 c36 c37 c38 c39 c40 c41 c42
 refine (r_same Fa.fB Fb.fB).mono ?_
 rintro _ w43 ⟨rfl, hb⟩
 replace K5 := K5.on hb
 replace K9 := K9.on hb
 replace Fa := Fa.kp (Kept.of hb)
 replace Fb := Fb.kp (Kept.of hb)
 replace BW := BW.trans (hb.mono BW.size)
 clear hb
 rw [decide_eq_true rfl]
 obtain ⟨c44, c45, c46, c47, c48, c49, c50, c51, c52, c53, c54, c55, c56, c57, c58, c59⟩ := K5.c16
 obtain ⟨c60, c61, c62, c63, c64, c65, c66, c67, c68, c69, c70, c71, c72, c73, c74, c75⟩ := K9.c16
 go_wp2_with fail
 clear c44 c45 c46 c47 c48 c49 c50 c51 c52 c53 c54 c55 c56 c57 c58 c59 c60 c61 c62 c63 c64 c65 c66 c67 c68 c69 c70 c71 c72 c73 c74 c75
 refine (r_same Fa.fC Fb.fC).mono ?_
 rintro _ w76 ⟨rfl, hb⟩
 replace K5 := K5.on hb
 replace K9 := K9.on hb
 replace Fa := Fa.kp (Kept.of hb)
 replace Fb := Fb.kp (Kept.of hb)
 replace BW := BW.trans (hb.mono BW.size)
 clear hb
 rw [decide_eq_true rfl]
 obtain ⟨c77, c78, c79, c80, c81, c82, c83, c84, c85, c86, c87, c88, c89, c90, c91, c92⟩ := K5.c16
 obtain ⟨c93, c94, c95, c96, c97, c98, c99, c100, c101, c102, c103, c104, c105, c106, c107, c108⟩ := K9.c16
 go_wp2_with fail
 clear c77 c78 c79 c80 c81 c82 c83 c84 c85 c86 c87 c88 c89 c90 c91 c92 c93 c94 c95 c96 c97 c98 c99 c100 c101 c102 c103 c104 c105 c106 c107 c108
 refine (r_same Fa.fD Fb.fD).mono ?_
 rintro _ w109 ⟨rfl, hb⟩
 replace BW := BW.trans (hb.mono BW.size)
 clear hb
 rw [decide_eq_true rfl]
 go_wp2_with fail
 exact bodyPost_ret (v := .bool true) (by simp [results, Tryz.results23, go_sem]) rfl ⟨rfl, BW⟩
end Go.Proofs.YtjamfkafgfpobaaGreatDoor
