/-
  What ray's One and SameMatrix answer. Conditions: as each theorem states.
-/
import Derived.Test.YtjamfkafgfpobaaGreatRf
import Derived.Test.YtjamfkafgfpobaaGreatXtra
import Derived.Test.YtjamfkafgfpobaaGreatRc0
import Derived.Test.YtjamfkafgfpobaaGreatRlb
import Derived.Deep.RegionHeld3
import Derived.Deep.DeepCutAuto
import Derived.BigRegion
namespace Go.Proofs.YtjamfkafgfpobaaGreat
open Go.RowKit Nb
set_option maxHeartbeats 8000000 in
set_option maxRecDepth 20000 in
theorem y_sameM {q : Mq} {m n : Mv} {w : World} (Fa : Fm w q m) (Fb : Fm w q n) :
    Calls Tryz.prog 13 #[mv m, mv n] w (fun e w' => e = .returned (.bool true) ∧ Below w.heap.size w w') := by
 have BW : Below w.heap.size w w := Below.refl _ _
 obtain ⟨V2, e3, hb4, K5, -, z1⟩ := alloc_new w [.bool m.A.n, .slice m.A.A m.A.xs.length m.A.c, .bool m.A.m, .slice m.A.B m.A.ds.length m.A.d, .bool m.B.n, .slice m.B.A m.B.xs.length m.B.c, .bool m.B.m, .slice m.B.B m.B.ds.length m.B.d, .bool m.C.n, .slice m.C.A m.C.xs.length m.C.c, .bool m.C.m, .slice m.C.B m.C.ds.length m.C.d, .bool m.D.n, .slice m.D.A m.D.xs.length m.D.c, .bool m.D.m, .slice m.D.B m.D.ds.length m.D.d] 31
 replace K5 : Box V2 (w.heap.size) (mcs m) := K5
 replace Fa := Fa.kp (Kept.of hb4)
 replace Fb := Fb.kp (Kept.of hb4)
 replace BW := BW.trans (hb4.mono BW.size)
 clear hb4
 obtain ⟨V6, e7, hb8, K9, -, -⟩ := alloc_new V2 [.bool n.A.n, .slice n.A.A n.A.xs.length n.A.c, .bool n.A.m, .slice n.A.B n.A.ds.length n.A.d, .bool n.B.n, .slice n.B.A n.B.xs.length n.B.c, .bool n.B.m, .slice n.B.B n.B.ds.length n.B.d, .bool n.C.n, .slice n.C.A n.C.xs.length n.C.c, .bool n.C.m, .slice n.C.B n.C.ds.length n.C.d, .bool n.D.n, .slice n.D.A n.D.xs.length n.D.c, .bool n.D.m, .slice n.D.B n.D.ds.length n.D.d] 31
 rw [z1] at K9
 replace K9 : Box V6 (w.heap.size + 1) (mcs n) := K9
 replace K5 := K5.on hb8
 replace Fa := Fa.kp (Kept.of hb8)
 replace Fb := Fb.kp (Kept.of hb8)
 replace BW := BW.trans (hb8.mono BW.size)
 clear hb8
 clear z1
 go_enter Tryz.func13, Tryz.ntmps13
 go_wp2_with fail
 rw [← e3, ← e7]
 clear e3 e7
 refine (r_same Fa.fA Fb.fA).mono ?_
 rintro _ w10 ⟨rfl, hb⟩
 replace K5 := K5.on hb
 replace K9 := K9.on hb
 replace Fa := Fa.kp (Kept.of hb)
 replace Fb := Fb.kp (Kept.of hb)
 replace BW := BW.trans (hb.mono BW.size)
 clear hb
 rw [decide_eq_true rfl]
 obtain ⟨c11, c12, c13, c14, c15, c16, c17, c18, c19, c20, c21, c22, c23, c24, c25, c26⟩ := K5.c16
 obtain ⟨c27, c28, c29, c30, c31, c32, c33, c34, c35, c36, c37, c38, c39, c40, c41, c42⟩ := K9.c16
 go_wp2_with fail
 clear c11 c12 c13 c14 c15 c16 c17 c18 c19 c20 c21 c22 c23 c24 c25 c26 c27 c28 c29 c30 c31 c32 c33 c34 c35 c36 c37 c38 c39 c40 c41 c42
 refine (r_same Fa.fB Fb.fB).mono ?_
 rintro _ w43 ⟨rfl, hb⟩
 replace K5 := K5.on hb
 replace K9 := K9.on hb
 replace Fa := Fa.kp (Kept.of hb)
 replace Fb := Fb.kp (Kept.of hb)
 replace BW := BW.trans (hb.mono BW.size)
 clear hb
 rw [decide_eq_true rfl]
 obtain ⟨c44, c45, c46, c47, c48, c49, c50, c51, c52, c53, c54, c55, c56, c57, c58, c59⟩ := K5.c16
 obtain ⟨c60, c61, c62, c63, c64, c65, c66, c67, c68, c69, c70, c71, c72, c73, c74, c75⟩ := K9.c16
 go_wp2_with fail
 clear c44 c45 c46 c47 c48 c49 c50 c51 c52 c53 c54 c55 c56 c57 c58 c59 c60 c61 c62 c63 c64 c65 c66 c67 c68 c69 c70 c71 c72 c73 c74 c75
 refine (r_same Fa.fC Fb.fC).mono ?_
 rintro _ w76 ⟨rfl, hb⟩
 replace K5 := K5.on hb
 replace K9 := K9.on hb
 replace Fa := Fa.kp (Kept.of hb)
 replace Fb := Fb.kp (Kept.of hb)
 replace BW := BW.trans (hb.mono BW.size)
 clear hb
 rw [decide_eq_true rfl]
 obtain ⟨c77, c78, c79, c80, c81, c82, c83, c84, c85, c86, c87, c88, c89, c90, c91, c92⟩ := K5.c16
 obtain ⟨c93, c94, c95, c96, c97, c98, c99, c100, c101, c102, c103, c104, c105, c106, c107, c108⟩ := K9.c16
 go_wp2_with fail
 clear c77 c78 c79 c80 c81 c82 c83 c84 c85 c86 c87 c88 c89 c90 c91 c92 c93 c94 c95 c96 c97 c98 c99 c100 c101 c102 c103 c104 c105 c106 c107 c108
 refine (r_same Fa.fD Fb.fD).mono ?_
 rintro _ w109 ⟨rfl, hb⟩
 replace BW := BW.trans (hb.mono BW.size)
 clear hb
 rw [decide_eq_true rfl]
 go_wp2_with fail
 exact bodyPost_ret (v := .bool true) (by simp [results, Tryz.results13, go_sem]) rfl ⟨rfl, BW⟩
set_option maxHeartbeats 8000000 in
set_option maxRecDepth 20000 in
theorem y_One {w : World} :
    Calls Tryz.prog 33 #[] w (fun e w' => ∃ f : Mv, e = .returned (mv f) ∧ Fm w' Mq.one f ∧ Below w.heap.size w w') := by
 have BW : Below w.heap.size w w := Below.refl _ _
 obtain ⟨V1, e2, hb3, K4, Z5, -⟩ := alloc_new w [.bool false, .slice none 0 0, .bool false, .slice none 0 0, .bool false, .slice none 0 0, .bool false, .slice none 0 0, .bool false, .slice none 0 0, .bool false, .slice none 0 0, .bool false, .slice none 0 0, .bool false, .slice none 0 0] 31
 replace K4 : Box V1 (w.heap.size) (zcs16) := K4
 have g6 : w.heap.size ≤ w.heap.size := BW.size
 replace BW := BW.trans (hb3.mono BW.size)
 clear hb3
 go_enter Tryz.func33, Tryz.ntmps33
 go_wp2_with fail
 rw [← e2]
 clear e2
 refine (y_of (n := 1) (by decide) (by decide)).mono ?_
 rintro _ w7 ⟨f1, rfl, h1, hb⟩
 replace K4 := K4.on hb
 replace Z5 := Z5.on hb
 replace BW := BW.trans (hb.mono BW.size)
 clear hb
 go_wp2_with fail
 refine (y_of (n := 0) (by decide) (by decide)).mono ?_
 rintro _ w8 ⟨f2, rfl, h2, hb⟩
 replace K4 := K4.on hb
 replace Z5 := Z5.on hb
 replace h1 := h1.kp (Kept.of hb)
 replace BW := BW.trans (hb.mono BW.size)
 clear hb
 go_wp2_with fail
 refine (y_of (n := 0) (by decide) (by decide)).mono ?_
 rintro _ w9 ⟨f3, rfl, h3, hb⟩
 replace K4 := K4.on hb
 replace Z5 := Z5.on hb
 replace h1 := h1.kp (Kept.of hb)
 replace h2 := h2.kp (Kept.of hb)
 replace BW := BW.trans (hb.mono BW.size)
 clear hb
 go_wp2_with fail
 refine (y_of (n := 1) (by decide) (by decide)).mono ?_
 rintro _ w10 ⟨f4, rfl, h4, hb⟩
 replace K4 := K4.on hb
 replace Z5 := Z5.on hb
 replace h1 := h1.kp (Kept.of hb)
 replace h2 := h2.kp (Kept.of hb)
 replace h3 := h3.kp (Kept.of hb)
 replace BW := BW.trans (hb.mono BW.size)
 clear hb
 obtain ⟨c11, c12, c13, c14, c15, c16, c17, c18, c19, c20, c21, c22, c23, c24, c25, c26⟩ := K4.c16
 obtain ⟨c27, c28, c29, c30, c31, c32, c33, c34, c35, c36, c37, c38, c39, c40, c41, c42⟩ := Z5.f16
 obtain ⟨V43, hk45⟩ : ∃ V43, V43 = w10.setCells (w.heap.size) 0 [.bool f1.n, .slice f1.A f1.xs.length f1.c, .bool f1.m, .slice f1.B f1.ds.length f1.d, .bool f2.n, .slice f2.A f2.xs.length f2.c, .bool f2.m, .slice f2.B f2.ds.length f2.d, .bool f3.n, .slice f3.A f3.xs.length f3.c, .bool f3.m, .slice f3.B f3.ds.length f3.d, .bool f4.n, .slice f4.A f4.xs.length f4.c, .bool f4.m, .slice f4.B f4.ds.length f4.d] := ⟨_, rfl⟩
 have e44 := hk45
 simp only [World.setCells, Nat.zero_add, Nat.reduceAdd] at e44
 have hk46 := Kept.overE hk45 K4 rfl (Nat.le_of_ble_eq_true rfl)
 replace K4 := K4.overE hk45 rfl
 replace h1 := h1.kp hk46
 replace h2 := h2.kp hk46
 replace h3 := h3.kp hk46
 replace h4 := h4.kp hk46
 replace BW := Below.putE BW hk45 g6
 clear hk45 hk46
 go_wp2_with fail
 clear c11 c12 c13 c14 c15 c16 c17 c18 c19 c20 c21 c22 c23 c24 c25 c26 c27 c28 c29 c30 c31 c32 c33 c34 c35 c36 c37 c38 c39 c40 c41 c42
 rw [← e44]
 clear e44
 obtain ⟨c47, c48, c49, c50, c51, c52, c53, c54, c55, c56, c57, c58, c59, c60, c61, c62⟩ := K4.c16
 exact bodyPost_ret (v := mv ⟨f1, f2, f3, f4⟩) (by simp [results, Tryz.results33, go_sem, c47, c48, c49, c50, c51, c52, c53, c54, c55, c56, c57, c58, c59, c60, c61, c62]) rfl ⟨⟨f1, f2, f3, f4⟩, rfl, ⟨h1, h2, h3, h4⟩, BW⟩
end Go.Proofs.YtjamfkafgfpobaaGreat
