/-
  Two matrices of nought are the same. No conditions.
-/
import Derived.Test.YtjamfkafgfpobaaGreatSmA
import Derived.Test.YtjamfkafgfpobaaGreatRk
import Derived.Deep.RegionHeld3
import Derived.Deep.DeepCutAuto
import Derived.BigRegion
namespace Go.Proofs.YtjamfkafgfpobaaGreat
open Go.RowKit Nb

theorem same_none {w : World} : Calls Tryz.prog 59 #[.agg #[.bool false, .slice none 0 0], .agg #[.bool false, .slice none 0 0]] w (fun e w' => e = .returned (.bool true) ∧ Below w.heap.size w w') := same_any false false none none [] [] 0 0 w (fun h => absurd h (by simp)) (fun h => absurd h (by simp)) (by simp) (by simp)
set_option maxHeartbeats 8000000 in
set_option maxRecDepth 20000 in
theorem same_f0 {w : World} :
    Calls Tryz.prog 23 #[.agg #[.bool false, .slice none 0 0, .bool false, .slice none 0 0], .agg #[.bool false, .slice none 0 0, .bool false, .slice none 0 0]] w (fun e w' => e = .returned (.bool true) ∧ Below w.heap.size w w') := by
 have BW : Below w.heap.size w w := Below.refl _ _
 obtain ⟨V2, e3, hb4, K5, Z6, z1⟩ := alloc_new w [.bool false, .slice none 0 0, .bool false, .slice none 0 0] 29
 have g7 : w.heap.size ≤ w.heap.size := BW.size
 replace BW := BW.trans (hb4.mono BW.size)
 clear hb4
 obtain ⟨V8, e9, hb10, K11, Z12, -⟩ := alloc_new V2 [.bool false, .slice none 0 0, .bool false, .slice none 0 0] 29
 rw [z1] at K11 Z12
 have n13 : w.heap.size ≠ w.heap.size + 1 := Nat.ne_of_lt (z1 ▸ K5.lt)
 have g14 : w.heap.size ≤ w.heap.size + 1 := z1 ▸ BW.size
 replace K5 := K5.on hb10
 replace Z6 := Z6.on hb10
 replace BW := BW.trans (hb10.mono BW.size)
 clear hb10
 clear z1
 go_enter Tryz.func23, Tryz.ntmps23
 go_wp2_with fail
 rw [← e3, ← e9]
 clear e3 e9
 refine (same_none).mono ?_
 rintro _ w15 ⟨rfl, hb⟩
 replace K5 := K5.on hb
 replace K11 := K11.on hb
 replace Z6 := Z6.on hb
 replace Z12 := Z12.on hb
 replace BW := BW.trans (hb.mono BW.size)
 clear hb
 obtain ⟨c16, c17, c18, c19⟩ := K5.c4
 obtain ⟨c20, c21, c22, c23⟩ := K11.c4
 go_wp2_with fail
 clear c16 c17 c18 c19 c20 c21 c22 c23
 refine (same_none).mono ?_
 rintro _ w24 ⟨rfl, hb⟩
 replace K5 := K5.on hb
 replace K11 := K11.on hb
 replace Z6 := Z6.on hb
 replace Z12 := Z12.on hb
 replace BW := BW.trans (hb.mono BW.size)
 clear hb
 go_wp2_with fail
 exact bodyPost_ret (v := .bool true) (by simp [results, Tryz.results23, go_sem]) rfl ⟨rfl, BW⟩
set_option maxHeartbeats 8000000 in
set_option maxRecDepth 20000 in
theorem y_sameMx {m n : Mv} {w : World} (HA : ∀ W : World, Calls Tryz.prog 23 #[fv m.A, fv n.A] W (fun e w' => e = .returned (.bool true) ∧ Below W.heap.size W w')) (HB : ∀ W : World, Calls Tryz.prog 23 #[fv m.B, fv n.B] W (fun e w' => e = .returned (.bool true) ∧ Below W.heap.size W w')) (HC : ∀ W : World, Calls Tryz.prog 23 #[fv m.C, fv n.C] W (fun e w' => e = .returned (.bool true) ∧ Below W.heap.size W w')) (HD : ∀ W : World, Calls Tryz.prog 23 #[fv m.D, fv n.D] W (fun e w' => e = .returned (.bool true) ∧ Below W.heap.size W w')) :
    Calls Tryz.prog 13 #[mv m, mv n] w (fun e w' => e = .returned (.bool true) ∧ Below w.heap.size w w') := by
 have BW : Below w.heap.size w w := Below.refl _ _
 obtain ⟨V2, e3, hb4, K5, -, z1⟩ := alloc_new w [.bool m.A.n, .slice m.A.A m.A.xs.length m.A.c, .bool m.A.m, .slice m.A.B m.A.ds.length m.A.d, .bool m.B.n, .slice m.B.A m.B.xs.length m.B.c, .bool m.B.m, .slice m.B.B m.B.ds.length m.B.d, .bool m.C.n, .slice m.C.A m.C.xs.length m.C.c, .bool m.C.m, .slice m.C.B m.C.ds.length m.C.d, .bool m.D.n, .slice m.D.A m.D.xs.length m.D.c, .bool m.D.m, .slice m.D.B m.D.ds.length m.D.d] 31
 replace K5 : Box V2 (w.heap.size) (mcs m) := K5
 replace BW := BW.trans (hb4.mono BW.size)
 clear hb4
 obtain ⟨V6, e7, hb8, K9, -, -⟩ := alloc_new V2 [.bool n.A.n, .slice n.A.A n.A.xs.length n.A.c, .bool n.A.m, .slice n.A.B n.A.ds.length n.A.d, .bool n.B.n, .slice n.B.A n.B.xs.length n.B.c, .bool n.B.m, .slice n.B.B n.B.ds.length n.B.d, .bool n.C.n, .slice n.C.A n.C.xs.length n.C.c, .bool n.C.m, .slice n.C.B n.C.ds.length n.C.d, .bool n.D.n, .slice n.D.A n.D.xs.length n.D.c, .bool n.D.m, .slice n.D.B n.D.ds.length n.D.d] 31
 rw [z1] at K9
 replace K9 : Box V6 (w.heap.size + 1) (mcs n) := K9
 replace K5 := K5.on hb8
 replace BW := BW.trans (hb8.mono BW.size)
 clear hb8
 clear z1
 go_enter Tryz.func13, Tryz.ntmps13
 go_wp2_with fail
 rw [← e3, ← e7]
 clear e3 e7
 refine (HA _).mono ?_
 rintro _ w10 ⟨rfl, hb⟩
 replace K5 := K5.on hb
 replace K9 := K9.on hb
 replace BW := BW.trans (hb.mono BW.size)
 clear hb
 obtain ⟨c11, c12, c13, c14, c15, c16, c17, c18, c19, c20, c21, c22, c23, c24, c25, c26⟩ := K5.c16
 obtain ⟨c27, c28, c29, c30, c31, c32, c33, c34, c35, c36, c37, c38, c39, c40, c41, c42⟩ := K9.c16
 go_wp2_with fail
 clear c11 c12 c13 c14 c15 c16 c17 c18 c19 c20 c21 c22 c23 c24 c25 c26 c27 c28 c29 c30 c31 c32 c33 c34 c35 c36 c37 c38 c39 c40 c41 c42
 refine (HB _).mono ?_
 rintro _ w43 ⟨rfl, hb⟩
 replace K5 := K5.on hb
 replace K9 := K9.on hb
 replace BW := BW.trans (hb.mono BW.size)
 clear hb
 obtain ⟨c44, c45, c46, c47, c48, c49, c50, c51, c52, c53, c54, c55, c56, c57, c58, c59⟩ := K5.c16
 obtain ⟨c60, c61, c62, c63, c64, c65, c66, c67, c68, c69, c70, c71, c72, c73, c74, c75⟩ := K9.c16
 go_wp2_with fail
 clear c44 c45 c46 c47 c48 c49 c50 c51 c52 c53 c54 c55 c56 c57 c58 c59 c60 c61 c62 c63 c64 c65 c66 c67 c68 c69 c70 c71 c72 c73 c74 c75
 refine (HC _).mono ?_
 rintro _ w76 ⟨rfl, hb⟩
 replace K5 := K5.on hb
 replace K9 := K9.on hb
 replace BW := BW.trans (hb.mono BW.size)
 clear hb
 obtain ⟨c77, c78, c79, c80, c81, c82, c83, c84, c85, c86, c87, c88, c89, c90, c91, c92⟩ := K5.c16
 obtain ⟨c93, c94, c95, c96, c97, c98, c99, c100, c101, c102, c103, c104, c105, c106, c107, c108⟩ := K9.c16
 go_wp2_with fail
 clear c77 c78 c79 c80 c81 c82 c83 c84 c85 c86 c87 c88 c89 c90 c91 c92 c93 c94 c95 c96 c97 c98 c99 c100 c101 c102 c103 c104 c105 c106 c107 c108
 refine (HD _).mono ?_
 rintro _ w109 ⟨rfl, hb⟩
 replace BW := BW.trans (hb.mono BW.size)
 clear hb
 go_wp2_with fail
 exact bodyPost_ret (v := .bool true) (by simp [results, Tryz.results13, go_sem]) rfl ⟨rfl, BW⟩
theorem y_same0 {w : World} : Calls Tryz.prog 13 #[mv mv0, mv mv0] w (fun e w' => e = .returned (.bool true) ∧ Below w.heap.size w w') := y_sameMx (m := mv0) (n := mv0) (fun _ => same_f0) (fun _ => same_f0) (fun _ => same_f0) (fun _ => same_f0)
end Go.Proofs.YtjamfkafgfpobaaGreat
