/-
  Of every bench the determinant is 1, two rays keep their cross, the bench undone gives the ray back: yes. Conditions: that what is handed in is no longer than memory, and the table of digits.
-/
import Derived.Test.YtjamfkafgfpobaaGreatDoorTp1
import Derived.Test.YtjamfkafgfpobaaGreatDoorTp2
import Derived.Test.YtjamfkafgfpobaaGreatDoorRbc
import Derived.Deep.RegionHeld3
import Derived.Deep.DeepCutAuto
import Derived.BigRegion
namespace Go.Proofs.YtjamfkafgfpobaaGreatDoor
open Go.RowKit Nb

theorem c_beyond3 {n1 n2 n3 : Int} {g : Nat} {w : World} (K : Box w g [.int .i64 n1, .int .i64 n2, .int .i64 n3]) : Calls Tryz.prog 6 #[.slice (some ⟨g, 0, none⟩) 3 3] w (YN w) := c_beyond (ns := [n1, n2, n3]) (c := 3) K (by simp) (by simp)
set_option maxHeartbeats 32000000 in
set_option maxRecDepth 100000 in
theorem cross_walk {a : Option Addr} {c : Nat} {es : List Ev} {y s : Yv} {w : World} (S : Sle w a c es) (Y : Xy w y) (Z : Xy w s) (htab : Tab w) :
    Calls Tryz.prog 3 #[.agg #[.slice a es.length c, .bool y.Y.n, .slice y.Y.A y.Y.xs.length y.Y.c, .bool y.Y.m, .slice y.Y.B y.Y.ds.length y.Y.d, .bool y.U.n, .slice y.U.A y.U.xs.length y.U.c, .bool y.U.m, .slice y.U.B y.U.ds.length y.U.d, .bool s.Y.n, .slice s.Y.A s.Y.xs.length s.Y.c, .bool s.Y.m, .slice s.Y.B s.Y.ds.length s.Y.d, .bool s.U.n, .slice s.U.A s.U.xs.length s.U.c, .bool s.U.m, .slice s.U.B s.U.ds.length s.U.d]] w (fun e w' => e = .returned (.bool true) ∧ Below w.heap.size w w') := by
 have HS := Lib.hid S
 have HT := Lib.hid htab
 clear S htab
 have BW : Below w.heap.size w w := Below.refl _ _
 obtain ⟨V1, e2, hb3, K4, Z5, -⟩ := alloc_new w [.slice a es.length c, .bool y.Y.n, .slice y.Y.A y.Y.xs.length y.Y.c, .bool y.Y.m, .slice y.Y.B y.Y.ds.length y.Y.d, .bool y.U.n, .slice y.U.A y.U.xs.length y.U.c, .bool y.U.m, .slice y.U.B y.U.ds.length y.U.d, .bool s.Y.n, .slice s.Y.A s.Y.xs.length s.Y.c, .bool s.Y.m, .slice s.Y.B s.Y.ds.length s.Y.d, .bool s.U.n, .slice s.U.A s.U.xs.length s.U.c, .bool s.U.m, .slice s.U.B s.U.ds.length s.U.d] 31
 have g6 : w.heap.size ≤ w.heap.size := BW.size
 replace Y := Y.kp (Kept.of hb3)
 replace Z := Z.kp (Kept.of hb3)
 replace BW := BW.trans (hb3.mono BW.size)
 clear hb3
 go_enter Tryz.func3, Tryz.ntmps3
 go_wp2_with fail
 rw [← e2]
 clear e2
 go_cut [24] (fun sw0 wx => ∃  (r : Bool), sw0 = .bool r ∧ Below w.heap.size w wx ∧ Box wx (w.heap.size) [.slice a es.length c, .bool y.Y.n, .slice y.Y.A y.Y.xs.length y.Y.c, .bool y.Y.m, .slice y.Y.B y.Y.ds.length y.Y.d, .bool y.U.n, .slice y.U.A y.U.xs.length y.U.c, .bool y.U.m, .slice y.U.B y.U.ds.length y.U.d, .bool s.Y.n, .slice s.Y.A s.Y.xs.length s.Y.c, .bool s.Y.m, .slice s.Y.B s.Y.ds.length s.Y.d, .bool s.U.n, .slice s.U.A s.U.xs.length s.U.c, .bool s.U.m, .slice s.U.B s.U.ds.length s.U.d] ∧ Fz wx (w.heap.size) ∧ Xy wx y ∧ Xy wx s)
 case first =>
   refine wp_region_noPanic ?_
   have hb : Below V1.heap.size V1 V1.drew := (Below.refl _ _).drew
   replace K4 := K4.on hb
   replace Z5 := Z5.on hb
   replace Y := Y.kp (Kept.of hb)
   replace Z := Z.kp (Kept.of hb)
   replace BW := BW.trans (hb.mono BW.size)
   clear hb
   refine wp_region_held_drew (S := (fun wx => Cs wx (w.heap.size) 0 [.slice a es.length c, .bool y.Y.n, .slice y.Y.A y.Y.xs.length y.Y.c, .bool y.Y.m, .slice y.Y.B y.Y.ds.length y.Y.d, .bool y.U.n, .slice y.U.A y.U.xs.length y.U.c, .bool y.U.m, .slice y.U.B y.U.ds.length y.U.d, .bool s.Y.n, .slice s.Y.A s.Y.xs.length s.Y.c, .bool s.Y.m, .slice s.Y.B s.Y.ds.length s.Y.d, .bool s.U.n, .slice s.U.A s.U.xs.length s.U.c, .bool s.U.m, .slice s.U.B s.U.ds.length s.U.d])) (by kernel_rfl) (by exact K4.cs) (fun hHeld => ?_)
   generalize V1.drew = Vd7 at *
   refine pT 0 ?_
   (try simp only [p0, p1, p2, p3])
   refine pT 1 ?_
   (try simp only [p0, p1, p2, p3])
   refine pT 3 ?_
   (try simp only [p0, p1, p2, p3])
   refine pT 4 ?_
   (try simp only [p0, p1, p2, p3])
   refine pT 6 ?_
   (try simp only [p0, p1, p2, p3])
   refine pT 7 ?_
   (try simp only [p0, p1, p2, p3])
   refine pR1 2 (fun K hK => ?_)
   go_simp
   (go_at_call 7; with_reducible refine (c_elems (HS.out.on BW)).mono ?_)
   rintro _ w8 ⟨n1, rfl, hb⟩
   (try go_wp2_with fail)
   replace K4 := K4.on hb
   replace Z5 := Z5.on hb
   replace Y := Y.kp (Kept.of hb)
   replace Z := Z.kp (Kept.of hb)
   replace BW := BW.trans (hb.mono BW.size)
   clear hb
   clear hHeld
   refine hK.out _ _ (by exact K4.cs) (fun hHeld => ?_)
   clear hK
   (try simp only [p0, p1, p2, p3])
   refine pR1 5 (fun K hK => ?_)
   go_simp
   (go_at_call 8; with_reducible refine (c_ray Y).mono ?_)
   rintro _ w9 ⟨n2, rfl, hb⟩
   (try go_wp2_with fail)
   replace K4 := K4.on hb
   replace Z5 := Z5.on hb
   replace Y := Y.kp (Kept.of hb)
   replace Z := Z.kp (Kept.of hb)
   replace BW := BW.trans (hb.mono BW.size)
   clear hb
   clear hHeld
   refine hK.out _ _ (by exact K4.cs) (fun hHeld => ?_)
   clear hK
   (try simp only [p0, p1, p2, p3])
   refine pR1 8 (fun K hK => ?_)
   go_simp
   (go_at_call 8; with_reducible refine (c_ray Z).mono ?_)
   rintro _ w10 ⟨n3, rfl, hb⟩
   (try go_wp2_with fail)
   replace K4 := K4.on hb
   replace Z5 := Z5.on hb
   replace Y := Y.kp (Kept.of hb)
   replace Z := Z.kp (Kept.of hb)
   replace BW := BW.trans (hb.mono BW.size)
   clear hb
   clear hHeld
   refine hK.out _ _ (by exact K4.cs) (fun hHeld => ?_)
   clear hK
   (try simp only [p0, p1, p2, p3])
   refine pR1 9 (fun K hK => ?_)
   go_simp
   obtain ⟨V11, e12, hb13, K14, -, -⟩ := alloc_new w10 [.int .i64 n1, .int .i64 n2, .int .i64 n3] 3
   have n15 : w.heap.size ≠ w10.heap.size := Nat.ne_of_lt (K4.lt)
   replace K4 := K4.on hb13
   replace Z5 := Z5.on hb13
   replace Y := Y.kp (Kept.of hb13)
   replace Z := Z.kp (Kept.of hb13)
   replace BW := BW.trans (hb13.mono BW.size)
   clear hb13
   rw [← e12]
   clear e12
   generalize w10.heap.size = b16 at *
   clear hHeld
   refine hK.out _ _ (by exact K4.cs) (fun hHeld => ?_)
   clear hK
   (try simp only [p0, p1, p2, p3])
   refine pR1 10 (fun K hK => ?_)
   go_simp
   (go_at_call 6; with_reducible refine (c_beyond3 K14).mono ?_)
   rintro _ w17 ⟨r, rfl, hb⟩
   (try go_wp2_with fail)
   replace K4 := K4.on hb
   replace Z5 := Z5.on hb
   replace Y := Y.kp (Kept.of hb)
   replace Z := Z.kp (Kept.of hb)
   replace BW := BW.trans (hb.mono BW.size)
   clear hb
   clear hHeld
   refine hK.out _ _ (by exact K4.cs) (fun hHeld => ?_)
   clear hK
   (try simp only [p0, p1, p2, p3])
   refine wpAnyH_done (by kernel_rfl) (NoPanic.normal ?_) _
   go_wp2
   go_meet
   exact ⟨r, rfl, BW, K4, Z5, Y, Z⟩
 case rest =>
   obtain ⟨r, rfl, BW, K4, Z5, Y, Z⟩ := hcut
   cases r
   · obtain ⟨c7, c8, c9, c10, c11, c12, c13, c14, c15, c16, c17, c18, c19, c20, c21, c22, c23⟩ := K4.c17
     go_wp2_with fail
     clear c7 c8 c9 c10 c11 c12 c13 c14 c15 c16 c17 c18 c19 c20 c21 c22 c23
     by_cases hM : es.length ≤ 4096 ∧ MayL w es
     · obtain ⟨zs, F1⟩ := hM.2.fes
       replace F1 := F1.kp (Kept.of BW)
       refine (b_Matrix (HS.out.on BW) F1 hM.1).mono ?_
       rintro _ w24 ⟨m, er, rfl, h1, hb⟩
       replace K4 := K4.on hb
       replace Y := Y.kp (Kept.of hb)
       replace Z := Z.kp (Kept.of hb)
       replace F1 := F1.kp (Kept.of hb)
       replace BW := BW.trans (hb.mono BW.size)
       clear hb
       clear F1
       rcases h1 with ⟨rfl, -, M1⟩ | ⟨rfl, -⟩
       · by_cases hy : oky y
         · obtain ⟨r1, Fy1⟩ := hy.fy Y
           clear Y hy
           obtain ⟨V25, e26, hb27, K28, Z29, -⟩ := alloc_new w24 [.bool m.A.n, .slice m.A.A m.A.xs.length m.A.c, .bool m.A.m, .slice m.A.B m.A.ds.length m.A.d, .bool m.B.n, .slice m.B.A m.B.xs.length m.B.c, .bool m.B.m, .slice m.B.B m.B.ds.length m.B.d, .bool m.C.n, .slice m.C.A m.C.xs.length m.C.c, .bool m.C.m, .slice m.C.B m.C.ds.length m.C.d, .bool m.D.n, .slice m.D.A m.D.xs.length m.D.c, .bool m.D.m, .slice m.D.B m.D.ds.length m.D.d] 37
           replace K28 : Box V25 (w24.heap.size) (mcs m) := K28
           have n30 : w.heap.size ≠ w24.heap.size := Nat.ne_of_lt (K4.lt)
           have g31 : w.heap.size ≤ w24.heap.size := BW.size
           replace K4 := K4.on hb27
           replace Z := Z.kp (Kept.of hb27)
           replace M1 := M1.kp (Kept.of hb27)
           replace Fy1 := Fy1.kp (Kept.of hb27)
           replace BW := BW.trans (hb27.mono BW.size)
           clear hb27
           obtain ⟨c32, c33, c34, c35, c36, c37, c38, c39, c40, c41, c42, c43, c44, c45, c46, c47, c48⟩ := K4.c17
           rw [e26] at c32 c33 c34 c35 c36 c37 c38 c39 c40 c41 c42 c43 c44 c45 c46 c47 c48
           go_wp2_with (first | (refine wpList_stNew (by rfl) (by rfl) (by rfl) (by rfl) (by rfl) (by rfl) (by rfl) ?_))
           (try simp only [p0, p1, p2, p3])
           clear c32 c33 c34 c35 c36 c37 c38 c39 c40 c41 c42 c43 c44 c45 c46 c47 c48
           rw [← e26]
           clear e26
           generalize w24.heap.size = b49 at *
           refine (t_good Fy1).mono ?_
           rintro _ w50 ⟨rfl, hb⟩
           replace K4 := K4.on hb
           replace K28 := K28.on hb
           replace Z29 := Z29.on hb
           replace Z := Z.kp (Kept.of hb)
           replace M1 := M1.kp (Kept.of hb)
           replace Fy1 := Fy1.kp (Kept.of hb)
           replace BW := BW.trans (hb.mono BW.size)
           clear hb
           obtain ⟨c51, c52, c53, c54, c55, c56, c57, c58, c59, c60, c61, c62, c63, c64, c65, c66, c67⟩ := K4.c17
           go_wp2_with fail
           clear c51 c52 c53 c54 c55 c56 c57 c58 c59 c60 c61 c62 c63 c64 c65 c66 c67
           by_cases hz : oky s
           · obtain ⟨r2, Fy2⟩ := hz.fy Z
             clear Z hz
             refine (t_good Fy2).mono ?_
             rintro _ w68 ⟨rfl, hb⟩
             replace K4 := K4.on hb
             replace K28 := K28.on hb
             replace Z29 := Z29.on hb
             replace M1 := M1.kp (Kept.of hb)
             replace Fy1 := Fy1.kp (Kept.of hb)
             replace Fy2 := Fy2.kp (Kept.of hb)
             replace BW := BW.trans (hb.mono BW.size)
             clear hb
             have c69 : Box w68 (b49) [.bool m.A.n, .slice m.A.A m.A.xs.length m.A.c, .bool m.A.m, .slice m.A.B m.A.ds.length m.A.d, .bool m.B.n, .slice m.B.A m.B.xs.length m.B.c, .bool m.B.m, .slice m.B.B m.B.ds.length m.B.d, .bool m.C.n, .slice m.C.A m.C.xs.length m.C.c, .bool m.C.m, .slice m.C.B m.C.ds.length m.C.d, .bool m.D.n, .slice m.D.A m.D.xs.length m.D.c, .bool m.D.m, .slice m.D.B m.D.ds.length m.D.d] := K28
             go_wp2_with (first | (refine wpList_ldM (by rfl) (by rfl) (by rfl) c69 (by rfl) ?_))
             clear c69
             refine (y_check0 M1 (benchM_det _)).mono ?_
             rintro _ w70 ⟨rfl, hb⟩
             replace K4 := K4.on hb
             replace K28 := K28.on hb
             replace Z29 := Z29.on hb
             replace M1 := M1.kp (Kept.of hb)
             replace Fy1 := Fy1.kp (Kept.of hb)
             replace Fy2 := Fy2.kp (Kept.of hb)
             replace BW := BW.trans (hb.mono BW.size)
             clear hb
             obtain ⟨c71, c72, c73, c74, c75, c76, c77, c78, c79, c80, c81, c82, c83, c84, c85, c86, c87⟩ := K4.c17
             have c88 : Box w70 (b49) [.bool m.A.n, .slice m.A.A m.A.xs.length m.A.c, .bool m.A.m, .slice m.A.B m.A.ds.length m.A.d, .bool m.B.n, .slice m.B.A m.B.xs.length m.B.c, .bool m.B.m, .slice m.B.B m.B.ds.length m.B.d, .bool m.C.n, .slice m.C.A m.C.xs.length m.C.c, .bool m.C.m, .slice m.C.B m.C.ds.length m.C.d, .bool m.D.n, .slice m.D.A m.D.xs.length m.D.c, .bool m.D.m, .slice m.D.B m.D.ds.length m.D.d] := K28
             go_wp2_with (first | (refine wpList_ldM (by rfl) (by rfl) (by rfl) c88 (by rfl) ?_))
             clear c71 c72 c73 c74 c75 c76 c77 c78 c79 c80 c81 c82 c83 c84 c85 c86 c87 c88
             refine (y_Thr M1 Fy1 (benchM_det _)).mono ?_
             rintro _ w89 ⟨f1, e1, rfl, h5, hb⟩
             replace K4 := K4.on hb
             replace K28 := K28.on hb
             replace Z29 := Z29.on hb
             replace M1 := M1.kp (Kept.of hb)
             replace Fy1 := Fy1.kp (Kept.of hb)
             replace Fy2 := Fy2.kp (Kept.of hb)
             replace BW := BW.trans (hb.mono BW.size)
             clear hb
             rcases h5 with ⟨rfl, -, L1⟩ | ⟨rfl, -⟩
             · obtain ⟨V90, e91, hb92, K93, Z94, -⟩ := alloc_new w89 [.bool f1.Y.n, .slice f1.Y.A f1.Y.xs.length f1.Y.c, .bool f1.Y.m, .slice f1.Y.B f1.Y.ds.length f1.Y.d, .bool f1.U.n, .slice f1.U.A f1.U.xs.length f1.U.c, .bool f1.U.m, .slice f1.U.B f1.U.ds.length f1.U.d] 29
               replace K93 : Box V90 (w89.heap.size) (ycs f1) := K93
               have n95 : w.heap.size ≠ w89.heap.size := Nat.ne_of_lt (K4.lt)
               have n96 : b49 ≠ w89.heap.size := Nat.ne_of_lt (K28.lt)
               have g97 : w.heap.size ≤ w89.heap.size := BW.size
               replace K4 := K4.on hb92
               replace K28 := K28.on hb92
               replace Z29 := Z29.on hb92
               replace M1 := M1.kp (Kept.of hb92)
               replace Fy1 := Fy1.kp (Kept.of hb92)
               replace Fy2 := Fy2.kp (Kept.of hb92)
               replace L1 := L1.kp (Kept.of hb92)
               replace BW := BW.trans (hb92.mono BW.size)
               clear hb92
               go_upto_region 9 with fail
               rw [← e91]
               clear e91
               generalize w89.heap.size = b98 at *
               obtain ⟨c99, c100, c101, c102, c103, c104, c105, c106, c107, c108, c109, c110, c111, c112, c113, c114, c115⟩ := K4.c17
               have c116 : Box V90 (b49) [.bool m.A.n, .slice m.A.A m.A.xs.length m.A.c, .bool m.A.m, .slice m.A.B m.A.ds.length m.A.d, .bool m.B.n, .slice m.B.A m.B.xs.length m.B.c, .bool m.B.m, .slice m.B.B m.B.ds.length m.B.d, .bool m.C.n, .slice m.C.A m.C.xs.length m.C.c, .bool m.C.m, .slice m.C.B m.C.ds.length m.C.d, .bool m.D.n, .slice m.D.A m.D.xs.length m.D.c, .bool m.D.m, .slice m.D.B m.D.ds.length m.D.d] := K28
               go_wp2_with (first | (refine wpList_ldM (by rfl) (by rfl) (by rfl) c116 (by rfl) ?_))
               clear c99 c100 c101 c102 c103 c104 c105 c106 c107 c108 c109 c110 c111 c112 c113 c114 c115 c116
               refine (y_Thr M1 Fy2 (benchM_det _)).mono ?_
               rintro _ w117 ⟨f2, e2, rfl, h6, hb⟩
               replace K4 := K4.on hb
               replace K28 := K28.on hb
               replace K93 := K93.on hb
               replace Z29 := Z29.on hb
               replace Z94 := Z94.on hb
               replace M1 := M1.kp (Kept.of hb)
               replace Fy1 := Fy1.kp (Kept.of hb)
               replace Fy2 := Fy2.kp (Kept.of hb)
               replace L1 := L1.kp (Kept.of hb)
               replace BW := BW.trans (hb.mono BW.size)
               clear hb
               rcases h6 with ⟨rfl, -, L2⟩ | ⟨rfl, -⟩
               · obtain ⟨V118, e119, hb120, K121, Z122, -⟩ := alloc_new w117 [.bool f2.Y.n, .slice f2.Y.A f2.Y.xs.length f2.Y.c, .bool f2.Y.m, .slice f2.Y.B f2.Y.ds.length f2.Y.d, .bool f2.U.n, .slice f2.U.A f2.U.xs.length f2.U.c, .bool f2.U.m, .slice f2.U.B f2.U.ds.length f2.U.d] 29
                 replace K121 : Box V118 (w117.heap.size) (ycs f2) := K121
                 have n123 : w.heap.size ≠ w117.heap.size := Nat.ne_of_lt (K4.lt)
                 have n124 : b49 ≠ w117.heap.size := Nat.ne_of_lt (K28.lt)
                 have n125 : b98 ≠ w117.heap.size := Nat.ne_of_lt (K93.lt)
                 have g126 : w.heap.size ≤ w117.heap.size := BW.size
                 replace K4 := K4.on hb120
                 replace K28 := K28.on hb120
                 replace K93 := K93.on hb120
                 replace Z29 := Z29.on hb120
                 replace Z94 := Z94.on hb120
                 replace M1 := M1.kp (Kept.of hb120)
                 replace Fy1 := Fy1.kp (Kept.of hb120)
                 replace Fy2 := Fy2.kp (Kept.of hb120)
                 replace L1 := L1.kp (Kept.of hb120)
                 replace L2 := L2.kp (Kept.of hb120)
                 replace BW := BW.trans (hb120.mono BW.size)
                 clear hb120
                 obtain ⟨c127, c128, c129, c130, c131, c132, c133, c134, c135, c136, c137, c138, c139, c140, c141, c142, c143⟩ := K4.c17
                 rw [e119] at c127 c128 c129 c130 c131 c132 c133 c134 c135 c136 c137 c138 c139 c140 c141 c142 c143
                 go_wp2_with fail
                 clear c127 c128 c129 c130 c131 c132 c133 c134 c135 c136 c137 c138 c139 c140 c141 c142 c143
                 rw [← e119]
                 clear e119
                 generalize w117.heap.size = b144 at *
                 refine (y_Cross Fy1 Fy2).mono ?_
                 rintro _ w145 ⟨c1, e3, rfl, h7, hb⟩
                 replace K4 := K4.on hb
                 replace K28 := K28.on hb
                 replace K93 := K93.on hb
                 replace K121 := K121.on hb
                 replace Z29 := Z29.on hb
                 replace Z94 := Z94.on hb
                 replace Z122 := Z122.on hb
                 replace M1 := M1.kp (Kept.of hb)
                 replace Fy1 := Fy1.kp (Kept.of hb)
                 replace Fy2 := Fy2.kp (Kept.of hb)
                 replace L1 := L1.kp (Kept.of hb)
                 replace L2 := L2.kp (Kept.of hb)
                 replace BW := BW.trans (hb.mono BW.size)
                 clear hb
                 obtain ⟨V146, e147, hb148, K149, Z150, -⟩ := alloc_new w145 [.bool c1.n, .slice c1.A c1.xs.length c1.c, .bool c1.m, .slice c1.B c1.ds.length c1.d] 27
                 have n151 : w.heap.size ≠ w145.heap.size := Nat.ne_of_lt (K4.lt)
                 have n152 : b49 ≠ w145.heap.size := Nat.ne_of_lt (K28.lt)
                 have n153 : b98 ≠ w145.heap.size := Nat.ne_of_lt (K93.lt)
                 have n154 : b144 ≠ w145.heap.size := Nat.ne_of_lt (K121.lt)
                 have g155 : w.heap.size ≤ w145.heap.size := BW.size
                 replace K4 := K4.on hb148
                 replace K28 := K28.on hb148
                 replace K93 := K93.on hb148
                 replace K121 := K121.on hb148
                 replace Z29 := Z29.on hb148
                 replace Z94 := Z94.on hb148
                 replace Z122 := Z122.on hb148
                 replace M1 := M1.kp (Kept.of hb148)
                 replace Fy1 := Fy1.kp (Kept.of hb148)
                 replace Fy2 := Fy2.kp (Kept.of hb148)
                 replace L1 := L1.kp (Kept.of hb148)
                 replace L2 := L2.kp (Kept.of hb148)
                 replace h7 := h7.kp (Kept.of hb148)
                 replace BW := BW.trans (hb148.mono BW.size)
                 clear hb148
                 obtain ⟨c156, c157, c158, c159, c160, c161, c162, c163⟩ := K93.c8
                 obtain ⟨c164, c165, c166, c167, c168, c169, c170, c171⟩ := K121.c8
                 rw [e147] at c156 c157 c158 c159 c160 c161 c162 c163 c164 c165 c166 c167 c168 c169 c170 c171
                 go_wp2_with fail
                 clear c156 c157 c158 c159 c160 c161 c162 c163 c164 c165 c166 c167 c168 c169 c170 c171
                 rw [← e147]
                 clear e147
                 generalize w145.heap.size = b172 at *
                 refine (y_Cross L1 L2).mono ?_
                 rintro _ w173 ⟨c2, e4, rfl, h8, hb⟩
                 replace K4 := K4.on hb
                 replace K28 := K28.on hb
                 replace K93 := K93.on hb
                 replace K121 := K121.on hb
                 replace K149 := K149.on hb
                 replace Z29 := Z29.on hb
                 replace Z94 := Z94.on hb
                 replace Z122 := Z122.on hb
                 replace M1 := M1.kp (Kept.of hb)
                 replace Fy1 := Fy1.kp (Kept.of hb)
                 replace Fy2 := Fy2.kp (Kept.of hb)
                 replace L1 := L1.kp (Kept.of hb)
                 replace L2 := L2.kp (Kept.of hb)
                 replace h7 := h7.kp (Kept.of hb)
                 replace BW := BW.trans (hb.mono BW.size)
                 clear hb
                 obtain ⟨V174, e175, hb176, K177, Z178, -⟩ := alloc_new w173 [.bool c2.n, .slice c2.A c2.xs.length c2.c, .bool c2.m, .slice c2.B c2.ds.length c2.d] 27
                 have n179 : w.heap.size ≠ w173.heap.size := Nat.ne_of_lt (K4.lt)
                 have n180 : b49 ≠ w173.heap.size := Nat.ne_of_lt (K28.lt)
                 have n181 : b98 ≠ w173.heap.size := Nat.ne_of_lt (K93.lt)
                 have n182 : b144 ≠ w173.heap.size := Nat.ne_of_lt (K121.lt)
                 have n183 : b172 ≠ w173.heap.size := Nat.ne_of_lt (K149.lt)
                 have g184 : w.heap.size ≤ w173.heap.size := BW.size
                 replace K4 := K4.on hb176
                 replace K28 := K28.on hb176
                 replace K93 := K93.on hb176
                 replace K121 := K121.on hb176
                 replace K149 := K149.on hb176
                 replace Z29 := Z29.on hb176
                 replace Z94 := Z94.on hb176
                 replace Z122 := Z122.on hb176
                 replace M1 := M1.kp (Kept.of hb176)
                 replace Fy1 := Fy1.kp (Kept.of hb176)
                 replace Fy2 := Fy2.kp (Kept.of hb176)
                 replace L1 := L1.kp (Kept.of hb176)
                 replace L2 := L2.kp (Kept.of hb176)
                 replace h7 := h7.kp (Kept.of hb176)
                 replace h8 := h8.kp (Kept.of hb176)
                 replace BW := BW.trans (hb176.mono BW.size)
                 clear hb176
                 go_upto_region 14 with fail
                 rw [← e175]
                 clear e175
                 generalize w173.heap.size = b185 at *
                 clear Fy2 L2
                 go_cut [96] (fun sv wx => sv = .bool false ∧ Below w.heap.size w wx ∧ Fm wx (benchM zs) m ∧ Fy wx r1 y ∧ Fy wx ((benchM zs).thr r1) f1 ∧ Box wx (w.heap.size) [.slice a es.length c, .bool y.Y.n, .slice y.Y.A y.Y.xs.length y.Y.c, .bool y.Y.m, .slice y.Y.B y.Y.ds.length y.Y.d, .bool y.U.n, .slice y.U.A y.U.xs.length y.U.c, .bool y.U.m, .slice y.U.B y.U.ds.length y.U.d, .bool s.Y.n, .slice s.Y.A s.Y.xs.length s.Y.c, .bool s.Y.m, .slice s.Y.B s.Y.ds.length s.Y.d, .bool s.U.n, .slice s.U.A s.U.xs.length s.U.c, .bool s.U.m, .slice s.U.B s.U.ds.length s.U.d] ∧ Box wx (b49) (mcs m) ∧ Box wx (b98) (ycs f1))
                 case first =>
                   rcases h7 with ⟨rfl, -, C1⟩ | ⟨rfl, -⟩
                   · rcases h8 with ⟨rfl, -, C2⟩ | ⟨rfl, -⟩
                     · obtain ⟨c186, c187, c188, c189⟩ := K149.c4
                       obtain ⟨c190, c191, c192, c193⟩ := K177.c4
                       go_wp2_with fail
                       clear c186 c187 c188 c189 c190 c191 c192 c193
                       refine (r_same C1 C2).mono ?_
                       rintro _ w194 ⟨rfl, hb⟩
                       replace K4 := K4.on hb
                       replace K28 := K28.on hb
                       replace K93 := K93.on hb
                       replace K121 := K121.on hb
                       replace Z29 := Z29.on hb
                       replace Z94 := Z94.on hb
                       replace Z122 := Z122.on hb
                       replace M1 := M1.kp (Kept.of hb)
                       replace Fy1 := Fy1.kp (Kept.of hb)
                       replace L1 := L1.kp (Kept.of hb)
                       replace BW := BW.trans (hb.mono BW.size)
                       clear hb
                       rw [decide_eq_true (Mq.cross_thr (benchM_det _)).symm]
                       go_wp2
                       go_meet
                       exact ⟨rfl, BW, M1, Fy1, L1, K4, K28, K93⟩
                     · skip
                       go_wp2
                       go_meet
                       exact ⟨rfl, BW, M1, Fy1, L1, K4, K28, K93⟩
                   · clear h8
                     skip
                     go_wp2
                     go_meet
                     exact ⟨rfl, BW, M1, Fy1, L1, K4, K28, K93⟩
                 case rest =>
                   obtain ⟨rfl, BW, M1, Fy1, L1, K1, K3, K5⟩ := hcut
                   have c186 : Box wc (b49) [.bool m.A.n, .slice m.A.A m.A.xs.length m.A.c, .bool m.A.m, .slice m.A.B m.A.ds.length m.A.d, .bool m.B.n, .slice m.B.A m.B.xs.length m.B.c, .bool m.B.m, .slice m.B.B m.B.ds.length m.B.d, .bool m.C.n, .slice m.C.A m.C.xs.length m.C.c, .bool m.C.m, .slice m.C.B m.C.ds.length m.C.d, .bool m.D.n, .slice m.D.A m.D.xs.length m.D.c, .bool m.D.m, .slice m.D.B m.D.ds.length m.D.d] := K3
                   go_wp2_with (first | (refine wpList_ldM (by rfl) (by rfl) (by rfl) c186 (by rfl) ?_))
                   clear c186
                   refine (y_Back M1 (benchM_det _)).mono ?_
                   rintro _ w187 ⟨m2, rfl, M2, hb⟩
                   replace K1 := K1.on hb
                   replace K3 := K3.on hb
                   replace K5 := K5.on hb
                   replace M1 := M1.kp (Kept.of hb)
                   replace Fy1 := Fy1.kp (Kept.of hb)
                   replace L1 := L1.kp (Kept.of hb)
                   replace BW := BW.trans (hb.mono BW.size)
                   clear hb
                   obtain ⟨V188, e189, hb190, K191, Z192, -⟩ := alloc_new w187 [.bool m2.A.n, .slice m2.A.A m2.A.xs.length m2.A.c, .bool m2.A.m, .slice m2.A.B m2.A.ds.length m2.A.d, .bool m2.B.n, .slice m2.B.A m2.B.xs.length m2.B.c, .bool m2.B.m, .slice m2.B.B m2.B.ds.length m2.B.d, .bool m2.C.n, .slice m2.C.A m2.C.xs.length m2.C.c, .bool m2.C.m, .slice m2.C.B m2.C.ds.length m2.C.d, .bool m2.D.n, .slice m2.D.A m2.D.xs.length m2.D.c, .bool m2.D.m, .slice m2.D.B m2.D.ds.length m2.D.d] 37
                   replace K191 : Box V188 (w187.heap.size) (mcs m2) := K191
                   have n193 : w.heap.size ≠ w187.heap.size := Nat.ne_of_lt (K1.lt)
                   have n194 : b49 ≠ w187.heap.size := Nat.ne_of_lt (K3.lt)
                   have n195 : b98 ≠ w187.heap.size := Nat.ne_of_lt (K5.lt)
                   have g196 : w.heap.size ≤ w187.heap.size := BW.size
                   replace K1 := K1.on hb190
                   replace K3 := K3.on hb190
                   replace K5 := K5.on hb190
                   replace M1 := M1.kp (Kept.of hb190)
                   replace Fy1 := Fy1.kp (Kept.of hb190)
                   replace L1 := L1.kp (Kept.of hb190)
                   replace M2 := M2.kp (Kept.of hb190)
                   replace BW := BW.trans (hb190.mono BW.size)
                   clear hb190
                   go_upto_region 17 with (first | (refine wpList_stNew (by rfl) (by rfl) (by rfl) (by rfl) (by rfl) (by rfl) (by rfl) ?_))
                   (try simp only [p0, p1, p2, p3])
                   rw [← e189]
                   clear e189
                   generalize w187.heap.size = b197 at *
                   obtain ⟨c198, c199, c200, c201, c202, c203, c204, c205⟩ := K5.c8
                   have c206 : Box V188 (b197) [.bool m2.A.n, .slice m2.A.A m2.A.xs.length m2.A.c, .bool m2.A.m, .slice m2.A.B m2.A.ds.length m2.A.d, .bool m2.B.n, .slice m2.B.A m2.B.xs.length m2.B.c, .bool m2.B.m, .slice m2.B.B m2.B.ds.length m2.B.d, .bool m2.C.n, .slice m2.C.A m2.C.xs.length m2.C.c, .bool m2.C.m, .slice m2.C.B m2.C.ds.length m2.C.d, .bool m2.D.n, .slice m2.D.A m2.D.xs.length m2.D.c, .bool m2.D.m, .slice m2.D.B m2.D.ds.length m2.D.d] := K191
                   go_wp2_with (first | (refine wpList_ldM (by rfl) (by rfl) (by rfl) c206 (by rfl) ?_))
                   clear c198 c199 c200 c201 c202 c203 c204 c205 c206
                   refine (y_Thr M2 L1 (Mq.det_back (benchM_det _))).mono ?_
                   rintro _ w207 ⟨f3, e5, rfl, h9, hb⟩
                   replace K1 := K1.on hb
                   replace K3 := K3.on hb
                   replace K5 := K5.on hb
                   replace K191 := K191.on hb
                   replace M1 := M1.kp (Kept.of hb)
                   replace Fy1 := Fy1.kp (Kept.of hb)
                   replace L1 := L1.kp (Kept.of hb)
                   replace M2 := M2.kp (Kept.of hb)
                   replace BW := BW.trans (hb.mono BW.size)
                   clear hb
                   have ht := Mq.thr_back (r := r1) (benchM_det zs)
                   obtain ⟨rfl, L3⟩ := h9.yes (by rw [ht]; exact ⟨Fy1.fY.fits, Fy1.fU.fits⟩)
                   rw [ht] at L3
                   clear ht h9 M2 L1 M1
                   obtain ⟨V208, e209, hb210, K211, Z212, -⟩ := alloc_new w207 [.bool f3.Y.n, .slice f3.Y.A f3.Y.xs.length f3.Y.c, .bool f3.Y.m, .slice f3.Y.B f3.Y.ds.length f3.Y.d, .bool f3.U.n, .slice f3.U.A f3.U.xs.length f3.U.c, .bool f3.U.m, .slice f3.U.B f3.U.ds.length f3.U.d] 29
                   replace K211 : Box V208 (w207.heap.size) (ycs f3) := K211
                   have n213 : w.heap.size ≠ w207.heap.size := Nat.ne_of_lt (K1.lt)
                   have n214 : b49 ≠ w207.heap.size := Nat.ne_of_lt (K3.lt)
                   have n215 : b98 ≠ w207.heap.size := Nat.ne_of_lt (K5.lt)
                   have n216 : b197 ≠ w207.heap.size := Nat.ne_of_lt (K191.lt)
                   have g217 : w.heap.size ≤ w207.heap.size := BW.size
                   replace K1 := K1.on hb210
                   replace Fy1 := Fy1.kp (Kept.of hb210)
                   replace L3 := L3.kp (Kept.of hb210)
                   replace BW := BW.trans (hb210.mono BW.size)
                   clear hb210
                   obtain ⟨c218, c219, c220, c221, c222, c223, c224, c225, c226, c227, c228, c229, c230, c231, c232, c233, c234⟩ := K1.c17
                   rw [e209] at c218 c219 c220 c221 c222 c223 c224 c225 c226 c227 c228 c229 c230 c231 c232 c233 c234
                   go_wp2_with fail
                   clear c218 c219 c220 c221 c222 c223 c224 c225 c226 c227 c228 c229 c230 c231 c232 c233 c234
                   rw [← e209]
                   clear e209
                   generalize w207.heap.size = b235 at *
                   refine (y_sameY L3 Fy1).mono ?_
                   rintro _ w236 ⟨rfl, hb⟩
                   replace BW := BW.trans (hb.mono BW.size)
                   clear hb
                   go_wp2_with fail
                   refine (t_known (tab_below HT.out BW)).mono ?_
                   rintro _ w237 ⟨rfl, hb⟩
                   replace BW := BW.trans (hb.mono BW.size)
                   clear hb
                   go_wp2_with fail
                   exact bodyPost_ret (v := .bool true) (by simp [results, Tryz.results3, go_sem]) rfl ⟨rfl, BW⟩
               · obtain ⟨V118, e119, hb120, K121, Z122, -⟩ := alloc_new w117 [.bool f2.Y.n, .slice f2.Y.A f2.Y.xs.length f2.Y.c, .bool f2.Y.m, .slice f2.Y.B f2.Y.ds.length f2.Y.d, .bool f2.U.n, .slice f2.U.A f2.U.xs.length f2.U.c, .bool f2.U.m, .slice f2.U.B f2.U.ds.length f2.U.d] 29
                 replace K121 : Box V118 (w117.heap.size) (ycs f2) := K121
                 have n123 : w.heap.size ≠ w117.heap.size := Nat.ne_of_lt (K4.lt)
                 have n124 : b49 ≠ w117.heap.size := Nat.ne_of_lt (K28.lt)
                 have n125 : b98 ≠ w117.heap.size := Nat.ne_of_lt (K93.lt)
                 have g126 : w.heap.size ≤ w117.heap.size := BW.size
                 replace K4 := K4.on hb120
                 replace K28 := K28.on hb120
                 replace K93 := K93.on hb120
                 replace Z29 := Z29.on hb120
                 replace Z94 := Z94.on hb120
                 replace BW := BW.trans (hb120.mono BW.size)
                 clear hb120
                 go_wp2_with fail
                 rw [← e119]
                 clear e119
                 generalize w117.heap.size = b127 at *
                 refine (t_known (tab_below HT.out BW)).mono ?_
                 rintro _ w128 ⟨rfl, hb⟩
                 replace K4 := K4.on hb
                 replace K28 := K28.on hb
                 replace K93 := K93.on hb
                 replace K121 := K121.on hb
                 replace Z29 := Z29.on hb
                 replace Z94 := Z94.on hb
                 replace Z122 := Z122.on hb
                 replace BW := BW.trans (hb.mono BW.size)
                 clear hb
                 go_wp2_with fail
                 exact bodyPost_ret (v := .bool true) (by simp [results, Tryz.results3, go_sem]) rfl ⟨rfl, BW⟩
             · obtain ⟨V90, e91, hb92, K93, Z94, -⟩ := alloc_new w89 [.bool f1.Y.n, .slice f1.Y.A f1.Y.xs.length f1.Y.c, .bool f1.Y.m, .slice f1.Y.B f1.Y.ds.length f1.Y.d, .bool f1.U.n, .slice f1.U.A f1.U.xs.length f1.U.c, .bool f1.U.m, .slice f1.U.B f1.U.ds.length f1.U.d] 29
               replace K93 : Box V90 (w89.heap.size) (ycs f1) := K93
               have n95 : w.heap.size ≠ w89.heap.size := Nat.ne_of_lt (K4.lt)
               have n96 : b49 ≠ w89.heap.size := Nat.ne_of_lt (K28.lt)
               have g97 : w.heap.size ≤ w89.heap.size := BW.size
               replace K4 := K4.on hb92
               replace K28 := K28.on hb92
               replace Z29 := Z29.on hb92
               replace M1 := M1.kp (Kept.of hb92)
               replace Fy2 := Fy2.kp (Kept.of hb92)
               replace BW := BW.trans (hb92.mono BW.size)
               clear hb92
               go_upto_region 9 with fail
               rw [← e91]
               clear e91
               generalize w89.heap.size = b98 at *
               obtain ⟨c99, c100, c101, c102, c103, c104, c105, c106, c107, c108, c109, c110, c111, c112, c113, c114, c115⟩ := K4.c17
               have c116 : Box V90 (b49) [.bool m.A.n, .slice m.A.A m.A.xs.length m.A.c, .bool m.A.m, .slice m.A.B m.A.ds.length m.A.d, .bool m.B.n, .slice m.B.A m.B.xs.length m.B.c, .bool m.B.m, .slice m.B.B m.B.ds.length m.B.d, .bool m.C.n, .slice m.C.A m.C.xs.length m.C.c, .bool m.C.m, .slice m.C.B m.C.ds.length m.C.d, .bool m.D.n, .slice m.D.A m.D.xs.length m.D.c, .bool m.D.m, .slice m.D.B m.D.ds.length m.D.d] := K28
               go_wp2_with (first | (refine wpList_ldM (by rfl) (by rfl) (by rfl) c116 (by rfl) ?_))
               clear c99 c100 c101 c102 c103 c104 c105 c106 c107 c108 c109 c110 c111 c112 c113 c114 c115 c116
               refine (y_Thr M1 Fy2 (benchM_det _)).mono ?_
               rintro _ w117 ⟨f2, e2, rfl, -, hb⟩
               replace K4 := K4.on hb
               replace K28 := K28.on hb
               replace K93 := K93.on hb
               replace Z29 := Z29.on hb
               replace BW := BW.trans (hb.mono BW.size)
               clear hb
               obtain ⟨V118, e119, hb120, K121, Z122, -⟩ := alloc_new w117 [.bool f2.Y.n, .slice f2.Y.A f2.Y.xs.length f2.Y.c, .bool f2.Y.m, .slice f2.Y.B f2.Y.ds.length f2.Y.d, .bool f2.U.n, .slice f2.U.A f2.U.xs.length f2.U.c, .bool f2.U.m, .slice f2.U.B f2.U.ds.length f2.U.d] 29
               replace K121 : Box V118 (w117.heap.size) (ycs f2) := K121
               have n123 : w.heap.size ≠ w117.heap.size := Nat.ne_of_lt (K4.lt)
               have n124 : b49 ≠ w117.heap.size := Nat.ne_of_lt (K28.lt)
               have n125 : b98 ≠ w117.heap.size := Nat.ne_of_lt (K93.lt)
               have g126 : w.heap.size ≤ w117.heap.size := BW.size
               replace K4 := K4.on hb120
               replace K28 := K28.on hb120
               replace Z29 := Z29.on hb120
               replace BW := BW.trans (hb120.mono BW.size)
               clear hb120
               go_wp2_with fail
               rw [← e119]
               clear e119
               generalize w117.heap.size = b127 at *
               refine (t_known (tab_below HT.out BW)).mono ?_
               rintro _ w128 ⟨rfl, hb⟩
               replace K4 := K4.on hb
               replace K28 := K28.on hb
               replace Z29 := Z29.on hb
               replace BW := BW.trans (hb.mono BW.size)
               clear hb
               go_wp2_with fail
               exact bodyPost_ret (v := .bool true) (by simp [results, Tryz.results3, go_sem]) rfl ⟨rfl, BW⟩
           · refine (t_goodNo Z hz).mono ?_
             rintro _ w68 ⟨rfl, hb⟩
             replace K4 := K4.on hb
             replace K28 := K28.on hb
             replace Z29 := Z29.on hb
             replace BW := BW.trans (hb.mono BW.size)
             clear hb
             go_wp2_with fail
             refine (t_known (tab_below HT.out BW)).mono ?_
             rintro _ w69 ⟨rfl, hb⟩
             replace K4 := K4.on hb
             replace K28 := K28.on hb
             replace Z29 := Z29.on hb
             replace BW := BW.trans (hb.mono BW.size)
             clear hb
             go_wp2_with fail
             exact bodyPost_ret (v := .bool true) (by simp [results, Tryz.results3, go_sem]) rfl ⟨rfl, BW⟩
         · obtain ⟨V25, e26, hb27, K28, Z29, -⟩ := alloc_new w24 [.bool m.A.n, .slice m.A.A m.A.xs.length m.A.c, .bool m.A.m, .slice m.A.B m.A.ds.length m.A.d, .bool m.B.n, .slice m.B.A m.B.xs.length m.B.c, .bool m.B.m, .slice m.B.B m.B.ds.length m.B.d, .bool m.C.n, .slice m.C.A m.C.xs.length m.C.c, .bool m.C.m, .slice m.C.B m.C.ds.length m.C.d, .bool m.D.n, .slice m.D.A m.D.xs.length m.D.c, .bool m.D.m, .slice m.D.B m.D.ds.length m.D.d] 37
           replace K28 : Box V25 (w24.heap.size) (mcs m) := K28
           have n30 : w.heap.size ≠ w24.heap.size := Nat.ne_of_lt (K4.lt)
           have g31 : w.heap.size ≤ w24.heap.size := BW.size
           replace K4 := K4.on hb27
           replace Y := Y.kp (Kept.of hb27)
           replace BW := BW.trans (hb27.mono BW.size)
           clear hb27
           obtain ⟨c32, c33, c34, c35, c36, c37, c38, c39, c40, c41, c42, c43, c44, c45, c46, c47, c48⟩ := K4.c17
           rw [e26] at c32 c33 c34 c35 c36 c37 c38 c39 c40 c41 c42 c43 c44 c45 c46 c47 c48
           go_wp2_with (first | (refine wpList_stNew (by rfl) (by rfl) (by rfl) (by rfl) (by rfl) (by rfl) (by rfl) ?_))
           (try simp only [p0, p1, p2, p3])
           clear c32 c33 c34 c35 c36 c37 c38 c39 c40 c41 c42 c43 c44 c45 c46 c47 c48
           rw [← e26]
           clear e26
           generalize w24.heap.size = b49 at *
           refine (t_goodNo Y hy).mono ?_
           rintro _ w50 ⟨rfl, hb⟩
           replace K4 := K4.on hb
           replace K28 := K28.on hb
           replace Z29 := Z29.on hb
           replace BW := BW.trans (hb.mono BW.size)
           clear hb
           go_wp2_with fail
           refine (t_known (tab_below HT.out BW)).mono ?_
           rintro _ w51 ⟨rfl, hb⟩
           replace K4 := K4.on hb
           replace K28 := K28.on hb
           replace Z29 := Z29.on hb
           replace BW := BW.trans (hb.mono BW.size)
           clear hb
           go_wp2_with fail
           exact bodyPost_ret (v := .bool true) (by simp [results, Tryz.results3, go_sem]) rfl ⟨rfl, BW⟩
       · obtain ⟨V25, e26, hb27, K28, Z29, -⟩ := alloc_new w24 [.bool m.A.n, .slice m.A.A m.A.xs.length m.A.c, .bool m.A.m, .slice m.A.B m.A.ds.length m.A.d, .bool m.B.n, .slice m.B.A m.B.xs.length m.B.c, .bool m.B.m, .slice m.B.B m.B.ds.length m.B.d, .bool m.C.n, .slice m.C.A m.C.xs.length m.C.c, .bool m.C.m, .slice m.C.B m.C.ds.length m.C.d, .bool m.D.n, .slice m.D.A m.D.xs.length m.D.c, .bool m.D.m, .slice m.D.B m.D.ds.length m.D.d] 37
         replace K28 : Box V25 (w24.heap.size) (mcs m) := K28
         have n30 : w.heap.size ≠ w24.heap.size := Nat.ne_of_lt (K4.lt)
         have g31 : w.heap.size ≤ w24.heap.size := BW.size
         replace K4 := K4.on hb27
         replace BW := BW.trans (hb27.mono BW.size)
         clear hb27
         go_wp2_with (first | (refine wpList_stNew (by rfl) (by rfl) (by rfl) (by rfl) (by rfl) (by rfl) (by rfl) ?_))
         (try simp only [p0, p1, p2, p3])
         rw [← e26]
         clear e26
         generalize w24.heap.size = b32 at *
         refine (t_known (tab_below HT.out BW)).mono ?_
         rintro _ w33 ⟨rfl, hb⟩
         replace K4 := K4.on hb
         replace K28 := K28.on hb
         replace Z29 := Z29.on hb
         replace BW := BW.trans (hb.mono BW.size)
         clear hb
         go_wp2_with fail
         exact bodyPost_ret (v := .bool true) (by simp [results, Tryz.results3, go_sem]) rfl ⟨rfl, BW⟩
     · refine (b_MatrixNo (HS.out.on BW) (fun h => hM ⟨h.1, h.2.at HS.out.2.2.1⟩)).mono ?_
       rintro _ w24 ⟨m, er, rfl, he, hb⟩
       replace K4 := K4.on hb
       replace BW := BW.trans (hb.mono BW.size)
       clear hb
       have heb : (er == 0) = false := by simpa using he
       obtain ⟨V25, e26, hb27, K28, Z29, -⟩ := alloc_new w24 [.bool m.A.n, .slice m.A.A m.A.xs.length m.A.c, .bool m.A.m, .slice m.A.B m.A.ds.length m.A.d, .bool m.B.n, .slice m.B.A m.B.xs.length m.B.c, .bool m.B.m, .slice m.B.B m.B.ds.length m.B.d, .bool m.C.n, .slice m.C.A m.C.xs.length m.C.c, .bool m.C.m, .slice m.C.B m.C.ds.length m.C.d, .bool m.D.n, .slice m.D.A m.D.xs.length m.D.c, .bool m.D.m, .slice m.D.B m.D.ds.length m.D.d] 37
       replace K28 : Box V25 (w24.heap.size) (mcs m) := K28
       have n30 : w.heap.size ≠ w24.heap.size := Nat.ne_of_lt (K4.lt)
       have g31 : w.heap.size ≤ w24.heap.size := BW.size
       replace BW := BW.trans (hb27.mono BW.size)
       clear hb27
       go_wp2_with (first | (refine wpList_stNew (by rfl) (by rfl) (by rfl) (by rfl) (by rfl) (by rfl) (by rfl) ?_))
       (try simp only [p0, p1, p2, p3])
       rw [← e26]
       clear e26
       generalize w24.heap.size = b32 at *
       refine (t_known (tab_below HT.out BW)).mono ?_
       rintro _ w33 ⟨rfl, hb⟩
       replace BW := BW.trans (hb.mono BW.size)
       clear hb
       go_wp2_with fail
       exact bodyPost_ret (v := .bool true) (by simp [results, Tryz.results3, go_sem]) rfl ⟨rfl, BW⟩
   · go_wp2_with fail
     refine (t_known (tab_below HT.out BW)).mono ?_
     rintro _ w7 ⟨rfl, hb⟩
     replace BW := BW.trans (hb.mono BW.size)
     clear hb
     go_wp2_with fail
     exact bodyPost_ret (v := .bool true) (by simp [results, Tryz.results3, go_sem]) rfl ⟨rfl, BW⟩
end Go.Proofs.YtjamfkafgfpobaaGreatDoor
