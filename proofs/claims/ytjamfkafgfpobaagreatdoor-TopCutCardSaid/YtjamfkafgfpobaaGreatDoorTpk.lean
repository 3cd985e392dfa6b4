/-
  A bench cut anywhere: the matrices of the pieces, one behind the other, are its matrix, the ray's way is the same: yes. Conditions: that what is handed in is no longer than memory, and the table of digits.
-/
import Derived.Test.YtjamfkafgfpobaaGreatDoorRsy
import Derived.Test.YtjamfkafgfpobaaGreatDoorTq0
import Derived.Deep.RegionHeld3
import Derived.Deep.DeepCutAuto
import Derived.BigRegion
namespace Go.Proofs.YtjamfkafgfpobaaGreatDoor
open Go.RowKit Nb
set_option maxHeartbeats 32000000 in
set_option maxRecDepth 100000 in
theorem cut_walk {a : Option Addr} {c : Nat} {es : List Ev} {y s : Yv} {X : Int} {w : World} (S : Sle w a c es) (Y : Xy w y) (Z : Xy w s) (htab : Tab w) :
    Calls Tryz.prog 5 #[.agg #[.slice a es.length c, .bool y.Y.n, .slice y.Y.A y.Y.xs.length y.Y.c, .bool y.Y.m, .slice y.Y.B y.Y.ds.length y.Y.d, .bool y.U.n, .slice y.U.A y.U.xs.length y.U.c, .bool y.U.m, .slice y.U.B y.U.ds.length y.U.d, .bool s.Y.n, .slice s.Y.A s.Y.xs.length s.Y.c, .bool s.Y.m, .slice s.Y.B s.Y.ds.length s.Y.d, .bool s.U.n, .slice s.U.A s.U.xs.length s.U.c, .bool s.U.m, .slice s.U.B s.U.ds.length s.U.d], .int .i64 X] w (fun e w' => e = .returned (.bool true) ∧ Below w.heap.size w w') := by
 have HS := Lib.hid S
 have HT := Lib.hid htab
 clear S htab
 have BW : Below w.heap.size w w := Below.refl _ _
 obtain ⟨V1, e2, hb3, K4, Z5, -⟩ := alloc_new w [.slice a es.length c, .bool y.Y.n, .slice y.Y.A y.Y.xs.length y.Y.c, .bool y.Y.m, .slice y.Y.B y.Y.ds.length y.Y.d, .bool y.U.n, .slice y.U.A y.U.xs.length y.U.c, .bool y.U.m, .slice y.U.B y.U.ds.length y.U.d, .bool s.Y.n, .slice s.Y.A s.Y.xs.length s.Y.c, .bool s.Y.m, .slice s.Y.B s.Y.ds.length s.Y.d, .bool s.U.n, .slice s.U.A s.U.xs.length s.U.c, .bool s.U.m, .slice s.U.B s.U.ds.length s.U.d] 31
 have g6 : w.heap.size ≤ w.heap.size := BW.size
 replace Y := Y.kp (Kept.of hb3)
 replace Z := Z.kp (Kept.of hb3)
 replace BW := BW.trans (hb3.mono BW.size)
 clear hb3
 go_enter Tryz.func5, Tryz.ntmps5
 go_wp2_with fail
 rw [← e2]
 clear e2
 go_cut [27] (fun sw0 wx => ∃  (r : Bool), sw0 = .bool r ∧ Below w.heap.size w wx ∧ Box wx (w.heap.size) [.slice a es.length c, .bool y.Y.n, .slice y.Y.A y.Y.xs.length y.Y.c, .bool y.Y.m, .slice y.Y.B y.Y.ds.length y.Y.d, .bool y.U.n, .slice y.U.A y.U.xs.length y.U.c, .bool y.U.m, .slice y.U.B y.U.ds.length y.U.d, .bool s.Y.n, .slice s.Y.A s.Y.xs.length s.Y.c, .bool s.Y.m, .slice s.Y.B s.Y.ds.length s.Y.d, .bool s.U.n, .slice s.U.A s.U.xs.length s.U.c, .bool s.U.m, .slice s.U.B s.U.ds.length s.U.d] ∧ Fz wx (w.heap.size) ∧ Xy wx y ∧ Xy wx s)
 case first =>
  refine wp_region_noPanic ?_
  have hb : Below V1.heap.size V1 V1.drew := (Below.refl _ _).drew
  replace K4 := K4.on hb
  replace Z5 := Z5.on hb
  replace Y := Y.kp (Kept.of hb)
  replace Z := Z.kp (Kept.of hb)
  replace BW := BW.trans (hb.mono BW.size)
  clear hb
  refine wp_region_held_drew (S := (fun wx => Cs wx (w.heap.size) 0 [.slice a es.length c, .bool y.Y.n, .slice y.Y.A y.Y.xs.length y.Y.c, .bool y.Y.m, .slice y.Y.B y.Y.ds.length y.Y.d, .bool y.U.n, .slice y.U.A y.U.xs.length y.U.c, .bool y.U.m, .slice y.U.B y.U.ds.length y.U.d, .bool s.Y.n, .slice s.Y.A s.Y.xs.length s.Y.c, .bool s.Y.m, .slice s.Y.B s.Y.ds.length s.Y.d, .bool s.U.n, .slice s.U.A s.U.xs.length s.U.c, .bool s.U.m, .slice s.U.B s.U.ds.length s.U.d])) (by kernel_rfl) (by exact K4.cs) (fun hHeld => ?_)
  generalize V1.drew = Vd7 at *
  refine pT 0 ?_
  (try simp only [p0, p1, p2, p3])
  refine pT 1 ?_
  (try simp only [p0, p1, p2, p3])
  refine pT 3 ?_
  (try simp only [p0, p1, p2, p3])
  refine pT 4 ?_
  (try simp only [p0, p1, p2, p3])
  refine pT 6 ?_
  (try simp only [p0, p1, p2, p3])
  refine pT 7 ?_
  (try simp only [p0, p1, p2, p3])
  refine pR1 2 (fun K hK => ?_)
  go_simp
  (go_at_call 7; with_reducible refine (c_elems (HS.out.on BW)).mono ?_)
  rintro _ w8 ⟨n1, rfl, hb⟩
  (try go_wp2_with fail)
  replace K4 := K4.on hb
  replace Z5 := Z5.on hb
  replace Y := Y.kp (Kept.of hb)
  replace Z := Z.kp (Kept.of hb)
  replace BW := BW.trans (hb.mono BW.size)
  clear hb
  clear hHeld
  refine hK.out _ _ (by exact K4.cs) (fun hHeld => ?_)
  clear hK
  (try simp only [p0, p1, p2, p3])
  refine pR1 5 (fun K hK => ?_)
  go_simp
  (go_at_call 8; with_reducible refine (c_ray Y).mono ?_)
  rintro _ w9 ⟨n2, rfl, hb⟩
  (try go_wp2_with fail)
  replace K4 := K4.on hb
  replace Z5 := Z5.on hb
  replace Y := Y.kp (Kept.of hb)
  replace Z := Z.kp (Kept.of hb)
  replace BW := BW.trans (hb.mono BW.size)
  clear hb
  clear hHeld
  refine hK.out _ _ (by exact K4.cs) (fun hHeld => ?_)
  clear hK
  (try simp only [p0, p1, p2, p3])
  refine pR1 8 (fun K hK => ?_)
  go_simp
  (go_at_call 8; with_reducible refine (c_ray Z).mono ?_)
  rintro _ w10 ⟨n3, rfl, hb⟩
  (try go_wp2_with fail)
  replace K4 := K4.on hb
  replace Z5 := Z5.on hb
  replace Y := Y.kp (Kept.of hb)
  replace Z := Z.kp (Kept.of hb)
  replace BW := BW.trans (hb.mono BW.size)
  clear hb
  clear hHeld
  refine hK.out _ _ (by exact K4.cs) (fun hHeld => ?_)
  clear hK
  (try simp only [p0, p1, p2, p3])
  refine pR1 9 (fun K hK => ?_)
  go_simp
  obtain ⟨V11, e12, hb13, K14, -, -⟩ := alloc_new w10 [.int .i64 n1, .int .i64 n2, .int .i64 n3] 3
  have n15 : w.heap.size ≠ w10.heap.size := Nat.ne_of_lt (K4.lt)
  replace K4 := K4.on hb13
  replace Z5 := Z5.on hb13
  replace Y := Y.kp (Kept.of hb13)
  replace Z := Z.kp (Kept.of hb13)
  replace BW := BW.trans (hb13.mono BW.size)
  clear hb13
  rw [← e12]
  clear e12
  generalize w10.heap.size = b16 at *
  clear hHeld
  refine hK.out _ _ (by exact K4.cs) (fun hHeld => ?_)
  clear hK
  (try simp only [p0, p1, p2, p3])
  refine pR1 10 (fun K hK => ?_)
  go_simp
  (go_at_call 6; with_reducible refine (c_beyond3 K14).mono ?_)
  rintro _ w17 ⟨r, rfl, hb⟩
  (try go_wp2_with fail)
  replace K4 := K4.on hb
  replace Z5 := Z5.on hb
  replace Y := Y.kp (Kept.of hb)
  replace Z := Z.kp (Kept.of hb)
  replace BW := BW.trans (hb.mono BW.size)
  clear hb
  clear hHeld
  refine hK.out _ _ (by exact K4.cs) (fun hHeld => ?_)
  clear hK
  (try simp only [p0, p1, p2, p3])
  refine wpAnyH_done (by kernel_rfl) (NoPanic.normal ?_) _
  go_wp2
  go_meet
  exact ⟨r, rfl, BW, K4, Z5, Y, Z⟩
 case rest =>
  obtain ⟨r, rfl, BW, K4, Z5, Y, Z⟩ := hcut
  cases r
  ·clear Z
   obtain ⟨c7, c8, c9, c10, c11, c12, c13, c14, c15, c16, c17, c18, c19, c20, c21, c22, c23⟩ := K4.c17
   go_wp2_with fail
   clear c7 c8 c9 c10 c11 c12 c13 c14 c15 c16 c17 c18 c19 c20 c21 c22 c23
   refine (t_counted (wrapN (Nat.le_trans HS.out.1 HS.out.2.1))).mono ?_
   rintro _ w24 ⟨k, rfl, hk, hb⟩
   replace K4 := K4.on hb
   replace Y := Y.kp (Kept.of hb)
   replace BW := BW.trans (hb.mono BW.size)
   clear hb
   have HKN := Lib.hid hk
   have HKC := Lib.hid (Nat.le_trans hk HS.out.1)
   clear hk
   obtain ⟨c25, c26, c27, c28, c29, c30, c31, c32, c33, c34, c35, c36, c37, c38, c39, c40, c41⟩ := K4.c17
   go_wp2_with fail
   clear c25 c26 c27 c28 c29 c30 c31 c32 c33 c34 c35 c36 c37 c38 c39 c40 c41
   by_cases hM : es.length ≤ 4096 ∧ MayL w es
   ·obtain ⟨zs, F0⟩ := hM.2.fes
    have HF1 := Lib.hid F0
    have HN := Lib.hid hM.1
    clear F0
    refine (b_Matrix (HS.out.on BW) (HF1.out.kp (Kept.of BW)) HN.out).mono ?_
    rintro _ w42 ⟨m, er, rfl, h1, hb⟩
    replace K4 := K4.on hb
    replace Y := Y.kp (Kept.of hb)
    replace BW := BW.trans (hb.mono BW.size)
    clear hb
    obtain ⟨V43, e44, hb45, K46, Z47, -⟩ := alloc_new w42 [.bool m.A.n, .slice m.A.A m.A.xs.length m.A.c, .bool m.A.m, .slice m.A.B m.A.ds.length m.A.d, .bool m.B.n, .slice m.B.A m.B.xs.length m.B.c, .bool m.B.m, .slice m.B.B m.B.ds.length m.B.d, .bool m.C.n, .slice m.C.A m.C.xs.length m.C.c, .bool m.C.m, .slice m.C.B m.C.ds.length m.C.d, .bool m.D.n, .slice m.D.A m.D.xs.length m.D.c, .bool m.D.m, .slice m.D.B m.D.ds.length m.D.d] 37
    replace K46 : Box V43 (w42.heap.size) (mcs m) := K46
    have n48 : w.heap.size ≠ w42.heap.size := Nat.ne_of_lt (K4.lt)
    have g49 : w.heap.size ≤ w42.heap.size := BW.size
    replace K4 := K4.on hb45
    replace Y := Y.kp (Kept.of hb45)
    replace h1 := h1.kp (Kept.of hb45)
    replace BW := BW.trans (hb45.mono BW.size)
    clear hb45
    go_upto_region 5 with (first | (refine wpList_stNew (by rfl) (by rfl) (by rfl) (by rfl) (by rfl) (by rfl) (by rfl) ?_))
    (try simp only [p0, p1, p2, p3])
    rw [← e44]
    clear e44
    generalize w42.heap.size = b50 at *
    obtain ⟨c51, c52, c53, c54, c55, c56, c57, c58, c59, c60, c61, c62, c63, c64, c65, c66, c67⟩ := K4.c17
    go_wp2_with (first | (refine wpList_slHE (by rfl) (by rfl) (by rfl) (by rfl) HKC.out ?_))
    clear c51 c52 c53 c54 c55 c56 c57 c58 c59 c60 c61 c62 c63 c64 c65 c66 c67
    refine (b_MatrixL ((HS.out.on BW).take HKN.out) ((HF1.out.kp (Kept.of BW)).take) (by rw [List.length_take]; have := HN.out; omega) (by rw [List.length_take]; have := HKN.out; omega)).mono ?_
    rintro _ w68 ⟨m2, e2, rfl, h2, hb⟩
    replace K4 := K4.on hb
    replace K46 := K46.on hb
    replace Y := Y.kp (Kept.of hb)
    replace h1 := h1.kp (Kept.of hb)
    replace BW := BW.trans (hb.mono BW.size)
    clear hb
    obtain ⟨V69, e70, hb71, K72, Z73, -⟩ := alloc_new w68 [.bool m2.A.n, .slice m2.A.A m2.A.xs.length m2.A.c, .bool m2.A.m, .slice m2.A.B m2.A.ds.length m2.A.d, .bool m2.B.n, .slice m2.B.A m2.B.xs.length m2.B.c, .bool m2.B.m, .slice m2.B.B m2.B.ds.length m2.B.d, .bool m2.C.n, .slice m2.C.A m2.C.xs.length m2.C.c, .bool m2.C.m, .slice m2.C.B m2.C.ds.length m2.C.d, .bool m2.D.n, .slice m2.D.A m2.D.xs.length m2.D.c, .bool m2.D.m, .slice m2.D.B m2.D.ds.length m2.D.d] 37
    replace K72 : Box V69 (w68.heap.size) (mcs m2) := K72
    have n74 : w.heap.size ≠ w68.heap.size := Nat.ne_of_lt (K4.lt)
    have n75 : b50 ≠ w68.heap.size := Nat.ne_of_lt (K46.lt)
    have g76 : w.heap.size ≤ w68.heap.size := BW.size
    replace K4 := K4.on hb71
    replace K46 := K46.on hb71
    replace Y := Y.kp (Kept.of hb71)
    replace h1 := h1.kp (Kept.of hb71)
    replace h2 := h2.kp (Kept.of hb71)
    replace BW := BW.trans (hb71.mono BW.size)
    clear hb71
    go_upto_region 6 with (first | (refine wpList_stNew (by rfl) (by rfl) (by rfl) (by rfl) (by rfl) (by rfl) (by rfl) ?_))
    (try simp only [p0, p1, p2, p3])
    rw [← e70]
    clear e70
    generalize w68.heap.size = b77 at *
    obtain ⟨c78, c79, c80, c81, c82, c83, c84, c85, c86, c87, c88, c89, c90, c91, c92, c93, c94⟩ := K4.c17
    go_wp2_with (first | (refine wpList_slLE (by rfl) (by rfl) (by rfl) (by rfl) HKN.out ?_; intro b2 hb2))
    clear c78 c79 c80 c81 c82 c83 c84 c85 c86 c87 c88 c89 c90 c91 c92 c93 c94
    refine (b_MatrixL ((HS.out.on BW).drop HKN.out hb2.out) ((HF1.out.kp (Kept.of BW)).drop) (by rw [List.length_drop]; have := HN.out; omega) (List.length_drop)).mono ?_
    rintro _ w95 ⟨m3, e3, rfl, h3, hb⟩
    replace K4 := K4.on hb
    replace K46 := K46.on hb
    replace K72 := K72.on hb
    replace Y := Y.kp (Kept.of hb)
    replace h1 := h1.kp (Kept.of hb)
    replace h2 := h2.kp (Kept.of hb)
    replace BW := BW.trans (hb.mono BW.size)
    clear hb
    rcases h1 with ⟨rfl, -, M1⟩ | ⟨rfl, -⟩
    ·rcases h2 with ⟨rfl, -, M2⟩ | ⟨rfl, -⟩
     ·rcases h3 with ⟨rfl, -, M3⟩ | ⟨rfl, -⟩
      ·obtain ⟨V96, e97, hb98, K99, Z100, -⟩ := alloc_new w95 [.bool m3.A.n, .slice m3.A.A m3.A.xs.length m3.A.c, .bool m3.A.m, .slice m3.A.B m3.A.ds.length m3.A.d, .bool m3.B.n, .slice m3.B.A m3.B.xs.length m3.B.c, .bool m3.B.m, .slice m3.B.B m3.B.ds.length m3.B.d, .bool m3.C.n, .slice m3.C.A m3.C.xs.length m3.C.c, .bool m3.C.m, .slice m3.C.B m3.C.ds.length m3.C.d, .bool m3.D.n, .slice m3.D.A m3.D.xs.length m3.D.c, .bool m3.D.m, .slice m3.D.B m3.D.ds.length m3.D.d] 37
       replace K99 : Box V96 (w95.heap.size) (mcs m3) := K99
       have n101 : w.heap.size ≠ w95.heap.size := Nat.ne_of_lt (K4.lt)
       have n102 : b50 ≠ w95.heap.size := Nat.ne_of_lt (K46.lt)
       have n103 : b77 ≠ w95.heap.size := Nat.ne_of_lt (K72.lt)
       have g104 : w.heap.size ≤ w95.heap.size := BW.size
       replace K4 := K4.on hb98
       replace K46 := K46.on hb98
       replace K72 := K72.on hb98
       replace Y := Y.kp (Kept.of hb98)
       replace M1 := M1.kp (Kept.of hb98)
       replace M2 := M2.kp (Kept.of hb98)
       replace M3 := M3.kp (Kept.of hb98)
       replace BW := BW.trans (hb98.mono BW.size)
       clear hb98
       go_upto_region 7 with (first | (refine wpList_stNew (by rfl) (by rfl) (by rfl) (by rfl) (by rfl) (by rfl) (by rfl) ?_))
       (try simp only [p0, p1, p2, p3])
       rw [← e97]
       clear e97
       generalize w95.heap.size = b105 at *
       go_upto_region 9 with fail
       have c106 : Box V96 (b105) [.bool m3.A.n, .slice m3.A.A m3.A.xs.length m3.A.c, .bool m3.A.m, .slice m3.A.B m3.A.ds.length m3.A.d, .bool m3.B.n, .slice m3.B.A m3.B.xs.length m3.B.c, .bool m3.B.m, .slice m3.B.B m3.B.ds.length m3.B.d, .bool m3.C.n, .slice m3.C.A m3.C.xs.length m3.C.c, .bool m3.C.m, .slice m3.C.B m3.C.ds.length m3.C.d, .bool m3.D.n, .slice m3.D.A m3.D.xs.length m3.D.c, .bool m3.D.m, .slice m3.D.B m3.D.ds.length m3.D.d] := K99
       have c107 : Box V96 (b77) [.bool m2.A.n, .slice m2.A.A m2.A.xs.length m2.A.c, .bool m2.A.m, .slice m2.A.B m2.A.ds.length m2.A.d, .bool m2.B.n, .slice m2.B.A m2.B.xs.length m2.B.c, .bool m2.B.m, .slice m2.B.B m2.B.ds.length m2.B.d, .bool m2.C.n, .slice m2.C.A m2.C.xs.length m2.C.c, .bool m2.C.m, .slice m2.C.B m2.C.ds.length m2.C.d, .bool m2.D.n, .slice m2.D.A m2.D.xs.length m2.D.c, .bool m2.D.m, .slice m2.D.B m2.D.ds.length m2.D.d] := K72
       go_wp2_with (first | (refine wpList_ldM (by rfl) (by rfl) (by rfl) c106 (by rfl) ?_) | (refine wpList_ldM (by rfl) (by rfl) (by rfl) c107 (by rfl) ?_))
       clear c106 c107
       refine (y_Mul M3 M2 (benchM_det _) (benchM_det _)).mono ?_
       rintro _ w108 ⟨m4, e4, rfl, h4, hb⟩
       replace K4 := K4.on hb
       replace K46 := K46.on hb
       replace K72 := K72.on hb
       replace K99 := K99.on hb
       replace Y := Y.kp (Kept.of hb)
       replace M1 := M1.kp (Kept.of hb)
       replace M2 := M2.kp (Kept.of hb)
       replace M3 := M3.kp (Kept.of hb)
       replace BW := BW.trans (hb.mono BW.size)
       clear hb
       rw [bench_cut] at h4
       obtain ⟨rfl, M4⟩ := h4.yes M1.fits
       clear h4
       obtain ⟨V109, e110, hb111, K112, Z113, -⟩ := alloc_new w108 [.bool m4.A.n, .slice m4.A.A m4.A.xs.length m4.A.c, .bool m4.A.m, .slice m4.A.B m4.A.ds.length m4.A.d, .bool m4.B.n, .slice m4.B.A m4.B.xs.length m4.B.c, .bool m4.B.m, .slice m4.B.B m4.B.ds.length m4.B.d, .bool m4.C.n, .slice m4.C.A m4.C.xs.length m4.C.c, .bool m4.C.m, .slice m4.C.B m4.C.ds.length m4.C.d, .bool m4.D.n, .slice m4.D.A m4.D.xs.length m4.D.c, .bool m4.D.m, .slice m4.D.B m4.D.ds.length m4.D.d] 37
       replace K112 : Box V109 (w108.heap.size) (mcs m4) := K112
       have n114 : w.heap.size ≠ w108.heap.size := Nat.ne_of_lt (K4.lt)
       have n115 : b50 ≠ w108.heap.size := Nat.ne_of_lt (K46.lt)
       have n116 : b77 ≠ w108.heap.size := Nat.ne_of_lt (K72.lt)
       have n117 : b105 ≠ w108.heap.size := Nat.ne_of_lt (K99.lt)
       have g118 : w.heap.size ≤ w108.heap.size := BW.size
       replace K4 := K4.on hb111
       replace K46 := K46.on hb111
       replace K72 := K72.on hb111
       replace K99 := K99.on hb111
       replace Y := Y.kp (Kept.of hb111)
       replace M1 := M1.kp (Kept.of hb111)
       replace M2 := M2.kp (Kept.of hb111)
       replace M3 := M3.kp (Kept.of hb111)
       replace M4 := M4.kp (Kept.of hb111)
       replace BW := BW.trans (hb111.mono BW.size)
       clear hb111
       go_upto_region 10 with (first | (refine wpList_stNew (by rfl) (by rfl) (by rfl) (by rfl) (by rfl) (by rfl) (by rfl) ?_))
       (try simp only [p0, p1, p2, p3])
       rw [← e110]
       clear e110
       generalize w108.heap.size = b119 at *
       have c120 : Box V109 (b50) [.bool m.A.n, .slice m.A.A m.A.xs.length m.A.c, .bool m.A.m, .slice m.A.B m.A.ds.length m.A.d, .bool m.B.n, .slice m.B.A m.B.xs.length m.B.c, .bool m.B.m, .slice m.B.B m.B.ds.length m.B.d, .bool m.C.n, .slice m.C.A m.C.xs.length m.C.c, .bool m.C.m, .slice m.C.B m.C.ds.length m.C.d, .bool m.D.n, .slice m.D.A m.D.xs.length m.D.c, .bool m.D.m, .slice m.D.B m.D.ds.length m.D.d] := K46
       have c121 : Box V109 (b119) [.bool m4.A.n, .slice m4.A.A m4.A.xs.length m4.A.c, .bool m4.A.m, .slice m4.A.B m4.A.ds.length m4.A.d, .bool m4.B.n, .slice m4.B.A m4.B.xs.length m4.B.c, .bool m4.B.m, .slice m4.B.B m4.B.ds.length m4.B.d, .bool m4.C.n, .slice m4.C.A m4.C.xs.length m4.C.c, .bool m4.C.m, .slice m4.C.B m4.C.ds.length m4.C.d, .bool m4.D.n, .slice m4.D.A m4.D.xs.length m4.D.c, .bool m4.D.m, .slice m4.D.B m4.D.ds.length m4.D.d] := K112
       go_wp2_with (first | (refine wpList_ldG (by rfl) (by rfl) (by rfl) c120 (by rfl) ?_) | (refine wpList_ldG (by rfl) (by rfl) (by rfl) c121 (by rfl) ?_))
       clear c120 c121
       refine (y_sameM M1 M4).mono ?_
       rintro _ w122 ⟨rfl, hb⟩
       replace K4 := K4.on hb
       replace K46 := K46.on hb
       replace K72 := K72.on hb
       replace K99 := K99.on hb
       replace K112 := K112.on hb
       replace Y := Y.kp (Kept.of hb)
       replace M1 := M1.kp (Kept.of hb)
       replace M2 := M2.kp (Kept.of hb)
       replace M3 := M3.kp (Kept.of hb)
       replace M4 := M4.kp (Kept.of hb)
       replace BW := BW.trans (hb.mono BW.size)
       clear hb
       clear M4
       obtain ⟨c123, c124, c125, c126, c127, c128, c129, c130, c131, c132, c133, c134, c135, c136, c137, c138, c139⟩ := K4.c17
       go_wp2_with fail
       clear c123 c124 c125 c126 c127 c128 c129 c130 c131 c132 c133 c134 c135 c136 c137 c138 c139
       by_cases hy : oky y
       ·obtain ⟨r, Fy1⟩ := hy.fy Y
        clear Y hy
        refine (t_good Fy1).mono ?_
        rintro _ w140 ⟨rfl, hb⟩
        replace K4 := K4.on hb
        replace K46 := K46.on hb
        replace K72 := K72.on hb
        replace K99 := K99.on hb
        replace K112 := K112.on hb
        replace M1 := M1.kp (Kept.of hb)
        replace M2 := M2.kp (Kept.of hb)
        replace M3 := M3.kp (Kept.of hb)
        replace Fy1 := Fy1.kp (Kept.of hb)
        replace BW := BW.trans (hb.mono BW.size)
        clear hb
        obtain ⟨c141, c142, c143, c144, c145, c146, c147, c148, c149, c150, c151, c152, c153, c154, c155, c156, c157⟩ := K4.c17
        have c158 : Box w140 (b77) [.bool m2.A.n, .slice m2.A.A m2.A.xs.length m2.A.c, .bool m2.A.m, .slice m2.A.B m2.A.ds.length m2.A.d, .bool m2.B.n, .slice m2.B.A m2.B.xs.length m2.B.c, .bool m2.B.m, .slice m2.B.B m2.B.ds.length m2.B.d, .bool m2.C.n, .slice m2.C.A m2.C.xs.length m2.C.c, .bool m2.C.m, .slice m2.C.B m2.C.ds.length m2.C.d, .bool m2.D.n, .slice m2.D.A m2.D.xs.length m2.D.c, .bool m2.D.m, .slice m2.D.B m2.D.ds.length m2.D.d] := K72
        go_wp2_with (first | (refine wpList_ldM (by rfl) (by rfl) (by rfl) c158 (by rfl) ?_))
        clear c141 c142 c143 c144 c145 c146 c147 c148 c149 c150 c151 c152 c153 c154 c155 c156 c157 c158
        refine (y_Thr M2 Fy1 (benchM_det _)).mono ?_
        rintro _ w159 ⟨f1, e5, rfl, h5, hb⟩
        replace K4 := K4.on hb
        replace K46 := K46.on hb
        replace K72 := K72.on hb
        replace K99 := K99.on hb
        replace K112 := K112.on hb
        replace M1 := M1.kp (Kept.of hb)
        replace M2 := M2.kp (Kept.of hb)
        replace M3 := M3.kp (Kept.of hb)
        replace Fy1 := Fy1.kp (Kept.of hb)
        replace BW := BW.trans (hb.mono BW.size)
        clear hb
        rcases h5 with ⟨rfl, -, L1⟩ | ⟨rfl, -⟩
        ·obtain ⟨V160, e161, hb162, K163, Z164, -⟩ := alloc_new w159 [.bool f1.Y.n, .slice f1.Y.A f1.Y.xs.length f1.Y.c, .bool f1.Y.m, .slice f1.Y.B f1.Y.ds.length f1.Y.d, .bool f1.U.n, .slice f1.U.A f1.U.xs.length f1.U.c, .bool f1.U.m, .slice f1.U.B f1.U.ds.length f1.U.d] 29
         replace K163 : Box V160 (w159.heap.size) (ycs f1) := K163
         have n165 : w.heap.size ≠ w159.heap.size := Nat.ne_of_lt (K4.lt)
         have n166 : b50 ≠ w159.heap.size := Nat.ne_of_lt (K46.lt)
         have n167 : b77 ≠ w159.heap.size := Nat.ne_of_lt (K72.lt)
         have n168 : b105 ≠ w159.heap.size := Nat.ne_of_lt (K99.lt)
         have n169 : b119 ≠ w159.heap.size := Nat.ne_of_lt (K112.lt)
         have g170 : w.heap.size ≤ w159.heap.size := BW.size
         replace K4 := K4.on hb162
         replace K46 := K46.on hb162
         replace K72 := K72.on hb162
         replace K99 := K99.on hb162
         replace K112 := K112.on hb162
         replace M1 := M1.kp (Kept.of hb162)
         replace M2 := M2.kp (Kept.of hb162)
         replace M3 := M3.kp (Kept.of hb162)
         replace Fy1 := Fy1.kp (Kept.of hb162)
         replace L1 := L1.kp (Kept.of hb162)
         replace BW := BW.trans (hb162.mono BW.size)
         clear hb162
         go_upto_region 15 with fail
         rw [← e161]
         clear e161
         generalize w159.heap.size = b171 at *
         go_upto_region 17 with fail
         obtain ⟨c172, c173, c174, c175, c176, c177, c178, c179⟩ := K163.c8
         have c180 : Box V160 (b105) [.bool m3.A.n, .slice m3.A.A m3.A.xs.length m3.A.c, .bool m3.A.m, .slice m3.A.B m3.A.ds.length m3.A.d, .bool m3.B.n, .slice m3.B.A m3.B.xs.length m3.B.c, .bool m3.B.m, .slice m3.B.B m3.B.ds.length m3.B.d, .bool m3.C.n, .slice m3.C.A m3.C.xs.length m3.C.c, .bool m3.C.m, .slice m3.C.B m3.C.ds.length m3.C.d, .bool m3.D.n, .slice m3.D.A m3.D.xs.length m3.D.c, .bool m3.D.m, .slice m3.D.B m3.D.ds.length m3.D.d] := K99
         go_wp2_with (first | (refine wpList_ldM (by rfl) (by rfl) (by rfl) c180 (by rfl) ?_))
         clear c172 c173 c174 c175 c176 c177 c178 c179 c180
         refine (y_Thr M3 L1 (benchM_det _)).mono ?_
         rintro _ w181 ⟨f2, e6, rfl, h6, hb⟩
         replace K4 := K4.on hb
         replace K46 := K46.on hb
         replace K72 := K72.on hb
         replace K99 := K99.on hb
         replace K112 := K112.on hb
         replace K163 := K163.on hb
         replace M1 := M1.kp (Kept.of hb)
         replace M2 := M2.kp (Kept.of hb)
         replace M3 := M3.kp (Kept.of hb)
         replace Fy1 := Fy1.kp (Kept.of hb)
         replace L1 := L1.kp (Kept.of hb)
         replace BW := BW.trans (hb.mono BW.size)
         clear hb
         rw [← thr_twoC, bench_cut] at h6
         obtain ⟨V182, e183, hb184, K185, Z186, -⟩ := alloc_new w181 [.bool f2.Y.n, .slice f2.Y.A f2.Y.xs.length f2.Y.c, .bool f2.Y.m, .slice f2.Y.B f2.Y.ds.length f2.Y.d, .bool f2.U.n, .slice f2.U.A f2.U.xs.length f2.U.c, .bool f2.U.m, .slice f2.U.B f2.U.ds.length f2.U.d] 29
         replace K185 : Box V182 (w181.heap.size) (ycs f2) := K185
         have n187 : w.heap.size ≠ w181.heap.size := Nat.ne_of_lt (K4.lt)
         have n188 : b50 ≠ w181.heap.size := Nat.ne_of_lt (K46.lt)
         have n189 : b77 ≠ w181.heap.size := Nat.ne_of_lt (K72.lt)
         have n190 : b105 ≠ w181.heap.size := Nat.ne_of_lt (K99.lt)
         have n191 : b119 ≠ w181.heap.size := Nat.ne_of_lt (K112.lt)
         have n192 : b171 ≠ w181.heap.size := Nat.ne_of_lt (K163.lt)
         have g193 : w.heap.size ≤ w181.heap.size := BW.size
         replace K4 := K4.on hb184
         replace K46 := K46.on hb184
         replace K72 := K72.on hb184
         replace K99 := K99.on hb184
         replace K112 := K112.on hb184
         replace K163 := K163.on hb184
         replace M1 := M1.kp (Kept.of hb184)
         replace M2 := M2.kp (Kept.of hb184)
         replace M3 := M3.kp (Kept.of hb184)
         replace Fy1 := Fy1.kp (Kept.of hb184)
         replace L1 := L1.kp (Kept.of hb184)
         replace h6 := h6.kp (Kept.of hb184)
         replace BW := BW.trans (hb184.mono BW.size)
         clear hb184
         go_upto_region 18 with fail
         rw [← e183]
         clear e183
         generalize w181.heap.size = b194 at *
         obtain ⟨c195, c196, c197, c198, c199, c200, c201, c202, c203, c204, c205, c206, c207, c208, c209, c210, c211⟩ := K4.c17
         have c212 : Box V182 (b50) [.bool m.A.n, .slice m.A.A m.A.xs.length m.A.c, .bool m.A.m, .slice m.A.B m.A.ds.length m.A.d, .bool m.B.n, .slice m.B.A m.B.xs.length m.B.c, .bool m.B.m, .slice m.B.B m.B.ds.length m.B.d, .bool m.C.n, .slice m.C.A m.C.xs.length m.C.c, .bool m.C.m, .slice m.C.B m.C.ds.length m.C.d, .bool m.D.n, .slice m.D.A m.D.xs.length m.D.c, .bool m.D.m, .slice m.D.B m.D.ds.length m.D.d] := K46
         go_wp2_with (first | (refine wpList_ldM (by rfl) (by rfl) (by rfl) c212 (by rfl) ?_))
         clear c195 c196 c197 c198 c199 c200 c201 c202 c203 c204 c205 c206 c207 c208 c209 c210 c211 c212
         refine (y_Thr M1 Fy1 (benchM_det _)).mono ?_
         rintro _ w213 ⟨f3, e7, rfl, h7, hb⟩
         replace K4 := K4.on hb
         replace K46 := K46.on hb
         replace K72 := K72.on hb
         replace K99 := K99.on hb
         replace K112 := K112.on hb
         replace K163 := K163.on hb
         replace K185 := K185.on hb
         replace M1 := M1.kp (Kept.of hb)
         replace M2 := M2.kp (Kept.of hb)
         replace M3 := M3.kp (Kept.of hb)
         replace Fy1 := Fy1.kp (Kept.of hb)
         replace L1 := L1.kp (Kept.of hb)
         replace h6 := h6.kp (Kept.of hb)
         replace BW := BW.trans (hb.mono BW.size)
         clear hb
         clear M1 M2 M3 L1 Fy1
         rcases h6 with ⟨rfl, hf, L2⟩ | ⟨rfl, hn⟩
         ·rcases h7 with ⟨rfl, -, L3⟩ | ⟨rfl, hn⟩
          ·clear hf
           obtain ⟨V214, e215, hb216, K217, Z218, -⟩ := alloc_new w213 [.bool f3.Y.n, .slice f3.Y.A f3.Y.xs.length f3.Y.c, .bool f3.Y.m, .slice f3.Y.B f3.Y.ds.length f3.Y.d, .bool f3.U.n, .slice f3.U.A f3.U.xs.length f3.U.c, .bool f3.U.m, .slice f3.U.B f3.U.ds.length f3.U.d] 29
           replace K217 : Box V214 (w213.heap.size) (ycs f3) := K217
           have n219 : w.heap.size ≠ w213.heap.size := Nat.ne_of_lt (K4.lt)
           have n220 : b50 ≠ w213.heap.size := Nat.ne_of_lt (K46.lt)
           have n221 : b77 ≠ w213.heap.size := Nat.ne_of_lt (K72.lt)
           have n222 : b105 ≠ w213.heap.size := Nat.ne_of_lt (K99.lt)
           have n223 : b119 ≠ w213.heap.size := Nat.ne_of_lt (K112.lt)
           have n224 : b171 ≠ w213.heap.size := Nat.ne_of_lt (K163.lt)
           have n225 : b194 ≠ w213.heap.size := Nat.ne_of_lt (K185.lt)
           have g226 : w.heap.size ≤ w213.heap.size := BW.size
           replace K185 := K185.on hb216
           replace L2 := L2.kp (Kept.of hb216)
           replace L3 := L3.kp (Kept.of hb216)
           replace BW := BW.trans (hb216.mono BW.size)
           clear hb216
           obtain ⟨c227, c228, c229, c230, c231, c232, c233, c234⟩ := K185.c8
           rw [e215] at c227 c228 c229 c230 c231 c232 c233 c234
           go_wp2_with fail
           clear c227 c228 c229 c230 c231 c232 c233 c234
           rw [← e215]
           clear e215
           generalize w213.heap.size = b235 at *
           refine (y_sameY L2 L3).mono ?_
           rintro _ w236 ⟨rfl, hb⟩
           replace BW := BW.trans (hb.mono BW.size)
           clear hb
           go_wp2_with fail
           refine (t_known (tab_below HT.out BW)).mono ?_
           rintro _ w237 ⟨rfl, hb⟩
           replace BW := BW.trans (hb.mono BW.size)
           clear hb
           go_wp2_with fail
           exact bodyPost_ret (v := .bool true) (by simp [results, Tryz.results5, go_sem]) rfl ⟨rfl, BW⟩
          ·exact absurd hf hn
         ·rcases h7 with ⟨rfl, hf, L3⟩ | ⟨rfl, -⟩
          ·exact absurd hf hn
          ·clear hn
           obtain ⟨V214, e215, hb216, K217, Z218, -⟩ := alloc_new w213 [.bool f3.Y.n, .slice f3.Y.A f3.Y.xs.length f3.Y.c, .bool f3.Y.m, .slice f3.Y.B f3.Y.ds.length f3.Y.d, .bool f3.U.n, .slice f3.U.A f3.U.xs.length f3.U.c, .bool f3.U.m, .slice f3.U.B f3.U.ds.length f3.U.d] 29
           replace K217 : Box V214 (w213.heap.size) (ycs f3) := K217
           have n219 : w.heap.size ≠ w213.heap.size := Nat.ne_of_lt (K4.lt)
           have n220 : b50 ≠ w213.heap.size := Nat.ne_of_lt (K46.lt)
           have n221 : b77 ≠ w213.heap.size := Nat.ne_of_lt (K72.lt)
           have n222 : b105 ≠ w213.heap.size := Nat.ne_of_lt (K99.lt)
           have n223 : b119 ≠ w213.heap.size := Nat.ne_of_lt (K112.lt)
           have n224 : b171 ≠ w213.heap.size := Nat.ne_of_lt (K163.lt)
           have n225 : b194 ≠ w213.heap.size := Nat.ne_of_lt (K185.lt)
           have g226 : w.heap.size ≤ w213.heap.size := BW.size
           replace BW := BW.trans (hb216.mono BW.size)
           clear hb216
           go_wp2_with fail
           rw [← e215]
           clear e215
           generalize w213.heap.size = b227 at *
           refine (t_known (tab_below HT.out BW)).mono ?_
           rintro _ w228 ⟨rfl, hb⟩
           replace BW := BW.trans (hb.mono BW.size)
           clear hb
           go_wp2_with fail
           exact bodyPost_ret (v := .bool true) (by simp [results, Tryz.results5, go_sem]) rfl ⟨rfl, BW⟩
        ·obtain ⟨V160, e161, hb162, K163, Z164, -⟩ := alloc_new w159 [.bool f1.Y.n, .slice f1.Y.A f1.Y.xs.length f1.Y.c, .bool f1.Y.m, .slice f1.Y.B f1.Y.ds.length f1.Y.d, .bool f1.U.n, .slice f1.U.A f1.U.xs.length f1.U.c, .bool f1.U.m, .slice f1.U.B f1.U.ds.length f1.U.d] 29
         replace K163 : Box V160 (w159.heap.size) (ycs f1) := K163
         have n165 : w.heap.size ≠ w159.heap.size := Nat.ne_of_lt (K4.lt)
         have n166 : b50 ≠ w159.heap.size := Nat.ne_of_lt (K46.lt)
         have n167 : b77 ≠ w159.heap.size := Nat.ne_of_lt (K72.lt)
         have n168 : b105 ≠ w159.heap.size := Nat.ne_of_lt (K99.lt)
         have n169 : b119 ≠ w159.heap.size := Nat.ne_of_lt (K112.lt)
         have g170 : w.heap.size ≤ w159.heap.size := BW.size
         replace BW := BW.trans (hb162.mono BW.size)
         clear hb162
         go_wp2_with fail
         rw [← e161]
         clear e161
         generalize w159.heap.size = b171 at *
         refine (t_known (tab_below HT.out BW)).mono ?_
         rintro _ w172 ⟨rfl, hb⟩
         replace BW := BW.trans (hb.mono BW.size)
         clear hb
         go_wp2_with fail
         exact bodyPost_ret (v := .bool true) (by simp [results, Tryz.results5, go_sem]) rfl ⟨rfl, BW⟩
       ·refine (t_goodNo Y hy).mono ?_
        rintro _ w140 ⟨rfl, hb⟩
        replace BW := BW.trans (hb.mono BW.size)
        clear hb
        go_wp2_with fail
        refine (t_known (tab_below HT.out BW)).mono ?_
        rintro _ w141 ⟨rfl, hb⟩
        replace BW := BW.trans (hb.mono BW.size)
        clear hb
        go_wp2_with fail
        exact bodyPost_ret (v := .bool true) (by simp [results, Tryz.results5, go_sem]) rfl ⟨rfl, BW⟩
      ·clear M1 M2 Y
       obtain ⟨V96, e97, hb98, K99, Z100, -⟩ := alloc_new w95 [.bool m3.A.n, .slice m3.A.A m3.A.xs.length m3.A.c, .bool m3.A.m, .slice m3.A.B m3.A.ds.length m3.A.d, .bool m3.B.n, .slice m3.B.A m3.B.xs.length m3.B.c, .bool m3.B.m, .slice m3.B.B m3.B.ds.length m3.B.d, .bool m3.C.n, .slice m3.C.A m3.C.xs.length m3.C.c, .bool m3.C.m, .slice m3.C.B m3.C.ds.length m3.C.d, .bool m3.D.n, .slice m3.D.A m3.D.xs.length m3.D.c, .bool m3.D.m, .slice m3.D.B m3.D.ds.length m3.D.d] 37
       replace K99 : Box V96 (w95.heap.size) (mcs m3) := K99
       have n101 : w.heap.size ≠ w95.heap.size := Nat.ne_of_lt (K4.lt)
       have n102 : b50 ≠ w95.heap.size := Nat.ne_of_lt (K46.lt)
       have n103 : b77 ≠ w95.heap.size := Nat.ne_of_lt (K72.lt)
       have g104 : w.heap.size ≤ w95.heap.size := BW.size
       replace BW := BW.trans (hb98.mono BW.size)
       clear hb98
       go_wp2_with (first | (refine wpList_stNew (by rfl) (by rfl) (by rfl) (by rfl) (by rfl) (by rfl) (by rfl) ?_))
       (try simp only [p0, p1, p2, p3])
       rw [← e97]
       clear e97
       generalize w95.heap.size = b105 at *
       refine (t_known (tab_below HT.out BW)).mono ?_
       rintro _ w106 ⟨rfl, hb⟩
       replace BW := BW.trans (hb.mono BW.size)
       clear hb
       go_wp2_with fail
       exact bodyPost_ret (v := .bool true) (by simp [results, Tryz.results5, go_sem]) rfl ⟨rfl, BW⟩
     ·clear h3 M1 Y
      obtain ⟨V96, e97, hb98, K99, Z100, -⟩ := alloc_new w95 [.bool m3.A.n, .slice m3.A.A m3.A.xs.length m3.A.c, .bool m3.A.m, .slice m3.A.B m3.A.ds.length m3.A.d, .bool m3.B.n, .slice m3.B.A m3.B.xs.length m3.B.c, .bool m3.B.m, .slice m3.B.B m3.B.ds.length m3.B.d, .bool m3.C.n, .slice m3.C.A m3.C.xs.length m3.C.c, .bool m3.C.m, .slice m3.C.B m3.C.ds.length m3.C.d, .bool m3.D.n, .slice m3.D.A m3.D.xs.length m3.D.c, .bool m3.D.m, .slice m3.D.B m3.D.ds.length m3.D.d] 37
      replace K99 : Box V96 (w95.heap.size) (mcs m3) := K99
      have n101 : w.heap.size ≠ w95.heap.size := Nat.ne_of_lt (K4.lt)
      have n102 : b50 ≠ w95.heap.size := Nat.ne_of_lt (K46.lt)
      have n103 : b77 ≠ w95.heap.size := Nat.ne_of_lt (K72.lt)
      have g104 : w.heap.size ≤ w95.heap.size := BW.size
      replace BW := BW.trans (hb98.mono BW.size)
      clear hb98
      go_wp2_with (first | (refine wpList_stNew (by rfl) (by rfl) (by rfl) (by rfl) (by rfl) (by rfl) (by rfl) ?_))
      (try simp only [p0, p1, p2, p3])
      rw [← e97]
      clear e97
      generalize w95.heap.size = b105 at *
      refine (t_known (tab_below HT.out BW)).mono ?_
      rintro _ w106 ⟨rfl, hb⟩
      replace BW := BW.trans (hb.mono BW.size)
      clear hb
      go_wp2_with fail
      exact bodyPost_ret (v := .bool true) (by simp [results, Tryz.results5, go_sem]) rfl ⟨rfl, BW⟩
    ·clear h2 h3 Y
     obtain ⟨V96, e97, hb98, K99, Z100, -⟩ := alloc_new w95 [.bool m3.A.n, .slice m3.A.A m3.A.xs.length m3.A.c, .bool m3.A.m, .slice m3.A.B m3.A.ds.length m3.A.d, .bool m3.B.n, .slice m3.B.A m3.B.xs.length m3.B.c, .bool m3.B.m, .slice m3.B.B m3.B.ds.length m3.B.d, .bool m3.C.n, .slice m3.C.A m3.C.xs.length m3.C.c, .bool m3.C.m, .slice m3.C.B m3.C.ds.length m3.C.d, .bool m3.D.n, .slice m3.D.A m3.D.xs.length m3.D.c, .bool m3.D.m, .slice m3.D.B m3.D.ds.length m3.D.d] 37
     replace K99 : Box V96 (w95.heap.size) (mcs m3) := K99
     have n101 : w.heap.size ≠ w95.heap.size := Nat.ne_of_lt (K4.lt)
     have n102 : b50 ≠ w95.heap.size := Nat.ne_of_lt (K46.lt)
     have n103 : b77 ≠ w95.heap.size := Nat.ne_of_lt (K72.lt)
     have g104 : w.heap.size ≤ w95.heap.size := BW.size
     replace BW := BW.trans (hb98.mono BW.size)
     clear hb98
     go_wp2_with (first | (refine wpList_stNew (by rfl) (by rfl) (by rfl) (by rfl) (by rfl) (by rfl) (by rfl) ?_))
     (try simp only [p0, p1, p2, p3])
     rw [← e97]
     clear e97
     generalize w95.heap.size = b105 at *
     refine (t_known (tab_below HT.out BW)).mono ?_
     rintro _ w106 ⟨rfl, hb⟩
     replace BW := BW.trans (hb.mono BW.size)
     clear hb
     go_wp2_with fail
     exact bodyPost_ret (v := .bool true) (by simp [results, Tryz.results5, go_sem]) rfl ⟨rfl, BW⟩
   ·refine (b_MatrixNo (HS.out.on BW) (fun h => hM ⟨h.1, h.2.at HS.out.2.2.1⟩)).mono ?_
    rintro _ w42 ⟨m, er, rfl, he, hb⟩
    replace K4 := K4.on hb
    replace Y := Y.kp (Kept.of hb)
    replace BW := BW.trans (hb.mono BW.size)
    clear hb
    have heb : (er == 0) = false := by simpa using he
    clear Y
    obtain ⟨V43, e44, hb45, K46, Z47, -⟩ := alloc_new w42 [.bool m.A.n, .slice m.A.A m.A.xs.length m.A.c, .bool m.A.m, .slice m.A.B m.A.ds.length m.A.d, .bool m.B.n, .slice m.B.A m.B.xs.length m.B.c, .bool m.B.m, .slice m.B.B m.B.ds.length m.B.d, .bool m.C.n, .slice m.C.A m.C.xs.length m.C.c, .bool m.C.m, .slice m.C.B m.C.ds.length m.C.d, .bool m.D.n, .slice m.D.A m.D.xs.length m.D.c, .bool m.D.m, .slice m.D.B m.D.ds.length m.D.d] 37
    replace K46 : Box V43 (w42.heap.size) (mcs m) := K46
    have n48 : w.heap.size ≠ w42.heap.size := Nat.ne_of_lt (K4.lt)
    have g49 : w.heap.size ≤ w42.heap.size := BW.size
    replace K4 := K4.on hb45
    replace BW := BW.trans (hb45.mono BW.size)
    clear hb45
    go_upto_region 5 with (first | (refine wpList_stNew (by rfl) (by rfl) (by rfl) (by rfl) (by rfl) (by rfl) (by rfl) ?_))
    (try simp only [p0, p1, p2, p3])
    rw [← e44]
    clear e44
    generalize w42.heap.size = b50 at *
    obtain ⟨c51, c52, c53, c54, c55, c56, c57, c58, c59, c60, c61, c62, c63, c64, c65, c66, c67⟩ := K4.c17
    go_wp2_with (first | (refine wpList_slHE (by rfl) (by rfl) (by rfl) (by rfl) HKC.out ?_))
    clear c51 c52 c53 c54 c55 c56 c57 c58 c59 c60 c61 c62 c63 c64 c65 c66 c67
    refine (b_MatrixAny ((HS.out.on BW).take HKN.out) (by rw [List.length_take]; have := HKN.out; omega)).mono ?_
    rintro _ w68 ⟨m2, e2, rfl, hb⟩
    replace K4 := K4.on hb
    replace K46 := K46.on hb
    replace BW := BW.trans (hb.mono BW.size)
    clear hb
    obtain ⟨V69, e70, hb71, K72, Z73, -⟩ := alloc_new w68 [.bool m2.A.n, .slice m2.A.A m2.A.xs.length m2.A.c, .bool m2.A.m, .slice m2.A.B m2.A.ds.length m2.A.d, .bool m2.B.n, .slice m2.B.A m2.B.xs.length m2.B.c, .bool m2.B.m, .slice m2.B.B m2.B.ds.length m2.B.d, .bool m2.C.n, .slice m2.C.A m2.C.xs.length m2.C.c, .bool m2.C.m, .slice m2.C.B m2.C.ds.length m2.C.d, .bool m2.D.n, .slice m2.D.A m2.D.xs.length m2.D.c, .bool m2.D.m, .slice m2.D.B m2.D.ds.length m2.D.d] 37
    replace K72 : Box V69 (w68.heap.size) (mcs m2) := K72
    have n74 : w.heap.size ≠ w68.heap.size := Nat.ne_of_lt (K4.lt)
    have n75 : b50 ≠ w68.heap.size := Nat.ne_of_lt (K46.lt)
    have g76 : w.heap.size ≤ w68.heap.size := BW.size
    replace K4 := K4.on hb71
    replace K46 := K46.on hb71
    replace BW := BW.trans (hb71.mono BW.size)
    clear hb71
    go_upto_region 6 with (first | (refine wpList_stNew (by rfl) (by rfl) (by rfl) (by rfl) (by rfl) (by rfl) (by rfl) ?_))
    (try simp only [p0, p1, p2, p3])
    rw [← e70]
    clear e70
    generalize w68.heap.size = b77 at *
    obtain ⟨c78, c79, c80, c81, c82, c83, c84, c85, c86, c87, c88, c89, c90, c91, c92, c93, c94⟩ := K4.c17
    go_wp2_with (first | (refine wpList_slLE (by rfl) (by rfl) (by rfl) (by rfl) HKN.out ?_; intro b2 hb2))
    clear c78 c79 c80 c81 c82 c83 c84 c85 c86 c87 c88 c89 c90 c91 c92 c93 c94
    refine (b_MatrixAny ((HS.out.on BW).drop HKN.out hb2.out) (List.length_drop)).mono ?_
    rintro _ w95 ⟨m3, e3, rfl, hb⟩
    replace K4 := K4.on hb
    replace K46 := K46.on hb
    replace K72 := K72.on hb
    replace BW := BW.trans (hb.mono BW.size)
    clear hb
    obtain ⟨V96, e97, hb98, K99, Z100, -⟩ := alloc_new w95 [.bool m3.A.n, .slice m3.A.A m3.A.xs.length m3.A.c, .bool m3.A.m, .slice m3.A.B m3.A.ds.length m3.A.d, .bool m3.B.n, .slice m3.B.A m3.B.xs.length m3.B.c, .bool m3.B.m, .slice m3.B.B m3.B.ds.length m3.B.d, .bool m3.C.n, .slice m3.C.A m3.C.xs.length m3.C.c, .bool m3.C.m, .slice m3.C.B m3.C.ds.length m3.C.d, .bool m3.D.n, .slice m3.D.A m3.D.xs.length m3.D.c, .bool m3.D.m, .slice m3.D.B m3.D.ds.length m3.D.d] 37
    replace K99 : Box V96 (w95.heap.size) (mcs m3) := K99
    have n101 : w.heap.size ≠ w95.heap.size := Nat.ne_of_lt (K4.lt)
    have n102 : b50 ≠ w95.heap.size := Nat.ne_of_lt (K46.lt)
    have n103 : b77 ≠ w95.heap.size := Nat.ne_of_lt (K72.lt)
    have g104 : w.heap.size ≤ w95.heap.size := BW.size
    replace BW := BW.trans (hb98.mono BW.size)
    clear hb98
    go_wp2_with (first | (refine wpList_stNew (by rfl) (by rfl) (by rfl) (by rfl) (by rfl) (by rfl) (by rfl) ?_))
    (try simp only [p0, p1, p2, p3])
    rw [← e97]
    clear e97
    generalize w95.heap.size = b105 at *
    refine (t_known (tab_below HT.out BW)).mono ?_
    rintro _ w106 ⟨rfl, hb⟩
    replace BW := BW.trans (hb.mono BW.size)
    clear hb
    go_wp2_with fail
    exact bodyPost_ret (v := .bool true) (by simp [results, Tryz.results5, go_sem]) rfl ⟨rfl, BW⟩
  ·go_wp2_with fail
   refine (t_known (tab_below HT.out BW)).mono ?_
   rintro _ w7 ⟨rfl, hb⟩
   replace BW := BW.trans (hb.mono BW.size)
   clear hb
   go_wp2_with fail
   exact bodyPost_ret (v := .bool true) (by simp [results, Tryz.results5, go_sem]) rfl ⟨rfl, BW⟩
end Go.Proofs.YtjamfkafgfpobaaGreatDoor
