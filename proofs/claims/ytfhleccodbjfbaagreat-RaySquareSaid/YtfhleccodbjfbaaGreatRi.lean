/-
  What the statement about traces returns: yes. Conditions: that the matrices are no longer than memory.
-/
import Derived.Test.YtfhleccodbjfbaaGreatRh
import Derived.Deep.RegionHeld3
import Derived.Deep.DeepCutAuto
import Derived.BigRegion
namespace Go.Proofs.YtfhleccodbjfbaaGreat
open Go.RowKit Nb
theorem sq_a {q : Mq} (h : q.det = 1) : (q.mul q).a = q.tr * q.a - 1 := by rw [Mq.square h]
theorem sq_b {q : Mq} (h : q.det = 1) : (q.mul q).b = q.tr * q.b := by rw [Mq.square h]
theorem sq_c {q : Mq} (h : q.det = 1) : (q.mul q).c = q.tr * q.c := by rw [Mq.square h]
theorem sq_d {q : Mq} (h : q.det = 1) : (q.mul q).d = q.tr * q.d - 1 := by rw [Mq.square h]
theorem Hq.less1 {k : Nat} {z : Rat} (h : Hq k z) : Hq (k + 0 + 1) (z - ((1 : Int) : Rat)) := h.sub Hq.one
set_option maxHeartbeats 16000000 in
set_option maxRecDepth 100000 in
theorem square_walk {m n : Mv} {w : World} (X1 : Xm w m) (X2 : Xm w n) :
    Calls Tryz.prog 3 #[mv m, mv n] w (fun e w' => e = .returned (.bool true) ∧ Below w.heap.size w w') := by
 have BW : Below w.heap.size w w := Below.refl _ _
 obtain ⟨V2, e3, hb4, K5, -, z1⟩ := alloc_new w [.bool m.A.n, .slice m.A.A m.A.xs.length m.A.c, .bool m.A.m, .slice m.A.B m.A.ds.length m.A.d, .bool m.B.n, .slice m.B.A m.B.xs.length m.B.c, .bool m.B.m, .slice m.B.B m.B.ds.length m.B.d, .bool m.C.n, .slice m.C.A m.C.xs.length m.C.c, .bool m.C.m, .slice m.C.B m.C.ds.length m.C.d, .bool m.D.n, .slice m.D.A m.D.xs.length m.D.c, .bool m.D.m, .slice m.D.B m.D.ds.length m.D.d] 28
 replace K5 : Box V2 (w.heap.size) (mcs m) := K5
 replace X1 := X1.kp (Kept.of hb4)
 replace X2 := X2.kp (Kept.of hb4)
 replace BW := BW.trans (hb4.mono BW.size)
 clear hb4
 obtain ⟨V6, e7, hb8, K9, -, -⟩ := alloc_new V2 [.bool n.A.n, .slice n.A.A n.A.xs.length n.A.c, .bool n.A.m, .slice n.A.B n.A.ds.length n.A.d, .bool n.B.n, .slice n.B.A n.B.xs.length n.B.c, .bool n.B.m, .slice n.B.B n.B.ds.length n.B.d, .bool n.C.n, .slice n.C.A n.C.xs.length n.C.c, .bool n.C.m, .slice n.C.B n.C.ds.length n.C.d, .bool n.D.n, .slice n.D.A n.D.xs.length n.D.c, .bool n.D.m, .slice n.D.B n.D.ds.length n.D.d] 28
 rw [z1] at K9
 replace K9 : Box V6 (w.heap.size + 1) (mcs n) := K9
 replace K5 := K5.on hb8
 replace X1 := X1.kp (Kept.of hb8)
 replace X2 := X2.kp (Kept.of hb8)
 replace BW := BW.trans (hb8.mono BW.size)
 clear hb8
 clear z1
 go_enter Tryz.func3, Tryz.ntmps3
 go_upto_region 1 with fail
 rw [← e3, ← e7]
 clear e3 e7
 have c10 : Box V6 (w.heap.size) [.bool m.A.n, .slice m.A.A m.A.xs.length m.A.c, .bool m.A.m, .slice m.A.B m.A.ds.length m.A.d, .bool m.B.n, .slice m.B.A m.B.xs.length m.B.c, .bool m.B.m, .slice m.B.B m.B.ds.length m.B.d, .bool m.C.n, .slice m.C.A m.C.xs.length m.C.c, .bool m.C.m, .slice m.C.B m.C.ds.length m.C.d, .bool m.D.n, .slice m.D.A m.D.xs.length m.D.c, .bool m.D.m, .slice m.D.B m.D.ds.length m.D.d] := K5
 have c11 : Box V6 (w.heap.size + 1) [.bool n.A.n, .slice n.A.A n.A.xs.length n.A.c, .bool n.A.m, .slice n.A.B n.A.ds.length n.A.d, .bool n.B.n, .slice n.B.A n.B.xs.length n.B.c, .bool n.B.m, .slice n.B.B n.B.ds.length n.B.d, .bool n.C.n, .slice n.C.A n.C.xs.length n.C.c, .bool n.C.m, .slice n.C.B n.C.ds.length n.C.d, .bool n.D.n, .slice n.D.A n.D.xs.length n.D.c, .bool n.D.m, .slice n.D.B n.D.ds.length n.D.d] := K9
 obtain ⟨V12, e13, hb14, K15, -, -⟩ := alloc_new V6 [.bool m.A.n, .slice m.A.A m.A.xs.length m.A.c, .bool m.A.m, .slice m.A.B m.A.ds.length m.A.d, .bool m.B.n, .slice m.B.A m.B.xs.length m.B.c, .bool m.B.m, .slice m.B.B m.B.ds.length m.B.d, .bool m.C.n, .slice m.C.A m.C.xs.length m.C.c, .bool m.C.m, .slice m.C.B m.C.ds.length m.C.d, .bool m.D.n, .slice m.D.A m.D.xs.length m.D.c, .bool m.D.m, .slice m.D.B m.D.ds.length m.D.d, .bool n.A.n, .slice n.A.A n.A.xs.length n.A.c, .bool n.A.m, .slice n.A.B n.A.ds.length n.A.d, .bool n.B.n, .slice n.B.A n.B.xs.length n.B.c, .bool n.B.m, .slice n.B.B n.B.ds.length n.B.d, .bool n.C.n, .slice n.C.A n.C.xs.length n.C.c, .bool n.C.m, .slice n.C.B n.C.ds.length n.C.d, .bool n.D.n, .slice n.D.A n.D.xs.length n.D.c, .bool n.D.m, .slice n.D.B n.D.ds.length n.D.d] 28
 replace K5 := K5.on hb14
 replace K9 := K9.on hb14
 replace X1 := X1.kp (Kept.of hb14)
 replace X2 := X2.kp (Kept.of hb14)
 replace BW := BW.trans (hb14.mono BW.size)
 clear hb14
 go_wp2_with (first | (refine wpList_ldM (by rfl) (by rfl) (by rfl) c10 (by rfl) ?_) | (refine wpList_ldM (by rfl) (by rfl) (by rfl) c11 (by rfl) ?_))
 clear c10 c11
 rw [← e13]
 clear e13
 generalize V6.heap.size = b16 at *
 refine (y_may2 X1 X2 K15).mono ?_
 rintro _ w17 ⟨r, rfl, hr, hb⟩
 replace K5 := K5.on hb
 replace K9 := K9.on hb
 replace K15 := K15.on hb
 replace X1 := X1.kp (Kept.of hb)
 replace X2 := X2.kp (Kept.of hb)
 replace BW := BW.trans (hb.mono BW.size)
 clear hb
 have HR := Lib.hid hr
 clear hr
 clear K15
 rcases Bool.eq_false_or_eq_true r with rfl | rfl
 · obtain ⟨⟨hm1, hs1⟩, hm2, hs2⟩ := HR.out (by trivial)
   obtain ⟨q, La, hd1⟩ := MayM.at X1 hm1
   obtain ⟨p, Lb, hd2⟩ := MayM.at X2 hm2
   clear HR hm1 hm2 X1 X2
   have HX := Lib.hid (La.hm hs1)
   have HY := Lib.hid (Lb.hm hs2)
   have HD1 := Lib.hid hd1
   have HD2 := Lib.hid hd2
   clear hs1 hs2 hd1 hd2
   go_upto_region 3 with fail
   obtain ⟨V18, e19, hb20, K21, Z22, -⟩ := alloc_new w17 [.bool true] 4
   have n23 : w.heap.size ≠ w17.heap.size := Nat.ne_of_lt (K5.lt)
   have n24 : w.heap.size + 1 ≠ w17.heap.size := Nat.ne_of_lt (K9.lt)
   have g25 : w.heap.size ≤ w17.heap.size := BW.size
   replace K5 := K5.on hb20
   replace K9 := K9.on hb20
   replace La := La.kp (Kept.of hb20)
   replace Lb := Lb.kp (Kept.of hb20)
   replace BW := BW.trans (hb20.mono BW.size)
   clear hb20
   go_upto_region 4 with fail
   rw [← e19]
   clear e19
   generalize w17.heap.size = b26 at *
   have c27 : Box V18 (w.heap.size) [.bool m.A.n, .slice m.A.A m.A.xs.length m.A.c, .bool m.A.m, .slice m.A.B m.A.ds.length m.A.d, .bool m.B.n, .slice m.B.A m.B.xs.length m.B.c, .bool m.B.m, .slice m.B.B m.B.ds.length m.B.d, .bool m.C.n, .slice m.C.A m.C.xs.length m.C.c, .bool m.C.m, .slice m.C.B m.C.ds.length m.C.d, .bool m.D.n, .slice m.D.A m.D.xs.length m.D.c, .bool m.D.m, .slice m.D.B m.D.ds.length m.D.d] := K5
   have c28 : Box V18 (w.heap.size + 1) [.bool n.A.n, .slice n.A.A n.A.xs.length n.A.c, .bool n.A.m, .slice n.A.B n.A.ds.length n.A.d, .bool n.B.n, .slice n.B.A n.B.xs.length n.B.c, .bool n.B.m, .slice n.B.B n.B.ds.length n.B.d, .bool n.C.n, .slice n.C.A n.C.xs.length n.C.c, .bool n.C.m, .slice n.C.B n.C.ds.length n.C.d, .bool n.D.n, .slice n.D.A n.D.xs.length n.D.c, .bool n.D.m, .slice n.D.B n.D.ds.length n.D.d] := K9
   go_wp2_with (first | (refine wpList_ldM (by rfl) (by rfl) (by rfl) c27 (by rfl) ?_) | (refine wpList_ldM (by rfl) (by rfl) (by rfl) c28 (by rfl) ?_))
   clear c27 c28
   refine (y_behind La Lb HD1.out HD2.out K21 Z22 ((HX.out.mul HY.out).fits (by decide))).mono ?_
   rintro _ w29 ⟨f1, rfl, L1, hb⟩
   replace K5 := K5.on hb
   replace K9 := K9.on hb
   replace K21 := K21.on hb
   replace Z22 := Z22.on hb
   replace La := La.kp (Kept.of hb)
   replace Lb := Lb.kp (Kept.of hb)
   replace BW := BW.trans (hb.mono BW.size)
   clear hb
   go_wp2_with fail
   refine (y_Trace L1 (Mq.det_mul HD1.out HD2.out)).mono ?_
   rintro _ w30 ⟨f2, er, rfl, R, hb⟩
   replace K5 := K5.on hb
   replace K9 := K9.on hb
   replace K21 := K21.on hb
   replace Z22 := Z22.on hb
   replace La := La.kp (Kept.of hb)
   replace Lb := Lb.kp (Kept.of hb)
   replace BW := BW.trans (hb.mono BW.size)
   clear hb
   obtain ⟨rfl, L2⟩ := R.yes ((HX.out.mul HY.out).tr.fits (by decide))
   clear R
   obtain ⟨V31, e32, hb33, K34, -, -⟩ := alloc_new w30 [.bool f2.n, .slice f2.A f2.xs.length f2.c, .bool f2.m, .slice f2.B f2.ds.length f2.d] 26
   have n35 : b26 ≠ w30.heap.size := Nat.ne_of_lt (K21.lt)
   replace K5 := K5.on hb33
   replace K9 := K9.on hb33
   replace K21 := K21.on hb33
   replace Z22 := Z22.on hb33
   replace La := La.kp (Kept.of hb33)
   replace Lb := Lb.kp (Kept.of hb33)
   replace L2 := L2.kp (Kept.of hb33)
   replace BW := BW.trans (hb33.mono BW.size)
   clear hb33
   go_upto_region 5 with fail
   rw [← e32]
   clear e32
   generalize w30.heap.size = b36 at *
   have c37 : Box V31 (w.heap.size + 1) [.bool n.A.n, .slice n.A.A n.A.xs.length n.A.c, .bool n.A.m, .slice n.A.B n.A.ds.length n.A.d, .bool n.B.n, .slice n.B.A n.B.xs.length n.B.c, .bool n.B.m, .slice n.B.B n.B.ds.length n.B.d, .bool n.C.n, .slice n.C.A n.C.xs.length n.C.c, .bool n.C.m, .slice n.C.B n.C.ds.length n.C.d, .bool n.D.n, .slice n.D.A n.D.xs.length n.D.c, .bool n.D.m, .slice n.D.B n.D.ds.length n.D.d] := K9
   have c38 : Box V31 (w.heap.size) [.bool m.A.n, .slice m.A.A m.A.xs.length m.A.c, .bool m.A.m, .slice m.A.B m.A.ds.length m.A.d, .bool m.B.n, .slice m.B.A m.B.xs.length m.B.c, .bool m.B.m, .slice m.B.B m.B.ds.length m.B.d, .bool m.C.n, .slice m.C.A m.C.xs.length m.C.c, .bool m.C.m, .slice m.C.B m.C.ds.length m.C.d, .bool m.D.n, .slice m.D.A m.D.xs.length m.D.c, .bool m.D.m, .slice m.D.B m.D.ds.length m.D.d] := K5
   go_wp2_with (first | (refine wpList_ldM (by rfl) (by rfl) (by rfl) c37 (by rfl) ?_) | (refine wpList_ldM (by rfl) (by rfl) (by rfl) c38 (by rfl) ?_))
   clear c37 c38
   refine (y_behind Lb La HD2.out HD1.out K21 Z22 ((HY.out.mul HX.out).fits (by decide))).mono ?_
   rintro _ w39 ⟨f3, rfl, L3, hb⟩
   replace K5 := K5.on hb
   replace K21 := K21.on hb
   replace K34 := K34.on hb
   replace Z22 := Z22.on hb
   replace La := La.kp (Kept.of hb)
   replace L2 := L2.kp (Kept.of hb)
   replace BW := BW.trans (hb.mono BW.size)
   clear hb
   go_wp2_with fail
   refine (y_Trace L3 (Mq.det_mul HD2.out HD1.out)).mono ?_
   rintro _ w40 ⟨f4, er, rfl, R, hb⟩
   replace K5 := K5.on hb
   replace K21 := K21.on hb
   replace K34 := K34.on hb
   replace Z22 := Z22.on hb
   replace La := La.kp (Kept.of hb)
   replace L2 := L2.kp (Kept.of hb)
   replace BW := BW.trans (hb.mono BW.size)
   clear hb
   obtain ⟨rfl, L4⟩ := R.yes ((HY.out.mul HX.out).tr.fits (by decide))
   clear R
   obtain ⟨V41, e42, hb43, K44, -, -⟩ := alloc_new w40 [.bool f4.n, .slice f4.A f4.xs.length f4.c, .bool f4.m, .slice f4.B f4.ds.length f4.d] 26
   have n45 : b26 ≠ w40.heap.size := Nat.ne_of_lt (K21.lt)
   replace K5 := K5.on hb43
   replace K21 := K21.on hb43
   replace K34 := K34.on hb43
   replace Z22 := Z22.on hb43
   replace La := La.kp (Kept.of hb43)
   replace L2 := L2.kp (Kept.of hb43)
   replace L4 := L4.kp (Kept.of hb43)
   replace BW := BW.trans (hb43.mono BW.size)
   clear hb43
   go_upto_region 6 with fail
   rw [← e42]
   clear e42
   generalize w40.heap.size = b46 at *
   have c47 : Box V41 (w.heap.size) [.bool m.A.n, .slice m.A.A m.A.xs.length m.A.c, .bool m.A.m, .slice m.A.B m.A.ds.length m.A.d, .bool m.B.n, .slice m.B.A m.B.xs.length m.B.c, .bool m.B.m, .slice m.B.B m.B.ds.length m.B.d, .bool m.C.n, .slice m.C.A m.C.xs.length m.C.c, .bool m.C.m, .slice m.C.B m.C.ds.length m.C.d, .bool m.D.n, .slice m.D.A m.D.xs.length m.D.c, .bool m.D.m, .slice m.D.B m.D.ds.length m.D.d] := K5
   go_wp2_with (first | (refine wpList_ldM (by rfl) (by rfl) (by rfl) c47 (by rfl) ?_))
   clear c47
   refine (y_Trace La HD1.out).mono ?_
   rintro _ w48 ⟨f5, er, rfl, R, hb⟩
   replace K5 := K5.on hb
   replace K21 := K21.on hb
   replace K34 := K34.on hb
   replace K44 := K44.on hb
   replace Z22 := Z22.on hb
   replace La := La.kp (Kept.of hb)
   replace L2 := L2.kp (Kept.of hb)
   replace L4 := L4.kp (Kept.of hb)
   replace BW := BW.trans (hb.mono BW.size)
   clear hb
   obtain ⟨rfl, L5⟩ := R.yes (HX.out.tr.fits (by decide))
   clear R
   obtain ⟨V49, e50, hb51, K52, -, -⟩ := alloc_new w48 [.bool f5.n, .slice f5.A f5.xs.length f5.c, .bool f5.m, .slice f5.B f5.ds.length f5.d] 26
   have n53 : b26 ≠ w48.heap.size := Nat.ne_of_lt (K21.lt)
   replace K5 := K5.on hb51
   replace K21 := K21.on hb51
   replace K34 := K34.on hb51
   replace K44 := K44.on hb51
   replace Z22 := Z22.on hb51
   replace La := La.kp (Kept.of hb51)
   replace L2 := L2.kp (Kept.of hb51)
   replace L4 := L4.kp (Kept.of hb51)
   replace L5 := L5.kp (Kept.of hb51)
   replace BW := BW.trans (hb51.mono BW.size)
   clear hb51
   obtain ⟨c54, c55, c56, c57⟩ := K34.c4
   obtain ⟨c58, c59, c60, c61⟩ := K44.c4
   rw [e50] at c54 c55 c56 c57 c58 c59 c60 c61
   go_wp2_with fail
   clear c54 c55 c56 c57 c58 c59 c60 c61
   rw [← e50]
   clear e50
   generalize w48.heap.size = b62 at *
   refine (r_same L2 L4).mono ?_
   rintro _ w63 ⟨rfl, hb⟩
   replace K5 := K5.on hb
   replace K21 := K21.on hb
   replace K52 := K52.on hb
   replace Z22 := Z22.on hb
   replace La := La.kp (Kept.of hb)
   replace L5 := L5.kp (Kept.of hb)
   replace BW := BW.trans (hb.mono BW.size)
   clear hb
   rw [decide_eq_true (Mq.tr_two (n := q) (m := p))]
   have c64 : Box w63 (w.heap.size) [.bool m.A.n, .slice m.A.A m.A.xs.length m.A.c, .bool m.A.m, .slice m.A.B m.A.ds.length m.A.d, .bool m.B.n, .slice m.B.A m.B.xs.length m.B.c, .bool m.B.m, .slice m.B.B m.B.ds.length m.B.d, .bool m.C.n, .slice m.C.A m.C.xs.length m.C.c, .bool m.C.m, .slice m.C.B m.C.ds.length m.C.d, .bool m.D.n, .slice m.D.A m.D.xs.length m.D.c, .bool m.D.m, .slice m.D.B m.D.ds.length m.D.d] := K5
   go_wp2_with (first | (refine wpList_ldM (by rfl) (by rfl) (by rfl) c64 (by rfl) ?_))
   clear c64
   refine (y_behind La La HD1.out HD1.out K21 Z22 ((HX.out.mul HX.out).fits (by decide))).mono ?_
   rintro _ w65 ⟨f6, rfl, L6, hb⟩
   replace K5 := K5.on hb
   replace K21 := K21.on hb
   replace K52 := K52.on hb
   replace La := La.kp (Kept.of hb)
   replace L5 := L5.kp (Kept.of hb)
   replace BW := BW.trans (hb.mono BW.size)
   clear hb
   obtain ⟨V66, e67, hb68, K69, -, -⟩ := alloc_new w65 [.bool f6.A.n, .slice f6.A.A f6.A.xs.length f6.A.c, .bool f6.A.m, .slice f6.A.B f6.A.ds.length f6.A.d, .bool f6.B.n, .slice f6.B.A f6.B.xs.length f6.B.c, .bool f6.B.m, .slice f6.B.B f6.B.ds.length f6.B.d, .bool f6.C.n, .slice f6.C.A f6.C.xs.length f6.C.c, .bool f6.C.m, .slice f6.C.B f6.C.ds.length f6.C.d, .bool f6.D.n, .slice f6.D.A f6.D.xs.length f6.D.c, .bool f6.D.m, .slice f6.D.B f6.D.ds.length f6.D.d] 28
   replace K69 : Box V66 (w65.heap.size) (mcs f6) := K69
   have n70 : b26 ≠ w65.heap.size := Nat.ne_of_lt (K21.lt)
   replace K5 := K5.on hb68
   replace K21 := K21.on hb68
   replace K52 := K52.on hb68
   replace La := La.kp (Kept.of hb68)
   replace L5 := L5.kp (Kept.of hb68)
   replace L6 := L6.kp (Kept.of hb68)
   replace BW := BW.trans (hb68.mono BW.size)
   clear hb68
   go_wp2_with fail
   rw [← e67]
   clear e67
   generalize w65.heap.size = b71 at *
   refine (f_int (n := 1) (by decide) (by decide)).mono ?_
   rintro _ w72 ⟨f7, rfl, L7, hb⟩
   replace K5 := K5.on hb
   replace K21 := K21.on hb
   replace K52 := K52.on hb
   replace K69 := K69.on hb
   replace La := La.kp (Kept.of hb)
   replace L5 := L5.kp (Kept.of hb)
   replace L6 := L6.kp (Kept.of hb)
   replace BW := BW.trans (hb.mono BW.size)
   clear hb
   obtain ⟨V73, e74, hb75, K76, -, -⟩ := alloc_new w72 [.bool f7.n, .slice f7.A f7.xs.length f7.c, .bool f7.m, .slice f7.B f7.ds.length f7.d] 26
   have n77 : b26 ≠ w72.heap.size := Nat.ne_of_lt (K21.lt)
   replace K5 := K5.on hb75
   replace K21 := K21.on hb75
   replace K52 := K52.on hb75
   replace K69 := K69.on hb75
   replace La := La.kp (Kept.of hb75)
   replace L5 := L5.kp (Kept.of hb75)
   replace L6 := L6.kp (Kept.of hb75)
   replace L7 := L7.kp (Kept.of hb75)
   replace BW := BW.trans (hb75.mono BW.size)
   clear hb75
   obtain ⟨c78, c79, c80, c81, c82, c83, c84, c85, c86, c87, c88, c89, c90, c91, c92, c93⟩ := K5.c16
   obtain ⟨c94, c95, c96, c97⟩ := K52.c4
   rw [e74] at c78 c79 c80 c81 c82 c83 c84 c85 c86 c87 c88 c89 c90 c91 c92 c93 c94 c95 c96 c97
   go_wp2_with fail
   clear c78 c79 c80 c81 c82 c83 c84 c85 c86 c87 c88 c89 c90 c91 c92 c93 c94 c95 c96 c97
   rw [← e74]
   clear e74
   generalize w72.heap.size = b98 at *
   refine (r_mul L5 La.fA).mono ?_
   rintro _ w99 ⟨f8, er, rfl, R, hb⟩
   replace K5 := K5.on hb
   replace K21 := K21.on hb
   replace K52 := K52.on hb
   replace K69 := K69.on hb
   replace K76 := K76.on hb
   replace La := La.kp (Kept.of hb)
   replace L5 := L5.kp (Kept.of hb)
   replace L6 := L6.kp (Kept.of hb)
   replace L7 := L7.kp (Kept.of hb)
   replace BW := BW.trans (hb.mono BW.size)
   clear hb
   obtain ⟨rfl, L8⟩ := R.yes not_false ((HX.out.tr.mul HX.out.ha).fits (by decide))
   clear R
   obtain ⟨V100, e101, hb102, K103, -, -⟩ := alloc_new w99 [.bool f8.n, .slice f8.A f8.xs.length f8.c, .bool f8.m, .slice f8.B f8.ds.length f8.d] 26
   have n104 : b26 ≠ w99.heap.size := Nat.ne_of_lt (K21.lt)
   replace K5 := K5.on hb102
   replace K21 := K21.on hb102
   replace K52 := K52.on hb102
   replace K69 := K69.on hb102
   replace K76 := K76.on hb102
   replace La := La.kp (Kept.of hb102)
   replace L5 := L5.kp (Kept.of hb102)
   replace L6 := L6.kp (Kept.of hb102)
   replace L7 := L7.kp (Kept.of hb102)
   replace L8 := L8.kp (Kept.of hb102)
   replace BW := BW.trans (hb102.mono BW.size)
   clear hb102
   obtain ⟨c105, c106, c107, c108, c109, c110, c111, c112, c113, c114, c115, c116, c117, c118, c119, c120⟩ := K5.c16
   obtain ⟨c121, c122, c123, c124⟩ := K52.c4
   rw [e101] at c105 c106 c107 c108 c109 c110 c111 c112 c113 c114 c115 c116 c117 c118 c119 c120 c121 c122 c123 c124
   go_wp2_with fail
   clear c105 c106 c107 c108 c109 c110 c111 c112 c113 c114 c115 c116 c117 c118 c119 c120 c121 c122 c123 c124
   rw [← e101]
   clear e101
   generalize w99.heap.size = b125 at *
   refine (r_mul L5 La.fB).mono ?_
   rintro _ w126 ⟨f9, er, rfl, R, hb⟩
   replace K5 := K5.on hb
   replace K21 := K21.on hb
   replace K52 := K52.on hb
   replace K69 := K69.on hb
   replace K76 := K76.on hb
   replace K103 := K103.on hb
   replace La := La.kp (Kept.of hb)
   replace L5 := L5.kp (Kept.of hb)
   replace L6 := L6.kp (Kept.of hb)
   replace L7 := L7.kp (Kept.of hb)
   replace L8 := L8.kp (Kept.of hb)
   replace BW := BW.trans (hb.mono BW.size)
   clear hb
   obtain ⟨rfl, L9⟩ := R.yes not_false ((HX.out.tr.mul HX.out.hb).fits (by decide))
   clear R
   obtain ⟨V127, e128, hb129, K130, -, -⟩ := alloc_new w126 [.bool f9.n, .slice f9.A f9.xs.length f9.c, .bool f9.m, .slice f9.B f9.ds.length f9.d] 26
   have n131 : b26 ≠ w126.heap.size := Nat.ne_of_lt (K21.lt)
   replace K5 := K5.on hb129
   replace K21 := K21.on hb129
   replace K52 := K52.on hb129
   replace K69 := K69.on hb129
   replace K76 := K76.on hb129
   replace K103 := K103.on hb129
   replace La := La.kp (Kept.of hb129)
   replace L5 := L5.kp (Kept.of hb129)
   replace L6 := L6.kp (Kept.of hb129)
   replace L7 := L7.kp (Kept.of hb129)
   replace L8 := L8.kp (Kept.of hb129)
   replace L9 := L9.kp (Kept.of hb129)
   replace BW := BW.trans (hb129.mono BW.size)
   clear hb129
   obtain ⟨c132, c133, c134, c135, c136, c137, c138, c139, c140, c141, c142, c143, c144, c145, c146, c147⟩ := K5.c16
   obtain ⟨c148, c149, c150, c151⟩ := K52.c4
   rw [e128] at c132 c133 c134 c135 c136 c137 c138 c139 c140 c141 c142 c143 c144 c145 c146 c147 c148 c149 c150 c151
   go_wp2_with fail
   clear c132 c133 c134 c135 c136 c137 c138 c139 c140 c141 c142 c143 c144 c145 c146 c147 c148 c149 c150 c151
   rw [← e128]
   clear e128
   generalize w126.heap.size = b152 at *
   refine (r_mul L5 La.fC).mono ?_
   rintro _ w153 ⟨f10, er, rfl, R, hb⟩
   replace K5 := K5.on hb
   replace K21 := K21.on hb
   replace K52 := K52.on hb
   replace K69 := K69.on hb
   replace K76 := K76.on hb
   replace K103 := K103.on hb
   replace K130 := K130.on hb
   replace La := La.kp (Kept.of hb)
   replace L5 := L5.kp (Kept.of hb)
   replace L6 := L6.kp (Kept.of hb)
   replace L7 := L7.kp (Kept.of hb)
   replace L8 := L8.kp (Kept.of hb)
   replace L9 := L9.kp (Kept.of hb)
   replace BW := BW.trans (hb.mono BW.size)
   clear hb
   obtain ⟨rfl, L10⟩ := R.yes not_false ((HX.out.tr.mul HX.out.hc).fits (by decide))
   clear R
   obtain ⟨V154, e155, hb156, K157, -, -⟩ := alloc_new w153 [.bool f10.n, .slice f10.A f10.xs.length f10.c, .bool f10.m, .slice f10.B f10.ds.length f10.d] 26
   have n158 : b26 ≠ w153.heap.size := Nat.ne_of_lt (K21.lt)
   replace K5 := K5.on hb156
   replace K21 := K21.on hb156
   replace K52 := K52.on hb156
   replace K69 := K69.on hb156
   replace K76 := K76.on hb156
   replace K103 := K103.on hb156
   replace K130 := K130.on hb156
   replace La := La.kp (Kept.of hb156)
   replace L5 := L5.kp (Kept.of hb156)
   replace L6 := L6.kp (Kept.of hb156)
   replace L7 := L7.kp (Kept.of hb156)
   replace L8 := L8.kp (Kept.of hb156)
   replace L9 := L9.kp (Kept.of hb156)
   replace L10 := L10.kp (Kept.of hb156)
   replace BW := BW.trans (hb156.mono BW.size)
   clear hb156
   obtain ⟨c159, c160, c161, c162, c163, c164, c165, c166, c167, c168, c169, c170, c171, c172, c173, c174⟩ := K5.c16
   obtain ⟨c175, c176, c177, c178⟩ := K52.c4
   rw [e155] at c159 c160 c161 c162 c163 c164 c165 c166 c167 c168 c169 c170 c171 c172 c173 c174 c175 c176 c177 c178
   go_wp2_with fail
   clear c159 c160 c161 c162 c163 c164 c165 c166 c167 c168 c169 c170 c171 c172 c173 c174 c175 c176 c177 c178
   rw [← e155]
   clear e155
   generalize w153.heap.size = b179 at *
   refine (r_mul L5 La.fD).mono ?_
   rintro _ w180 ⟨f11, er, rfl, R, hb⟩
   replace K21 := K21.on hb
   replace K69 := K69.on hb
   replace K76 := K76.on hb
   replace K103 := K103.on hb
   replace K130 := K130.on hb
   replace K157 := K157.on hb
   replace L6 := L6.kp (Kept.of hb)
   replace L7 := L7.kp (Kept.of hb)
   replace L8 := L8.kp (Kept.of hb)
   replace L9 := L9.kp (Kept.of hb)
   replace L10 := L10.kp (Kept.of hb)
   replace BW := BW.trans (hb.mono BW.size)
   clear hb
   obtain ⟨rfl, L11⟩ := R.yes not_false ((HX.out.tr.mul HX.out.hd).fits (by decide))
   clear R
   obtain ⟨V181, e182, hb183, K184, -, -⟩ := alloc_new w180 [.bool f11.n, .slice f11.A f11.xs.length f11.c, .bool f11.m, .slice f11.B f11.ds.length f11.d] 26
   have n185 : b26 ≠ w180.heap.size := Nat.ne_of_lt (K21.lt)
   replace K21 := K21.on hb183
   replace K69 := K69.on hb183
   replace K76 := K76.on hb183
   replace K103 := K103.on hb183
   replace K130 := K130.on hb183
   replace K157 := K157.on hb183
   replace L6 := L6.kp (Kept.of hb183)
   replace L7 := L7.kp (Kept.of hb183)
   replace L8 := L8.kp (Kept.of hb183)
   replace L9 := L9.kp (Kept.of hb183)
   replace L10 := L10.kp (Kept.of hb183)
   replace L11 := L11.kp (Kept.of hb183)
   replace BW := BW.trans (hb183.mono BW.size)
   clear hb183
   go_wp2_with fail
   rw [← e182]
   clear e182
   generalize w180.heap.size = b186 at *
   refine wp_region_noPanic ?_
   have hb : Below V181.heap.size V181 V181.drew := (Below.refl _ _).drew
   replace K21 := K21.on hb
   replace K69 := K69.on hb
   replace K76 := K76.on hb
   replace K103 := K103.on hb
   replace K130 := K130.on hb
   replace K157 := K157.on hb
   replace K184 := K184.on hb
   replace L6 := L6.kp (Kept.of hb)
   replace L7 := L7.kp (Kept.of hb)
   replace L8 := L8.kp (Kept.of hb)
   replace L9 := L9.kp (Kept.of hb)
   replace L10 := L10.kp (Kept.of hb)
   replace L11 := L11.kp (Kept.of hb)
   replace BW := BW.trans (hb.mono BW.size)
   clear hb
   refine wp_region_held_drew (S := (fun wx => Cs wx (b26) 0 [.bool true] ∧ Cs wx (b71) 0 [.bool f6.A.n, .slice f6.A.A f6.A.xs.length f6.A.c, .bool f6.A.m, .slice f6.A.B f6.A.ds.length f6.A.d, .bool f6.B.n, .slice f6.B.A f6.B.xs.length f6.B.c, .bool f6.B.m, .slice f6.B.B f6.B.ds.length f6.B.d, .bool f6.C.n, .slice f6.C.A f6.C.xs.length f6.C.c, .bool f6.C.m, .slice f6.C.B f6.C.ds.length f6.C.d, .bool f6.D.n, .slice f6.D.A f6.D.xs.length f6.D.c, .bool f6.D.m, .slice f6.D.B f6.D.ds.length f6.D.d] ∧ Cs wx (b98) 0 [.bool f7.n, .slice f7.A f7.xs.length f7.c, .bool f7.m, .slice f7.B f7.ds.length f7.d] ∧ Cs wx (b125) 0 [.bool f8.n, .slice f8.A f8.xs.length f8.c, .bool f8.m, .slice f8.B f8.ds.length f8.d] ∧ Cs wx (b152) 0 [.bool f9.n, .slice f9.A f9.xs.length f9.c, .bool f9.m, .slice f9.B f9.ds.length f9.d] ∧ Cs wx (b179) 0 [.bool f10.n, .slice f10.A f10.xs.length f10.c, .bool f10.m, .slice f10.B f10.ds.length f10.d] ∧ Cs wx (b186) 0 [.bool f11.n, .slice f11.A f11.xs.length f11.c, .bool f11.m, .slice f11.B f11.ds.length f11.d])) (by kernel_rfl) (by exact ⟨K21.cs, K69.cs, K76.cs, K103.cs, K130.cs, K157.cs, K184.cs⟩) (fun hHeld => ?_)
   generalize V181.drew = Vd187 at *
   refine pT 0 ?_
   (try simp only [p0, p1, p2, p3])
   refine pT 1 ?_
   (try simp only [p0, p1, p2, p3])
   refine pT 2 ?_
   (try simp only [p0, p1, p2, p3])
   refine pT 3 ?_
   (try simp only [p0, p1, p2, p3])
   refine pT 4 ?_
   (try simp only [p0, p1, p2, p3])
   refine pT 5 ?_
   (try simp only [p0, p1, p2, p3])
   refine pR1 6 (fun K hK => ?_)
   go_simp
   (go_at_call 17; with_reducible refine (y_less L8 L7 ((HX.out.tr.mul HX.out.ha).less1.fits (by decide))).mono ?_)
   rintro _ w188 ⟨f12, rfl, L12, hb⟩
   (try go_wp2_with fail)
   replace K21 := K21.on hb
   replace K69 := K69.on hb
   replace K76 := K76.on hb
   replace K103 := K103.on hb
   replace K130 := K130.on hb
   replace K157 := K157.on hb
   replace K184 := K184.on hb
   replace L6 := L6.kp (Kept.of hb)
   replace L7 := L7.kp (Kept.of hb)
   replace L9 := L9.kp (Kept.of hb)
   replace L10 := L10.kp (Kept.of hb)
   replace L11 := L11.kp (Kept.of hb)
   replace BW := BW.trans (hb.mono BW.size)
   clear hb
   clear hHeld
   refine hK.out _ _ (by exact ⟨K21.cs, K69.cs, K76.cs, K103.cs, K130.cs, K157.cs, K184.cs⟩) (fun hHeld => ?_)
   clear hK
   (try simp only [p0, p1, p2, p3])
   refine pR1 7 (fun K hK => ?_)
   go_simp
   (go_at_call 14; with_reducible refine (r_same L6.fA L12).mono ?_)
   rintro _ w189 ⟨rfl, hb⟩
   (try go_wp2_with fail)
   replace K21 := K21.on hb
   replace K69 := K69.on hb
   replace K76 := K76.on hb
   replace K103 := K103.on hb
   replace K130 := K130.on hb
   replace K157 := K157.on hb
   replace K184 := K184.on hb
   replace L6 := L6.kp (Kept.of hb)
   replace L7 := L7.kp (Kept.of hb)
   replace L9 := L9.kp (Kept.of hb)
   replace L10 := L10.kp (Kept.of hb)
   replace L11 := L11.kp (Kept.of hb)
   replace BW := BW.trans (hb.mono BW.size)
   clear hb
   (try rw [decide_eq_true (sq_a HD1.out)])
   clear hHeld
   refine hK.out _ _ (by exact ⟨K21.cs, K69.cs, K76.cs, K103.cs, K130.cs, K157.cs, K184.cs⟩) (fun hHeld => ?_)
   clear hK
   (try simp only [p0, p1, p2, p3])
   refine pT 8 ?_
   (try simp only [p0, p1, p2, p3])
   refine pT 9 ?_
   (try simp only [p0, p1, p2, p3])
   refine pT 10 ?_
   (try simp only [p0, p1, p2, p3])
   refine pT 11 ?_
   (try simp only [p0, p1, p2, p3])
   refine pT 12 ?_
   (try simp only [p0, p1, p2, p3])
   refine pR1 13 (fun K hK => ?_)
   go_simp
   (go_at_call 14; with_reducible refine (r_same L6.fB L9).mono ?_)
   rintro _ w190 ⟨rfl, hb⟩
   (try go_wp2_with fail)
   replace K21 := K21.on hb
   replace K69 := K69.on hb
   replace K76 := K76.on hb
   replace K103 := K103.on hb
   replace K130 := K130.on hb
   replace K157 := K157.on hb
   replace K184 := K184.on hb
   replace L6 := L6.kp (Kept.of hb)
   replace L7 := L7.kp (Kept.of hb)
   replace L10 := L10.kp (Kept.of hb)
   replace L11 := L11.kp (Kept.of hb)
   replace BW := BW.trans (hb.mono BW.size)
   clear hb
   (try rw [decide_eq_true (sq_b HD1.out)])
   clear hHeld
   refine hK.out _ _ (by exact ⟨K21.cs, K69.cs, K76.cs, K103.cs, K130.cs, K157.cs, K184.cs⟩) (fun hHeld => ?_)
   clear hK
   (try simp only [p0, p1, p2, p3])
   refine pT 14 ?_
   (try simp only [p0, p1, p2, p3])
   refine pT 15 ?_
   (try simp only [p0, p1, p2, p3])
   refine pT 16 ?_
   (try simp only [p0, p1, p2, p3])
   refine pT 17 ?_
   (try simp only [p0, p1, p2, p3])
   refine pT 18 ?_
   (try simp only [p0, p1, p2, p3])
   refine pR1 19 (fun K hK => ?_)
   go_simp
   (go_at_call 14; with_reducible refine (r_same L6.fC L10).mono ?_)
   rintro _ w191 ⟨rfl, hb⟩
   (try go_wp2_with fail)
   replace K21 := K21.on hb
   replace K69 := K69.on hb
   replace K76 := K76.on hb
   replace K103 := K103.on hb
   replace K130 := K130.on hb
   replace K157 := K157.on hb
   replace K184 := K184.on hb
   replace L6 := L6.kp (Kept.of hb)
   replace L7 := L7.kp (Kept.of hb)
   replace L11 := L11.kp (Kept.of hb)
   replace BW := BW.trans (hb.mono BW.size)
   clear hb
   (try rw [decide_eq_true (sq_c HD1.out)])
   clear hHeld
   refine hK.out _ _ (by exact ⟨K21.cs, K69.cs, K76.cs, K103.cs, K130.cs, K157.cs, K184.cs⟩) (fun hHeld => ?_)
   clear hK
   (try simp only [p0, p1, p2, p3])
   refine pT 20 ?_
   (try simp only [p0, p1, p2, p3])
   refine pT 21 ?_
   (try simp only [p0, p1, p2, p3])
   refine pT 22 ?_
   (try simp only [p0, p1, p2, p3])
   refine pT 23 ?_
   (try simp only [p0, p1, p2, p3])
   refine pT 24 ?_
   (try simp only [p0, p1, p2, p3])
   refine pT 25 ?_
   (try simp only [p0, p1, p2, p3])
   refine pR1 26 (fun K hK => ?_)
   go_simp
   (go_at_call 17; with_reducible refine (y_less L11 L7 ((HX.out.tr.mul HX.out.hd).less1.fits (by decide))).mono ?_)
   rintro _ w192 ⟨f13, rfl, L13, hb⟩
   (try go_wp2_with fail)
   replace K21 := K21.on hb
   replace K69 := K69.on hb
   replace K76 := K76.on hb
   replace K103 := K103.on hb
   replace K130 := K130.on hb
   replace K157 := K157.on hb
   replace K184 := K184.on hb
   replace L6 := L6.kp (Kept.of hb)
   replace BW := BW.trans (hb.mono BW.size)
   clear hb
   clear hHeld
   refine hK.out _ _ (by exact ⟨K21.cs, K69.cs, K76.cs, K103.cs, K130.cs, K157.cs, K184.cs⟩) (fun hHeld => ?_)
   clear hK
   (try simp only [p0, p1, p2, p3])
   refine pR1 27 (fun K hK => ?_)
   go_simp
   (go_at_call 14; with_reducible refine (r_same L6.fD L13).mono ?_)
   rintro _ w193 ⟨rfl, hb⟩
   (try go_wp2_with fail)
   replace K21 := K21.on hb
   replace K69 := K69.on hb
   replace K76 := K76.on hb
   replace K103 := K103.on hb
   replace K130 := K130.on hb
   replace K157 := K157.on hb
   replace K184 := K184.on hb
   replace BW := BW.trans (hb.mono BW.size)
   clear hb
   (try rw [decide_eq_true (sq_d HD1.out)])
   clear hHeld
   refine hK.out _ _ (by exact ⟨K21.cs, K69.cs, K76.cs, K103.cs, K130.cs, K157.cs, K184.cs⟩) (fun hHeld => ?_)
   clear hK
   (try simp only [p0, p1, p2, p3])
   refine pT 28 ?_
   (try simp only [p0, p1, p2, p3])
   refine pT 29 ?_
   (try simp only [p0, p1, p2, p3])
   refine pR1 30 (fun K hK => ?_)
   go_simp
   (go_at_call 11; with_reducible refine (y_alive).mono ?_)
   rintro _ w194 ⟨rfl, hb⟩
   (try go_wp2_with fail)
   replace K21 := K21.on hb
   replace K69 := K69.on hb
   replace K76 := K76.on hb
   replace K103 := K103.on hb
   replace K130 := K130.on hb
   replace K157 := K157.on hb
   replace K184 := K184.on hb
   replace BW := BW.trans (hb.mono BW.size)
   clear hb
   clear hHeld
   refine hK.out _ _ (by exact ⟨K21.cs, K69.cs, K76.cs, K103.cs, K130.cs, K157.cs, K184.cs⟩) (fun hHeld => ?_)
   clear hK
   (try simp only [p0, p1, p2, p3])
   refine pT 31 ?_
   (try simp only [p0, p1, p2, p3])
   refine pT 32 ?_
   (try simp only [p0, p1, p2, p3])
   refine wpAnyH_done (by kernel_rfl) (NoPanic.normal ?_) _
   go_wp2
   exact bodyPost_ret (v := .bool true) (by simp [results, Tryz.results3, go_sem]) rfl ⟨rfl, BW⟩
 · go_wp2_with fail
   refine (y_alive).mono ?_
   rintro _ w18 ⟨rfl, hb⟩
   replace BW := BW.trans (hb.mono BW.size)
   clear hb
   go_wp2_with fail
   exact bodyPost_ret (v := .bool true) (by simp [results, Tryz.results3, go_sem]) rfl ⟨rfl, BW⟩
end Go.Proofs.YtfhleccodbjfbaaGreat
