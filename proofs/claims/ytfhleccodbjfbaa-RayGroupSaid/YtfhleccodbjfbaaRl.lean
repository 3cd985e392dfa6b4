/-
  What the statement about matrices behind one another returns: yes. Conditions: that the matrices are no longer than memory.
-/
import Derived.Test.YtfhleccodbjfbaaRk
import Derived.Test.YtfhleccodbjfbaaRlc
import Derived.Deep.RegionHeld3
import Derived.Deep.DeepCutAuto
import Derived.BigRegion
namespace Go.Proofs.Ytfhleccodbjfbaa
open Go.RowKit Nb
set_option maxHeartbeats 64000000 in
set_option maxRecDepth 100000 in
theorem group_walk {m n o : Mv} {w : World} (X1 : Xm w m) (X2 : Xm w n) (X3 : Xm w o) :
    Calls Try.prog 3 #[mv m, mv n, mv o] w (fun e w' => e = .returned (.bool true) ∧ Below w.heap.size w w') := by
 have BW : Below w.heap.size w w := Below.refl _ _
 obtain ⟨V2, e3, hb4, K5, -, z1⟩ := alloc_new w [.bool m.A.n, .slice m.A.A m.A.xs.length m.A.c, .bool m.A.m, .slice m.A.B m.A.ds.length m.A.d, .bool m.B.n, .slice m.B.A m.B.xs.length m.B.c, .bool m.B.m, .slice m.B.B m.B.ds.length m.B.d, .bool m.C.n, .slice m.C.A m.C.xs.length m.C.c, .bool m.C.m, .slice m.C.B m.C.ds.length m.C.d, .bool m.D.n, .slice m.D.A m.D.xs.length m.D.c, .bool m.D.m, .slice m.D.B m.D.ds.length m.D.d] 28
 replace K5 : Box V2 (w.heap.size) (mcs m) := K5
 replace X1 := X1.kp (Kept.of hb4)
 replace X2 := X2.kp (Kept.of hb4)
 replace X3 := X3.kp (Kept.of hb4)
 replace BW := BW.trans (hb4.mono BW.size)
 clear hb4
 obtain ⟨V7, e8, hb9, K10, -, z6⟩ := alloc_new V2 [.bool n.A.n, .slice n.A.A n.A.xs.length n.A.c, .bool n.A.m, .slice n.A.B n.A.ds.length n.A.d, .bool n.B.n, .slice n.B.A n.B.xs.length n.B.c, .bool n.B.m, .slice n.B.B n.B.ds.length n.B.d, .bool n.C.n, .slice n.C.A n.C.xs.length n.C.c, .bool n.C.m, .slice n.C.B n.C.ds.length n.C.d, .bool n.D.n, .slice n.D.A n.D.xs.length n.D.c, .bool n.D.m, .slice n.D.B n.D.ds.length n.D.d] 28
 rw [z1] at K10 z6
 replace K10 : Box V7 (w.heap.size + 1) (mcs n) := K10
 replace K5 := K5.on hb9
 replace X1 := X1.kp (Kept.of hb9)
 replace X2 := X2.kp (Kept.of hb9)
 replace X3 := X3.kp (Kept.of hb9)
 replace BW := BW.trans (hb9.mono BW.size)
 clear hb9
 obtain ⟨V11, e12, hb13, K14, -, -⟩ := alloc_new V7 [.bool o.A.n, .slice o.A.A o.A.xs.length o.A.c, .bool o.A.m, .slice o.A.B o.A.ds.length o.A.d, .bool o.B.n, .slice o.B.A o.B.xs.length o.B.c, .bool o.B.m, .slice o.B.B o.B.ds.length o.B.d, .bool o.C.n, .slice o.C.A o.C.xs.length o.C.c, .bool o.C.m, .slice o.C.B o.C.ds.length o.C.d, .bool o.D.n, .slice o.D.A o.D.xs.length o.D.c, .bool o.D.m, .slice o.D.B o.D.ds.length o.D.d] 28
 rw [z6] at K14
 replace K14 : Box V11 (w.heap.size + 1 + 1) (mcs o) := K14
 replace K5 := K5.on hb13
 replace K10 := K10.on hb13
 replace X1 := X1.kp (Kept.of hb13)
 replace X2 := X2.kp (Kept.of hb13)
 replace X3 := X3.kp (Kept.of hb13)
 replace BW := BW.trans (hb13.mono BW.size)
 clear hb13
 clear z1 z6
 go_enter Try.func3, Try.ntmps3
 go_upto_region 1 with fail
 rw [← e3, ← e8, ← e12]
 clear e3 e8 e12
 have c15 : Box V11 (w.heap.size) [.bool m.A.n, .slice m.A.A m.A.xs.length m.A.c, .bool m.A.m, .slice m.A.B m.A.ds.length m.A.d, .bool m.B.n, .slice m.B.A m.B.xs.length m.B.c, .bool m.B.m, .slice m.B.B m.B.ds.length m.B.d, .bool m.C.n, .slice m.C.A m.C.xs.length m.C.c, .bool m.C.m, .slice m.C.B m.C.ds.length m.C.d, .bool m.D.n, .slice m.D.A m.D.xs.length m.D.c, .bool m.D.m, .slice m.D.B m.D.ds.length m.D.d] := K5
 have c16 : Box V11 (w.heap.size + 1) [.bool n.A.n, .slice n.A.A n.A.xs.length n.A.c, .bool n.A.m, .slice n.A.B n.A.ds.length n.A.d, .bool n.B.n, .slice n.B.A n.B.xs.length n.B.c, .bool n.B.m, .slice n.B.B n.B.ds.length n.B.d, .bool n.C.n, .slice n.C.A n.C.xs.length n.C.c, .bool n.C.m, .slice n.C.B n.C.ds.length n.C.d, .bool n.D.n, .slice n.D.A n.D.xs.length n.D.c, .bool n.D.m, .slice n.D.B n.D.ds.length n.D.d] := K10
 have c17 : Box V11 (w.heap.size + 1 + 1) [.bool o.A.n, .slice o.A.A o.A.xs.length o.A.c, .bool o.A.m, .slice o.A.B o.A.ds.length o.A.d, .bool o.B.n, .slice o.B.A o.B.xs.length o.B.c, .bool o.B.m, .slice o.B.B o.B.ds.length o.B.d, .bool o.C.n, .slice o.C.A o.C.xs.length o.C.c, .bool o.C.m, .slice o.C.B o.C.ds.length o.C.d, .bool o.D.n, .slice o.D.A o.D.xs.length o.D.c, .bool o.D.m, .slice o.D.B o.D.ds.length o.D.d] := K14
 obtain ⟨V18, e19, hb20, K21, -, -⟩ := alloc_new V11 [.bool m.A.n, .slice m.A.A m.A.xs.length m.A.c, .bool m.A.m, .slice m.A.B m.A.ds.length m.A.d, .bool m.B.n, .slice m.B.A m.B.xs.length m.B.c, .bool m.B.m, .slice m.B.B m.B.ds.length m.B.d, .bool m.C.n, .slice m.C.A m.C.xs.length m.C.c, .bool m.C.m, .slice m.C.B m.C.ds.length m.C.d, .bool m.D.n, .slice m.D.A m.D.xs.length m.D.c, .bool m.D.m, .slice m.D.B m.D.ds.length m.D.d, .bool n.A.n, .slice n.A.A n.A.xs.length n.A.c, .bool n.A.m, .slice n.A.B n.A.ds.length n.A.d, .bool n.B.n, .slice n.B.A n.B.xs.length n.B.c, .bool n.B.m, .slice n.B.B n.B.ds.length n.B.d, .bool n.C.n, .slice n.C.A n.C.xs.length n.C.c, .bool n.C.m, .slice n.C.B n.C.ds.length n.C.d, .bool n.D.n, .slice n.D.A n.D.xs.length n.D.c, .bool n.D.m, .slice n.D.B n.D.ds.length n.D.d, .bool o.A.n, .slice o.A.A o.A.xs.length o.A.c, .bool o.A.m, .slice o.A.B o.A.ds.length o.A.d, .bool o.B.n, .slice o.B.A o.B.xs.length o.B.c, .bool o.B.m, .slice o.B.B o.B.ds.length o.B.d, .bool o.C.n, .slice o.C.A o.C.xs.length o.C.c, .bool o.C.m, .slice o.C.B o.C.ds.length o.C.d, .bool o.D.n, .slice o.D.A o.D.xs.length o.D.c, .bool o.D.m, .slice o.D.B o.D.ds.length o.D.d] 28
 replace K5 := K5.on hb20
 replace K10 := K10.on hb20
 replace K14 := K14.on hb20
 replace X1 := X1.kp (Kept.of hb20)
 replace X2 := X2.kp (Kept.of hb20)
 replace X3 := X3.kp (Kept.of hb20)
 replace BW := BW.trans (hb20.mono BW.size)
 clear hb20
 go_wp2_with (first | (refine wpList_ldM (by rfl) (by rfl) (by rfl) c15 (by rfl) ?_) | (refine wpList_ldM (by rfl) (by rfl) (by rfl) c16 (by rfl) ?_) | (refine wpList_ldM (by rfl) (by rfl) (by rfl) c17 (by rfl) ?_))
 clear c15 c16 c17
 rw [← e19]
 clear e19
 generalize V11.heap.size = b22 at *
 refine (y_may3 X1 X2 X3 K21).mono ?_
 rintro _ w23 ⟨r, rfl, hr, hb⟩
 replace K5 := K5.on hb
 replace K10 := K10.on hb
 replace K14 := K14.on hb
 replace K21 := K21.on hb
 replace X1 := X1.kp (Kept.of hb)
 replace X2 := X2.kp (Kept.of hb)
 replace X3 := X3.kp (Kept.of hb)
 replace BW := BW.trans (hb.mono BW.size)
 clear hb
 have HR := Lib.hid hr
 clear hr
 clear K21
 rcases Bool.eq_false_or_eq_true r with rfl | rfl
 · obtain ⟨⟨hm1, hs1⟩, ⟨hm2, hs2⟩, hm3, hs3⟩ := HR.out (by trivial)
   obtain ⟨q, La, hd1⟩ := MayM.at X1 hm1
   obtain ⟨p, Lb, hd2⟩ := MayM.at X2 hm2
   obtain ⟨t, Lc, hd3⟩ := MayM.at X3 hm3
   clear HR hm1 hm2 hm3 X1 X2 X3
   have HX := Lib.hid (La.hm hs1)
   have HY := Lib.hid (Lb.hm hs2)
   have HZ := Lib.hid (Lc.hm hs3)
   have D1 := Lib.hid hd1
   have D2 := Lib.hid hd2
   have D3 := Lib.hid hd3
   clear hs1 hs2 hs3 hd1 hd2 hd3
   obtain ⟨V24, e25, hb26, K27, Z28, -⟩ := alloc_new w23 [.bool true] 4
   have n29 : w.heap.size ≠ w23.heap.size := Nat.ne_of_lt (K5.lt)
   have n30 : w.heap.size + 1 ≠ w23.heap.size := Nat.ne_of_lt (K10.lt)
   have n31 : w.heap.size + 1 + 1 ≠ w23.heap.size := Nat.ne_of_lt (K14.lt)
   have g32 : w.heap.size ≤ w23.heap.size := BW.size
   replace K5 := K5.on hb26
   replace K10 := K10.on hb26
   replace K14 := K14.on hb26
   replace La := La.kp (Kept.of hb26)
   replace Lb := Lb.kp (Kept.of hb26)
   replace Lc := Lc.kp (Kept.of hb26)
   replace BW := BW.trans (hb26.mono BW.size)
   clear hb26
   go_wp2_with fail
   rw [← e25]
   clear e25
   generalize w23.heap.size = b33 at *
   refine wp_region_noPanic ?_
   have hb : Below V24.heap.size V24 V24.drew := (Below.refl _ _).drew
   replace K5 := K5.on hb
   replace K10 := K10.on hb
   replace K14 := K14.on hb
   replace K27 := K27.on hb
   replace Z28 := Z28.on hb
   replace La := La.kp (Kept.of hb)
   replace Lb := Lb.kp (Kept.of hb)
   replace Lc := Lc.kp (Kept.of hb)
   replace BW := BW.trans (hb.mono BW.size)
   clear hb
   refine wp_region_held_drew (S := (fun wx => Box wx (w.heap.size) [.bool m.A.n, .slice m.A.A m.A.xs.length m.A.c, .bool m.A.m, .slice m.A.B m.A.ds.length m.A.d, .bool m.B.n, .slice m.B.A m.B.xs.length m.B.c, .bool m.B.m, .slice m.B.B m.B.ds.length m.B.d, .bool m.C.n, .slice m.C.A m.C.xs.length m.C.c, .bool m.C.m, .slice m.C.B m.C.ds.length m.C.d, .bool m.D.n, .slice m.D.A m.D.xs.length m.D.c, .bool m.D.m, .slice m.D.B m.D.ds.length m.D.d] ∧ Box wx (w.heap.size + 1) [.bool n.A.n, .slice n.A.A n.A.xs.length n.A.c, .bool n.A.m, .slice n.A.B n.A.ds.length n.A.d, .bool n.B.n, .slice n.B.A n.B.xs.length n.B.c, .bool n.B.m, .slice n.B.B n.B.ds.length n.B.d, .bool n.C.n, .slice n.C.A n.C.xs.length n.C.c, .bool n.C.m, .slice n.C.B n.C.ds.length n.C.d, .bool n.D.n, .slice n.D.A n.D.xs.length n.D.c, .bool n.D.m, .slice n.D.B n.D.ds.length n.D.d] ∧ Box wx (w.heap.size + 1 + 1) [.bool o.A.n, .slice o.A.A o.A.xs.length o.A.c, .bool o.A.m, .slice o.A.B o.A.ds.length o.A.d, .bool o.B.n, .slice o.B.A o.B.xs.length o.B.c, .bool o.B.m, .slice o.B.B o.B.ds.length o.B.d, .bool o.C.n, .slice o.C.A o.C.xs.length o.C.c, .bool o.C.m, .slice o.C.B o.C.ds.length o.C.d, .bool o.D.n, .slice o.D.A o.D.xs.length o.D.c, .bool o.D.m, .slice o.D.B o.D.ds.length o.D.d])) (by kernel_rfl) (by exact ⟨K5, K10, K14⟩) (fun hHeld => ?_)
   generalize V24.drew = Vd34 at *
   refine pT 0 ?_ (hy := fun wt hSw => ldM rfl rfl hSw.1)
   (try simp only [p0, p1, p2, p3])
   refine pT 1 ?_ (hy := fun wt hSw => ldM rfl rfl hSw.2.1)
   (try simp only [p0, p1, p2, p3])
   refine pT 3 ?_ (hy := fun wt hSw => ldM rfl rfl hSw.2.2)
   (try simp only [p0, p1, p2, p3])
   refine pT 5 ?_ (hy := fun wt hSw => ldM rfl rfl hSw.1)
   (try simp only [p0, p1, p2, p3])
   refine pT 6 ?_ (hy := fun wt hSw => ldM rfl rfl hSw.2.1)
   (try simp only [p0, p1, p2, p3])
   refine pT 7 ?_ (hy := fun wt hSw => ldM rfl rfl hSw.2.2)
   (try simp only [p0, p1, p2, p3])
   refine pR1 2 (fun K hK => ?_)
   go_simp
   (go_at_call 7; with_reducible refine (y_behind La Lb D1.out D2.out K27 Z28 ((HX.out.mul HY.out).fits (by decide))).mono ?_)
   rintro _ w35 ⟨f1, rfl, L1, hb⟩
   (try go_wp2_with fail)
   replace K5 := K5.on hb
   replace K10 := K10.on hb
   replace K14 := K14.on hb
   replace K27 := K27.on hb
   replace Z28 := Z28.on hb
   replace La := La.kp (Kept.of hb)
   replace Lb := Lb.kp (Kept.of hb)
   replace Lc := Lc.kp (Kept.of hb)
   replace BW := BW.trans (hb.mono BW.size)
   clear hb
   clear hHeld
   refine hK.out _ _ (by exact ⟨K5, K10, K14⟩) (fun hHeld => ?_)
   clear hK
   (try simp only [p0, p1, p2, p3])
   refine pR1 4 (fun K hK => ?_)
   go_simp
   (go_at_call 7; with_reducible refine (y_behind L1 Lc (Mq.det_mul D1.out D2.out) D3.out K27 Z28 (((HX.out.mul HY.out).mul HZ.out).fits (by decide))).mono ?_)
   rintro _ w36 ⟨f2, rfl, L2, hb⟩
   (try go_wp2_with fail)
   replace K5 := K5.on hb
   replace K10 := K10.on hb
   replace K14 := K14.on hb
   replace K27 := K27.on hb
   replace Z28 := Z28.on hb
   replace La := La.kp (Kept.of hb)
   replace Lb := Lb.kp (Kept.of hb)
   replace Lc := Lc.kp (Kept.of hb)
   replace L1 := L1.kp (Kept.of hb)
   replace BW := BW.trans (hb.mono BW.size)
   clear hb
   clear hHeld
   refine hK.out _ _ (by exact ⟨K5, K10, K14⟩) (fun hHeld => ?_)
   clear hK
   (try simp only [p0, p1, p2, p3])
   refine pR1 8 (fun K hK => ?_)
   go_simp
   (go_at_call 7; with_reducible refine (y_behind Lb Lc D2.out D3.out K27 Z28 ((HY.out.mul HZ.out).fits (by decide))).mono ?_)
   rintro _ w37 ⟨f3, rfl, L3, hb⟩
   (try go_wp2_with fail)
   replace K5 := K5.on hb
   replace K10 := K10.on hb
   replace K14 := K14.on hb
   replace K27 := K27.on hb
   replace Z28 := Z28.on hb
   replace La := La.kp (Kept.of hb)
   replace Lb := Lb.kp (Kept.of hb)
   replace L1 := L1.kp (Kept.of hb)
   replace L2 := L2.kp (Kept.of hb)
   replace BW := BW.trans (hb.mono BW.size)
   clear hb
   clear hHeld
   refine hK.out _ _ (by exact ⟨K5, K10, K14⟩) (fun hHeld => ?_)
   clear hK
   (try simp only [p0, p1, p2, p3])
   refine pR1 9 (fun K hK => ?_)
   go_simp
   (go_at_call 7; with_reducible refine (y_behind La L3 D1.out (Mq.det_mul D2.out D3.out) K27 Z28 ((HX.out.mul (HY.out.mul HZ.out)).fits (by decide))).mono ?_)
   rintro _ w38 ⟨f4, rfl, L4, hb⟩
   (try go_wp2_with fail)
   replace K5 := K5.on hb
   replace K10 := K10.on hb
   replace K14 := K14.on hb
   replace K27 := K27.on hb
   replace Z28 := Z28.on hb
   replace La := La.kp (Kept.of hb)
   replace Lb := Lb.kp (Kept.of hb)
   replace L1 := L1.kp (Kept.of hb)
   replace L2 := L2.kp (Kept.of hb)
   replace L3 := L3.kp (Kept.of hb)
   replace BW := BW.trans (hb.mono BW.size)
   clear hb
   replace L4 := L4.to Mq.mul_assoc.symm
   clear hHeld
   refine hK.out _ _ (by exact ⟨K5, K10, K14⟩) (fun hHeld => ?_)
   clear hK
   (try simp only [p0, p1, p2, p3])
   refine pR1 10 (fun K hK => ?_)
   go_simp
   (go_at_call 6; with_reducible refine (y_sameM L2 L4).mono ?_)
   rintro _ w39 ⟨rfl, hb⟩
   (try go_wp2_with fail)
   replace K5 := K5.on hb
   replace K10 := K10.on hb
   replace K14 := K14.on hb
   replace K27 := K27.on hb
   replace Z28 := Z28.on hb
   replace La := La.kp (Kept.of hb)
   replace Lb := Lb.kp (Kept.of hb)
   replace L1 := L1.kp (Kept.of hb)
   replace L2 := L2.kp (Kept.of hb)
   replace L3 := L3.kp (Kept.of hb)
   replace L4 := L4.kp (Kept.of hb)
   replace BW := BW.trans (hb.mono BW.size)
   clear hb
   clear hHeld
   refine hK.out _ _ (by exact ⟨K5, K10, K14⟩) (fun hHeld => ?_)
   clear hK
   (try simp only [p0, p1, p2, p3])
   refine pT 11 ?_
   (try simp only [p0, p1, p2, p3])
   refine pT 12 ?_
   (try simp only [p0, p1, p2, p3])
   refine pT 13 ?_ (hy := fun wt hSw => ldM rfl rfl hSw.1)
   (try simp only [p0, p1, p2, p3])
   refine pT 16 ?_ (hy := fun wt hSw => ldM rfl rfl hSw.1)
   (try simp only [p0, p1, p2, p3])
   refine pR1 14 (fun K hK => ?_)
   go_simp
   (go_at_call 8; with_reducible refine (y_One).mono ?_)
   rintro _ w40 ⟨f5, rfl, L5, hb⟩
   (try go_wp2_with fail)
   replace K5 := K5.on hb
   replace K10 := K10.on hb
   replace K14 := K14.on hb
   replace K27 := K27.on hb
   replace Z28 := Z28.on hb
   replace La := La.kp (Kept.of hb)
   replace Lb := Lb.kp (Kept.of hb)
   replace L1 := L1.kp (Kept.of hb)
   replace L2 := L2.kp (Kept.of hb)
   replace L3 := L3.kp (Kept.of hb)
   replace L4 := L4.kp (Kept.of hb)
   replace BW := BW.trans (hb.mono BW.size)
   clear hb
   clear hHeld
   refine hK.out _ _ (by exact ⟨K5, K10, K14⟩) (fun hHeld => ?_)
   clear hK
   (try simp only [p0, p1, p2, p3])
   refine pR1 15 (fun K hK => ?_)
   go_simp
   (go_at_call 7; with_reducible refine (y_behind La L5 D1.out Mq.det_one K27 Z28 ((HX.out.mul Hm.one).fits (by decide))).mono ?_)
   rintro _ w41 ⟨f6, rfl, L6, hb⟩
   (try go_wp2_with fail)
   replace K5 := K5.on hb
   replace K10 := K10.on hb
   replace K14 := K14.on hb
   replace K27 := K27.on hb
   replace Z28 := Z28.on hb
   replace La := La.kp (Kept.of hb)
   replace Lb := Lb.kp (Kept.of hb)
   replace L1 := L1.kp (Kept.of hb)
   replace L2 := L2.kp (Kept.of hb)
   replace L3 := L3.kp (Kept.of hb)
   replace L4 := L4.kp (Kept.of hb)
   replace L5 := L5.kp (Kept.of hb)
   replace BW := BW.trans (hb.mono BW.size)
   clear hb
   replace L6 := L6.to Mq.mul_one
   clear hHeld
   refine hK.out _ _ (by exact ⟨K5, K10, K14⟩) (fun hHeld => ?_)
   clear hK
   (try simp only [p0, p1, p2, p3])
   refine pR1 17 (fun K hK => ?_)
   go_simp
   (go_at_call 6; with_reducible refine (y_sameM L6 La).mono ?_)
   rintro _ w42 ⟨rfl, hb⟩
   (try go_wp2_with fail)
   replace K5 := K5.on hb
   replace K10 := K10.on hb
   replace K14 := K14.on hb
   replace K27 := K27.on hb
   replace Z28 := Z28.on hb
   replace La := La.kp (Kept.of hb)
   replace Lb := Lb.kp (Kept.of hb)
   replace L1 := L1.kp (Kept.of hb)
   replace L2 := L2.kp (Kept.of hb)
   replace L3 := L3.kp (Kept.of hb)
   replace L4 := L4.kp (Kept.of hb)
   replace L5 := L5.kp (Kept.of hb)
   replace L6 := L6.kp (Kept.of hb)
   replace BW := BW.trans (hb.mono BW.size)
   clear hb
   clear hHeld
   refine hK.out _ _ (by exact ⟨K5, K10, K14⟩) (fun hHeld => ?_)
   clear hK
   (try simp only [p0, p1, p2, p3])
   refine pT 18 ?_
   (try simp only [p0, p1, p2, p3])
   refine pT 19 ?_
   (try simp only [p0, p1, p2, p3])
   refine pT 20 ?_
   (try simp only [p0, p1, p2, p3])
   refine pT 22 ?_ (hy := fun wt hSw => ldM rfl rfl hSw.1)
   (try simp only [p0, p1, p2, p3])
   refine pT 24 ?_ (hy := fun wt hSw => ldM rfl rfl hSw.1)
   (try simp only [p0, p1, p2, p3])
   refine pR1 21 (fun K hK => ?_)
   go_simp
   (go_at_call 8; with_reducible refine (y_One).mono ?_)
   rintro _ w43 ⟨f7, rfl, L7, hb⟩
   (try go_wp2_with fail)
   replace K5 := K5.on hb
   replace K10 := K10.on hb
   replace K14 := K14.on hb
   replace K27 := K27.on hb
   replace Z28 := Z28.on hb
   replace La := La.kp (Kept.of hb)
   replace Lb := Lb.kp (Kept.of hb)
   replace L1 := L1.kp (Kept.of hb)
   replace L2 := L2.kp (Kept.of hb)
   replace L3 := L3.kp (Kept.of hb)
   replace L4 := L4.kp (Kept.of hb)
   replace L5 := L5.kp (Kept.of hb)
   replace L6 := L6.kp (Kept.of hb)
   replace BW := BW.trans (hb.mono BW.size)
   clear hb
   clear hHeld
   refine hK.out _ _ (by exact ⟨K5, K10, K14⟩) (fun hHeld => ?_)
   clear hK
   (try simp only [p0, p1, p2, p3])
   refine pR1 23 (fun K hK => ?_)
   go_simp
   (go_at_call 7; with_reducible refine (y_behind L7 La Mq.det_one D1.out K27 Z28 ((Hm.one.mul HX.out).fits (by decide))).mono ?_)
   rintro _ w44 ⟨f8, rfl, L8, hb⟩
   (try go_wp2_with fail)
   replace K5 := K5.on hb
   replace K10 := K10.on hb
   replace K14 := K14.on hb
   replace K27 := K27.on hb
   replace Z28 := Z28.on hb
   replace La := La.kp (Kept.of hb)
   replace Lb := Lb.kp (Kept.of hb)
   replace L1 := L1.kp (Kept.of hb)
   replace L2 := L2.kp (Kept.of hb)
   replace L3 := L3.kp (Kept.of hb)
   replace L4 := L4.kp (Kept.of hb)
   replace L5 := L5.kp (Kept.of hb)
   replace L6 := L6.kp (Kept.of hb)
   replace L7 := L7.kp (Kept.of hb)
   replace BW := BW.trans (hb.mono BW.size)
   clear hb
   replace L8 := L8.to Mq.one_mul
   clear hHeld
   refine hK.out _ _ (by exact ⟨K5, K10, K14⟩) (fun hHeld => ?_)
   clear hK
   (try simp only [p0, p1, p2, p3])
   refine pR1 25 (fun K hK => ?_)
   go_simp
   (go_at_call 6; with_reducible refine (y_sameM L8 La).mono ?_)
   rintro _ w45 ⟨rfl, hb⟩
   (try go_wp2_with fail)
   replace K5 := K5.on hb
   replace K10 := K10.on hb
   replace K14 := K14.on hb
   replace K27 := K27.on hb
   replace Z28 := Z28.on hb
   replace La := La.kp (Kept.of hb)
   replace Lb := Lb.kp (Kept.of hb)
   replace L1 := L1.kp (Kept.of hb)
   replace L2 := L2.kp (Kept.of hb)
   replace L3 := L3.kp (Kept.of hb)
   replace L4 := L4.kp (Kept.of hb)
   replace L5 := L5.kp (Kept.of hb)
   replace L6 := L6.kp (Kept.of hb)
   replace L7 := L7.kp (Kept.of hb)
   replace L8 := L8.kp (Kept.of hb)
   replace BW := BW.trans (hb.mono BW.size)
   clear hb
   clear hHeld
   refine hK.out _ _ (by exact ⟨K5, K10, K14⟩) (fun hHeld => ?_)
   clear hK
   (try simp only [p0, p1, p2, p3])
   refine pT 26 ?_
   (try simp only [p0, p1, p2, p3])
   refine pT 27 ?_
   (try simp only [p0, p1, p2, p3])
   refine wpAnyH_done (by kernel_rfl) (NoPanic.normal ?_) _
   clear L1 L2 L3 L4 L5 L6 L7 L8
   have c46 : Box w45 (w.heap.size) [.bool m.A.n, .slice m.A.A m.A.xs.length m.A.c, .bool m.A.m, .slice m.A.B m.A.ds.length m.A.d, .bool m.B.n, .slice m.B.A m.B.xs.length m.B.c, .bool m.B.m, .slice m.B.B m.B.ds.length m.B.d, .bool m.C.n, .slice m.C.A m.C.xs.length m.C.c, .bool m.C.m, .slice m.C.B m.C.ds.length m.C.d, .bool m.D.n, .slice m.D.A m.D.xs.length m.D.c, .bool m.D.m, .slice m.D.B m.D.ds.length m.D.d] := K5
   go_wp2_with (first | (refine wpList_ldM (by rfl) (by rfl) (by rfl) c46 (by rfl) ?_))
   clear c46
   refine (y_Back La D1.out).mono ?_
   rintro _ w47 ⟨f9, rfl, L9, hb⟩
   replace K5 := K5.on hb
   replace K10 := K10.on hb
   replace K14 := K14.on hb
   replace K27 := K27.on hb
   replace Z28 := Z28.on hb
   replace La := La.kp (Kept.of hb)
   replace Lb := Lb.kp (Kept.of hb)
   replace BW := BW.trans (hb.mono BW.size)
   clear hb
   obtain ⟨V48, e49, hb50, K51, Z52, -⟩ := alloc_new w47 [.bool f9.A.n, .slice f9.A.A f9.A.xs.length f9.A.c, .bool f9.A.m, .slice f9.A.B f9.A.ds.length f9.A.d, .bool f9.B.n, .slice f9.B.A f9.B.xs.length f9.B.c, .bool f9.B.m, .slice f9.B.B f9.B.ds.length f9.B.d, .bool f9.C.n, .slice f9.C.A f9.C.xs.length f9.C.c, .bool f9.C.m, .slice f9.C.B f9.C.ds.length f9.C.d, .bool f9.D.n, .slice f9.D.A f9.D.xs.length f9.D.c, .bool f9.D.m, .slice f9.D.B f9.D.ds.length f9.D.d] 28
   replace K51 : Box V48 (w47.heap.size) (mcs f9) := K51
   have n53 : w.heap.size ≠ w47.heap.size := Nat.ne_of_lt (K5.lt)
   have n54 : w.heap.size + 1 ≠ w47.heap.size := Nat.ne_of_lt (K10.lt)
   have n55 : w.heap.size + 1 + 1 ≠ w47.heap.size := Nat.ne_of_lt (K14.lt)
   have n56 : b33 ≠ w47.heap.size := Nat.ne_of_lt (K27.lt)
   have g57 : w.heap.size ≤ w47.heap.size := BW.size
   replace K5 := K5.on hb50
   replace K10 := K10.on hb50
   replace K14 := K14.on hb50
   replace K27 := K27.on hb50
   replace Z28 := Z28.on hb50
   replace La := La.kp (Kept.of hb50)
   replace Lb := Lb.kp (Kept.of hb50)
   replace L9 := L9.kp (Kept.of hb50)
   replace BW := BW.trans (hb50.mono BW.size)
   clear hb50
   go_upto_region 7 with (first | (refine wpList_stNew (by rfl) (by rfl) (by rfl) (by rfl) (by rfl) (by rfl) (by rfl) ?_))
   rw [← e49]
   clear e49
   generalize w47.heap.size = b58 at *
   have c59 : Box V48 (w.heap.size + 1) [.bool n.A.n, .slice n.A.A n.A.xs.length n.A.c, .bool n.A.m, .slice n.A.B n.A.ds.length n.A.d, .bool n.B.n, .slice n.B.A n.B.xs.length n.B.c, .bool n.B.m, .slice n.B.B n.B.ds.length n.B.d, .bool n.C.n, .slice n.C.A n.C.xs.length n.C.c, .bool n.C.m, .slice n.C.B n.C.ds.length n.C.d, .bool n.D.n, .slice n.D.A n.D.xs.length n.D.c, .bool n.D.m, .slice n.D.B n.D.ds.length n.D.d] := K10
   go_wp2_with (first | (refine wpList_ldM (by rfl) (by rfl) (by rfl) c59 (by rfl) ?_))
   clear c59
   refine (y_Back Lb D2.out).mono ?_
   rintro _ w60 ⟨f10, rfl, L10, hb⟩
   replace K5 := K5.on hb
   replace K10 := K10.on hb
   replace K14 := K14.on hb
   replace K27 := K27.on hb
   replace K51 := K51.on hb
   replace Z28 := Z28.on hb
   replace La := La.kp (Kept.of hb)
   replace Lb := Lb.kp (Kept.of hb)
   replace L9 := L9.kp (Kept.of hb)
   replace BW := BW.trans (hb.mono BW.size)
   clear hb
   obtain ⟨V61, e62, hb63, K64, Z65, -⟩ := alloc_new w60 [.bool f10.A.n, .slice f10.A.A f10.A.xs.length f10.A.c, .bool f10.A.m, .slice f10.A.B f10.A.ds.length f10.A.d, .bool f10.B.n, .slice f10.B.A f10.B.xs.length f10.B.c, .bool f10.B.m, .slice f10.B.B f10.B.ds.length f10.B.d, .bool f10.C.n, .slice f10.C.A f10.C.xs.length f10.C.c, .bool f10.C.m, .slice f10.C.B f10.C.ds.length f10.C.d, .bool f10.D.n, .slice f10.D.A f10.D.xs.length f10.D.c, .bool f10.D.m, .slice f10.D.B f10.D.ds.length f10.D.d] 28
   replace K64 : Box V61 (w60.heap.size) (mcs f10) := K64
   have n66 : w.heap.size ≠ w60.heap.size := Nat.ne_of_lt (K5.lt)
   have n67 : w.heap.size + 1 ≠ w60.heap.size := Nat.ne_of_lt (K10.lt)
   have n68 : w.heap.size + 1 + 1 ≠ w60.heap.size := Nat.ne_of_lt (K14.lt)
   have n69 : b33 ≠ w60.heap.size := Nat.ne_of_lt (K27.lt)
   have n70 : b58 ≠ w60.heap.size := Nat.ne_of_lt (K51.lt)
   have g71 : w.heap.size ≤ w60.heap.size := BW.size
   replace K5 := K5.on hb63
   replace K10 := K10.on hb63
   replace K14 := K14.on hb63
   replace K27 := K27.on hb63
   replace K51 := K51.on hb63
   replace Z28 := Z28.on hb63
   replace La := La.kp (Kept.of hb63)
   replace Lb := Lb.kp (Kept.of hb63)
   replace L9 := L9.kp (Kept.of hb63)
   replace L10 := L10.kp (Kept.of hb63)
   replace BW := BW.trans (hb63.mono BW.size)
   clear hb63
   go_upto_region 8 with (first | (refine wpList_stNew (by rfl) (by rfl) (by rfl) (by rfl) (by rfl) (by rfl) (by rfl) ?_))
   rw [← e62]
   clear e62
   generalize w60.heap.size = b72 at *
   have c73 : Box V61 (w.heap.size) [.bool m.A.n, .slice m.A.A m.A.xs.length m.A.c, .bool m.A.m, .slice m.A.B m.A.ds.length m.A.d, .bool m.B.n, .slice m.B.A m.B.xs.length m.B.c, .bool m.B.m, .slice m.B.B m.B.ds.length m.B.d, .bool m.C.n, .slice m.C.A m.C.xs.length m.C.c, .bool m.C.m, .slice m.C.B m.C.ds.length m.C.d, .bool m.D.n, .slice m.D.A m.D.xs.length m.D.c, .bool m.D.m, .slice m.D.B m.D.ds.length m.D.d] := K5
   have c74 : Box V61 (w.heap.size + 1) [.bool n.A.n, .slice n.A.A n.A.xs.length n.A.c, .bool n.A.m, .slice n.A.B n.A.ds.length n.A.d, .bool n.B.n, .slice n.B.A n.B.xs.length n.B.c, .bool n.B.m, .slice n.B.B n.B.ds.length n.B.d, .bool n.C.n, .slice n.C.A n.C.xs.length n.C.c, .bool n.C.m, .slice n.C.B n.C.ds.length n.C.d, .bool n.D.n, .slice n.D.A n.D.xs.length n.D.c, .bool n.D.m, .slice n.D.B n.D.ds.length n.D.d] := K10
   go_wp2_with (first | (refine wpList_ldM (by rfl) (by rfl) (by rfl) c73 (by rfl) ?_) | (refine wpList_ldM (by rfl) (by rfl) (by rfl) c74 (by rfl) ?_))
   clear c73 c74
   refine (y_behind La Lb D1.out D2.out K27 Z28 ((HX.out.mul HY.out).fits (by decide))).mono ?_
   rintro _ w75 ⟨f11, rfl, L11, hb⟩
   replace K5 := K5.on hb
   replace K10 := K10.on hb
   replace K14 := K14.on hb
   replace K27 := K27.on hb
   replace K51 := K51.on hb
   replace K64 := K64.on hb
   replace Z28 := Z28.on hb
   replace La := La.kp (Kept.of hb)
   replace Lb := Lb.kp (Kept.of hb)
   replace L9 := L9.kp (Kept.of hb)
   replace L10 := L10.kp (Kept.of hb)
   replace BW := BW.trans (hb.mono BW.size)
   clear hb
   go_wp2_with fail
   refine (y_Back L11 (Mq.det_mul D1.out D2.out)).mono ?_
   rintro _ w76 ⟨f12, rfl, L12, hb⟩
   replace K5 := K5.on hb
   replace K10 := K10.on hb
   replace K14 := K14.on hb
   replace K27 := K27.on hb
   replace K51 := K51.on hb
   replace K64 := K64.on hb
   replace Z28 := Z28.on hb
   replace La := La.kp (Kept.of hb)
   replace Lb := Lb.kp (Kept.of hb)
   replace L9 := L9.kp (Kept.of hb)
   replace L10 := L10.kp (Kept.of hb)
   replace L11 := L11.kp (Kept.of hb)
   replace BW := BW.trans (hb.mono BW.size)
   clear hb
   obtain ⟨V77, e78, hb79, K80, Z81, -⟩ := alloc_new w76 [.bool f12.A.n, .slice f12.A.A f12.A.xs.length f12.A.c, .bool f12.A.m, .slice f12.A.B f12.A.ds.length f12.A.d, .bool f12.B.n, .slice f12.B.A f12.B.xs.length f12.B.c, .bool f12.B.m, .slice f12.B.B f12.B.ds.length f12.B.d, .bool f12.C.n, .slice f12.C.A f12.C.xs.length f12.C.c, .bool f12.C.m, .slice f12.C.B f12.C.ds.length f12.C.d, .bool f12.D.n, .slice f12.D.A f12.D.xs.length f12.D.c, .bool f12.D.m, .slice f12.D.B f12.D.ds.length f12.D.d] 28
   replace K80 : Box V77 (w76.heap.size) (mcs f12) := K80
   have n82 : w.heap.size ≠ w76.heap.size := Nat.ne_of_lt (K5.lt)
   have n83 : w.heap.size + 1 ≠ w76.heap.size := Nat.ne_of_lt (K10.lt)
   have n84 : w.heap.size + 1 + 1 ≠ w76.heap.size := Nat.ne_of_lt (K14.lt)
   have n85 : b33 ≠ w76.heap.size := Nat.ne_of_lt (K27.lt)
   have n86 : b58 ≠ w76.heap.size := Nat.ne_of_lt (K51.lt)
   have n87 : b72 ≠ w76.heap.size := Nat.ne_of_lt (K64.lt)
   have g88 : w.heap.size ≤ w76.heap.size := BW.size
   replace K5 := K5.on hb79
   replace K10 := K10.on hb79
   replace K14 := K14.on hb79
   replace K27 := K27.on hb79
   replace K51 := K51.on hb79
   replace K64 := K64.on hb79
   replace Z28 := Z28.on hb79
   replace La := La.kp (Kept.of hb79)
   replace Lb := Lb.kp (Kept.of hb79)
   replace L9 := L9.kp (Kept.of hb79)
   replace L10 := L10.kp (Kept.of hb79)
   replace L11 := L11.kp (Kept.of hb79)
   replace L12 := L12.kp (Kept.of hb79)
   replace BW := BW.trans (hb79.mono BW.size)
   clear hb79
   go_upto_region 9 with (first | (refine wpList_stNew (by rfl) (by rfl) (by rfl) (by rfl) (by rfl) (by rfl) (by rfl) ?_))
   rw [← e78]
   clear e78
   generalize w76.heap.size = b89 at *
   have c90 : Box V77 (w.heap.size) [.bool m.A.n, .slice m.A.A m.A.xs.length m.A.c, .bool m.A.m, .slice m.A.B m.A.ds.length m.A.d, .bool m.B.n, .slice m.B.A m.B.xs.length m.B.c, .bool m.B.m, .slice m.B.B m.B.ds.length m.B.d, .bool m.C.n, .slice m.C.A m.C.xs.length m.C.c, .bool m.C.m, .slice m.C.B m.C.ds.length m.C.d, .bool m.D.n, .slice m.D.A m.D.xs.length m.D.c, .bool m.D.m, .slice m.D.B m.D.ds.length m.D.d] := K5
   go_wp2_with (first | (refine wpList_ldM (by rfl) (by rfl) (by rfl) c90 (by rfl) ?_))
   clear c90
   refine (y_Mir La D1.out).mono ?_
   rintro _ w91 ⟨f13, rfl, L13, hb⟩
   replace K5 := K5.on hb
   replace K10 := K10.on hb
   replace K14 := K14.on hb
   replace K27 := K27.on hb
   replace K51 := K51.on hb
   replace K64 := K64.on hb
   replace K80 := K80.on hb
   replace Z28 := Z28.on hb
   replace La := La.kp (Kept.of hb)
   replace Lb := Lb.kp (Kept.of hb)
   replace L9 := L9.kp (Kept.of hb)
   replace L10 := L10.kp (Kept.of hb)
   replace L11 := L11.kp (Kept.of hb)
   replace L12 := L12.kp (Kept.of hb)
   replace BW := BW.trans (hb.mono BW.size)
   clear hb
   obtain ⟨V92, e93, hb94, K95, Z96, -⟩ := alloc_new w91 [.bool f13.A.n, .slice f13.A.A f13.A.xs.length f13.A.c, .bool f13.A.m, .slice f13.A.B f13.A.ds.length f13.A.d, .bool f13.B.n, .slice f13.B.A f13.B.xs.length f13.B.c, .bool f13.B.m, .slice f13.B.B f13.B.ds.length f13.B.d, .bool f13.C.n, .slice f13.C.A f13.C.xs.length f13.C.c, .bool f13.C.m, .slice f13.C.B f13.C.ds.length f13.C.d, .bool f13.D.n, .slice f13.D.A f13.D.xs.length f13.D.c, .bool f13.D.m, .slice f13.D.B f13.D.ds.length f13.D.d] 28
   replace K95 : Box V92 (w91.heap.size) (mcs f13) := K95
   have n97 : w.heap.size ≠ w91.heap.size := Nat.ne_of_lt (K5.lt)
   have n98 : w.heap.size + 1 ≠ w91.heap.size := Nat.ne_of_lt (K10.lt)
   have n99 : w.heap.size + 1 + 1 ≠ w91.heap.size := Nat.ne_of_lt (K14.lt)
   have n100 : b33 ≠ w91.heap.size := Nat.ne_of_lt (K27.lt)
   have n101 : b58 ≠ w91.heap.size := Nat.ne_of_lt (K51.lt)
   have n102 : b72 ≠ w91.heap.size := Nat.ne_of_lt (K64.lt)
   have n103 : b89 ≠ w91.heap.size := Nat.ne_of_lt (K80.lt)
   have g104 : w.heap.size ≤ w91.heap.size := BW.size
   replace K5 := K5.on hb94
   replace K10 := K10.on hb94
   replace K14 := K14.on hb94
   replace K27 := K27.on hb94
   replace K51 := K51.on hb94
   replace K64 := K64.on hb94
   replace K80 := K80.on hb94
   replace Z28 := Z28.on hb94
   replace La := La.kp (Kept.of hb94)
   replace Lb := Lb.kp (Kept.of hb94)
   replace L9 := L9.kp (Kept.of hb94)
   replace L10 := L10.kp (Kept.of hb94)
   replace L11 := L11.kp (Kept.of hb94)
   replace L12 := L12.kp (Kept.of hb94)
   replace L13 := L13.kp (Kept.of hb94)
   replace BW := BW.trans (hb94.mono BW.size)
   clear hb94
   go_upto_region 10 with (first | (refine wpList_stNew (by rfl) (by rfl) (by rfl) (by rfl) (by rfl) (by rfl) (by rfl) ?_))
   rw [← e93]
   clear e93
   generalize w91.heap.size = b105 at *
   have c106 : Box V92 (w.heap.size + 1) [.bool n.A.n, .slice n.A.A n.A.xs.length n.A.c, .bool n.A.m, .slice n.A.B n.A.ds.length n.A.d, .bool n.B.n, .slice n.B.A n.B.xs.length n.B.c, .bool n.B.m, .slice n.B.B n.B.ds.length n.B.d, .bool n.C.n, .slice n.C.A n.C.xs.length n.C.c, .bool n.C.m, .slice n.C.B n.C.ds.length n.C.d, .bool n.D.n, .slice n.D.A n.D.xs.length n.D.c, .bool n.D.m, .slice n.D.B n.D.ds.length n.D.d] := K10
   go_wp2_with (first | (refine wpList_ldM (by rfl) (by rfl) (by rfl) c106 (by rfl) ?_))
   clear c106
   refine (y_Mir Lb D2.out).mono ?_
   rintro _ w107 ⟨f14, rfl, L14, hb⟩
   replace K5 := K5.on hb
   replace K10 := K10.on hb
   replace K14 := K14.on hb
   replace K27 := K27.on hb
   replace K51 := K51.on hb
   replace K64 := K64.on hb
   replace K80 := K80.on hb
   replace K95 := K95.on hb
   replace Z28 := Z28.on hb
   replace La := La.kp (Kept.of hb)
   replace Lb := Lb.kp (Kept.of hb)
   replace L9 := L9.kp (Kept.of hb)
   replace L10 := L10.kp (Kept.of hb)
   replace L11 := L11.kp (Kept.of hb)
   replace L12 := L12.kp (Kept.of hb)
   replace L13 := L13.kp (Kept.of hb)
   replace BW := BW.trans (hb.mono BW.size)
   clear hb
   obtain ⟨V108, e109, hb110, K111, Z112, -⟩ := alloc_new w107 [.bool f14.A.n, .slice f14.A.A f14.A.xs.length f14.A.c, .bool f14.A.m, .slice f14.A.B f14.A.ds.length f14.A.d, .bool f14.B.n, .slice f14.B.A f14.B.xs.length f14.B.c, .bool f14.B.m, .slice f14.B.B f14.B.ds.length f14.B.d, .bool f14.C.n, .slice f14.C.A f14.C.xs.length f14.C.c, .bool f14.C.m, .slice f14.C.B f14.C.ds.length f14.C.d, .bool f14.D.n, .slice f14.D.A f14.D.xs.length f14.D.c, .bool f14.D.m, .slice f14.D.B f14.D.ds.length f14.D.d] 28
   replace K111 : Box V108 (w107.heap.size) (mcs f14) := K111
   have n113 : w.heap.size ≠ w107.heap.size := Nat.ne_of_lt (K5.lt)
   have n114 : w.heap.size + 1 ≠ w107.heap.size := Nat.ne_of_lt (K10.lt)
   have n115 : w.heap.size + 1 + 1 ≠ w107.heap.size := Nat.ne_of_lt (K14.lt)
   have n116 : b33 ≠ w107.heap.size := Nat.ne_of_lt (K27.lt)
   have n117 : b58 ≠ w107.heap.size := Nat.ne_of_lt (K51.lt)
   have n118 : b72 ≠ w107.heap.size := Nat.ne_of_lt (K64.lt)
   have n119 : b89 ≠ w107.heap.size := Nat.ne_of_lt (K80.lt)
   have n120 : b105 ≠ w107.heap.size := Nat.ne_of_lt (K95.lt)
   have g121 : w.heap.size ≤ w107.heap.size := BW.size
   replace K5 := K5.on hb110
   replace K10 := K10.on hb110
   replace K14 := K14.on hb110
   replace K27 := K27.on hb110
   replace K51 := K51.on hb110
   replace K64 := K64.on hb110
   replace K80 := K80.on hb110
   replace K95 := K95.on hb110
   replace Z28 := Z28.on hb110
   replace La := La.kp (Kept.of hb110)
   replace Lb := Lb.kp (Kept.of hb110)
   replace L9 := L9.kp (Kept.of hb110)
   replace L10 := L10.kp (Kept.of hb110)
   replace L11 := L11.kp (Kept.of hb110)
   replace L12 := L12.kp (Kept.of hb110)
   replace L13 := L13.kp (Kept.of hb110)
   replace L14 := L14.kp (Kept.of hb110)
   replace BW := BW.trans (hb110.mono BW.size)
   clear hb110
   go_upto_region 11 with (first | (refine wpList_stNew (by rfl) (by rfl) (by rfl) (by rfl) (by rfl) (by rfl) (by rfl) ?_))
   rw [← e109]
   clear e109
   generalize w107.heap.size = b122 at *
   have c123 : Box V108 (w.heap.size) [.bool m.A.n, .slice m.A.A m.A.xs.length m.A.c, .bool m.A.m, .slice m.A.B m.A.ds.length m.A.d, .bool m.B.n, .slice m.B.A m.B.xs.length m.B.c, .bool m.B.m, .slice m.B.B m.B.ds.length m.B.d, .bool m.C.n, .slice m.C.A m.C.xs.length m.C.c, .bool m.C.m, .slice m.C.B m.C.ds.length m.C.d, .bool m.D.n, .slice m.D.A m.D.xs.length m.D.c, .bool m.D.m, .slice m.D.B m.D.ds.length m.D.d] := K5
   have c124 : Box V108 (w.heap.size + 1) [.bool n.A.n, .slice n.A.A n.A.xs.length n.A.c, .bool n.A.m, .slice n.A.B n.A.ds.length n.A.d, .bool n.B.n, .slice n.B.A n.B.xs.length n.B.c, .bool n.B.m, .slice n.B.B n.B.ds.length n.B.d, .bool n.C.n, .slice n.C.A n.C.xs.length n.C.c, .bool n.C.m, .slice n.C.B n.C.ds.length n.C.d, .bool n.D.n, .slice n.D.A n.D.xs.length n.D.c, .bool n.D.m, .slice n.D.B n.D.ds.length n.D.d] := K10
   go_wp2_with (first | (refine wpList_ldM (by rfl) (by rfl) (by rfl) c123 (by rfl) ?_) | (refine wpList_ldM (by rfl) (by rfl) (by rfl) c124 (by rfl) ?_))
   clear c123 c124
   refine (y_behind La Lb D1.out D2.out K27 Z28 ((HX.out.mul HY.out).fits (by decide))).mono ?_
   rintro _ w125 ⟨f15, rfl, L15, hb⟩
   replace K5 := K5.on hb
   replace K10 := K10.on hb
   replace K14 := K14.on hb
   replace K27 := K27.on hb
   replace K51 := K51.on hb
   replace K64 := K64.on hb
   replace K80 := K80.on hb
   replace K95 := K95.on hb
   replace K111 := K111.on hb
   replace Z28 := Z28.on hb
   replace La := La.kp (Kept.of hb)
   replace L9 := L9.kp (Kept.of hb)
   replace L10 := L10.kp (Kept.of hb)
   replace L11 := L11.kp (Kept.of hb)
   replace L12 := L12.kp (Kept.of hb)
   replace L13 := L13.kp (Kept.of hb)
   replace L14 := L14.kp (Kept.of hb)
   replace BW := BW.trans (hb.mono BW.size)
   clear hb
   go_wp2_with fail
   refine (y_Mir L15 (Mq.det_mul D1.out D2.out)).mono ?_
   rintro _ w126 ⟨f16, rfl, L16, hb⟩
   replace K5 := K5.on hb
   replace K10 := K10.on hb
   replace K14 := K14.on hb
   replace K27 := K27.on hb
   replace K51 := K51.on hb
   replace K64 := K64.on hb
   replace K80 := K80.on hb
   replace K95 := K95.on hb
   replace K111 := K111.on hb
   replace Z28 := Z28.on hb
   replace La := La.kp (Kept.of hb)
   replace L9 := L9.kp (Kept.of hb)
   replace L10 := L10.kp (Kept.of hb)
   replace L11 := L11.kp (Kept.of hb)
   replace L12 := L12.kp (Kept.of hb)
   replace L13 := L13.kp (Kept.of hb)
   replace L14 := L14.kp (Kept.of hb)
   replace L15 := L15.kp (Kept.of hb)
   replace BW := BW.trans (hb.mono BW.size)
   clear hb
   obtain ⟨V127, e128, hb129, K130, Z131, -⟩ := alloc_new w126 [.bool f16.A.n, .slice f16.A.A f16.A.xs.length f16.A.c, .bool f16.A.m, .slice f16.A.B f16.A.ds.length f16.A.d, .bool f16.B.n, .slice f16.B.A f16.B.xs.length f16.B.c, .bool f16.B.m, .slice f16.B.B f16.B.ds.length f16.B.d, .bool f16.C.n, .slice f16.C.A f16.C.xs.length f16.C.c, .bool f16.C.m, .slice f16.C.B f16.C.ds.length f16.C.d, .bool f16.D.n, .slice f16.D.A f16.D.xs.length f16.D.c, .bool f16.D.m, .slice f16.D.B f16.D.ds.length f16.D.d] 28
   replace K130 : Box V127 (w126.heap.size) (mcs f16) := K130
   have n132 : w.heap.size ≠ w126.heap.size := Nat.ne_of_lt (K5.lt)
   have n133 : w.heap.size + 1 ≠ w126.heap.size := Nat.ne_of_lt (K10.lt)
   have n134 : w.heap.size + 1 + 1 ≠ w126.heap.size := Nat.ne_of_lt (K14.lt)
   have n135 : b33 ≠ w126.heap.size := Nat.ne_of_lt (K27.lt)
   have n136 : b58 ≠ w126.heap.size := Nat.ne_of_lt (K51.lt)
   have n137 : b72 ≠ w126.heap.size := Nat.ne_of_lt (K64.lt)
   have n138 : b89 ≠ w126.heap.size := Nat.ne_of_lt (K80.lt)
   have n139 : b105 ≠ w126.heap.size := Nat.ne_of_lt (K95.lt)
   have n140 : b122 ≠ w126.heap.size := Nat.ne_of_lt (K111.lt)
   have g141 : w.heap.size ≤ w126.heap.size := BW.size
   replace K5 := K5.on hb129
   replace K27 := K27.on hb129
   replace K51 := K51.on hb129
   replace K64 := K64.on hb129
   replace K80 := K80.on hb129
   replace K95 := K95.on hb129
   replace K111 := K111.on hb129
   replace Z28 := Z28.on hb129
   replace La := La.kp (Kept.of hb129)
   replace L9 := L9.kp (Kept.of hb129)
   replace L10 := L10.kp (Kept.of hb129)
   replace L11 := L11.kp (Kept.of hb129)
   replace L12 := L12.kp (Kept.of hb129)
   replace L13 := L13.kp (Kept.of hb129)
   replace L14 := L14.kp (Kept.of hb129)
   replace L15 := L15.kp (Kept.of hb129)
   replace L16 := L16.kp (Kept.of hb129)
   replace BW := BW.trans (hb129.mono BW.size)
   clear hb129
   go_wp2_with (first | (refine wpList_stNew (by rfl) (by rfl) (by rfl) (by rfl) (by rfl) (by rfl) (by rfl) ?_))
   rw [← e128]
   clear e128
   generalize w126.heap.size = b142 at *
   clear L11 L15
   refine wp_region_noPanic ?_
   have hb : Below V127.heap.size V127 V127.drew := (Below.refl _ _).drew
   replace K5 := K5.on hb
   replace K27 := K27.on hb
   replace K51 := K51.on hb
   replace K64 := K64.on hb
   replace K80 := K80.on hb
   replace K95 := K95.on hb
   replace K111 := K111.on hb
   replace K130 := K130.on hb
   replace Z28 := Z28.on hb
   replace La := La.kp (Kept.of hb)
   replace L9 := L9.kp (Kept.of hb)
   replace L10 := L10.kp (Kept.of hb)
   replace L12 := L12.kp (Kept.of hb)
   replace L13 := L13.kp (Kept.of hb)
   replace L14 := L14.kp (Kept.of hb)
   replace L16 := L16.kp (Kept.of hb)
   replace BW := BW.trans (hb.mono BW.size)
   clear hb
   refine wp_region_held_drew (S := (fun wx => Box wx (w.heap.size) [.bool m.A.n, .slice m.A.A m.A.xs.length m.A.c, .bool m.A.m, .slice m.A.B m.A.ds.length m.A.d, .bool m.B.n, .slice m.B.A m.B.xs.length m.B.c, .bool m.B.m, .slice m.B.B m.B.ds.length m.B.d, .bool m.C.n, .slice m.C.A m.C.xs.length m.C.c, .bool m.C.m, .slice m.C.B m.C.ds.length m.C.d, .bool m.D.n, .slice m.D.A m.D.xs.length m.D.c, .bool m.D.m, .slice m.D.B m.D.ds.length m.D.d] ∧ Box wx (b58) [.bool f9.A.n, .slice f9.A.A f9.A.xs.length f9.A.c, .bool f9.A.m, .slice f9.A.B f9.A.ds.length f9.A.d, .bool f9.B.n, .slice f9.B.A f9.B.xs.length f9.B.c, .bool f9.B.m, .slice f9.B.B f9.B.ds.length f9.B.d, .bool f9.C.n, .slice f9.C.A f9.C.xs.length f9.C.c, .bool f9.C.m, .slice f9.C.B f9.C.ds.length f9.C.d, .bool f9.D.n, .slice f9.D.A f9.D.xs.length f9.D.c, .bool f9.D.m, .slice f9.D.B f9.D.ds.length f9.D.d] ∧ Box wx (b72) [.bool f10.A.n, .slice f10.A.A f10.A.xs.length f10.A.c, .bool f10.A.m, .slice f10.A.B f10.A.ds.length f10.A.d, .bool f10.B.n, .slice f10.B.A f10.B.xs.length f10.B.c, .bool f10.B.m, .slice f10.B.B f10.B.ds.length f10.B.d, .bool f10.C.n, .slice f10.C.A f10.C.xs.length f10.C.c, .bool f10.C.m, .slice f10.C.B f10.C.ds.length f10.C.d, .bool f10.D.n, .slice f10.D.A f10.D.xs.length f10.D.c, .bool f10.D.m, .slice f10.D.B f10.D.ds.length f10.D.d] ∧ Box wx (b89) [.bool f12.A.n, .slice f12.A.A f12.A.xs.length f12.A.c, .bool f12.A.m, .slice f12.A.B f12.A.ds.length f12.A.d, .bool f12.B.n, .slice f12.B.A f12.B.xs.length f12.B.c, .bool f12.B.m, .slice f12.B.B f12.B.ds.length f12.B.d, .bool f12.C.n, .slice f12.C.A f12.C.xs.length f12.C.c, .bool f12.C.m, .slice f12.C.B f12.C.ds.length f12.C.d, .bool f12.D.n, .slice f12.D.A f12.D.xs.length f12.D.c, .bool f12.D.m, .slice f12.D.B f12.D.ds.length f12.D.d])) (by kernel_rfl) (by exact ⟨K5, K51, K64, K80⟩) (fun hHeld => ?_)
   generalize V127.drew = Vd143 at *
   refine pT 0 ?_ (hy := fun wt hSw => ldM rfl rfl hSw.2.1)
   (try simp only [p0, p1, p2, p3])
   refine pT 1 ?_ (hy := fun wt hSw => ldM rfl rfl hSw.1)
   (try simp only [p0, p1, p2, p3])
   refine pR1 2 (fun K hK => ?_)
   go_simp
   (go_at_call 7; with_reducible refine (y_behind L9 La (Mq.det_back D1.out) D1.out K27 Z28 ((HX.out.back.mul HX.out).fits (by decide))).mono ?_)
   rintro _ w144 ⟨f17, rfl, L17, hb⟩
   (try go_wp2_with fail)
   replace K5 := K5.on hb
   replace K27 := K27.on hb
   replace K51 := K51.on hb
   replace K64 := K64.on hb
   replace K80 := K80.on hb
   replace K95 := K95.on hb
   replace K111 := K111.on hb
   replace K130 := K130.on hb
   replace Z28 := Z28.on hb
   replace La := La.kp (Kept.of hb)
   replace L9 := L9.kp (Kept.of hb)
   replace L10 := L10.kp (Kept.of hb)
   replace L12 := L12.kp (Kept.of hb)
   replace L13 := L13.kp (Kept.of hb)
   replace L14 := L14.kp (Kept.of hb)
   replace L16 := L16.kp (Kept.of hb)
   replace BW := BW.trans (hb.mono BW.size)
   clear hb
   replace L17 := L17.to (Mq.back_mul D1.out)
   clear hHeld
   refine hK.out _ _ (by exact ⟨K5, K51, K64, K80⟩) (fun hHeld => ?_)
   clear hK
   (try simp only [p0, p1, p2, p3])
   refine pR1 3 (fun K hK => ?_)
   go_simp
   (go_at_call 8; with_reducible refine (y_One).mono ?_)
   rintro _ w145 ⟨f18, rfl, L18, hb⟩
   (try go_wp2_with fail)
   replace K5 := K5.on hb
   replace K27 := K27.on hb
   replace K51 := K51.on hb
   replace K64 := K64.on hb
   replace K80 := K80.on hb
   replace K95 := K95.on hb
   replace K111 := K111.on hb
   replace K130 := K130.on hb
   replace Z28 := Z28.on hb
   replace La := La.kp (Kept.of hb)
   replace L9 := L9.kp (Kept.of hb)
   replace L10 := L10.kp (Kept.of hb)
   replace L12 := L12.kp (Kept.of hb)
   replace L13 := L13.kp (Kept.of hb)
   replace L14 := L14.kp (Kept.of hb)
   replace L16 := L16.kp (Kept.of hb)
   replace L17 := L17.kp (Kept.of hb)
   replace BW := BW.trans (hb.mono BW.size)
   clear hb
   clear hHeld
   refine hK.out _ _ (by exact ⟨K5, K51, K64, K80⟩) (fun hHeld => ?_)
   clear hK
   (try simp only [p0, p1, p2, p3])
   refine pR1 4 (fun K hK => ?_)
   go_simp
   (go_at_call 6; with_reducible refine (y_sameM L17 L18).mono ?_)
   rintro _ w146 ⟨rfl, hb⟩
   (try go_wp2_with fail)
   replace K5 := K5.on hb
   replace K27 := K27.on hb
   replace K51 := K51.on hb
   replace K64 := K64.on hb
   replace K80 := K80.on hb
   replace K95 := K95.on hb
   replace K111 := K111.on hb
   replace K130 := K130.on hb
   replace Z28 := Z28.on hb
   replace La := La.kp (Kept.of hb)
   replace L9 := L9.kp (Kept.of hb)
   replace L10 := L10.kp (Kept.of hb)
   replace L12 := L12.kp (Kept.of hb)
   replace L13 := L13.kp (Kept.of hb)
   replace L14 := L14.kp (Kept.of hb)
   replace L16 := L16.kp (Kept.of hb)
   replace L17 := L17.kp (Kept.of hb)
   replace L18 := L18.kp (Kept.of hb)
   replace BW := BW.trans (hb.mono BW.size)
   clear hb
   clear hHeld
   refine hK.out _ _ (by exact ⟨K5, K51, K64, K80⟩) (fun hHeld => ?_)
   clear hK
   (try simp only [p0, p1, p2, p3])
   refine pT 5 ?_
   (try simp only [p0, p1, p2, p3])
   refine pT 6 ?_ (hy := fun wt hSw => ldM rfl rfl hSw.1)
   (try simp only [p0, p1, p2, p3])
   refine pT 7 ?_ (hy := fun wt hSw => ldM rfl rfl hSw.2.1)
   (try simp only [p0, p1, p2, p3])
   refine pR1 8 (fun K hK => ?_)
   go_simp
   (go_at_call 7; with_reducible refine (y_behind La L9 D1.out (Mq.det_back D1.out) K27 Z28 ((HX.out.mul HX.out.back).fits (by decide))).mono ?_)
   rintro _ w147 ⟨f19, rfl, L19, hb⟩
   (try go_wp2_with fail)
   replace K5 := K5.on hb
   replace K27 := K27.on hb
   replace K51 := K51.on hb
   replace K64 := K64.on hb
   replace K80 := K80.on hb
   replace K95 := K95.on hb
   replace K111 := K111.on hb
   replace K130 := K130.on hb
   replace Z28 := Z28.on hb
   replace L9 := L9.kp (Kept.of hb)
   replace L10 := L10.kp (Kept.of hb)
   replace L12 := L12.kp (Kept.of hb)
   replace L13 := L13.kp (Kept.of hb)
   replace L14 := L14.kp (Kept.of hb)
   replace L16 := L16.kp (Kept.of hb)
   replace L17 := L17.kp (Kept.of hb)
   replace L18 := L18.kp (Kept.of hb)
   replace BW := BW.trans (hb.mono BW.size)
   clear hb
   replace L19 := L19.to (Mq.mul_back D1.out)
   clear hHeld
   refine hK.out _ _ (by exact ⟨K5, K51, K64, K80⟩) (fun hHeld => ?_)
   clear hK
   (try simp only [p0, p1, p2, p3])
   refine pR1 9 (fun K hK => ?_)
   go_simp
   (go_at_call 8; with_reducible refine (y_One).mono ?_)
   rintro _ w148 ⟨f20, rfl, L20, hb⟩
   (try go_wp2_with fail)
   replace K5 := K5.on hb
   replace K27 := K27.on hb
   replace K51 := K51.on hb
   replace K64 := K64.on hb
   replace K80 := K80.on hb
   replace K95 := K95.on hb
   replace K111 := K111.on hb
   replace K130 := K130.on hb
   replace Z28 := Z28.on hb
   replace L9 := L9.kp (Kept.of hb)
   replace L10 := L10.kp (Kept.of hb)
   replace L12 := L12.kp (Kept.of hb)
   replace L13 := L13.kp (Kept.of hb)
   replace L14 := L14.kp (Kept.of hb)
   replace L16 := L16.kp (Kept.of hb)
   replace L17 := L17.kp (Kept.of hb)
   replace L18 := L18.kp (Kept.of hb)
   replace L19 := L19.kp (Kept.of hb)
   replace BW := BW.trans (hb.mono BW.size)
   clear hb
   clear hHeld
   refine hK.out _ _ (by exact ⟨K5, K51, K64, K80⟩) (fun hHeld => ?_)
   clear hK
   (try simp only [p0, p1, p2, p3])
   refine pR1 10 (fun K hK => ?_)
   go_simp
   (go_at_call 6; with_reducible refine (y_sameM L19 L20).mono ?_)
   rintro _ w149 ⟨rfl, hb⟩
   (try go_wp2_with fail)
   replace K5 := K5.on hb
   replace K27 := K27.on hb
   replace K51 := K51.on hb
   replace K64 := K64.on hb
   replace K80 := K80.on hb
   replace K95 := K95.on hb
   replace K111 := K111.on hb
   replace K130 := K130.on hb
   replace Z28 := Z28.on hb
   replace L9 := L9.kp (Kept.of hb)
   replace L10 := L10.kp (Kept.of hb)
   replace L12 := L12.kp (Kept.of hb)
   replace L13 := L13.kp (Kept.of hb)
   replace L14 := L14.kp (Kept.of hb)
   replace L16 := L16.kp (Kept.of hb)
   replace L17 := L17.kp (Kept.of hb)
   replace L18 := L18.kp (Kept.of hb)
   replace L19 := L19.kp (Kept.of hb)
   replace L20 := L20.kp (Kept.of hb)
   replace BW := BW.trans (hb.mono BW.size)
   clear hb
   clear hHeld
   refine hK.out _ _ (by exact ⟨K5, K51, K64, K80⟩) (fun hHeld => ?_)
   clear hK
   (try simp only [p0, p1, p2, p3])
   refine pT 11 ?_
   (try simp only [p0, p1, p2, p3])
   refine pT 12 ?_
   (try simp only [p0, p1, p2, p3])
   refine pT 13 ?_ (hy := fun wt hSw => ldM rfl rfl hSw.2.2.2)
   (try simp only [p0, p1, p2, p3])
   refine pT 14 ?_ (hy := fun wt hSw => ldM rfl rfl hSw.2.2.1)
   (try simp only [p0, p1, p2, p3])
   refine pT 15 ?_ (hy := fun wt hSw => ldM rfl rfl hSw.2.1)
   (try simp only [p0, p1, p2, p3])
   refine pR1 16 (fun K hK => ?_)
   go_simp
   (go_at_call 7; with_reducible refine (y_behind L10 L9 (Mq.det_back D2.out) (Mq.det_back D1.out) K27 Z28 ((HY.out.back.mul HX.out.back).fits (by decide))).mono ?_)
   rintro _ w150 ⟨f21, rfl, L21, hb⟩
   (try go_wp2_with fail)
   replace K5 := K5.on hb
   replace K27 := K27.on hb
   replace K51 := K51.on hb
   replace K64 := K64.on hb
   replace K80 := K80.on hb
   replace K95 := K95.on hb
   replace K111 := K111.on hb
   replace K130 := K130.on hb
   replace Z28 := Z28.on hb
   replace L9 := L9.kp (Kept.of hb)
   replace L10 := L10.kp (Kept.of hb)
   replace L12 := L12.kp (Kept.of hb)
   replace L13 := L13.kp (Kept.of hb)
   replace L14 := L14.kp (Kept.of hb)
   replace L16 := L16.kp (Kept.of hb)
   replace L17 := L17.kp (Kept.of hb)
   replace L18 := L18.kp (Kept.of hb)
   replace L19 := L19.kp (Kept.of hb)
   replace L20 := L20.kp (Kept.of hb)
   replace BW := BW.trans (hb.mono BW.size)
   clear hb
   replace L21 := L21.to Mq.back_two.symm
   clear hHeld
   refine hK.out _ _ (by exact ⟨K5, K51, K64, K80⟩) (fun hHeld => ?_)
   clear hK
   (try simp only [p0, p1, p2, p3])
   refine pR1 17 (fun K hK => ?_)
   go_simp
   (go_at_call 6; with_reducible refine (y_sameM L12 L21).mono ?_)
   rintro _ w151 ⟨rfl, hb⟩
   (try go_wp2_with fail)
   replace K5 := K5.on hb
   replace K27 := K27.on hb
   replace K51 := K51.on hb
   replace K64 := K64.on hb
   replace K80 := K80.on hb
   replace K95 := K95.on hb
   replace K111 := K111.on hb
   replace K130 := K130.on hb
   replace Z28 := Z28.on hb
   replace L9 := L9.kp (Kept.of hb)
   replace L10 := L10.kp (Kept.of hb)
   replace L12 := L12.kp (Kept.of hb)
   replace L13 := L13.kp (Kept.of hb)
   replace L14 := L14.kp (Kept.of hb)
   replace L16 := L16.kp (Kept.of hb)
   replace L17 := L17.kp (Kept.of hb)
   replace L18 := L18.kp (Kept.of hb)
   replace L19 := L19.kp (Kept.of hb)
   replace L20 := L20.kp (Kept.of hb)
   replace L21 := L21.kp (Kept.of hb)
   replace BW := BW.trans (hb.mono BW.size)
   clear hb
   clear hHeld
   refine hK.out _ _ (by exact ⟨K5, K51, K64, K80⟩) (fun hHeld => ?_)
   clear hK
   (try simp only [p0, p1, p2, p3])
   refine pT 18 ?_
   (try simp only [p0, p1, p2, p3])
   refine pT 19 ?_
   (try simp only [p0, p1, p2, p3])
   refine wpAnyH_done (by kernel_rfl) (NoPanic.normal ?_) _
   clear L17 L18 L19 L20 L21 L12 L9 L10
   go_wp2_with fail
   refine wp_region_noPanic ?_
   have hb : Below w151.heap.size w151 w151.drew := (Below.refl _ _).drew
   replace K27 := K27.on hb
   replace K95 := K95.on hb
   replace K111 := K111.on hb
   replace K130 := K130.on hb
   replace Z28 := Z28.on hb
   replace L13 := L13.kp (Kept.of hb)
   replace L14 := L14.kp (Kept.of hb)
   replace L16 := L16.kp (Kept.of hb)
   replace BW := BW.trans (hb.mono BW.size)
   clear hb
   refine wp_region_held_drew (S := (fun wx => Cs wx (b33) 0 [.bool true] ∧ Box wx (b105) [.bool f13.A.n, .slice f13.A.A f13.A.xs.length f13.A.c, .bool f13.A.m, .slice f13.A.B f13.A.ds.length f13.A.d, .bool f13.B.n, .slice f13.B.A f13.B.xs.length f13.B.c, .bool f13.B.m, .slice f13.B.B f13.B.ds.length f13.B.d, .bool f13.C.n, .slice f13.C.A f13.C.xs.length f13.C.c, .bool f13.C.m, .slice f13.C.B f13.C.ds.length f13.C.d, .bool f13.D.n, .slice f13.D.A f13.D.xs.length f13.D.c, .bool f13.D.m, .slice f13.D.B f13.D.ds.length f13.D.d] ∧ Box wx (b122) [.bool f14.A.n, .slice f14.A.A f14.A.xs.length f14.A.c, .bool f14.A.m, .slice f14.A.B f14.A.ds.length f14.A.d, .bool f14.B.n, .slice f14.B.A f14.B.xs.length f14.B.c, .bool f14.B.m, .slice f14.B.B f14.B.ds.length f14.B.d, .bool f14.C.n, .slice f14.C.A f14.C.xs.length f14.C.c, .bool f14.C.m, .slice f14.C.B f14.C.ds.length f14.C.d, .bool f14.D.n, .slice f14.D.A f14.D.xs.length f14.D.c, .bool f14.D.m, .slice f14.D.B f14.D.ds.length f14.D.d] ∧ Box wx (b142) [.bool f16.A.n, .slice f16.A.A f16.A.xs.length f16.A.c, .bool f16.A.m, .slice f16.A.B f16.A.ds.length f16.A.d, .bool f16.B.n, .slice f16.B.A f16.B.xs.length f16.B.c, .bool f16.B.m, .slice f16.B.B f16.B.ds.length f16.B.d, .bool f16.C.n, .slice f16.C.A f16.C.xs.length f16.C.c, .bool f16.C.m, .slice f16.C.B f16.C.ds.length f16.C.d, .bool f16.D.n, .slice f16.D.A f16.D.xs.length f16.D.c, .bool f16.D.m, .slice f16.D.B f16.D.ds.length f16.D.d])) (by kernel_rfl) (by exact ⟨K27.cs, K95, K111, K130⟩) (fun hHeld => ?_)
   generalize w151.drew = Vd152 at *
   refine pT 0 ?_
   (try simp only [p0, p1, p2, p3])
   refine pT 1 ?_
   (try simp only [p0, p1, p2, p3])
   refine pT 2 ?_
   (try simp only [p0, p1, p2, p3])
   refine pT 3 ?_
   (try simp only [p0, p1, p2, p3])
   refine pT 4 ?_
   (try simp only [p0, p1, p2, p3])
   refine pT 5 ?_ (hy := fun wt hSw => ldM rfl rfl hSw.2.2.2)
   (try simp only [p0, p1, p2, p3])
   refine pT 6 ?_ (hy := fun wt hSw => ldM rfl rfl hSw.2.2.1)
   (try simp only [p0, p1, p2, p3])
   refine pT 7 ?_ (hy := fun wt hSw => ldM rfl rfl hSw.2.1)
   (try simp only [p0, p1, p2, p3])
   refine pR1 8 (fun K hK => ?_)
   go_simp
   (go_at_call 7; with_reducible refine (y_behind L14 L13 (Mq.det_mir D2.out) (Mq.det_mir D1.out) K27 Z28 ((HY.out.mir.mul HX.out.mir).fits (by decide))).mono ?_)
   rintro _ w153 ⟨f22, rfl, L22, hb⟩
   (try go_wp2_with fail)
   replace K27 := K27.on hb
   replace K95 := K95.on hb
   replace K111 := K111.on hb
   replace K130 := K130.on hb
   replace L16 := L16.kp (Kept.of hb)
   replace BW := BW.trans (hb.mono BW.size)
   clear hb
   replace L22 := L22.to Mq.mir_two.symm
   clear hHeld
   refine hK.out _ _ (by exact ⟨K27.cs, K95, K111, K130⟩) (fun hHeld => ?_)
   clear hK
   (try simp only [p0, p1, p2, p3])
   refine pR1 9 (fun K hK => ?_)
   go_simp
   (go_at_call 6; with_reducible refine (y_sameM L16 L22).mono ?_)
   rintro _ w154 ⟨rfl, hb⟩
   (try go_wp2_with fail)
   replace K27 := K27.on hb
   replace K95 := K95.on hb
   replace K111 := K111.on hb
   replace K130 := K130.on hb
   replace BW := BW.trans (hb.mono BW.size)
   clear hb
   clear hHeld
   refine hK.out _ _ (by exact ⟨K27.cs, K95, K111, K130⟩) (fun hHeld => ?_)
   clear hK
   (try simp only [p0, p1, p2, p3])
   refine pT 10 ?_
   (try simp only [p0, p1, p2, p3])
   refine pT 11 ?_
   (try simp only [p0, p1, p2, p3])
   refine pR1 12 (fun K hK => ?_)
   go_simp
   (go_at_call 5; with_reducible refine (y_alive).mono ?_)
   rintro _ w155 ⟨rfl, hb⟩
   (try go_wp2_with fail)
   replace K27 := K27.on hb
   replace K95 := K95.on hb
   replace K111 := K111.on hb
   replace K130 := K130.on hb
   replace BW := BW.trans (hb.mono BW.size)
   clear hb
   clear hHeld
   refine hK.out _ _ (by exact ⟨K27.cs, K95, K111, K130⟩) (fun hHeld => ?_)
   clear hK
   (try simp only [p0, p1, p2, p3])
   refine pT 13 ?_
   (try simp only [p0, p1, p2, p3])
   refine pT 14 ?_
   (try simp only [p0, p1, p2, p3])
   refine wpAnyH_done (by kernel_rfl) (NoPanic.normal ?_) _
   go_wp2
   exact bodyPost_ret (v := .bool true) (by simp [results, Try.results3, go_sem]) rfl ⟨rfl, BW⟩
 · go_wp2_with fail
   refine (y_alive).mono ?_
   rintro _ w24 ⟨rfl, hb⟩
   replace BW := BW.trans (hb.mono BW.size)
   clear hb
   go_wp2_with fail
   exact bodyPost_ret (v := .bool true) (by simp [results, Try.results3, go_sem]) rfl ⟨rfl, BW⟩
end Go.Proofs.Ytfhleccodbjfbaa
