/-
  What the statement about rays that go through matrices returns: yes. Conditions: that matrices and rays are no longer than memory.
-/
import Derived.Test.YtfhleccodbjfbaaGreatRh
import Derived.Test.YtfhleccodbjfbaaGreatRmo
import Derived.Deep.RegionHeld3
import Derived.Deep.DeepCutAuto
import Derived.BigRegion
namespace Go.Proofs.YtfhleccodbjfbaaGreat
open Go.RowKit Nb
theorem orE_zero {a b : Int} (h : orE a b = 0) : a = 0 ∧ b = 0 := by
 unfold orE at h
 by_cases ha : a = 0
 ·rw [if_pos ha] at h; exact ⟨ha, h⟩
 ·rw [if_neg ha] at h; exact absurd h ha
theorem or_bad {y z : Yv} (h : ¬ (oky y ∧ oky z)) : orE (orE (chkv y.Y) (chkv y.U)) (orE (chkv z.Y) (chkv z.U)) ≠ 0 := by
 intro e
 obtain ⟨e1, e2⟩ := orE_zero e
 obtain ⟨h1, h2⟩ := orE_zero e1
 obtain ⟨h3, h4⟩ := orE_zero e2
 exact h ⟨⟨chkv_zero h1, chkv_zero h2⟩, chkv_zero h3, chkv_zero h4⟩
theorem FIs.zero {W : World} {z : Rat} {f : Fv} {e : Int} (h : FIs W z f e) (he : e = 0) : FitsQ z ∧ Ff W z f := by
 rcases h with ⟨_, h1, h2⟩ | ⟨h1, _⟩
 ·exact ⟨h1, h2⟩
 ·omega
set_option maxHeartbeats 32000000 in
set_option maxRecDepth 100000 in
theorem keeps_walk {m n : Mv} {y z : Yv} {w : World} (X1 : Xm w m) (X2 : Xm w n) (Y1 : Xy w y) (Y2 : Xy w z) :
    Calls Tryz.prog 18 #[mv m, mv n, yv y, yv z] w (fun e w' => e = .returned (.bool true) ∧ Below w.heap.size w w') := by
 have BW : Below w.heap.size w w := Below.refl _ _
 obtain ⟨V2, e3, hb4, K5, -, z1⟩ := alloc_new w [.bool m.A.n, .slice m.A.A m.A.xs.length m.A.c, .bool m.A.m, .slice m.A.B m.A.ds.length m.A.d, .bool m.B.n, .slice m.B.A m.B.xs.length m.B.c, .bool m.B.m, .slice m.B.B m.B.ds.length m.B.d, .bool m.C.n, .slice m.C.A m.C.xs.length m.C.c, .bool m.C.m, .slice m.C.B m.C.ds.length m.C.d, .bool m.D.n, .slice m.D.A m.D.xs.length m.D.c, .bool m.D.m, .slice m.D.B m.D.ds.length m.D.d] 28
 replace K5 : Box V2 (w.heap.size) (mcs m) := K5
 replace X1 := X1.kp (Kept.of hb4)
 replace X2 := X2.kp (Kept.of hb4)
 replace Y1 := Y1.kp (Kept.of hb4)
 replace Y2 := Y2.kp (Kept.of hb4)
 replace BW := BW.trans (hb4.mono BW.size)
 clear hb4
 obtain ⟨V7, e8, hb9, K10, -, z6⟩ := alloc_new V2 [.bool n.A.n, .slice n.A.A n.A.xs.length n.A.c, .bool n.A.m, .slice n.A.B n.A.ds.length n.A.d, .bool n.B.n, .slice n.B.A n.B.xs.length n.B.c, .bool n.B.m, .slice n.B.B n.B.ds.length n.B.d, .bool n.C.n, .slice n.C.A n.C.xs.length n.C.c, .bool n.C.m, .slice n.C.B n.C.ds.length n.C.d, .bool n.D.n, .slice n.D.A n.D.xs.length n.D.c, .bool n.D.m, .slice n.D.B n.D.ds.length n.D.d] 28
 rw [z1] at K10 z6
 replace K10 : Box V7 (w.heap.size + 1) (mcs n) := K10
 replace K5 := K5.on hb9
 replace X1 := X1.kp (Kept.of hb9)
 replace X2 := X2.kp (Kept.of hb9)
 replace Y1 := Y1.kp (Kept.of hb9)
 replace Y2 := Y2.kp (Kept.of hb9)
 replace BW := BW.trans (hb9.mono BW.size)
 clear hb9
 obtain ⟨V12, e13, hb14, K15, -, z11⟩ := alloc_new V7 [.bool y.Y.n, .slice y.Y.A y.Y.xs.length y.Y.c, .bool y.Y.m, .slice y.Y.B y.Y.ds.length y.Y.d, .bool y.U.n, .slice y.U.A y.U.xs.length y.U.c, .bool y.U.m, .slice y.U.B y.U.ds.length y.U.d] 44
 rw [z6] at K15 z11
 replace K15 : Box V12 (w.heap.size + 1 + 1) (ycs y) := K15
 replace K5 := K5.on hb14
 replace K10 := K10.on hb14
 replace X1 := X1.kp (Kept.of hb14)
 replace X2 := X2.kp (Kept.of hb14)
 replace Y1 := Y1.kp (Kept.of hb14)
 replace Y2 := Y2.kp (Kept.of hb14)
 replace BW := BW.trans (hb14.mono BW.size)
 clear hb14
 obtain ⟨V16, e17, hb18, K19, -, -⟩ := alloc_new V12 [.bool z.Y.n, .slice z.Y.A z.Y.xs.length z.Y.c, .bool z.Y.m, .slice z.Y.B z.Y.ds.length z.Y.d, .bool z.U.n, .slice z.U.A z.U.xs.length z.U.c, .bool z.U.m, .slice z.U.B z.U.ds.length z.U.d] 44
 rw [z11] at K19
 replace K19 : Box V16 (w.heap.size + 1 + 1 + 1) (ycs z) := K19
 replace K5 := K5.on hb18
 replace K10 := K10.on hb18
 replace K15 := K15.on hb18
 replace X1 := X1.kp (Kept.of hb18)
 replace X2 := X2.kp (Kept.of hb18)
 replace Y1 := Y1.kp (Kept.of hb18)
 replace Y2 := Y2.kp (Kept.of hb18)
 replace BW := BW.trans (hb18.mono BW.size)
 clear hb18
 clear z1 z6 z11
 go_enter Tryz.func18, Tryz.ntmps18
 go_upto_region 1 with fail
 rw [← e3, ← e8, ← e13, ← e17]
 clear e3 e8 e13 e17
 have c20 : Box V16 (w.heap.size) [.bool m.A.n, .slice m.A.A m.A.xs.length m.A.c, .bool m.A.m, .slice m.A.B m.A.ds.length m.A.d, .bool m.B.n, .slice m.B.A m.B.xs.length m.B.c, .bool m.B.m, .slice m.B.B m.B.ds.length m.B.d, .bool m.C.n, .slice m.C.A m.C.xs.length m.C.c, .bool m.C.m, .slice m.C.B m.C.ds.length m.C.d, .bool m.D.n, .slice m.D.A m.D.xs.length m.D.c, .bool m.D.m, .slice m.D.B m.D.ds.length m.D.d] := K5
 have c21 : Box V16 (w.heap.size + 1) [.bool n.A.n, .slice n.A.A n.A.xs.length n.A.c, .bool n.A.m, .slice n.A.B n.A.ds.length n.A.d, .bool n.B.n, .slice n.B.A n.B.xs.length n.B.c, .bool n.B.m, .slice n.B.B n.B.ds.length n.B.d, .bool n.C.n, .slice n.C.A n.C.xs.length n.C.c, .bool n.C.m, .slice n.C.B n.C.ds.length n.C.d, .bool n.D.n, .slice n.D.A n.D.xs.length n.D.c, .bool n.D.m, .slice n.D.B n.D.ds.length n.D.d] := K10
 obtain ⟨V22, e23, hb24, K25, -, -⟩ := alloc_new V16 [.bool m.A.n, .slice m.A.A m.A.xs.length m.A.c, .bool m.A.m, .slice m.A.B m.A.ds.length m.A.d, .bool m.B.n, .slice m.B.A m.B.xs.length m.B.c, .bool m.B.m, .slice m.B.B m.B.ds.length m.B.d, .bool m.C.n, .slice m.C.A m.C.xs.length m.C.c, .bool m.C.m, .slice m.C.B m.C.ds.length m.C.d, .bool m.D.n, .slice m.D.A m.D.xs.length m.D.c, .bool m.D.m, .slice m.D.B m.D.ds.length m.D.d, .bool n.A.n, .slice n.A.A n.A.xs.length n.A.c, .bool n.A.m, .slice n.A.B n.A.ds.length n.A.d, .bool n.B.n, .slice n.B.A n.B.xs.length n.B.c, .bool n.B.m, .slice n.B.B n.B.ds.length n.B.d, .bool n.C.n, .slice n.C.A n.C.xs.length n.C.c, .bool n.C.m, .slice n.C.B n.C.ds.length n.C.d, .bool n.D.n, .slice n.D.A n.D.xs.length n.D.c, .bool n.D.m, .slice n.D.B n.D.ds.length n.D.d] 28
 replace K5 := K5.on hb24
 replace K10 := K10.on hb24
 replace K15 := K15.on hb24
 replace K19 := K19.on hb24
 replace X1 := X1.kp (Kept.of hb24)
 replace X2 := X2.kp (Kept.of hb24)
 replace Y1 := Y1.kp (Kept.of hb24)
 replace Y2 := Y2.kp (Kept.of hb24)
 replace BW := BW.trans (hb24.mono BW.size)
 clear hb24
 go_wp2_with (first | (refine wpList_ldM (by rfl) (by rfl) (by rfl) c20 (by rfl) ?_) | (refine wpList_ldM (by rfl) (by rfl) (by rfl) c21 (by rfl) ?_))
 clear c20 c21
 rw [← e23]
 clear e23
 generalize V16.heap.size = b26 at *
 refine (y_may2 X1 X2 K25).mono ?_
 rintro _ w27 ⟨r, rfl, hr, hb⟩
 replace K5 := K5.on hb
 replace K10 := K10.on hb
 replace K15 := K15.on hb
 replace K19 := K19.on hb
 replace K25 := K25.on hb
 replace X1 := X1.kp (Kept.of hb)
 replace X2 := X2.kp (Kept.of hb)
 replace Y1 := Y1.kp (Kept.of hb)
 replace Y2 := Y2.kp (Kept.of hb)
 replace BW := BW.trans (hb.mono BW.size)
 clear hb
 have HR := Lib.hid hr
 clear hr
 clear K25
 rcases Bool.eq_false_or_eq_true r with rfl | rfl
 · have HM := Lib.hid (HR.out (by trivial))
   clear HR
   obtain ⟨c28, c29, c30, c31, c32, c33, c34, c35⟩ := K15.c8
   go_wp2_with fail
   clear c28 c29 c30 c31 c32 c33 c34 c35
   refine (y_ysize Y1).mono ?_
   rintro _ w36 ⟨rfl, hb⟩
   replace K5 := K5.on hb
   replace K10 := K10.on hb
   replace K15 := K15.on hb
   replace K19 := K19.on hb
   replace X1 := X1.kp (Kept.of hb)
   replace X2 := X2.kp (Kept.of hb)
   replace Y1 := Y1.kp (Kept.of hb)
   replace Y2 := Y2.kp (Kept.of hb)
   replace BW := BW.trans (hb.mono BW.size)
   clear hb
   obtain ⟨s0, hz0⟩ : ∃ s, ysz y = s := ⟨_, rfl⟩
   rw [hz0]
   have HZ0 := Lib.hid hz0
   clear hz0
   by_cases hg0 : 300 < s0
   · go_wp2_with fail
     refine (y_alive).mono ?_
     rintro _ w37 ⟨rfl, hb⟩
     replace K5 := K5.on hb
     replace K10 := K10.on hb
     replace K15 := K15.on hb
     replace K19 := K19.on hb
     replace X1 := X1.kp (Kept.of hb)
     replace X2 := X2.kp (Kept.of hb)
     replace Y1 := Y1.kp (Kept.of hb)
     replace Y2 := Y2.kp (Kept.of hb)
     replace BW := BW.trans (hb.mono BW.size)
     clear hb
     go_wp2_with fail
     exact bodyPost_ret (v := .bool true) (by simp [results, Tryz.results18, go_sem]) rfl ⟨rfl, BW⟩
   · have HG0 := Lib.hid hg0
     obtain ⟨c37, c38, c39, c40, c41, c42, c43, c44⟩ := K19.c8
     go_wp2_with fail
     clear c37 c38 c39 c40 c41 c42 c43 c44
     refine (y_ysize Y2).mono ?_
     rintro _ w45 ⟨rfl, hb⟩
     replace K5 := K5.on hb
     replace K10 := K10.on hb
     replace K15 := K15.on hb
     replace K19 := K19.on hb
     replace X1 := X1.kp (Kept.of hb)
     replace X2 := X2.kp (Kept.of hb)
     replace Y1 := Y1.kp (Kept.of hb)
     replace Y2 := Y2.kp (Kept.of hb)
     replace BW := BW.trans (hb.mono BW.size)
     clear hb
     obtain ⟨s1, hz1⟩ : ∃ s, ysz z = s := ⟨_, rfl⟩
     rw [hz1]
     have HZ1 := Lib.hid hz1
     clear hz1
     by_cases hg1 : 300 < s1
     · go_wp2_with fail
       refine (y_alive).mono ?_
       rintro _ w46 ⟨rfl, hb⟩
       replace K5 := K5.on hb
       replace K10 := K10.on hb
       replace K15 := K15.on hb
       replace K19 := K19.on hb
       replace X1 := X1.kp (Kept.of hb)
       replace X2 := X2.kp (Kept.of hb)
       replace Y1 := Y1.kp (Kept.of hb)
       replace Y2 := Y2.kp (Kept.of hb)
       replace BW := BW.trans (hb.mono BW.size)
       clear hb
       go_wp2_with fail
       exact bodyPost_ret (v := .bool true) (by simp [results, Tryz.results18, go_sem]) rfl ⟨rfl, BW⟩
     · have HG1 := Lib.hid hg1
       obtain ⟨c46, c47, c48, c49, c50, c51, c52, c53⟩ := K15.c8
       obtain ⟨c54, c55, c56, c57, c58, c59, c60, c61⟩ := K19.c8
       go_wp2_with fail
       clear c46 c47 c48 c49 c50 c51 c52 c53 c54 c55 c56 c57 c58 c59 c60 c61
       clear hg0 hg1
       by_cases hy : oky y ∧ oky z
       · obtain ⟨r, Fy1⟩ := hy.1.fy Y1
         obtain ⟨s, Fz1⟩ := hy.2.fy Y2
         clear hy Y1 Y2
         refine (y_Cross Fy1 Fz1).mono ?_
         rintro _ w62 ⟨f1, e1, rfl, R, hb⟩
         replace K5 := K5.on hb
         replace K10 := K10.on hb
         replace K15 := K15.on hb
         replace K19 := K19.on hb
         replace X1 := X1.kp (Kept.of hb)
         replace X2 := X2.kp (Kept.of hb)
         replace Fy1 := Fy1.kp (Kept.of hb)
         replace Fz1 := Fz1.kp (Kept.of hb)
         replace BW := BW.trans (hb.mono BW.size)
         clear hb
         by_cases he : e1 = 0
         · obtain ⟨hc, L1⟩ := R.zero he
           obtain rfl : e1 = 0 := he
           clear R
           have HC := Lib.hid hc
           clear hc
           obtain ⟨⟨hm1, hs1⟩, hm2, hs2⟩ := HM.out
           obtain ⟨q, La, hd1⟩ := MayM.at X1 hm1
           obtain ⟨p, Lb, hd2⟩ := MayM.at X2 hm2
           clear HM hm1 hm2 X1 X2
           have HX := Lib.hid (La.hm hs1)
           have HY := Lib.hid (Lb.hm hs2)
           have HR := Lib.hid (Fy1.hy (by have h1 := HZ0.out; have h2 := HG0.out; omega))
           have HD1 := Lib.hid hd1
           have HD2 := Lib.hid hd2
           clear hs1 hs2 hd1 hd2
           have HS := Lib.hid (Fz1.hy (by have h1 := HZ1.out; have h2 := HG1.out; omega))
           clear HZ0 HZ1 HG0 HG1
           obtain ⟨V63, e64, hb65, K66, Z67, -⟩ := alloc_new w62 [.bool f1.n, .slice f1.A f1.xs.length f1.c, .bool f1.m, .slice f1.B f1.ds.length f1.d] 26
           have n68 : w.heap.size ≠ w62.heap.size := Nat.ne_of_lt (K5.lt)
           have n69 : w.heap.size + 1 ≠ w62.heap.size := Nat.ne_of_lt (K10.lt)
           have n70 : w.heap.size + 1 + 1 ≠ w62.heap.size := Nat.ne_of_lt (K15.lt)
           have n71 : w.heap.size + 1 + 1 + 1 ≠ w62.heap.size := Nat.ne_of_lt (K19.lt)
           have g72 : w.heap.size ≤ w62.heap.size := BW.size
           replace K5 := K5.on hb65
           replace K10 := K10.on hb65
           replace K15 := K15.on hb65
           replace K19 := K19.on hb65
           replace Fy1 := Fy1.kp (Kept.of hb65)
           replace Fz1 := Fz1.kp (Kept.of hb65)
           replace L1 := L1.kp (Kept.of hb65)
           replace La := La.kp (Kept.of hb65)
           replace Lb := Lb.kp (Kept.of hb65)
           replace BW := BW.trans (hb65.mono BW.size)
           clear hb65
           go_upto_region 4 with fail
           rw [← e64]
           clear e64
           generalize w62.heap.size = b73 at *
           go_upto_region 6 with fail
           obtain ⟨V74, e75, hb76, K77, Z78, -⟩ := alloc_new V63 [.bool true] 4
           have n79 : w.heap.size ≠ V63.heap.size := Nat.ne_of_lt (K5.lt)
           have n80 : w.heap.size + 1 ≠ V63.heap.size := Nat.ne_of_lt (K10.lt)
           have n81 : w.heap.size + 1 + 1 ≠ V63.heap.size := Nat.ne_of_lt (K15.lt)
           have n82 : w.heap.size + 1 + 1 + 1 ≠ V63.heap.size := Nat.ne_of_lt (K19.lt)
           have n83 : b73 ≠ V63.heap.size := Nat.ne_of_lt (K66.lt)
           have g84 : w.heap.size ≤ V63.heap.size := BW.size
           replace K5 := K5.on hb76
           replace K10 := K10.on hb76
           replace K15 := K15.on hb76
           replace K19 := K19.on hb76
           replace K66 := K66.on hb76
           replace Z67 := Z67.on hb76
           replace Fy1 := Fy1.kp (Kept.of hb76)
           replace Fz1 := Fz1.kp (Kept.of hb76)
           replace L1 := L1.kp (Kept.of hb76)
           replace La := La.kp (Kept.of hb76)
           replace Lb := Lb.kp (Kept.of hb76)
           replace BW := BW.trans (hb76.mono BW.size)
           clear hb76
           go_upto_region 7 with fail
           rw [← e75]
           clear e75
           generalize V63.heap.size = b85 at *
           obtain ⟨c86, c87, c88, c89, c90, c91, c92, c93⟩ := K15.c8
           have c94 : Box V74 (w.heap.size) [.bool m.A.n, .slice m.A.A m.A.xs.length m.A.c, .bool m.A.m, .slice m.A.B m.A.ds.length m.A.d, .bool m.B.n, .slice m.B.A m.B.xs.length m.B.c, .bool m.B.m, .slice m.B.B m.B.ds.length m.B.d, .bool m.C.n, .slice m.C.A m.C.xs.length m.C.c, .bool m.C.m, .slice m.C.B m.C.ds.length m.C.d, .bool m.D.n, .slice m.D.A m.D.xs.length m.D.c, .bool m.D.m, .slice m.D.B m.D.ds.length m.D.d] := K5
           go_wp2_with (first | (refine wpList_ldM (by rfl) (by rfl) (by rfl) c94 (by rfl) ?_))
           clear c86 c87 c88 c89 c90 c91 c92 c93 c94
           refine (y_Thr La Fy1 HD1.out).mono ?_
           rintro _ w95 ⟨f2, er, rfl, R, hb⟩
           replace K5 := K5.on hb
           replace K10 := K10.on hb
           replace K15 := K15.on hb
           replace K19 := K19.on hb
           replace K66 := K66.on hb
           replace K77 := K77.on hb
           replace Z67 := Z67.on hb
           replace Z78 := Z78.on hb
           replace Fy1 := Fy1.kp (Kept.of hb)
           replace Fz1 := Fz1.kp (Kept.of hb)
           replace L1 := L1.kp (Kept.of hb)
           replace La := La.kp (Kept.of hb)
           replace Lb := Lb.kp (Kept.of hb)
           replace BW := BW.trans (hb.mono BW.size)
           clear hb
           obtain ⟨rfl, L2⟩ := R.yes ((HX.out.thr HR.out).fits (by decide))
           clear R
           obtain ⟨V96, e97, hb98, K99, Z100, -⟩ := alloc_new w95 [.bool f2.Y.n, .slice f2.Y.A f2.Y.xs.length f2.Y.c, .bool f2.Y.m, .slice f2.Y.B f2.Y.ds.length f2.Y.d, .bool f2.U.n, .slice f2.U.A f2.U.xs.length f2.U.c, .bool f2.U.m, .slice f2.U.B f2.U.ds.length f2.U.d] 44
           replace K99 : Box V96 (w95.heap.size) (ycs f2) := K99
           have n101 : w.heap.size ≠ w95.heap.size := Nat.ne_of_lt (K5.lt)
           have n102 : w.heap.size + 1 ≠ w95.heap.size := Nat.ne_of_lt (K10.lt)
           have n103 : w.heap.size + 1 + 1 ≠ w95.heap.size := Nat.ne_of_lt (K15.lt)
           have n104 : w.heap.size + 1 + 1 + 1 ≠ w95.heap.size := Nat.ne_of_lt (K19.lt)
           have n105 : b73 ≠ w95.heap.size := Nat.ne_of_lt (K66.lt)
           have n106 : b85 ≠ w95.heap.size := Nat.ne_of_lt (K77.lt)
           have g107 : w.heap.size ≤ w95.heap.size := BW.size
           replace K5 := K5.on hb98
           replace K10 := K10.on hb98
           replace K15 := K15.on hb98
           replace K19 := K19.on hb98
           replace K66 := K66.on hb98
           replace K77 := K77.on hb98
           replace Z67 := Z67.on hb98
           replace Z78 := Z78.on hb98
           replace Fy1 := Fy1.kp (Kept.of hb98)
           replace Fz1 := Fz1.kp (Kept.of hb98)
           replace L1 := L1.kp (Kept.of hb98)
           replace La := La.kp (Kept.of hb98)
           replace Lb := Lb.kp (Kept.of hb98)
           replace L2 := L2.kp (Kept.of hb98)
           replace BW := BW.trans (hb98.mono BW.size)
           clear hb98
           go_upto_region 8 with fail
           rw [← e97]
           clear e97
           generalize w95.heap.size = b108 at *
           obtain ⟨c109, c110, c111, c112, c113, c114, c115, c116⟩ := K19.c8
           have c117 : Box V96 (w.heap.size) [.bool m.A.n, .slice m.A.A m.A.xs.length m.A.c, .bool m.A.m, .slice m.A.B m.A.ds.length m.A.d, .bool m.B.n, .slice m.B.A m.B.xs.length m.B.c, .bool m.B.m, .slice m.B.B m.B.ds.length m.B.d, .bool m.C.n, .slice m.C.A m.C.xs.length m.C.c, .bool m.C.m, .slice m.C.B m.C.ds.length m.C.d, .bool m.D.n, .slice m.D.A m.D.xs.length m.D.c, .bool m.D.m, .slice m.D.B m.D.ds.length m.D.d] := K5
           go_wp2_with (first | (refine wpList_ldM (by rfl) (by rfl) (by rfl) c117 (by rfl) ?_))
           clear c109 c110 c111 c112 c113 c114 c115 c116 c117
           refine (y_Thr La Fz1 HD1.out).mono ?_
           rintro _ w118 ⟨f3, er, rfl, R, hb⟩
           replace K5 := K5.on hb
           replace K10 := K10.on hb
           replace K15 := K15.on hb
           replace K19 := K19.on hb
           replace K66 := K66.on hb
           replace K77 := K77.on hb
           replace K99 := K99.on hb
           replace Z67 := Z67.on hb
           replace Z78 := Z78.on hb
           replace Z100 := Z100.on hb
           replace Fy1 := Fy1.kp (Kept.of hb)
           replace Fz1 := Fz1.kp (Kept.of hb)
           replace L1 := L1.kp (Kept.of hb)
           replace La := La.kp (Kept.of hb)
           replace Lb := Lb.kp (Kept.of hb)
           replace L2 := L2.kp (Kept.of hb)
           replace BW := BW.trans (hb.mono BW.size)
           clear hb
           obtain ⟨rfl, L3⟩ := R.yes ((HX.out.thr HS.out).fits (by decide))
           clear R
           obtain ⟨V119, e120, hb121, K122, Z123, -⟩ := alloc_new w118 [.bool f3.Y.n, .slice f3.Y.A f3.Y.xs.length f3.Y.c, .bool f3.Y.m, .slice f3.Y.B f3.Y.ds.length f3.Y.d, .bool f3.U.n, .slice f3.U.A f3.U.xs.length f3.U.c, .bool f3.U.m, .slice f3.U.B f3.U.ds.length f3.U.d] 44
           replace K122 : Box V119 (w118.heap.size) (ycs f3) := K122
           have n124 : w.heap.size ≠ w118.heap.size := Nat.ne_of_lt (K5.lt)
           have n125 : w.heap.size + 1 ≠ w118.heap.size := Nat.ne_of_lt (K10.lt)
           have n126 : w.heap.size + 1 + 1 ≠ w118.heap.size := Nat.ne_of_lt (K15.lt)
           have n127 : w.heap.size + 1 + 1 + 1 ≠ w118.heap.size := Nat.ne_of_lt (K19.lt)
           have n128 : b73 ≠ w118.heap.size := Nat.ne_of_lt (K66.lt)
           have n129 : b85 ≠ w118.heap.size := Nat.ne_of_lt (K77.lt)
           have n130 : b108 ≠ w118.heap.size := Nat.ne_of_lt (K99.lt)
           have g131 : w.heap.size ≤ w118.heap.size := BW.size
           replace K5 := K5.on hb121
           replace K10 := K10.on hb121
           replace K15 := K15.on hb121
           replace K19 := K19.on hb121
           replace K66 := K66.on hb121
           replace K77 := K77.on hb121
           replace K99 := K99.on hb121
           replace Z67 := Z67.on hb121
           replace Z78 := Z78.on hb121
           replace Z100 := Z100.on hb121
           replace Fy1 := Fy1.kp (Kept.of hb121)
           replace Fz1 := Fz1.kp (Kept.of hb121)
           replace L1 := L1.kp (Kept.of hb121)
           replace La := La.kp (Kept.of hb121)
           replace Lb := Lb.kp (Kept.of hb121)
           replace L2 := L2.kp (Kept.of hb121)
           replace L3 := L3.kp (Kept.of hb121)
           replace BW := BW.trans (hb121.mono BW.size)
           clear hb121
           obtain ⟨c132, c133, c134, c135, c136, c137, c138, c139⟩ := K99.c8
           rw [e120] at c132 c133 c134 c135 c136 c137 c138 c139
           go_wp2_with fail
           clear c132 c133 c134 c135 c136 c137 c138 c139
           rw [← e120]
           clear e120
           generalize w118.heap.size = b140 at *
           refine (y_Cross L2 L3).mono ?_
           rintro _ w141 ⟨f4, er, rfl, R, hb⟩
           replace K5 := K5.on hb
           replace K10 := K10.on hb
           replace K15 := K15.on hb
           replace K19 := K19.on hb
           replace K66 := K66.on hb
           replace K77 := K77.on hb
           replace K99 := K99.on hb
           replace K122 := K122.on hb
           replace Z67 := Z67.on hb
           replace Z78 := Z78.on hb
           replace Z100 := Z100.on hb
           replace Z123 := Z123.on hb
           replace Fy1 := Fy1.kp (Kept.of hb)
           replace Fz1 := Fz1.kp (Kept.of hb)
           replace L1 := L1.kp (Kept.of hb)
           replace La := La.kp (Kept.of hb)
           replace Lb := Lb.kp (Kept.of hb)
           replace L2 := L2.kp (Kept.of hb)
           replace L3 := L3.kp (Kept.of hb)
           replace BW := BW.trans (hb.mono BW.size)
           clear hb
           obtain ⟨rfl, L4⟩ := R.yes (by rw [Mq.cross_thr HD1.out]; exact HC.out)
           clear R
           obtain ⟨V142, e143, hb144, K145, -, -⟩ := alloc_new w141 [.bool f4.n, .slice f4.A f4.xs.length f4.c, .bool f4.m, .slice f4.B f4.ds.length f4.d] 26
           have n146 : b73 ≠ w141.heap.size := Nat.ne_of_lt (K66.lt)
           have n147 : b85 ≠ w141.heap.size := Nat.ne_of_lt (K77.lt)
           have n148 : b108 ≠ w141.heap.size := Nat.ne_of_lt (K99.lt)
           have n149 : b140 ≠ w141.heap.size := Nat.ne_of_lt (K122.lt)
           replace K5 := K5.on hb144
           replace K10 := K10.on hb144
           replace K15 := K15.on hb144
           replace K19 := K19.on hb144
           replace K66 := K66.on hb144
           replace K77 := K77.on hb144
           replace K99 := K99.on hb144
           replace K122 := K122.on hb144
           replace Z67 := Z67.on hb144
           replace Z78 := Z78.on hb144
           replace Z100 := Z100.on hb144
           replace Z123 := Z123.on hb144
           replace Fy1 := Fy1.kp (Kept.of hb144)
           replace Fz1 := Fz1.kp (Kept.of hb144)
           replace L1 := L1.kp (Kept.of hb144)
           replace La := La.kp (Kept.of hb144)
           replace Lb := Lb.kp (Kept.of hb144)
           replace L2 := L2.kp (Kept.of hb144)
           replace L3 := L3.kp (Kept.of hb144)
           replace L4 := L4.kp (Kept.of hb144)
           replace BW := BW.trans (hb144.mono BW.size)
           clear hb144
           obtain ⟨c150, c151, c152, c153⟩ := K66.c4
           rw [e143] at c150 c151 c152 c153
           go_wp2_with fail
           clear c150 c151 c152 c153
           rw [← e143]
           clear e143
           generalize w141.heap.size = b154 at *
           refine (r_same L1 L4).mono ?_
           rintro _ w155 ⟨rfl, hb⟩
           replace K5 := K5.on hb
           replace K10 := K10.on hb
           replace K15 := K15.on hb
           replace K19 := K19.on hb
           replace K66 := K66.on hb
           replace K77 := K77.on hb
           replace K99 := K99.on hb
           replace K122 := K122.on hb
           replace K145 := K145.on hb
           replace Z67 := Z67.on hb
           replace Z78 := Z78.on hb
           replace Z100 := Z100.on hb
           replace Z123 := Z123.on hb
           replace Fy1 := Fy1.kp (Kept.of hb)
           replace Fz1 := Fz1.kp (Kept.of hb)
           replace L1 := L1.kp (Kept.of hb)
           replace La := La.kp (Kept.of hb)
           replace Lb := Lb.kp (Kept.of hb)
           replace L2 := L2.kp (Kept.of hb)
           replace L3 := L3.kp (Kept.of hb)
           replace L4 := L4.kp (Kept.of hb)
           replace BW := BW.trans (hb.mono BW.size)
           clear hb
           rw [decide_eq_true (Mq.cross_thr HD1.out).symm]
           clear L1 L3 L4 Fz1
           obtain ⟨c156, c157, c158, c159, c160, c161, c162, c163⟩ := K99.c8
           have c164 : Box w155 (w.heap.size + 1) [.bool n.A.n, .slice n.A.A n.A.xs.length n.A.c, .bool n.A.m, .slice n.A.B n.A.ds.length n.A.d, .bool n.B.n, .slice n.B.A n.B.xs.length n.B.c, .bool n.B.m, .slice n.B.B n.B.ds.length n.B.d, .bool n.C.n, .slice n.C.A n.C.xs.length n.C.c, .bool n.C.m, .slice n.C.B n.C.ds.length n.C.d, .bool n.D.n, .slice n.D.A n.D.xs.length n.D.c, .bool n.D.m, .slice n.D.B n.D.ds.length n.D.d] := K10
           go_wp2_with (first | (refine wpList_ldM (by rfl) (by rfl) (by rfl) c164 (by rfl) ?_))
           clear c156 c157 c158 c159 c160 c161 c162 c163 c164
           refine (y_Thr Lb L2 HD2.out).mono ?_
           rintro _ w165 ⟨f5, er, rfl, R, hb⟩
           replace K5 := K5.on hb
           replace K10 := K10.on hb
           replace K15 := K15.on hb
           replace K19 := K19.on hb
           replace K66 := K66.on hb
           replace K77 := K77.on hb
           replace K99 := K99.on hb
           replace K122 := K122.on hb
           replace K145 := K145.on hb
           replace Z67 := Z67.on hb
           replace Z78 := Z78.on hb
           replace Z100 := Z100.on hb
           replace Z123 := Z123.on hb
           replace Fy1 := Fy1.kp (Kept.of hb)
           replace La := La.kp (Kept.of hb)
           replace Lb := Lb.kp (Kept.of hb)
           replace L2 := L2.kp (Kept.of hb)
           replace BW := BW.trans (hb.mono BW.size)
           clear hb
           obtain ⟨rfl, L5⟩ := R.yes ((HY.out.thr (HX.out.thr HR.out)).fits (by decide))
           clear R
           obtain ⟨V166, e167, hb168, K169, Z170, -⟩ := alloc_new w165 [.bool f5.Y.n, .slice f5.Y.A f5.Y.xs.length f5.Y.c, .bool f5.Y.m, .slice f5.Y.B f5.Y.ds.length f5.Y.d, .bool f5.U.n, .slice f5.U.A f5.U.xs.length f5.U.c, .bool f5.U.m, .slice f5.U.B f5.U.ds.length f5.U.d] 44
           replace K169 : Box V166 (w165.heap.size) (ycs f5) := K169
           have n171 : w.heap.size ≠ w165.heap.size := Nat.ne_of_lt (K5.lt)
           have n172 : w.heap.size + 1 ≠ w165.heap.size := Nat.ne_of_lt (K10.lt)
           have n173 : w.heap.size + 1 + 1 ≠ w165.heap.size := Nat.ne_of_lt (K15.lt)
           have n174 : w.heap.size + 1 + 1 + 1 ≠ w165.heap.size := Nat.ne_of_lt (K19.lt)
           have n175 : b73 ≠ w165.heap.size := Nat.ne_of_lt (K66.lt)
           have n176 : b85 ≠ w165.heap.size := Nat.ne_of_lt (K77.lt)
           have n177 : b108 ≠ w165.heap.size := Nat.ne_of_lt (K99.lt)
           have n178 : b140 ≠ w165.heap.size := Nat.ne_of_lt (K122.lt)
           have n179 : b154 ≠ w165.heap.size := Nat.ne_of_lt (K145.lt)
           have g180 : w.heap.size ≤ w165.heap.size := BW.size
           replace K5 := K5.on hb168
           replace K10 := K10.on hb168
           replace K15 := K15.on hb168
           replace K19 := K19.on hb168
           replace K66 := K66.on hb168
           replace K77 := K77.on hb168
           replace K99 := K99.on hb168
           replace K122 := K122.on hb168
           replace K145 := K145.on hb168
           replace Z67 := Z67.on hb168
           replace Z78 := Z78.on hb168
           replace Z100 := Z100.on hb168
           replace Z123 := Z123.on hb168
           replace Fy1 := Fy1.kp (Kept.of hb168)
           replace La := La.kp (Kept.of hb168)
           replace Lb := Lb.kp (Kept.of hb168)
           replace L2 := L2.kp (Kept.of hb168)
           replace L5 := L5.kp (Kept.of hb168)
           replace BW := BW.trans (hb168.mono BW.size)
           clear hb168
           go_wp2_with fail
           rw [← e167]
           clear e167
           generalize w165.heap.size = b181 at *
           go_cut [19, 15] (fun sv0 sw0 wx => ∃ (pkb_0 : Nat) (f7 : Yv), sv0 = .pointer (some ⟨pkb_0, 0, none⟩) ∧ sw0 = .int .i64 0 ∧ Below w.heap.size w wx ∧ Box wx (w.heap.size) (mcs m) ∧ Box wx (w.heap.size + 1) (mcs n) ∧ Box wx (w.heap.size + 1 + 1) (ycs y) ∧ Box wx (w.heap.size + 1 + 1 + 1) (ycs z) ∧ Box wx (b73) [.bool f1.n, .slice f1.A f1.xs.length f1.c, .bool f1.m, .slice f1.B f1.ds.length f1.d] ∧ Box wx (b85) [.bool true] ∧ Box wx (b108) (ycs f2) ∧ Box wx (b140) (ycs f3) ∧ Box wx (b154) [.bool f4.n, .slice f4.A f4.xs.length f4.c, .bool f4.m, .slice f4.B f4.ds.length f4.d] ∧ Box wx (b181) (ycs f5) ∧ Fz wx (b73) ∧ Fz wx (b85) ∧ Fz wx (b108) ∧ Fz wx (b140) ∧ Fz wx (b181) ∧ Fy wx (r) y ∧ Fm wx (q) m ∧ Fm wx (p) n ∧ Fy wx (q.thr r) f2 ∧ Fy wx (p.thr (q.thr r)) f5 ∧ Box wx pkb_0 (ycs f7) ∧ pkb_0 ≠ b73 ∧ pkb_0 ≠ b85 ∧ pkb_0 ≠ b108 ∧ pkb_0 ≠ b140 ∧ pkb_0 ≠ b181 ∧ Fy wx ((p.mul q).thr r) f7)
           case first =>
             refine wp_region_noPanic ?_
             have hb : Below V166.heap.size V166 V166.drew := (Below.refl _ _).drew
             replace K5 := K5.on hb
             replace K10 := K10.on hb
             replace K15 := K15.on hb
             replace K19 := K19.on hb
             replace K66 := K66.on hb
             replace K77 := K77.on hb
             replace K99 := K99.on hb
             replace K122 := K122.on hb
             replace K145 := K145.on hb
             replace K169 := K169.on hb
             replace Z67 := Z67.on hb
             replace Z78 := Z78.on hb
             replace Z100 := Z100.on hb
             replace Z123 := Z123.on hb
             replace Z170 := Z170.on hb
             replace Fy1 := Fy1.kp (Kept.of hb)
             replace La := La.kp (Kept.of hb)
             replace Lb := Lb.kp (Kept.of hb)
             replace L2 := L2.kp (Kept.of hb)
             replace L5 := L5.kp (Kept.of hb)
             replace BW := BW.trans (hb.mono BW.size)
             clear hb
             refine wp_region_held_drew (S := (fun wx => Box wx (w.heap.size) [.bool m.A.n, .slice m.A.A m.A.xs.length m.A.c, .bool m.A.m, .slice m.A.B m.A.ds.length m.A.d, .bool m.B.n, .slice m.B.A m.B.xs.length m.B.c, .bool m.B.m, .slice m.B.B m.B.ds.length m.B.d, .bool m.C.n, .slice m.C.A m.C.xs.length m.C.c, .bool m.C.m, .slice m.C.B m.C.ds.length m.C.d, .bool m.D.n, .slice m.D.A m.D.xs.length m.D.c, .bool m.D.m, .slice m.D.B m.D.ds.length m.D.d] ∧ Box wx (w.heap.size + 1) [.bool n.A.n, .slice n.A.A n.A.xs.length n.A.c, .bool n.A.m, .slice n.A.B n.A.ds.length n.A.d, .bool n.B.n, .slice n.B.A n.B.xs.length n.B.c, .bool n.B.m, .slice n.B.B n.B.ds.length n.B.d, .bool n.C.n, .slice n.C.A n.C.xs.length n.C.c, .bool n.C.m, .slice n.C.B n.C.ds.length n.C.d, .bool n.D.n, .slice n.D.A n.D.xs.length n.D.c, .bool n.D.m, .slice n.D.B n.D.ds.length n.D.d] ∧ Cs wx (w.heap.size + 1 + 1) 0 [.bool y.Y.n, .slice y.Y.A y.Y.xs.length y.Y.c, .bool y.Y.m, .slice y.Y.B y.Y.ds.length y.Y.d, .bool y.U.n, .slice y.U.A y.U.xs.length y.U.c, .bool y.U.m, .slice y.U.B y.U.ds.length y.U.d])) (by kernel_rfl) (by exact ⟨K5, K10, K15.cs⟩) (fun hHeld => ?_)
             generalize V166.drew = Vd182 at *
             refine pT 0 ?_ (hy := fun wt hSw => ldM rfl rfl hSw.2.1)
             (try simp only [p0, p1, p2, p3])
             refine pT 1 ?_ (hy := fun wt hSw => ldM rfl rfl hSw.1)
             (try simp only [p0, p1, p2, p3])
             refine pT 3 ?_
             (try simp only [p0, p1, p2, p3])
             refine pR2 2 8 (fun K hK => ?_) (fun K hK => ?_)
             · go_simp
               (go_at_call 13; with_reducible refine (y_behind Lb La HD2.out HD1.out K77 Z78 ((HY.out.mul HX.out).fits (by decide))).mono ?_)
               rintro _ w183 ⟨f6, rfl, L6, hb⟩
               (try go_wp2_with fail)
               replace K5 := K5.on hb
               replace K10 := K10.on hb
               replace K15 := K15.on hb
               replace K19 := K19.on hb
               replace K66 := K66.on hb
               replace K77 := K77.on hb
               replace K99 := K99.on hb
               replace K122 := K122.on hb
               replace K145 := K145.on hb
               replace K169 := K169.on hb
               replace Z67 := Z67.on hb
               replace Z78 := Z78.on hb
               replace Z100 := Z100.on hb
               replace Z123 := Z123.on hb
               replace Z170 := Z170.on hb
               replace Fy1 := Fy1.kp (Kept.of hb)
               replace La := La.kp (Kept.of hb)
               replace Lb := Lb.kp (Kept.of hb)
               replace L2 := L2.kp (Kept.of hb)
               replace L5 := L5.kp (Kept.of hb)
               replace BW := BW.trans (hb.mono BW.size)
               clear hb
               clear hHeld
               refine hK.out _ _ (by exact ⟨K5, K10, K15.cs⟩) (fun hHeld => ?_)
               clear hK
               (try simp only [p0, p1, p2, p3])
               refine pR2 4 8 (fun K hK => ?_) (fun K hK => ?_)
               · go_simp
                 (go_at_call 31; with_reducible refine (y_Thr L6 Fy1 (Mq.det_mul HD2.out HD1.out)).mono ?_)
                 rintro _ w184 ⟨f7, er, rfl, R, hb⟩
                 (try go_wp2_with fail)
                 replace K5 := K5.on hb
                 replace K10 := K10.on hb
                 replace K15 := K15.on hb
                 replace K19 := K19.on hb
                 replace K66 := K66.on hb
                 replace K77 := K77.on hb
                 replace K99 := K99.on hb
                 replace K122 := K122.on hb
                 replace K145 := K145.on hb
                 replace K169 := K169.on hb
                 replace Z67 := Z67.on hb
                 replace Z78 := Z78.on hb
                 replace Z100 := Z100.on hb
                 replace Z123 := Z123.on hb
                 replace Z170 := Z170.on hb
                 replace Fy1 := Fy1.kp (Kept.of hb)
                 replace La := La.kp (Kept.of hb)
                 replace Lb := Lb.kp (Kept.of hb)
                 replace L2 := L2.kp (Kept.of hb)
                 replace L5 := L5.kp (Kept.of hb)
                 replace L6 := L6.kp (Kept.of hb)
                 replace BW := BW.trans (hb.mono BW.size)
                 clear hb
                 obtain ⟨rfl, L7⟩ := R.yes (((HY.out.mul HX.out).thr HR.out).fits (by decide))
                 clear R
                 clear hHeld
                 refine hK.out _ _ (by exact ⟨K5, K10, K15.cs⟩) (fun hHeld => ?_)
                 clear hK
                 (try simp only [p0, p1, p2, p3])
                 refine pT 5 ?_
                 (try simp only [p0, p1, p2, p3])
                 refine pT 6 ?_
                 (try simp only [p0, p1, p2, p3])
                 refine pT 7 ?_
                 (try simp only [p0, p1, p2, p3])
                 refine pR1 8 (fun K hK => ?_)
                 go_simp
                 obtain ⟨V185, e186, hb187, K188, Z189, -⟩ := alloc_new w184 [.bool false, .slice none 0 0, .bool false, .slice none 0 0, .bool false, .slice none 0 0, .bool false, .slice none 0 0] 44
                 replace K188 : Box V185 (w184.heap.size) (zcs8) := K188
                 have n190 : w.heap.size ≠ w184.heap.size := Nat.ne_of_lt (K5.lt)
                 have n191 : w.heap.size + 1 ≠ w184.heap.size := Nat.ne_of_lt (K10.lt)
                 have n192 : w.heap.size + 1 + 1 ≠ w184.heap.size := Nat.ne_of_lt (K15.lt)
                 have n193 : w.heap.size + 1 + 1 + 1 ≠ w184.heap.size := Nat.ne_of_lt (K19.lt)
                 have n194 : b73 ≠ w184.heap.size := Nat.ne_of_lt (K66.lt)
                 have n195 : b85 ≠ w184.heap.size := Nat.ne_of_lt (K77.lt)
                 have n196 : b108 ≠ w184.heap.size := Nat.ne_of_lt (K99.lt)
                 have n197 : b140 ≠ w184.heap.size := Nat.ne_of_lt (K122.lt)
                 have n198 : b154 ≠ w184.heap.size := Nat.ne_of_lt (K145.lt)
                 have n199 : b181 ≠ w184.heap.size := Nat.ne_of_lt (K169.lt)
                 have g200 : w.heap.size ≤ w184.heap.size := BW.size
                 replace K5 := K5.on hb187
                 replace K10 := K10.on hb187
                 replace K15 := K15.on hb187
                 replace K19 := K19.on hb187
                 replace K66 := K66.on hb187
                 replace K77 := K77.on hb187
                 replace K99 := K99.on hb187
                 replace K122 := K122.on hb187
                 replace K145 := K145.on hb187
                 replace K169 := K169.on hb187
                 replace Z67 := Z67.on hb187
                 replace Z78 := Z78.on hb187
                 replace Z100 := Z100.on hb187
                 replace Z123 := Z123.on hb187
                 replace Z170 := Z170.on hb187
                 replace Fy1 := Fy1.kp (Kept.of hb187)
                 replace La := La.kp (Kept.of hb187)
                 replace Lb := Lb.kp (Kept.of hb187)
                 replace L2 := L2.kp (Kept.of hb187)
                 replace L5 := L5.kp (Kept.of hb187)
                 replace L6 := L6.kp (Kept.of hb187)
                 replace L7 := L7.kp (Kept.of hb187)
                 replace BW := BW.trans (hb187.mono BW.size)
                 clear hb187
                 rw [← e186]
                 clear e186
                 generalize w184.heap.size = b201 at *
                 clear hHeld
                 refine hK.out _ _ (by exact ⟨K5, K10, K15.cs⟩) (fun hHeld => ?_)
                 clear hK
                 (try simp only [p0, p1, p2, p3])
                 refine pR1 9 (fun K hK => ?_)
                 obtain ⟨c202, c203, c204, c205, c206, c207, c208, c209⟩ := K188.c8
                 obtain ⟨c210, c211, c212, c213, c214, c215, c216, c217⟩ := Z189.f8
                 go_simp
                 clear c202 c203 c204 c205 c206 c207 c208 c209 c210 c211 c212 c213 c214 c215 c216 c217
                 obtain ⟨V218, hk220⟩ : ∃ V218, V218 = V185.setCells (b201) 0 [.bool f7.Y.n, .slice f7.Y.A f7.Y.xs.length f7.Y.c, .bool f7.Y.m, .slice f7.Y.B f7.Y.ds.length f7.Y.d, .bool f7.U.n, .slice f7.U.A f7.U.xs.length f7.U.c, .bool f7.U.m, .slice f7.U.B f7.U.ds.length f7.U.d] := ⟨_, rfl⟩
                 have e219 := hk220
                 simp only [World.setCells, Nat.zero_add, Nat.reduceAdd] at e219
                 have hk221 := Kept.overE hk220 K188 rfl (Nat.le_of_ble_eq_true rfl)
                 replace K5 := K5.awayE hk220 n190
                 replace K10 := K10.awayE hk220 n191
                 replace K15 := K15.awayE hk220 n192
                 replace K19 := K19.awayE hk220 n193
                 replace K66 := K66.awayE hk220 n194
                 replace K77 := K77.awayE hk220 n195
                 replace K99 := K99.awayE hk220 n196
                 replace K122 := K122.awayE hk220 n197
                 replace K145 := K145.awayE hk220 n198
                 replace K169 := K169.awayE hk220 n199
                 replace K188 := K188.overE hk220 rfl
                 replace Z67 := Z67.putE hk220
                 replace Z78 := Z78.putE hk220
                 replace Z100 := Z100.putE hk220
                 replace Z123 := Z123.putE hk220
                 replace Z170 := Z170.putE hk220
                 replace Fy1 := Fy1.kp hk221
                 replace La := La.kp hk221
                 replace Lb := Lb.kp hk221
                 replace L2 := L2.kp hk221
                 replace L5 := L5.kp hk221
                 replace L6 := L6.kp hk221
                 replace L7 := L7.kp hk221
                 replace BW := Below.putE BW hk220 g200
                 clear hk220 hk221
                 replace K188 : Box V218 (b201) (ycs f7) := K188
                 rw [← e219]
                 clear e219
                 clear hHeld
                 refine hK.out _ _ (by exact ⟨K5, K10, K15.cs⟩) (fun hHeld => ?_)
                 clear hK
                 (try simp only [p0, p1, p2, p3])
                 refine pT 10 ?_
                 (try simp only [p0, p1, p2, p3])
                 refine wpAnyH_done (by kernel_rfl) (NoPanic.normal ?_) _
                 go_wp2
                 go_meet
                 exact ⟨b201, f7, rfl, rfl, BW, K5, K10, K15, K19, K66, K77, K99, K122, K145, K169, Z67, Z78, Z100, Z123, Z170, Fy1, La, Lb, L2, L5, K188, n194.symm, n195.symm, n196.symm, n197.symm, n199.symm, L7⟩
               · go_simp
                 obtain ⟨V184, e185, hb186, K187, Z188, -⟩ := alloc_new w183 [.bool false, .slice none 0 0, .bool false, .slice none 0 0, .bool false, .slice none 0 0, .bool false, .slice none 0 0] 44
                 replace K187 : Box V184 (w183.heap.size) (zcs8) := K187
                 have n189 : w.heap.size ≠ w183.heap.size := Nat.ne_of_lt (K5.lt)
                 have n190 : w.heap.size + 1 ≠ w183.heap.size := Nat.ne_of_lt (K10.lt)
                 have n191 : w.heap.size + 1 + 1 ≠ w183.heap.size := Nat.ne_of_lt (K15.lt)
                 have n192 : w.heap.size + 1 + 1 + 1 ≠ w183.heap.size := Nat.ne_of_lt (K19.lt)
                 have n193 : b73 ≠ w183.heap.size := Nat.ne_of_lt (K66.lt)
                 have n194 : b85 ≠ w183.heap.size := Nat.ne_of_lt (K77.lt)
                 have n195 : b108 ≠ w183.heap.size := Nat.ne_of_lt (K99.lt)
                 have n196 : b140 ≠ w183.heap.size := Nat.ne_of_lt (K122.lt)
                 have n197 : b154 ≠ w183.heap.size := Nat.ne_of_lt (K145.lt)
                 have n198 : b181 ≠ w183.heap.size := Nat.ne_of_lt (K169.lt)
                 have g199 : w.heap.size ≤ w183.heap.size := BW.size
                 replace K5 := K5.on hb186
                 replace K10 := K10.on hb186
                 replace K15 := K15.on hb186
                 replace K19 := K19.on hb186
                 replace K66 := K66.on hb186
                 replace K77 := K77.on hb186
                 replace K99 := K99.on hb186
                 replace K122 := K122.on hb186
                 replace K145 := K145.on hb186
                 replace K169 := K169.on hb186
                 replace Z67 := Z67.on hb186
                 replace Z78 := Z78.on hb186
                 replace Z100 := Z100.on hb186
                 replace Z123 := Z123.on hb186
                 replace Z170 := Z170.on hb186
                 replace Fy1 := Fy1.kp (Kept.of hb186)
                 replace La := La.kp (Kept.of hb186)
                 replace Lb := Lb.kp (Kept.of hb186)
                 replace L2 := L2.kp (Kept.of hb186)
                 replace L5 := L5.kp (Kept.of hb186)
                 replace L6 := L6.kp (Kept.of hb186)
                 replace BW := BW.trans (hb186.mono BW.size)
                 clear hb186
                 rw [← e185]
                 clear e185
                 generalize w183.heap.size = b200 at *
                 clear hHeld
                 refine hK.out _ _ (by exact ⟨K5, K10, K15.cs⟩) (fun hHeld => ?_)
                 clear hK
                 (try simp only [p0, p1, p2, p3])
                 refine pR1 4 (fun K hK => ?_)
                 go_simp
                 (go_at_call 31; with_reducible refine (y_Thr L6 Fy1 (Mq.det_mul HD2.out HD1.out)).mono ?_)
                 rintro _ w201 ⟨f7, er, rfl, R, hb⟩
                 (try go_wp2_with fail)
                 replace K5 := K5.on hb
                 replace K10 := K10.on hb
                 replace K15 := K15.on hb
                 replace K19 := K19.on hb
                 replace K66 := K66.on hb
                 replace K77 := K77.on hb
                 replace K99 := K99.on hb
                 replace K122 := K122.on hb
                 replace K145 := K145.on hb
                 replace K169 := K169.on hb
                 replace K187 := K187.on hb
                 replace Z67 := Z67.on hb
                 replace Z78 := Z78.on hb
                 replace Z100 := Z100.on hb
                 replace Z123 := Z123.on hb
                 replace Z170 := Z170.on hb
                 replace Z188 := Z188.on hb
                 replace Fy1 := Fy1.kp (Kept.of hb)
                 replace La := La.kp (Kept.of hb)
                 replace Lb := Lb.kp (Kept.of hb)
                 replace L2 := L2.kp (Kept.of hb)
                 replace L5 := L5.kp (Kept.of hb)
                 replace L6 := L6.kp (Kept.of hb)
                 replace BW := BW.trans (hb.mono BW.size)
                 clear hb
                 obtain ⟨rfl, L7⟩ := R.yes (((HY.out.mul HX.out).thr HR.out).fits (by decide))
                 clear R
                 clear hHeld
                 refine hK.out _ _ (by exact ⟨K5, K10, K15.cs⟩) (fun hHeld => ?_)
                 clear hK
                 (try simp only [p0, p1, p2, p3])
                 refine pT 5 ?_
                 (try simp only [p0, p1, p2, p3])
                 refine pT 6 ?_
                 (try simp only [p0, p1, p2, p3])
                 refine pT 7 ?_
                 (try simp only [p0, p1, p2, p3])
                 refine pR1 9 (fun K hK => ?_)
                 obtain ⟨c202, c203, c204, c205, c206, c207, c208, c209⟩ := K187.c8
                 obtain ⟨c210, c211, c212, c213, c214, c215, c216, c217⟩ := Z188.f8
                 go_simp
                 clear c202 c203 c204 c205 c206 c207 c208 c209 c210 c211 c212 c213 c214 c215 c216 c217
                 obtain ⟨V218, hk220⟩ : ∃ V218, V218 = w201.setCells (b200) 0 [.bool f7.Y.n, .slice f7.Y.A f7.Y.xs.length f7.Y.c, .bool f7.Y.m, .slice f7.Y.B f7.Y.ds.length f7.Y.d, .bool f7.U.n, .slice f7.U.A f7.U.xs.length f7.U.c, .bool f7.U.m, .slice f7.U.B f7.U.ds.length f7.U.d] := ⟨_, rfl⟩
                 have e219 := hk220
                 simp only [World.setCells, Nat.zero_add, Nat.reduceAdd] at e219
                 have hk221 := Kept.overE hk220 K187 rfl (Nat.le_of_ble_eq_true rfl)
                 replace K5 := K5.awayE hk220 n189
                 replace K10 := K10.awayE hk220 n190
                 replace K15 := K15.awayE hk220 n191
                 replace K19 := K19.awayE hk220 n192
                 replace K66 := K66.awayE hk220 n193
                 replace K77 := K77.awayE hk220 n194
                 replace K99 := K99.awayE hk220 n195
                 replace K122 := K122.awayE hk220 n196
                 replace K145 := K145.awayE hk220 n197
                 replace K169 := K169.awayE hk220 n198
                 replace K187 := K187.overE hk220 rfl
                 replace Z67 := Z67.putE hk220
                 replace Z78 := Z78.putE hk220
                 replace Z100 := Z100.putE hk220
                 replace Z123 := Z123.putE hk220
                 replace Z170 := Z170.putE hk220
                 replace Fy1 := Fy1.kp hk221
                 replace La := La.kp hk221
                 replace Lb := Lb.kp hk221
                 replace L2 := L2.kp hk221
                 replace L5 := L5.kp hk221
                 replace L6 := L6.kp hk221
                 replace L7 := L7.kp hk221
                 replace BW := Below.putE BW hk220 g199
                 clear hk220 hk221
                 replace K187 : Box V218 (b200) (ycs f7) := K187
                 rw [← e219]
                 clear e219
                 clear hHeld
                 refine hK.out _ _ (by exact ⟨K5, K10, K15.cs⟩) (fun hHeld => ?_)
                 clear hK
                 (try simp only [p0, p1, p2, p3])
                 refine pT 10 ?_
                 (try simp only [p0, p1, p2, p3])
                 refine wpAnyH_done (by kernel_rfl) (NoPanic.normal ?_) _
                 go_wp2
                 go_meet
                 exact ⟨b200, f7, rfl, rfl, BW, K5, K10, K15, K19, K66, K77, K99, K122, K145, K169, Z67, Z78, Z100, Z123, Z170, Fy1, La, Lb, L2, L5, K187, n193.symm, n194.symm, n195.symm, n196.symm, n198.symm, L7⟩
             · go_simp
               obtain ⟨V183, e184, hb185, K186, Z187, -⟩ := alloc_new Vd182 [.bool false, .slice none 0 0, .bool false, .slice none 0 0, .bool false, .slice none 0 0, .bool false, .slice none 0 0] 44
               replace K186 : Box V183 (Vd182.heap.size) (zcs8) := K186
               have n188 : w.heap.size ≠ Vd182.heap.size := Nat.ne_of_lt (K5.lt)
               have n189 : w.heap.size + 1 ≠ Vd182.heap.size := Nat.ne_of_lt (K10.lt)
               have n190 : w.heap.size + 1 + 1 ≠ Vd182.heap.size := Nat.ne_of_lt (K15.lt)
               have n191 : w.heap.size + 1 + 1 + 1 ≠ Vd182.heap.size := Nat.ne_of_lt (K19.lt)
               have n192 : b73 ≠ Vd182.heap.size := Nat.ne_of_lt (K66.lt)
               have n193 : b85 ≠ Vd182.heap.size := Nat.ne_of_lt (K77.lt)
               have n194 : b108 ≠ Vd182.heap.size := Nat.ne_of_lt (K99.lt)
               have n195 : b140 ≠ Vd182.heap.size := Nat.ne_of_lt (K122.lt)
               have n196 : b154 ≠ Vd182.heap.size := Nat.ne_of_lt (K145.lt)
               have n197 : b181 ≠ Vd182.heap.size := Nat.ne_of_lt (K169.lt)
               have g198 : w.heap.size ≤ Vd182.heap.size := BW.size
               replace K5 := K5.on hb185
               replace K10 := K10.on hb185
               replace K15 := K15.on hb185
               replace K19 := K19.on hb185
               replace K66 := K66.on hb185
               replace K77 := K77.on hb185
               replace K99 := K99.on hb185
               replace K122 := K122.on hb185
               replace K145 := K145.on hb185
               replace K169 := K169.on hb185
               replace Z67 := Z67.on hb185
               replace Z78 := Z78.on hb185
               replace Z100 := Z100.on hb185
               replace Z123 := Z123.on hb185
               replace Z170 := Z170.on hb185
               replace Fy1 := Fy1.kp (Kept.of hb185)
               replace La := La.kp (Kept.of hb185)
               replace Lb := Lb.kp (Kept.of hb185)
               replace L2 := L2.kp (Kept.of hb185)
               replace L5 := L5.kp (Kept.of hb185)
               replace BW := BW.trans (hb185.mono BW.size)
               clear hb185
               rw [← e184]
               clear e184
               generalize Vd182.heap.size = b199 at *
               clear hHeld
               refine hK.out _ _ (by exact ⟨K5, K10, K15.cs⟩) (fun hHeld => ?_)
               clear hK
               (try simp only [p0, p1, p2, p3])
               refine pR1 2 (fun K hK => ?_)
               go_simp
               (go_at_call 13; with_reducible refine (y_behind Lb La HD2.out HD1.out K77 Z78 ((HY.out.mul HX.out).fits (by decide))).mono ?_)
               rintro _ w200 ⟨f6, rfl, L6, hb⟩
               (try go_wp2_with fail)
               replace K5 := K5.on hb
               replace K10 := K10.on hb
               replace K15 := K15.on hb
               replace K19 := K19.on hb
               replace K66 := K66.on hb
               replace K77 := K77.on hb
               replace K99 := K99.on hb
               replace K122 := K122.on hb
               replace K145 := K145.on hb
               replace K169 := K169.on hb
               replace K186 := K186.on hb
               replace Z67 := Z67.on hb
               replace Z78 := Z78.on hb
               replace Z100 := Z100.on hb
               replace Z123 := Z123.on hb
               replace Z170 := Z170.on hb
               replace Z187 := Z187.on hb
               replace Fy1 := Fy1.kp (Kept.of hb)
               replace La := La.kp (Kept.of hb)
               replace Lb := Lb.kp (Kept.of hb)
               replace L2 := L2.kp (Kept.of hb)
               replace L5 := L5.kp (Kept.of hb)
               replace BW := BW.trans (hb.mono BW.size)
               clear hb
               clear hHeld
               refine hK.out _ _ (by exact ⟨K5, K10, K15.cs⟩) (fun hHeld => ?_)
               clear hK
               (try simp only [p0, p1, p2, p3])
               refine pR1 4 (fun K hK => ?_)
               go_simp
               (go_at_call 31; with_reducible refine (y_Thr L6 Fy1 (Mq.det_mul HD2.out HD1.out)).mono ?_)
               rintro _ w201 ⟨f7, er, rfl, R, hb⟩
               (try go_wp2_with fail)
               replace K5 := K5.on hb
               replace K10 := K10.on hb
               replace K15 := K15.on hb
               replace K19 := K19.on hb
               replace K66 := K66.on hb
               replace K77 := K77.on hb
               replace K99 := K99.on hb
               replace K122 := K122.on hb
               replace K145 := K145.on hb
               replace K169 := K169.on hb
               replace K186 := K186.on hb
               replace Z67 := Z67.on hb
               replace Z78 := Z78.on hb
               replace Z100 := Z100.on hb
               replace Z123 := Z123.on hb
               replace Z170 := Z170.on hb
               replace Z187 := Z187.on hb
               replace Fy1 := Fy1.kp (Kept.of hb)
               replace La := La.kp (Kept.of hb)
               replace Lb := Lb.kp (Kept.of hb)
               replace L2 := L2.kp (Kept.of hb)
               replace L5 := L5.kp (Kept.of hb)
               replace BW := BW.trans (hb.mono BW.size)
               clear hb
               obtain ⟨rfl, L7⟩ := R.yes (((HY.out.mul HX.out).thr HR.out).fits (by decide))
               clear R
               clear hHeld
               refine hK.out _ _ (by exact ⟨K5, K10, K15.cs⟩) (fun hHeld => ?_)
               clear hK
               (try simp only [p0, p1, p2, p3])
               refine pT 5 ?_
               (try simp only [p0, p1, p2, p3])
               refine pT 6 ?_
               (try simp only [p0, p1, p2, p3])
               refine pT 7 ?_
               (try simp only [p0, p1, p2, p3])
               refine pR1 9 (fun K hK => ?_)
               obtain ⟨c202, c203, c204, c205, c206, c207, c208, c209⟩ := K186.c8
               obtain ⟨c210, c211, c212, c213, c214, c215, c216, c217⟩ := Z187.f8
               go_simp
               clear c202 c203 c204 c205 c206 c207 c208 c209 c210 c211 c212 c213 c214 c215 c216 c217
               obtain ⟨V218, hk220⟩ : ∃ V218, V218 = w201.setCells (b199) 0 [.bool f7.Y.n, .slice f7.Y.A f7.Y.xs.length f7.Y.c, .bool f7.Y.m, .slice f7.Y.B f7.Y.ds.length f7.Y.d, .bool f7.U.n, .slice f7.U.A f7.U.xs.length f7.U.c, .bool f7.U.m, .slice f7.U.B f7.U.ds.length f7.U.d] := ⟨_, rfl⟩
               have e219 := hk220
               simp only [World.setCells, Nat.zero_add, Nat.reduceAdd] at e219
               have hk221 := Kept.overE hk220 K186 rfl (Nat.le_of_ble_eq_true rfl)
               replace K5 := K5.awayE hk220 n188
               replace K10 := K10.awayE hk220 n189
               replace K15 := K15.awayE hk220 n190
               replace K19 := K19.awayE hk220 n191
               replace K66 := K66.awayE hk220 n192
               replace K77 := K77.awayE hk220 n193
               replace K99 := K99.awayE hk220 n194
               replace K122 := K122.awayE hk220 n195
               replace K145 := K145.awayE hk220 n196
               replace K169 := K169.awayE hk220 n197
               replace K186 := K186.overE hk220 rfl
               replace Z67 := Z67.putE hk220
               replace Z78 := Z78.putE hk220
               replace Z100 := Z100.putE hk220
               replace Z123 := Z123.putE hk220
               replace Z170 := Z170.putE hk220
               replace Fy1 := Fy1.kp hk221
               replace La := La.kp hk221
               replace Lb := Lb.kp hk221
               replace L2 := L2.kp hk221
               replace L5 := L5.kp hk221
               replace L7 := L7.kp hk221
               replace BW := Below.putE BW hk220 g198
               clear hk220 hk221
               replace K186 : Box V218 (b199) (ycs f7) := K186
               rw [← e219]
               clear e219
               clear hHeld
               refine hK.out _ _ (by exact ⟨K5, K10, K15.cs⟩) (fun hHeld => ?_)
               clear hK
               (try simp only [p0, p1, p2, p3])
               refine pT 10 ?_
               (try simp only [p0, p1, p2, p3])
               refine wpAnyH_done (by kernel_rfl) (NoPanic.normal ?_) _
               go_wp2
               go_meet
               exact ⟨b199, f7, rfl, rfl, BW, K5, K10, K15, K19, K66, K77, K99, K122, K145, K169, Z67, Z78, Z100, Z123, Z170, Fy1, La, Lb, L2, L5, K186, n192.symm, n193.symm, n194.symm, n195.symm, n197.symm, L7⟩
           case rest =>
             obtain ⟨pkb_0, f7, rfl, rfl, BW, K5, K10, K15, K19, K66, K77, K99, K122, K145, K169, Z67, Z78, Z100, Z123, Z170, Fy1, La, Lb, L2, L5, KNb_0, nn182, nn183, nn184, nn185, nn186, L7⟩ := hcut
             replace L7 := L7.to Mq.thr_two
             have c187 : Box wc (w.heap.size) [.bool m.A.n, .slice m.A.A m.A.xs.length m.A.c, .bool m.A.m, .slice m.A.B m.A.ds.length m.A.d, .bool m.B.n, .slice m.B.A m.B.xs.length m.B.c, .bool m.B.m, .slice m.B.B m.B.ds.length m.B.d, .bool m.C.n, .slice m.C.A m.C.xs.length m.C.c, .bool m.C.m, .slice m.C.B m.C.ds.length m.C.d, .bool m.D.n, .slice m.D.A m.D.xs.length m.D.c, .bool m.D.m, .slice m.D.B m.D.ds.length m.D.d] := K5
             go_wp2_with (first | (refine wpList_ldM (by rfl) (by rfl) (by rfl) c187 (by rfl) ?_))
             clear c187
             refine (y_Back La HD1.out).mono ?_
             rintro _ w188 ⟨f8, rfl, L8, hb⟩
             replace K5 := K5.on hb
             replace K10 := K10.on hb
             replace K15 := K15.on hb
             replace K19 := K19.on hb
             replace K66 := K66.on hb
             replace K77 := K77.on hb
             replace K99 := K99.on hb
             replace K122 := K122.on hb
             replace K145 := K145.on hb
             replace K169 := K169.on hb
             replace KNb_0 := KNb_0.on hb
             replace Z67 := Z67.on hb
             replace Z78 := Z78.on hb
             replace Z100 := Z100.on hb
             replace Z123 := Z123.on hb
             replace Z170 := Z170.on hb
             replace Fy1 := Fy1.kp (Kept.of hb)
             replace La := La.kp (Kept.of hb)
             replace Lb := Lb.kp (Kept.of hb)
             replace L2 := L2.kp (Kept.of hb)
             replace L5 := L5.kp (Kept.of hb)
             replace L7 := L7.kp (Kept.of hb)
             replace BW := BW.trans (hb.mono BW.size)
             clear hb
             obtain ⟨V189, e190, hb191, K192, Z193, -⟩ := alloc_new w188 [.bool f8.A.n, .slice f8.A.A f8.A.xs.length f8.A.c, .bool f8.A.m, .slice f8.A.B f8.A.ds.length f8.A.d, .bool f8.B.n, .slice f8.B.A f8.B.xs.length f8.B.c, .bool f8.B.m, .slice f8.B.B f8.B.ds.length f8.B.d, .bool f8.C.n, .slice f8.C.A f8.C.xs.length f8.C.c, .bool f8.C.m, .slice f8.C.B f8.C.ds.length f8.C.d, .bool f8.D.n, .slice f8.D.A f8.D.xs.length f8.D.c, .bool f8.D.m, .slice f8.D.B f8.D.ds.length f8.D.d] 28
             replace K192 : Box V189 (w188.heap.size) (mcs f8) := K192
             have n194 : w.heap.size ≠ w188.heap.size := Nat.ne_of_lt (K5.lt)
             have n195 : w.heap.size + 1 ≠ w188.heap.size := Nat.ne_of_lt (K10.lt)
             have n196 : w.heap.size + 1 + 1 ≠ w188.heap.size := Nat.ne_of_lt (K15.lt)
             have n197 : w.heap.size + 1 + 1 + 1 ≠ w188.heap.size := Nat.ne_of_lt (K19.lt)
             have n198 : b73 ≠ w188.heap.size := Nat.ne_of_lt (K66.lt)
             have n199 : b85 ≠ w188.heap.size := Nat.ne_of_lt (K77.lt)
             have n200 : b108 ≠ w188.heap.size := Nat.ne_of_lt (K99.lt)
             have n201 : b140 ≠ w188.heap.size := Nat.ne_of_lt (K122.lt)
             have n202 : b154 ≠ w188.heap.size := Nat.ne_of_lt (K145.lt)
             have n203 : b181 ≠ w188.heap.size := Nat.ne_of_lt (K169.lt)
             have n204 : pkb_0 ≠ w188.heap.size := Nat.ne_of_lt (KNb_0.lt)
             have g205 : w.heap.size ≤ w188.heap.size := BW.size
             replace K5 := K5.on hb191
             replace K10 := K10.on hb191
             replace K15 := K15.on hb191
             replace K19 := K19.on hb191
             replace K66 := K66.on hb191
             replace K77 := K77.on hb191
             replace K99 := K99.on hb191
             replace K122 := K122.on hb191
             replace K145 := K145.on hb191
             replace K169 := K169.on hb191
             replace KNb_0 := KNb_0.on hb191
             replace Z67 := Z67.on hb191
             replace Z78 := Z78.on hb191
             replace Z100 := Z100.on hb191
             replace Z123 := Z123.on hb191
             replace Z170 := Z170.on hb191
             replace Fy1 := Fy1.kp (Kept.of hb191)
             replace La := La.kp (Kept.of hb191)
             replace Lb := Lb.kp (Kept.of hb191)
             replace L2 := L2.kp (Kept.of hb191)
             replace L5 := L5.kp (Kept.of hb191)
             replace L7 := L7.kp (Kept.of hb191)
             replace L8 := L8.kp (Kept.of hb191)
             replace BW := BW.trans (hb191.mono BW.size)
             clear hb191
             go_upto_region 15 with fail
             rw [← e190]
             clear e190
             generalize w188.heap.size = b206 at *
             obtain ⟨c207, c208, c209, c210, c211, c212, c213, c214⟩ := K99.c8
             have c215 : Box V189 (b206) [.bool f8.A.n, .slice f8.A.A f8.A.xs.length f8.A.c, .bool f8.A.m, .slice f8.A.B f8.A.ds.length f8.A.d, .bool f8.B.n, .slice f8.B.A f8.B.xs.length f8.B.c, .bool f8.B.m, .slice f8.B.B f8.B.ds.length f8.B.d, .bool f8.C.n, .slice f8.C.A f8.C.xs.length f8.C.c, .bool f8.C.m, .slice f8.C.B f8.C.ds.length f8.C.d, .bool f8.D.n, .slice f8.D.A f8.D.xs.length f8.D.c, .bool f8.D.m, .slice f8.D.B f8.D.ds.length f8.D.d] := K192
             go_wp2_with (first | (refine wpList_ldM (by rfl) (by rfl) (by rfl) c215 (by rfl) ?_))
             clear c207 c208 c209 c210 c211 c212 c213 c214 c215
             refine (y_Thr L8 L2 (Mq.det_back HD1.out)).mono ?_
             rintro _ w216 ⟨f9, er, rfl, R, hb⟩
             replace K5 := K5.on hb
             replace K10 := K10.on hb
             replace K15 := K15.on hb
             replace K19 := K19.on hb
             replace K66 := K66.on hb
             replace K77 := K77.on hb
             replace K99 := K99.on hb
             replace K122 := K122.on hb
             replace K145 := K145.on hb
             replace K169 := K169.on hb
             replace KNb_0 := KNb_0.on hb
             replace K192 := K192.on hb
             replace Z67 := Z67.on hb
             replace Z78 := Z78.on hb
             replace Z100 := Z100.on hb
             replace Z123 := Z123.on hb
             replace Z170 := Z170.on hb
             replace Z193 := Z193.on hb
             replace Fy1 := Fy1.kp (Kept.of hb)
             replace La := La.kp (Kept.of hb)
             replace Lb := Lb.kp (Kept.of hb)
             replace L2 := L2.kp (Kept.of hb)
             replace L5 := L5.kp (Kept.of hb)
             replace L7 := L7.kp (Kept.of hb)
             replace L8 := L8.kp (Kept.of hb)
             replace BW := BW.trans (hb.mono BW.size)
             clear hb
             obtain ⟨rfl, L9⟩ := R.yes ((HX.out.back.thr (HX.out.thr HR.out)).fits (by decide))
             clear R
             replace L9 := L9.to (Mq.thr_back HD1.out)
             obtain ⟨V217, e218, hb219, K220, Z221, -⟩ := alloc_new w216 [.bool f9.Y.n, .slice f9.Y.A f9.Y.xs.length f9.Y.c, .bool f9.Y.m, .slice f9.Y.B f9.Y.ds.length f9.Y.d, .bool f9.U.n, .slice f9.U.A f9.U.xs.length f9.U.c, .bool f9.U.m, .slice f9.U.B f9.U.ds.length f9.U.d] 44
             replace K220 : Box V217 (w216.heap.size) (ycs f9) := K220
             have n222 : w.heap.size ≠ w216.heap.size := Nat.ne_of_lt (K5.lt)
             have n223 : w.heap.size + 1 ≠ w216.heap.size := Nat.ne_of_lt (K10.lt)
             have n224 : w.heap.size + 1 + 1 ≠ w216.heap.size := Nat.ne_of_lt (K15.lt)
             have n225 : w.heap.size + 1 + 1 + 1 ≠ w216.heap.size := Nat.ne_of_lt (K19.lt)
             have n226 : b73 ≠ w216.heap.size := Nat.ne_of_lt (K66.lt)
             have n227 : b85 ≠ w216.heap.size := Nat.ne_of_lt (K77.lt)
             have n228 : b108 ≠ w216.heap.size := Nat.ne_of_lt (K99.lt)
             have n229 : b140 ≠ w216.heap.size := Nat.ne_of_lt (K122.lt)
             have n230 : b154 ≠ w216.heap.size := Nat.ne_of_lt (K145.lt)
             have n231 : b181 ≠ w216.heap.size := Nat.ne_of_lt (K169.lt)
             have n232 : pkb_0 ≠ w216.heap.size := Nat.ne_of_lt (KNb_0.lt)
             have n233 : b206 ≠ w216.heap.size := Nat.ne_of_lt (K192.lt)
             have g234 : w.heap.size ≤ w216.heap.size := BW.size
             replace K5 := K5.on hb219
             replace K10 := K10.on hb219
             replace K15 := K15.on hb219
             replace K19 := K19.on hb219
             replace K66 := K66.on hb219
             replace K77 := K77.on hb219
             replace K99 := K99.on hb219
             replace K122 := K122.on hb219
             replace K145 := K145.on hb219
             replace K169 := K169.on hb219
             replace KNb_0 := KNb_0.on hb219
             replace K192 := K192.on hb219
             replace Z67 := Z67.on hb219
             replace Z78 := Z78.on hb219
             replace Z100 := Z100.on hb219
             replace Z123 := Z123.on hb219
             replace Z170 := Z170.on hb219
             replace Z193 := Z193.on hb219
             replace Fy1 := Fy1.kp (Kept.of hb219)
             replace La := La.kp (Kept.of hb219)
             replace Lb := Lb.kp (Kept.of hb219)
             replace L2 := L2.kp (Kept.of hb219)
             replace L5 := L5.kp (Kept.of hb219)
             replace L7 := L7.kp (Kept.of hb219)
             replace L8 := L8.kp (Kept.of hb219)
             replace L9 := L9.kp (Kept.of hb219)
             replace BW := BW.trans (hb219.mono BW.size)
             clear hb219
             go_upto_region 16 with fail
             rw [← e218]
             clear e218
             generalize w216.heap.size = b235 at *
             have c236 : Box V217 (w.heap.size) [.bool m.A.n, .slice m.A.A m.A.xs.length m.A.c, .bool m.A.m, .slice m.A.B m.A.ds.length m.A.d, .bool m.B.n, .slice m.B.A m.B.xs.length m.B.c, .bool m.B.m, .slice m.B.B m.B.ds.length m.B.d, .bool m.C.n, .slice m.C.A m.C.xs.length m.C.c, .bool m.C.m, .slice m.C.B m.C.ds.length m.C.d, .bool m.D.n, .slice m.D.A m.D.xs.length m.D.c, .bool m.D.m, .slice m.D.B m.D.ds.length m.D.d] := K5
             go_wp2_with (first | (refine wpList_ldM (by rfl) (by rfl) (by rfl) c236 (by rfl) ?_))
             clear c236
             refine (y_Mir La HD1.out).mono ?_
             rintro _ w237 ⟨f10, rfl, L10, hb⟩
             replace K5 := K5.on hb
             replace K10 := K10.on hb
             replace K15 := K15.on hb
             replace K19 := K19.on hb
             replace K66 := K66.on hb
             replace K77 := K77.on hb
             replace K99 := K99.on hb
             replace K122 := K122.on hb
             replace K145 := K145.on hb
             replace K169 := K169.on hb
             replace KNb_0 := KNb_0.on hb
             replace K192 := K192.on hb
             replace K220 := K220.on hb
             replace Z67 := Z67.on hb
             replace Z78 := Z78.on hb
             replace Z100 := Z100.on hb
             replace Z123 := Z123.on hb
             replace Z170 := Z170.on hb
             replace Z193 := Z193.on hb
             replace Z221 := Z221.on hb
             replace Fy1 := Fy1.kp (Kept.of hb)
             replace La := La.kp (Kept.of hb)
             replace Lb := Lb.kp (Kept.of hb)
             replace L2 := L2.kp (Kept.of hb)
             replace L5 := L5.kp (Kept.of hb)
             replace L7 := L7.kp (Kept.of hb)
             replace L8 := L8.kp (Kept.of hb)
             replace L9 := L9.kp (Kept.of hb)
             replace BW := BW.trans (hb.mono BW.size)
             clear hb
             obtain ⟨V238, e239, hb240, K241, Z242, -⟩ := alloc_new w237 [.bool f10.A.n, .slice f10.A.A f10.A.xs.length f10.A.c, .bool f10.A.m, .slice f10.A.B f10.A.ds.length f10.A.d, .bool f10.B.n, .slice f10.B.A f10.B.xs.length f10.B.c, .bool f10.B.m, .slice f10.B.B f10.B.ds.length f10.B.d, .bool f10.C.n, .slice f10.C.A f10.C.xs.length f10.C.c, .bool f10.C.m, .slice f10.C.B f10.C.ds.length f10.C.d, .bool f10.D.n, .slice f10.D.A f10.D.xs.length f10.D.c, .bool f10.D.m, .slice f10.D.B f10.D.ds.length f10.D.d] 28
             replace K241 : Box V238 (w237.heap.size) (mcs f10) := K241
             have n243 : w.heap.size ≠ w237.heap.size := Nat.ne_of_lt (K5.lt)
             have n244 : w.heap.size + 1 ≠ w237.heap.size := Nat.ne_of_lt (K10.lt)
             have n245 : w.heap.size + 1 + 1 ≠ w237.heap.size := Nat.ne_of_lt (K15.lt)
             have n246 : w.heap.size + 1 + 1 + 1 ≠ w237.heap.size := Nat.ne_of_lt (K19.lt)
             have n247 : b73 ≠ w237.heap.size := Nat.ne_of_lt (K66.lt)
             have n248 : b85 ≠ w237.heap.size := Nat.ne_of_lt (K77.lt)
             have n249 : b108 ≠ w237.heap.size := Nat.ne_of_lt (K99.lt)
             have n250 : b140 ≠ w237.heap.size := Nat.ne_of_lt (K122.lt)
             have n251 : b154 ≠ w237.heap.size := Nat.ne_of_lt (K145.lt)
             have n252 : b181 ≠ w237.heap.size := Nat.ne_of_lt (K169.lt)
             have n253 : pkb_0 ≠ w237.heap.size := Nat.ne_of_lt (KNb_0.lt)
             have n254 : b206 ≠ w237.heap.size := Nat.ne_of_lt (K192.lt)
             have n255 : b235 ≠ w237.heap.size := Nat.ne_of_lt (K220.lt)
             have g256 : w.heap.size ≤ w237.heap.size := BW.size
             replace K5 := K5.on hb240
             replace K10 := K10.on hb240
             replace K15 := K15.on hb240
             replace K19 := K19.on hb240
             replace K66 := K66.on hb240
             replace K77 := K77.on hb240
             replace K99 := K99.on hb240
             replace K122 := K122.on hb240
             replace K145 := K145.on hb240
             replace K169 := K169.on hb240
             replace KNb_0 := KNb_0.on hb240
             replace K192 := K192.on hb240
             replace K220 := K220.on hb240
             replace Z67 := Z67.on hb240
             replace Z78 := Z78.on hb240
             replace Z100 := Z100.on hb240
             replace Z123 := Z123.on hb240
             replace Z170 := Z170.on hb240
             replace Z193 := Z193.on hb240
             replace Z221 := Z221.on hb240
             replace Fy1 := Fy1.kp (Kept.of hb240)
             replace La := La.kp (Kept.of hb240)
             replace Lb := Lb.kp (Kept.of hb240)
             replace L2 := L2.kp (Kept.of hb240)
             replace L5 := L5.kp (Kept.of hb240)
             replace L7 := L7.kp (Kept.of hb240)
             replace L8 := L8.kp (Kept.of hb240)
             replace L9 := L9.kp (Kept.of hb240)
             replace L10 := L10.kp (Kept.of hb240)
             replace BW := BW.trans (hb240.mono BW.size)
             clear hb240
             go_wp2_with fail
             rw [← e239]
             clear e239
             generalize w237.heap.size = b257 at *
             go_cut [25, 26] (fun sv0 sw0 wx => ∃ (pkc_0 : Nat) (f12 : Yv), sv0 = .pointer (some ⟨pkc_0, 0, none⟩) ∧ sw0 = .int .i64 0 ∧ Below w.heap.size w wx ∧ Box wx (w.heap.size) (mcs m) ∧ Box wx (w.heap.size + 1) (mcs n) ∧ Box wx (w.heap.size + 1 + 1) (ycs y) ∧ Box wx (w.heap.size + 1 + 1 + 1) (ycs z) ∧ Box wx (b73) [.bool f1.n, .slice f1.A f1.xs.length f1.c, .bool f1.m, .slice f1.B f1.ds.length f1.d] ∧ Box wx (b85) [.bool true] ∧ Box wx (b108) (ycs f2) ∧ Box wx (b140) (ycs f3) ∧ Box wx (b154) [.bool f4.n, .slice f4.A f4.xs.length f4.c, .bool f4.m, .slice f4.B f4.ds.length f4.d] ∧ Box wx (b181) (ycs f5) ∧ Box wx (pkb_0) (ycs f7) ∧ Box wx (b206) (mcs f8) ∧ Box wx (b235) (ycs f9) ∧ Box wx (b257) (mcs f10) ∧ Fz wx (b73) ∧ Fz wx (b85) ∧ Fz wx (b108) ∧ Fz wx (b140) ∧ Fz wx (b181) ∧ Fz wx (b206) ∧ Fz wx (b235) ∧ Fz wx (b257) ∧ Fy wx (r) y ∧ Fm wx (q) m ∧ Fm wx (p) n ∧ Fy wx (q.thr r) f2 ∧ Fy wx (p.thr (q.thr r)) f5 ∧ Fy wx (p.thr (q.thr r)) f7 ∧ Fm wx (q.back) f8 ∧ Fy wx (r) f9 ∧ Fm wx (q.mir) f10 ∧ Box wx pkc_0 (ycs f12) ∧ pkc_0 ≠ b73 ∧ pkc_0 ≠ b85 ∧ pkc_0 ≠ b108 ∧ pkc_0 ≠ b140 ∧ pkc_0 ≠ b181 ∧ pkc_0 ≠ b206 ∧ pkc_0 ≠ b235 ∧ pkc_0 ≠ b257 ∧ Fy wx (r.turn) f12)
             case first =>
               refine wp_region_noPanic ?_
               have hb : Below V238.heap.size V238 V238.drew := (Below.refl _ _).drew
               replace K5 := K5.on hb
               replace K10 := K10.on hb
               replace K15 := K15.on hb
               replace K19 := K19.on hb
               replace K66 := K66.on hb
               replace K77 := K77.on hb
               replace K99 := K99.on hb
               replace K122 := K122.on hb
               replace K145 := K145.on hb
               replace K169 := K169.on hb
               replace KNb_0 := KNb_0.on hb
               replace K192 := K192.on hb
               replace K220 := K220.on hb
               replace K241 := K241.on hb
               replace Z67 := Z67.on hb
               replace Z78 := Z78.on hb
               replace Z100 := Z100.on hb
               replace Z123 := Z123.on hb
               replace Z170 := Z170.on hb
               replace Z193 := Z193.on hb
               replace Z221 := Z221.on hb
               replace Z242 := Z242.on hb
               replace Fy1 := Fy1.kp (Kept.of hb)
               replace La := La.kp (Kept.of hb)
               replace Lb := Lb.kp (Kept.of hb)
               replace L2 := L2.kp (Kept.of hb)
               replace L5 := L5.kp (Kept.of hb)
               replace L7 := L7.kp (Kept.of hb)
               replace L8 := L8.kp (Kept.of hb)
               replace L9 := L9.kp (Kept.of hb)
               replace L10 := L10.kp (Kept.of hb)
               replace BW := BW.trans (hb.mono BW.size)
               clear hb
               refine wp_region_held_drew (S := (fun wx => Cs wx (b108) 0 [.bool f2.Y.n, .slice f2.Y.A f2.Y.xs.length f2.Y.c, .bool f2.Y.m, .slice f2.Y.B f2.Y.ds.length f2.Y.d, .bool f2.U.n, .slice f2.U.A f2.U.xs.length f2.U.c, .bool f2.U.m, .slice f2.U.B f2.U.ds.length f2.U.d] ∧ Box wx (b257) [.bool f10.A.n, .slice f10.A.A f10.A.xs.length f10.A.c, .bool f10.A.m, .slice f10.A.B f10.A.ds.length f10.A.d, .bool f10.B.n, .slice f10.B.A f10.B.xs.length f10.B.c, .bool f10.B.m, .slice f10.B.B f10.B.ds.length f10.B.d, .bool f10.C.n, .slice f10.C.A f10.C.xs.length f10.C.c, .bool f10.C.m, .slice f10.C.B f10.C.ds.length f10.C.d, .bool f10.D.n, .slice f10.D.A f10.D.xs.length f10.D.c, .bool f10.D.m, .slice f10.D.B f10.D.ds.length f10.D.d])) (by kernel_rfl) (by exact ⟨K99.cs, K241⟩) (fun hHeld => ?_)
               generalize V238.drew = Vd258 at *
               refine pT 0 ?_ (hy := fun wt hSw => ldM rfl rfl hSw.2)
               (try simp only [p0, p1, p2, p3])
               refine pT 1 ?_
               (try simp only [p0, p1, p2, p3])
               refine pR2 2 7 (fun K hK => ?_) (fun K hK => ?_)
               · go_simp
                 (go_at_call 56; with_reducible refine (y_turned L2).mono ?_)
                 rintro _ w259 ⟨f11, rfl, L11, hb⟩
                 (try go_wp2_with fail)
                 replace K5 := K5.on hb
                 replace K10 := K10.on hb
                 replace K15 := K15.on hb
                 replace K19 := K19.on hb
                 replace K66 := K66.on hb
                 replace K77 := K77.on hb
                 replace K99 := K99.on hb
                 replace K122 := K122.on hb
                 replace K145 := K145.on hb
                 replace K169 := K169.on hb
                 replace KNb_0 := KNb_0.on hb
                 replace K192 := K192.on hb
                 replace K220 := K220.on hb
                 replace K241 := K241.on hb
                 replace Z67 := Z67.on hb
                 replace Z78 := Z78.on hb
                 replace Z100 := Z100.on hb
                 replace Z123 := Z123.on hb
                 replace Z170 := Z170.on hb
                 replace Z193 := Z193.on hb
                 replace Z221 := Z221.on hb
                 replace Z242 := Z242.on hb
                 replace Fy1 := Fy1.kp (Kept.of hb)
                 replace La := La.kp (Kept.of hb)
                 replace Lb := Lb.kp (Kept.of hb)
                 replace L2 := L2.kp (Kept.of hb)
                 replace L5 := L5.kp (Kept.of hb)
                 replace L7 := L7.kp (Kept.of hb)
                 replace L8 := L8.kp (Kept.of hb)
                 replace L9 := L9.kp (Kept.of hb)
                 replace L10 := L10.kp (Kept.of hb)
                 replace BW := BW.trans (hb.mono BW.size)
                 clear hb
                 clear hHeld
                 refine hK.out _ _ (by exact ⟨K99.cs, K241⟩) (fun hHeld => ?_)
                 clear hK
                 (try simp only [p0, p1, p2, p3])
                 refine pR2 3 7 (fun K hK => ?_) (fun K hK => ?_)
                 · go_simp
                   (go_at_call 31; with_reducible refine (y_Thr L10 L11 (Mq.det_mir HD1.out)).mono ?_)
                   rintro _ w260 ⟨f12, er, rfl, R, hb⟩
                   (try go_wp2_with fail)
                   replace K5 := K5.on hb
                   replace K10 := K10.on hb
                   replace K15 := K15.on hb
                   replace K19 := K19.on hb
                   replace K66 := K66.on hb
                   replace K77 := K77.on hb
                   replace K99 := K99.on hb
                   replace K122 := K122.on hb
                   replace K145 := K145.on hb
                   replace K169 := K169.on hb
                   replace KNb_0 := KNb_0.on hb
                   replace K192 := K192.on hb
                   replace K220 := K220.on hb
                   replace K241 := K241.on hb
                   replace Z67 := Z67.on hb
                   replace Z78 := Z78.on hb
                   replace Z100 := Z100.on hb
                   replace Z123 := Z123.on hb
                   replace Z170 := Z170.on hb
                   replace Z193 := Z193.on hb
                   replace Z221 := Z221.on hb
                   replace Z242 := Z242.on hb
                   replace Fy1 := Fy1.kp (Kept.of hb)
                   replace La := La.kp (Kept.of hb)
                   replace Lb := Lb.kp (Kept.of hb)
                   replace L2 := L2.kp (Kept.of hb)
                   replace L5 := L5.kp (Kept.of hb)
                   replace L7 := L7.kp (Kept.of hb)
                   replace L8 := L8.kp (Kept.of hb)
                   replace L9 := L9.kp (Kept.of hb)
                   replace L10 := L10.kp (Kept.of hb)
                   replace L11 := L11.kp (Kept.of hb)
                   replace BW := BW.trans (hb.mono BW.size)
                   clear hb
                   obtain ⟨rfl, L12⟩ := R.yes ((HX.out.mir.thr (HX.out.thr HR.out).turn).fits (by decide))
                   clear R
                   replace L12 := L12.to (Mq.thr_mir HD1.out)
                   clear hHeld
                   refine hK.out _ _ (by exact ⟨K99.cs, K241⟩) (fun hHeld => ?_)
                   clear hK
                   (try simp only [p0, p1, p2, p3])
                   refine pT 4 ?_
                   (try simp only [p0, p1, p2, p3])
                   refine pT 5 ?_
                   (try simp only [p0, p1, p2, p3])
                   refine pT 6 ?_
                   (try simp only [p0, p1, p2, p3])
                   refine pR1 7 (fun K hK => ?_)
                   go_simp
                   obtain ⟨V261, e262, hb263, K264, Z265, -⟩ := alloc_new w260 [.bool false, .slice none 0 0, .bool false, .slice none 0 0, .bool false, .slice none 0 0, .bool false, .slice none 0 0] 44
                   replace K264 : Box V261 (w260.heap.size) (zcs8) := K264
                   have n266 : w.heap.size ≠ w260.heap.size := Nat.ne_of_lt (K5.lt)
                   have n267 : w.heap.size + 1 ≠ w260.heap.size := Nat.ne_of_lt (K10.lt)
                   have n268 : w.heap.size + 1 + 1 ≠ w260.heap.size := Nat.ne_of_lt (K15.lt)
                   have n269 : w.heap.size + 1 + 1 + 1 ≠ w260.heap.size := Nat.ne_of_lt (K19.lt)
                   have n270 : b73 ≠ w260.heap.size := Nat.ne_of_lt (K66.lt)
                   have n271 : b85 ≠ w260.heap.size := Nat.ne_of_lt (K77.lt)
                   have n272 : b108 ≠ w260.heap.size := Nat.ne_of_lt (K99.lt)
                   have n273 : b140 ≠ w260.heap.size := Nat.ne_of_lt (K122.lt)
                   have n274 : b154 ≠ w260.heap.size := Nat.ne_of_lt (K145.lt)
                   have n275 : b181 ≠ w260.heap.size := Nat.ne_of_lt (K169.lt)
                   have n276 : pkb_0 ≠ w260.heap.size := Nat.ne_of_lt (KNb_0.lt)
                   have n277 : b206 ≠ w260.heap.size := Nat.ne_of_lt (K192.lt)
                   have n278 : b235 ≠ w260.heap.size := Nat.ne_of_lt (K220.lt)
                   have n279 : b257 ≠ w260.heap.size := Nat.ne_of_lt (K241.lt)
                   have g280 : w.heap.size ≤ w260.heap.size := BW.size
                   replace K5 := K5.on hb263
                   replace K10 := K10.on hb263
                   replace K15 := K15.on hb263
                   replace K19 := K19.on hb263
                   replace K66 := K66.on hb263
                   replace K77 := K77.on hb263
                   replace K99 := K99.on hb263
                   replace K122 := K122.on hb263
                   replace K145 := K145.on hb263
                   replace K169 := K169.on hb263
                   replace KNb_0 := KNb_0.on hb263
                   replace K192 := K192.on hb263
                   replace K220 := K220.on hb263
                   replace K241 := K241.on hb263
                   replace Z67 := Z67.on hb263
                   replace Z78 := Z78.on hb263
                   replace Z100 := Z100.on hb263
                   replace Z123 := Z123.on hb263
                   replace Z170 := Z170.on hb263
                   replace Z193 := Z193.on hb263
                   replace Z221 := Z221.on hb263
                   replace Z242 := Z242.on hb263
                   replace Fy1 := Fy1.kp (Kept.of hb263)
                   replace La := La.kp (Kept.of hb263)
                   replace Lb := Lb.kp (Kept.of hb263)
                   replace L2 := L2.kp (Kept.of hb263)
                   replace L5 := L5.kp (Kept.of hb263)
                   replace L7 := L7.kp (Kept.of hb263)
                   replace L8 := L8.kp (Kept.of hb263)
                   replace L9 := L9.kp (Kept.of hb263)
                   replace L10 := L10.kp (Kept.of hb263)
                   replace L11 := L11.kp (Kept.of hb263)
                   replace L12 := L12.kp (Kept.of hb263)
                   replace BW := BW.trans (hb263.mono BW.size)
                   clear hb263
                   rw [← e262]
                   clear e262
                   generalize w260.heap.size = b281 at *
                   clear hHeld
                   refine hK.out _ _ (by exact ⟨K99.cs, K241⟩) (fun hHeld => ?_)
                   clear hK
                   (try simp only [p0, p1, p2, p3])
                   refine pR1 8 (fun K hK => ?_)
                   obtain ⟨c282, c283, c284, c285, c286, c287, c288, c289⟩ := K264.c8
                   obtain ⟨c290, c291, c292, c293, c294, c295, c296, c297⟩ := Z265.f8
                   go_simp
                   clear c282 c283 c284 c285 c286 c287 c288 c289 c290 c291 c292 c293 c294 c295 c296 c297
                   obtain ⟨V298, hk300⟩ : ∃ V298, V298 = V261.setCells (b281) 0 [.bool f12.Y.n, .slice f12.Y.A f12.Y.xs.length f12.Y.c, .bool f12.Y.m, .slice f12.Y.B f12.Y.ds.length f12.Y.d, .bool f12.U.n, .slice f12.U.A f12.U.xs.length f12.U.c, .bool f12.U.m, .slice f12.U.B f12.U.ds.length f12.U.d] := ⟨_, rfl⟩
                   have e299 := hk300
                   simp only [World.setCells, Nat.zero_add, Nat.reduceAdd] at e299
                   have hk301 := Kept.overE hk300 K264 rfl (Nat.le_of_ble_eq_true rfl)
                   replace K5 := K5.awayE hk300 n266
                   replace K10 := K10.awayE hk300 n267
                   replace K15 := K15.awayE hk300 n268
                   replace K19 := K19.awayE hk300 n269
                   replace K66 := K66.awayE hk300 n270
                   replace K77 := K77.awayE hk300 n271
                   replace K99 := K99.awayE hk300 n272
                   replace K122 := K122.awayE hk300 n273
                   replace K145 := K145.awayE hk300 n274
                   replace K169 := K169.awayE hk300 n275
                   replace KNb_0 := KNb_0.awayE hk300 n276
                   replace K192 := K192.awayE hk300 n277
                   replace K220 := K220.awayE hk300 n278
                   replace K241 := K241.awayE hk300 n279
                   replace K264 := K264.overE hk300 rfl
                   replace Z67 := Z67.putE hk300
                   replace Z78 := Z78.putE hk300
                   replace Z100 := Z100.putE hk300
                   replace Z123 := Z123.putE hk300
                   replace Z170 := Z170.putE hk300
                   replace Z193 := Z193.putE hk300
                   replace Z221 := Z221.putE hk300
                   replace Z242 := Z242.putE hk300
                   replace Fy1 := Fy1.kp hk301
                   replace La := La.kp hk301
                   replace Lb := Lb.kp hk301
                   replace L2 := L2.kp hk301
                   replace L5 := L5.kp hk301
                   replace L7 := L7.kp hk301
                   replace L8 := L8.kp hk301
                   replace L9 := L9.kp hk301
                   replace L10 := L10.kp hk301
                   replace L11 := L11.kp hk301
                   replace L12 := L12.kp hk301
                   replace BW := Below.putE BW hk300 g280
                   clear hk300 hk301
                   replace K264 : Box V298 (b281) (ycs f12) := K264
                   rw [← e299]
                   clear e299
                   clear hHeld
                   refine hK.out _ _ (by exact ⟨K99.cs, K241⟩) (fun hHeld => ?_)
                   clear hK
                   (try simp only [p0, p1, p2, p3])
                   refine pT 9 ?_
                   (try simp only [p0, p1, p2, p3])
                   refine wpAnyH_done (by kernel_rfl) (NoPanic.normal ?_) _
                   go_wp2
                   go_meet
                   exact ⟨b281, f12, rfl, rfl, BW, K5, K10, K15, K19, K66, K77, K99, K122, K145, K169, KNb_0, K192, K220, K241, Z67, Z78, Z100, Z123, Z170, Z193, Z221, Z242, Fy1, La, Lb, L2, L5, L7, L8, L9, L10, K264, n270.symm, n271.symm, n272.symm, n273.symm, n275.symm, n277.symm, n278.symm, n279.symm, L12⟩
                 · go_simp
                   obtain ⟨V260, e261, hb262, K263, Z264, -⟩ := alloc_new w259 [.bool false, .slice none 0 0, .bool false, .slice none 0 0, .bool false, .slice none 0 0, .bool false, .slice none 0 0] 44
                   replace K263 : Box V260 (w259.heap.size) (zcs8) := K263
                   have n265 : w.heap.size ≠ w259.heap.size := Nat.ne_of_lt (K5.lt)
                   have n266 : w.heap.size + 1 ≠ w259.heap.size := Nat.ne_of_lt (K10.lt)
                   have n267 : w.heap.size + 1 + 1 ≠ w259.heap.size := Nat.ne_of_lt (K15.lt)
                   have n268 : w.heap.size + 1 + 1 + 1 ≠ w259.heap.size := Nat.ne_of_lt (K19.lt)
                   have n269 : b73 ≠ w259.heap.size := Nat.ne_of_lt (K66.lt)
                   have n270 : b85 ≠ w259.heap.size := Nat.ne_of_lt (K77.lt)
                   have n271 : b108 ≠ w259.heap.size := Nat.ne_of_lt (K99.lt)
                   have n272 : b140 ≠ w259.heap.size := Nat.ne_of_lt (K122.lt)
                   have n273 : b154 ≠ w259.heap.size := Nat.ne_of_lt (K145.lt)
                   have n274 : b181 ≠ w259.heap.size := Nat.ne_of_lt (K169.lt)
                   have n275 : pkb_0 ≠ w259.heap.size := Nat.ne_of_lt (KNb_0.lt)
                   have n276 : b206 ≠ w259.heap.size := Nat.ne_of_lt (K192.lt)
                   have n277 : b235 ≠ w259.heap.size := Nat.ne_of_lt (K220.lt)
                   have n278 : b257 ≠ w259.heap.size := Nat.ne_of_lt (K241.lt)
                   have g279 : w.heap.size ≤ w259.heap.size := BW.size
                   replace K5 := K5.on hb262
                   replace K10 := K10.on hb262
                   replace K15 := K15.on hb262
                   replace K19 := K19.on hb262
                   replace K66 := K66.on hb262
                   replace K77 := K77.on hb262
                   replace K99 := K99.on hb262
                   replace K122 := K122.on hb262
                   replace K145 := K145.on hb262
                   replace K169 := K169.on hb262
                   replace KNb_0 := KNb_0.on hb262
                   replace K192 := K192.on hb262
                   replace K220 := K220.on hb262
                   replace K241 := K241.on hb262
                   replace Z67 := Z67.on hb262
                   replace Z78 := Z78.on hb262
                   replace Z100 := Z100.on hb262
                   replace Z123 := Z123.on hb262
                   replace Z170 := Z170.on hb262
                   replace Z193 := Z193.on hb262
                   replace Z221 := Z221.on hb262
                   replace Z242 := Z242.on hb262
                   replace Fy1 := Fy1.kp (Kept.of hb262)
                   replace La := La.kp (Kept.of hb262)
                   replace Lb := Lb.kp (Kept.of hb262)
                   replace L2 := L2.kp (Kept.of hb262)
                   replace L5 := L5.kp (Kept.of hb262)
                   replace L7 := L7.kp (Kept.of hb262)
                   replace L8 := L8.kp (Kept.of hb262)
                   replace L9 := L9.kp (Kept.of hb262)
                   replace L10 := L10.kp (Kept.of hb262)
                   replace L11 := L11.kp (Kept.of hb262)
                   replace BW := BW.trans (hb262.mono BW.size)
                   clear hb262
                   rw [← e261]
                   clear e261
                   generalize w259.heap.size = b280 at *
                   clear hHeld
                   refine hK.out _ _ (by exact ⟨K99.cs, K241⟩) (fun hHeld => ?_)
                   clear hK
                   (try simp only [p0, p1, p2, p3])
                   refine pR1 3 (fun K hK => ?_)
                   go_simp
                   (go_at_call 31; with_reducible refine (y_Thr L10 L11 (Mq.det_mir HD1.out)).mono ?_)
                   rintro _ w281 ⟨f12, er, rfl, R, hb⟩
                   (try go_wp2_with fail)
                   replace K5 := K5.on hb
                   replace K10 := K10.on hb
                   replace K15 := K15.on hb
                   replace K19 := K19.on hb
                   replace K66 := K66.on hb
                   replace K77 := K77.on hb
                   replace K99 := K99.on hb
                   replace K122 := K122.on hb
                   replace K145 := K145.on hb
                   replace K169 := K169.on hb
                   replace KNb_0 := KNb_0.on hb
                   replace K192 := K192.on hb
                   replace K220 := K220.on hb
                   replace K241 := K241.on hb
                   replace K263 := K263.on hb
                   replace Z67 := Z67.on hb
                   replace Z78 := Z78.on hb
                   replace Z100 := Z100.on hb
                   replace Z123 := Z123.on hb
                   replace Z170 := Z170.on hb
                   replace Z193 := Z193.on hb
                   replace Z221 := Z221.on hb
                   replace Z242 := Z242.on hb
                   replace Z264 := Z264.on hb
                   replace Fy1 := Fy1.kp (Kept.of hb)
                   replace La := La.kp (Kept.of hb)
                   replace Lb := Lb.kp (Kept.of hb)
                   replace L2 := L2.kp (Kept.of hb)
                   replace L5 := L5.kp (Kept.of hb)
                   replace L7 := L7.kp (Kept.of hb)
                   replace L8 := L8.kp (Kept.of hb)
                   replace L9 := L9.kp (Kept.of hb)
                   replace L10 := L10.kp (Kept.of hb)
                   replace L11 := L11.kp (Kept.of hb)
                   replace BW := BW.trans (hb.mono BW.size)
                   clear hb
                   obtain ⟨rfl, L12⟩ := R.yes ((HX.out.mir.thr (HX.out.thr HR.out).turn).fits (by decide))
                   clear R
                   replace L12 := L12.to (Mq.thr_mir HD1.out)
                   clear hHeld
                   refine hK.out _ _ (by exact ⟨K99.cs, K241⟩) (fun hHeld => ?_)
                   clear hK
                   (try simp only [p0, p1, p2, p3])
                   refine pT 4 ?_
                   (try simp only [p0, p1, p2, p3])
                   refine pT 5 ?_
                   (try simp only [p0, p1, p2, p3])
                   refine pT 6 ?_
                   (try simp only [p0, p1, p2, p3])
                   refine pR1 8 (fun K hK => ?_)
                   obtain ⟨c282, c283, c284, c285, c286, c287, c288, c289⟩ := K263.c8
                   obtain ⟨c290, c291, c292, c293, c294, c295, c296, c297⟩ := Z264.f8
                   go_simp
                   clear c282 c283 c284 c285 c286 c287 c288 c289 c290 c291 c292 c293 c294 c295 c296 c297
                   obtain ⟨V298, hk300⟩ : ∃ V298, V298 = w281.setCells (b280) 0 [.bool f12.Y.n, .slice f12.Y.A f12.Y.xs.length f12.Y.c, .bool f12.Y.m, .slice f12.Y.B f12.Y.ds.length f12.Y.d, .bool f12.U.n, .slice f12.U.A f12.U.xs.length f12.U.c, .bool f12.U.m, .slice f12.U.B f12.U.ds.length f12.U.d] := ⟨_, rfl⟩
                   have e299 := hk300
                   simp only [World.setCells, Nat.zero_add, Nat.reduceAdd] at e299
                   have hk301 := Kept.overE hk300 K263 rfl (Nat.le_of_ble_eq_true rfl)
                   replace K5 := K5.awayE hk300 n265
                   replace K10 := K10.awayE hk300 n266
                   replace K15 := K15.awayE hk300 n267
                   replace K19 := K19.awayE hk300 n268
                   replace K66 := K66.awayE hk300 n269
                   replace K77 := K77.awayE hk300 n270
                   replace K99 := K99.awayE hk300 n271
                   replace K122 := K122.awayE hk300 n272
                   replace K145 := K145.awayE hk300 n273
                   replace K169 := K169.awayE hk300 n274
                   replace KNb_0 := KNb_0.awayE hk300 n275
                   replace K192 := K192.awayE hk300 n276
                   replace K220 := K220.awayE hk300 n277
                   replace K241 := K241.awayE hk300 n278
                   replace K263 := K263.overE hk300 rfl
                   replace Z67 := Z67.putE hk300
                   replace Z78 := Z78.putE hk300
                   replace Z100 := Z100.putE hk300
                   replace Z123 := Z123.putE hk300
                   replace Z170 := Z170.putE hk300
                   replace Z193 := Z193.putE hk300
                   replace Z221 := Z221.putE hk300
                   replace Z242 := Z242.putE hk300
                   replace Fy1 := Fy1.kp hk301
                   replace La := La.kp hk301
                   replace Lb := Lb.kp hk301
                   replace L2 := L2.kp hk301
                   replace L5 := L5.kp hk301
                   replace L7 := L7.kp hk301
                   replace L8 := L8.kp hk301
                   replace L9 := L9.kp hk301
                   replace L10 := L10.kp hk301
                   replace L11 := L11.kp hk301
                   replace L12 := L12.kp hk301
                   replace BW := Below.putE BW hk300 g279
                   clear hk300 hk301
                   replace K263 : Box V298 (b280) (ycs f12) := K263
                   rw [← e299]
                   clear e299
                   clear hHeld
                   refine hK.out _ _ (by exact ⟨K99.cs, K241⟩) (fun hHeld => ?_)
                   clear hK
                   (try simp only [p0, p1, p2, p3])
                   refine pT 9 ?_
                   (try simp only [p0, p1, p2, p3])
                   refine wpAnyH_done (by kernel_rfl) (NoPanic.normal ?_) _
                   go_wp2
                   go_meet
                   exact ⟨b280, f12, rfl, rfl, BW, K5, K10, K15, K19, K66, K77, K99, K122, K145, K169, KNb_0, K192, K220, K241, Z67, Z78, Z100, Z123, Z170, Z193, Z221, Z242, Fy1, La, Lb, L2, L5, L7, L8, L9, L10, K263, n269.symm, n270.symm, n271.symm, n272.symm, n274.symm, n276.symm, n277.symm, n278.symm, L12⟩
               · go_simp
                 obtain ⟨V259, e260, hb261, K262, Z263, -⟩ := alloc_new Vd258 [.bool false, .slice none 0 0, .bool false, .slice none 0 0, .bool false, .slice none 0 0, .bool false, .slice none 0 0] 44
                 replace K262 : Box V259 (Vd258.heap.size) (zcs8) := K262
                 have n264 : w.heap.size ≠ Vd258.heap.size := Nat.ne_of_lt (K5.lt)
                 have n265 : w.heap.size + 1 ≠ Vd258.heap.size := Nat.ne_of_lt (K10.lt)
                 have n266 : w.heap.size + 1 + 1 ≠ Vd258.heap.size := Nat.ne_of_lt (K15.lt)
                 have n267 : w.heap.size + 1 + 1 + 1 ≠ Vd258.heap.size := Nat.ne_of_lt (K19.lt)
                 have n268 : b73 ≠ Vd258.heap.size := Nat.ne_of_lt (K66.lt)
                 have n269 : b85 ≠ Vd258.heap.size := Nat.ne_of_lt (K77.lt)
                 have n270 : b108 ≠ Vd258.heap.size := Nat.ne_of_lt (K99.lt)
                 have n271 : b140 ≠ Vd258.heap.size := Nat.ne_of_lt (K122.lt)
                 have n272 : b154 ≠ Vd258.heap.size := Nat.ne_of_lt (K145.lt)
                 have n273 : b181 ≠ Vd258.heap.size := Nat.ne_of_lt (K169.lt)
                 have n274 : pkb_0 ≠ Vd258.heap.size := Nat.ne_of_lt (KNb_0.lt)
                 have n275 : b206 ≠ Vd258.heap.size := Nat.ne_of_lt (K192.lt)
                 have n276 : b235 ≠ Vd258.heap.size := Nat.ne_of_lt (K220.lt)
                 have n277 : b257 ≠ Vd258.heap.size := Nat.ne_of_lt (K241.lt)
                 have g278 : w.heap.size ≤ Vd258.heap.size := BW.size
                 replace K5 := K5.on hb261
                 replace K10 := K10.on hb261
                 replace K15 := K15.on hb261
                 replace K19 := K19.on hb261
                 replace K66 := K66.on hb261
                 replace K77 := K77.on hb261
                 replace K99 := K99.on hb261
                 replace K122 := K122.on hb261
                 replace K145 := K145.on hb261
                 replace K169 := K169.on hb261
                 replace KNb_0 := KNb_0.on hb261
                 replace K192 := K192.on hb261
                 replace K220 := K220.on hb261
                 replace K241 := K241.on hb261
                 replace Z67 := Z67.on hb261
                 replace Z78 := Z78.on hb261
                 replace Z100 := Z100.on hb261
                 replace Z123 := Z123.on hb261
                 replace Z170 := Z170.on hb261
                 replace Z193 := Z193.on hb261
                 replace Z221 := Z221.on hb261
                 replace Z242 := Z242.on hb261
                 replace Fy1 := Fy1.kp (Kept.of hb261)
                 replace La := La.kp (Kept.of hb261)
                 replace Lb := Lb.kp (Kept.of hb261)
                 replace L2 := L2.kp (Kept.of hb261)
                 replace L5 := L5.kp (Kept.of hb261)
                 replace L7 := L7.kp (Kept.of hb261)
                 replace L8 := L8.kp (Kept.of hb261)
                 replace L9 := L9.kp (Kept.of hb261)
                 replace L10 := L10.kp (Kept.of hb261)
                 replace BW := BW.trans (hb261.mono BW.size)
                 clear hb261
                 rw [← e260]
                 clear e260
                 generalize Vd258.heap.size = b279 at *
                 clear hHeld
                 refine hK.out _ _ (by exact ⟨K99.cs, K241⟩) (fun hHeld => ?_)
                 clear hK
                 (try simp only [p0, p1, p2, p3])
                 refine pR1 2 (fun K hK => ?_)
                 go_simp
                 (go_at_call 56; with_reducible refine (y_turned L2).mono ?_)
                 rintro _ w280 ⟨f11, rfl, L11, hb⟩
                 (try go_wp2_with fail)
                 replace K5 := K5.on hb
                 replace K10 := K10.on hb
                 replace K15 := K15.on hb
                 replace K19 := K19.on hb
                 replace K66 := K66.on hb
                 replace K77 := K77.on hb
                 replace K99 := K99.on hb
                 replace K122 := K122.on hb
                 replace K145 := K145.on hb
                 replace K169 := K169.on hb
                 replace KNb_0 := KNb_0.on hb
                 replace K192 := K192.on hb
                 replace K220 := K220.on hb
                 replace K241 := K241.on hb
                 replace K262 := K262.on hb
                 replace Z67 := Z67.on hb
                 replace Z78 := Z78.on hb
                 replace Z100 := Z100.on hb
                 replace Z123 := Z123.on hb
                 replace Z170 := Z170.on hb
                 replace Z193 := Z193.on hb
                 replace Z221 := Z221.on hb
                 replace Z242 := Z242.on hb
                 replace Z263 := Z263.on hb
                 replace Fy1 := Fy1.kp (Kept.of hb)
                 replace La := La.kp (Kept.of hb)
                 replace Lb := Lb.kp (Kept.of hb)
                 replace L2 := L2.kp (Kept.of hb)
                 replace L5 := L5.kp (Kept.of hb)
                 replace L7 := L7.kp (Kept.of hb)
                 replace L8 := L8.kp (Kept.of hb)
                 replace L9 := L9.kp (Kept.of hb)
                 replace L10 := L10.kp (Kept.of hb)
                 replace BW := BW.trans (hb.mono BW.size)
                 clear hb
                 clear hHeld
                 refine hK.out _ _ (by exact ⟨K99.cs, K241⟩) (fun hHeld => ?_)
                 clear hK
                 (try simp only [p0, p1, p2, p3])
                 refine pR1 3 (fun K hK => ?_)
                 go_simp
                 (go_at_call 31; with_reducible refine (y_Thr L10 L11 (Mq.det_mir HD1.out)).mono ?_)
                 rintro _ w281 ⟨f12, er, rfl, R, hb⟩
                 (try go_wp2_with fail)
                 replace K5 := K5.on hb
                 replace K10 := K10.on hb
                 replace K15 := K15.on hb
                 replace K19 := K19.on hb
                 replace K66 := K66.on hb
                 replace K77 := K77.on hb
                 replace K99 := K99.on hb
                 replace K122 := K122.on hb
                 replace K145 := K145.on hb
                 replace K169 := K169.on hb
                 replace KNb_0 := KNb_0.on hb
                 replace K192 := K192.on hb
                 replace K220 := K220.on hb
                 replace K241 := K241.on hb
                 replace K262 := K262.on hb
                 replace Z67 := Z67.on hb
                 replace Z78 := Z78.on hb
                 replace Z100 := Z100.on hb
                 replace Z123 := Z123.on hb
                 replace Z170 := Z170.on hb
                 replace Z193 := Z193.on hb
                 replace Z221 := Z221.on hb
                 replace Z242 := Z242.on hb
                 replace Z263 := Z263.on hb
                 replace Fy1 := Fy1.kp (Kept.of hb)
                 replace La := La.kp (Kept.of hb)
                 replace Lb := Lb.kp (Kept.of hb)
                 replace L2 := L2.kp (Kept.of hb)
                 replace L5 := L5.kp (Kept.of hb)
                 replace L7 := L7.kp (Kept.of hb)
                 replace L8 := L8.kp (Kept.of hb)
                 replace L9 := L9.kp (Kept.of hb)
                 replace L10 := L10.kp (Kept.of hb)
                 replace BW := BW.trans (hb.mono BW.size)
                 clear hb
                 obtain ⟨rfl, L12⟩ := R.yes ((HX.out.mir.thr (HX.out.thr HR.out).turn).fits (by decide))
                 clear R
                 replace L12 := L12.to (Mq.thr_mir HD1.out)
                 clear hHeld
                 refine hK.out _ _ (by exact ⟨K99.cs, K241⟩) (fun hHeld => ?_)
                 clear hK
                 (try simp only [p0, p1, p2, p3])
                 refine pT 4 ?_
                 (try simp only [p0, p1, p2, p3])
                 refine pT 5 ?_
                 (try simp only [p0, p1, p2, p3])
                 refine pT 6 ?_
                 (try simp only [p0, p1, p2, p3])
                 refine pR1 8 (fun K hK => ?_)
                 obtain ⟨c282, c283, c284, c285, c286, c287, c288, c289⟩ := K262.c8
                 obtain ⟨c290, c291, c292, c293, c294, c295, c296, c297⟩ := Z263.f8
                 go_simp
                 clear c282 c283 c284 c285 c286 c287 c288 c289 c290 c291 c292 c293 c294 c295 c296 c297
                 obtain ⟨V298, hk300⟩ : ∃ V298, V298 = w281.setCells (b279) 0 [.bool f12.Y.n, .slice f12.Y.A f12.Y.xs.length f12.Y.c, .bool f12.Y.m, .slice f12.Y.B f12.Y.ds.length f12.Y.d, .bool f12.U.n, .slice f12.U.A f12.U.xs.length f12.U.c, .bool f12.U.m, .slice f12.U.B f12.U.ds.length f12.U.d] := ⟨_, rfl⟩
                 have e299 := hk300
                 simp only [World.setCells, Nat.zero_add, Nat.reduceAdd] at e299
                 have hk301 := Kept.overE hk300 K262 rfl (Nat.le_of_ble_eq_true rfl)
                 replace K5 := K5.awayE hk300 n264
                 replace K10 := K10.awayE hk300 n265
                 replace K15 := K15.awayE hk300 n266
                 replace K19 := K19.awayE hk300 n267
                 replace K66 := K66.awayE hk300 n268
                 replace K77 := K77.awayE hk300 n269
                 replace K99 := K99.awayE hk300 n270
                 replace K122 := K122.awayE hk300 n271
                 replace K145 := K145.awayE hk300 n272
                 replace K169 := K169.awayE hk300 n273
                 replace KNb_0 := KNb_0.awayE hk300 n274
                 replace K192 := K192.awayE hk300 n275
                 replace K220 := K220.awayE hk300 n276
                 replace K241 := K241.awayE hk300 n277
                 replace K262 := K262.overE hk300 rfl
                 replace Z67 := Z67.putE hk300
                 replace Z78 := Z78.putE hk300
                 replace Z100 := Z100.putE hk300
                 replace Z123 := Z123.putE hk300
                 replace Z170 := Z170.putE hk300
                 replace Z193 := Z193.putE hk300
                 replace Z221 := Z221.putE hk300
                 replace Z242 := Z242.putE hk300
                 replace Fy1 := Fy1.kp hk301
                 replace La := La.kp hk301
                 replace Lb := Lb.kp hk301
                 replace L2 := L2.kp hk301
                 replace L5 := L5.kp hk301
                 replace L7 := L7.kp hk301
                 replace L8 := L8.kp hk301
                 replace L9 := L9.kp hk301
                 replace L10 := L10.kp hk301
                 replace L12 := L12.kp hk301
                 replace BW := Below.putE BW hk300 g278
                 clear hk300 hk301
                 replace K262 : Box V298 (b279) (ycs f12) := K262
                 rw [← e299]
                 clear e299
                 clear hHeld
                 refine hK.out _ _ (by exact ⟨K99.cs, K241⟩) (fun hHeld => ?_)
                 clear hK
                 (try simp only [p0, p1, p2, p3])
                 refine pT 9 ?_
                 (try simp only [p0, p1, p2, p3])
                 refine wpAnyH_done (by kernel_rfl) (NoPanic.normal ?_) _
                 go_wp2
                 go_meet
                 exact ⟨b279, f12, rfl, rfl, BW, K5, K10, K15, K19, K66, K77, K99, K122, K145, K169, KNb_0, K192, K220, K241, Z67, Z78, Z100, Z123, Z170, Z193, Z221, Z242, Fy1, La, Lb, L2, L5, L7, L8, L9, L10, K262, n268.symm, n269.symm, n270.symm, n271.symm, n273.symm, n275.symm, n276.symm, n277.symm, L12⟩
             case rest =>
               obtain ⟨pkc_0, f12, rfl, rfl, BW, K5, K10, K15, K19, K66, K77, K99, K122, K145, K169, KNb_0, K192, K220, K241, Z67, Z78, Z100, Z123, Z170, Z193, Z221, Z242, Fy1, La, Lb, L2, L5, L7, L8, L9, L10, KNc_0, nn258, nn259, nn260, nn261, nn262, nn263, nn264, nn265, L12⟩ := hcut
               go_wp2_with fail
               refine wp_region_noPanic ?_
               have hb : Below wc.heap.size wc wc.drew := (Below.refl _ _).drew
               replace K5 := K5.on hb
               replace K10 := K10.on hb
               replace K15 := K15.on hb
               replace K19 := K19.on hb
               replace K66 := K66.on hb
               replace K77 := K77.on hb
               replace K169 := K169.on hb
               replace KNb_0 := KNb_0.on hb
               replace K220 := K220.on hb
               replace KNc_0 := KNc_0.on hb
               replace Z67 := Z67.on hb
               replace Fy1 := Fy1.kp (Kept.of hb)
               replace L5 := L5.kp (Kept.of hb)
               replace L7 := L7.kp (Kept.of hb)
               replace L9 := L9.kp (Kept.of hb)
               replace L12 := L12.kp (Kept.of hb)
               replace BW := BW.trans (hb.mono BW.size)
               clear hb
               refine wp_region_held_drew (S := (fun wx => Cs wx (w.heap.size + 1 + 1) 0 [.bool y.Y.n, .slice y.Y.A y.Y.xs.length y.Y.c, .bool y.Y.m, .slice y.Y.B y.Y.ds.length y.Y.d, .bool y.U.n, .slice y.U.A y.U.xs.length y.U.c, .bool y.U.m, .slice y.U.B y.U.ds.length y.U.d] ∧ Cs wx (b85) 0 [.bool true] ∧ Cs wx (b181) 0 [.bool f5.Y.n, .slice f5.Y.A f5.Y.xs.length f5.Y.c, .bool f5.Y.m, .slice f5.Y.B f5.Y.ds.length f5.Y.d, .bool f5.U.n, .slice f5.U.A f5.U.xs.length f5.U.c, .bool f5.U.m, .slice f5.U.B f5.U.ds.length f5.U.d] ∧ Cs wx (pkb_0) 0 [.bool f7.Y.n, .slice f7.Y.A f7.Y.xs.length f7.Y.c, .bool f7.Y.m, .slice f7.Y.B f7.Y.ds.length f7.Y.d, .bool f7.U.n, .slice f7.U.A f7.U.xs.length f7.U.c, .bool f7.U.m, .slice f7.U.B f7.U.ds.length f7.U.d] ∧ Cs wx (b235) 0 [.bool f9.Y.n, .slice f9.Y.A f9.Y.xs.length f9.Y.c, .bool f9.Y.m, .slice f9.Y.B f9.Y.ds.length f9.Y.d, .bool f9.U.n, .slice f9.U.A f9.U.xs.length f9.U.c, .bool f9.U.m, .slice f9.U.B f9.U.ds.length f9.U.d] ∧ Cs wx (pkc_0) 0 [.bool f12.Y.n, .slice f12.Y.A f12.Y.xs.length f12.Y.c, .bool f12.Y.m, .slice f12.Y.B f12.Y.ds.length f12.Y.d, .bool f12.U.n, .slice f12.U.A f12.U.xs.length f12.U.c, .bool f12.U.m, .slice f12.U.B f12.U.ds.length f12.U.d])) (by kernel_rfl) (by exact ⟨K15.cs, K77.cs, K169.cs, KNb_0.cs, K220.cs, KNc_0.cs⟩) (fun hHeld => ?_)
               generalize wc.drew = Vd266 at *
               refine pT 0 ?_
               (try simp only [p0, p1, p2, p3])
               refine pT 1 ?_
               (try simp only [p0, p1, p2, p3])
               refine pT 2 ?_
               (try simp only [p0, p1, p2, p3])
               refine pT 3 ?_
               (try simp only [p0, p1, p2, p3])
               refine pR1 4 (fun K hK => ?_)
               go_simp
               (go_at_call 36; with_reducible refine (y_sameY L5 L7).mono ?_)
               rintro _ w267 ⟨rfl, hb⟩
               (try go_wp2_with fail)
               replace K5 := K5.on hb
               replace K10 := K10.on hb
               replace K15 := K15.on hb
               replace K19 := K19.on hb
               replace K66 := K66.on hb
               replace K77 := K77.on hb
               replace K169 := K169.on hb
               replace KNb_0 := KNb_0.on hb
               replace K220 := K220.on hb
               replace KNc_0 := KNc_0.on hb
               replace Z67 := Z67.on hb
               replace Fy1 := Fy1.kp (Kept.of hb)
               replace L9 := L9.kp (Kept.of hb)
               replace L12 := L12.kp (Kept.of hb)
               replace BW := BW.trans (hb.mono BW.size)
               clear hb
               clear hHeld
               refine hK.out _ _ (by exact ⟨K15.cs, K77.cs, K169.cs, KNb_0.cs, K220.cs, KNc_0.cs⟩) (fun hHeld => ?_)
               clear hK
               (try simp only [p0, p1, p2, p3])
               refine pT 5 ?_
               (try simp only [p0, p1, p2, p3])
               refine pT 6 ?_
               (try simp only [p0, p1, p2, p3])
               refine pT 7 ?_
               (try simp only [p0, p1, p2, p3])
               refine pT 8 ?_
               (try simp only [p0, p1, p2, p3])
               refine pR1 9 (fun K hK => ?_)
               go_simp
               (go_at_call 36; with_reducible refine (y_sameY L9 Fy1).mono ?_)
               rintro _ w268 ⟨rfl, hb⟩
               (try go_wp2_with fail)
               replace K5 := K5.on hb
               replace K10 := K10.on hb
               replace K15 := K15.on hb
               replace K19 := K19.on hb
               replace K66 := K66.on hb
               replace K77 := K77.on hb
               replace K169 := K169.on hb
               replace KNb_0 := KNb_0.on hb
               replace K220 := K220.on hb
               replace KNc_0 := KNc_0.on hb
               replace Z67 := Z67.on hb
               replace Fy1 := Fy1.kp (Kept.of hb)
               replace L12 := L12.kp (Kept.of hb)
               replace BW := BW.trans (hb.mono BW.size)
               clear hb
               clear hHeld
               refine hK.out _ _ (by exact ⟨K15.cs, K77.cs, K169.cs, KNb_0.cs, K220.cs, KNc_0.cs⟩) (fun hHeld => ?_)
               clear hK
               (try simp only [p0, p1, p2, p3])
               refine pT 10 ?_
               (try simp only [p0, p1, p2, p3])
               refine pT 11 ?_
               (try simp only [p0, p1, p2, p3])
               refine pT 12 ?_
               (try simp only [p0, p1, p2, p3])
               refine pT 13 ?_
               (try simp only [p0, p1, p2, p3])
               refine pR1 14 (fun K hK => ?_)
               go_simp
               (go_at_call 56; with_reducible refine (y_turned Fy1).mono ?_)
               rintro _ w269 ⟨f13, rfl, L13, hb⟩
               (try go_wp2_with fail)
               replace K5 := K5.on hb
               replace K10 := K10.on hb
               replace K15 := K15.on hb
               replace K19 := K19.on hb
               replace K66 := K66.on hb
               replace K77 := K77.on hb
               replace K169 := K169.on hb
               replace KNb_0 := KNb_0.on hb
               replace K220 := K220.on hb
               replace KNc_0 := KNc_0.on hb
               replace Z67 := Z67.on hb
               replace L12 := L12.kp (Kept.of hb)
               replace BW := BW.trans (hb.mono BW.size)
               clear hb
               clear hHeld
               refine hK.out _ _ (by exact ⟨K15.cs, K77.cs, K169.cs, KNb_0.cs, K220.cs, KNc_0.cs⟩) (fun hHeld => ?_)
               clear hK
               (try simp only [p0, p1, p2, p3])
               refine pR1 15 (fun K hK => ?_)
               go_simp
               (go_at_call 36; with_reducible refine (y_sameY L12 L13).mono ?_)
               rintro _ w270 ⟨rfl, hb⟩
               (try go_wp2_with fail)
               replace K5 := K5.on hb
               replace K10 := K10.on hb
               replace K15 := K15.on hb
               replace K19 := K19.on hb
               replace K66 := K66.on hb
               replace K77 := K77.on hb
               replace K169 := K169.on hb
               replace KNb_0 := KNb_0.on hb
               replace K220 := K220.on hb
               replace KNc_0 := KNc_0.on hb
               replace Z67 := Z67.on hb
               replace BW := BW.trans (hb.mono BW.size)
               clear hb
               clear hHeld
               refine hK.out _ _ (by exact ⟨K15.cs, K77.cs, K169.cs, KNb_0.cs, K220.cs, KNc_0.cs⟩) (fun hHeld => ?_)
               clear hK
               (try simp only [p0, p1, p2, p3])
               refine pT 16 ?_
               (try simp only [p0, p1, p2, p3])
               refine pT 17 ?_
               (try simp only [p0, p1, p2, p3])
               refine pR1 18 (fun K hK => ?_)
               go_simp
               (go_at_call 11; with_reducible refine (y_alive).mono ?_)
               rintro _ w271 ⟨rfl, hb⟩
               (try go_wp2_with fail)
               replace K5 := K5.on hb
               replace K10 := K10.on hb
               replace K15 := K15.on hb
               replace K19 := K19.on hb
               replace K66 := K66.on hb
               replace K77 := K77.on hb
               replace K169 := K169.on hb
               replace KNb_0 := KNb_0.on hb
               replace K220 := K220.on hb
               replace KNc_0 := KNc_0.on hb
               replace Z67 := Z67.on hb
               replace BW := BW.trans (hb.mono BW.size)
               clear hb
               clear hHeld
               refine hK.out _ _ (by exact ⟨K15.cs, K77.cs, K169.cs, KNb_0.cs, K220.cs, KNc_0.cs⟩) (fun hHeld => ?_)
               clear hK
               (try simp only [p0, p1, p2, p3])
               refine pT 19 ?_
               (try simp only [p0, p1, p2, p3])
               refine pT 20 ?_
               (try simp only [p0, p1, p2, p3])
               refine wpAnyH_done (by kernel_rfl) (NoPanic.normal ?_) _
               go_wp2
               exact bodyPost_ret (v := .bool true) (by simp [results, Tryz.results18, go_sem]) rfl ⟨rfl, BW⟩
         · have he2 : (e1 == 0) = false := by simpa using he
           clear he
           obtain ⟨V63, e64, hb65, K66, Z67, -⟩ := alloc_new w62 [.bool f1.n, .slice f1.A f1.xs.length f1.c, .bool f1.m, .slice f1.B f1.ds.length f1.d] 26
           have n68 : w.heap.size ≠ w62.heap.size := Nat.ne_of_lt (K5.lt)
           have n69 : w.heap.size + 1 ≠ w62.heap.size := Nat.ne_of_lt (K10.lt)
           have n70 : w.heap.size + 1 + 1 ≠ w62.heap.size := Nat.ne_of_lt (K15.lt)
           have n71 : w.heap.size + 1 + 1 + 1 ≠ w62.heap.size := Nat.ne_of_lt (K19.lt)
           have g72 : w.heap.size ≤ w62.heap.size := BW.size
           replace K5 := K5.on hb65
           replace K10 := K10.on hb65
           replace K15 := K15.on hb65
           replace K19 := K19.on hb65
           replace BW := BW.trans (hb65.mono BW.size)
           clear hb65
           go_wp2_with fail
           rw [← e64]
           clear e64
           generalize w62.heap.size = b73 at *
           refine (y_alive).mono ?_
           rintro _ w74 ⟨rfl, hb⟩
           replace K5 := K5.on hb
           replace K10 := K10.on hb
           replace K15 := K15.on hb
           replace K19 := K19.on hb
           replace K66 := K66.on hb
           replace Z67 := Z67.on hb
           replace BW := BW.trans (hb.mono BW.size)
           clear hb
           go_wp2_with fail
           exact bodyPost_ret (v := .bool true) (by simp [results, Tryz.results18, go_sem]) rfl ⟨rfl, BW⟩
       · obtain ⟨e0, he0⟩ : ∃ e, orE (orE (chkv y.Y) (chkv y.U)) (orE (chkv z.Y) (chkv z.U)) = e := ⟨_, rfl⟩
         have hne : e0 ≠ 0 := he0 ▸ or_bad hy
         have he2 : (e0 == 0) = false := by simpa using hne
         have HE := Lib.hid (And.intro he0 hne)
         clear he0 hne
         refine (y_CrossNo Y1 Y2 HE.out).mono ?_
         rintro _ w62 ⟨rfl, hb⟩
         replace K5 := K5.on hb
         replace K10 := K10.on hb
         replace K15 := K15.on hb
         replace K19 := K19.on hb
         replace BW := BW.trans (hb.mono BW.size)
         clear hb
         obtain ⟨V63, e64, hb65, K66, Z67, -⟩ := alloc_new w62 [.bool false, .slice none 0 0, .bool false, .slice none 0 0] 26
         have n68 : w.heap.size ≠ w62.heap.size := Nat.ne_of_lt (K5.lt)
         have n69 : w.heap.size + 1 ≠ w62.heap.size := Nat.ne_of_lt (K10.lt)
         have n70 : w.heap.size + 1 + 1 ≠ w62.heap.size := Nat.ne_of_lt (K15.lt)
         have n71 : w.heap.size + 1 + 1 + 1 ≠ w62.heap.size := Nat.ne_of_lt (K19.lt)
         have g72 : w.heap.size ≤ w62.heap.size := BW.size
         replace BW := BW.trans (hb65.mono BW.size)
         clear hb65
         go_wp2_with fail
         rw [← e64]
         clear e64
         generalize w62.heap.size = b73 at *
         refine (y_alive).mono ?_
         rintro _ w74 ⟨rfl, hb⟩
         replace BW := BW.trans (hb.mono BW.size)
         clear hb
         go_wp2_with fail
         exact bodyPost_ret (v := .bool true) (by simp [results, Tryz.results18, go_sem]) rfl ⟨rfl, BW⟩
 · go_wp2_with fail
   refine (y_alive).mono ?_
   rintro _ w28 ⟨rfl, hb⟩
   replace BW := BW.trans (hb.mono BW.size)
   clear hb
   go_wp2_with fail
   exact bodyPost_ret (v := .bool true) (by simp [results, Tryz.results18, go_sem]) rfl ⟨rfl, BW⟩
set_option maxHeartbeats 8000000 in
set_option maxRecDepth 20000 in
theorem rkeeps_walk {t : Mv2} {p : Yv2} {w : World} (X : Xm2 w t) (Y : Xy2 w p) :
    Calls Tryz.prog 4 #[.agg #[.bool t.M.A.n, .slice t.M.A.A t.M.A.xs.length t.M.A.c, .bool t.M.A.m, .slice t.M.A.B t.M.A.ds.length t.M.A.d, .bool t.M.B.n, .slice t.M.B.A t.M.B.xs.length t.M.B.c, .bool t.M.B.m, .slice t.M.B.B t.M.B.ds.length t.M.B.d, .bool t.M.C.n, .slice t.M.C.A t.M.C.xs.length t.M.C.c, .bool t.M.C.m, .slice t.M.C.B t.M.C.ds.length t.M.C.d, .bool t.M.D.n, .slice t.M.D.A t.M.D.xs.length t.M.D.c, .bool t.M.D.m, .slice t.M.D.B t.M.D.ds.length t.M.D.d, .bool t.N.A.n, .slice t.N.A.A t.N.A.xs.length t.N.A.c, .bool t.N.A.m, .slice t.N.A.B t.N.A.ds.length t.N.A.d, .bool t.N.B.n, .slice t.N.B.A t.N.B.xs.length t.N.B.c, .bool t.N.B.m, .slice t.N.B.B t.N.B.ds.length t.N.B.d, .bool t.N.C.n, .slice t.N.C.A t.N.C.xs.length t.N.C.c, .bool t.N.C.m, .slice t.N.C.B t.N.C.ds.length t.N.C.d, .bool t.N.D.n, .slice t.N.D.A t.N.D.xs.length t.N.D.c, .bool t.N.D.m, .slice t.N.D.B t.N.D.ds.length t.N.D.d], .agg #[.bool p.R.Y.n, .slice p.R.Y.A p.R.Y.xs.length p.R.Y.c, .bool p.R.Y.m, .slice p.R.Y.B p.R.Y.ds.length p.R.Y.d, .bool p.R.U.n, .slice p.R.U.A p.R.U.xs.length p.R.U.c, .bool p.R.U.m, .slice p.R.U.B p.R.U.ds.length p.R.U.d, .bool p.S.Y.n, .slice p.S.Y.A p.S.Y.xs.length p.S.Y.c, .bool p.S.Y.m, .slice p.S.Y.B p.S.Y.ds.length p.S.Y.d, .bool p.S.U.n, .slice p.S.U.A p.S.U.xs.length p.S.U.c, .bool p.S.U.m, .slice p.S.U.B p.S.U.ds.length p.S.U.d]] w (fun e w' => e = .returned (.bool true) ∧ Below w.heap.size w w') := by
 obtain ⟨X1, X2⟩ := X
 obtain ⟨Y1, Y2⟩ := Y
 have BW : Below w.heap.size w w := Below.refl _ _
 obtain ⟨V2, e3, hb4, K5, -, z1⟩ := alloc_new w [.bool t.M.A.n, .slice t.M.A.A t.M.A.xs.length t.M.A.c, .bool t.M.A.m, .slice t.M.A.B t.M.A.ds.length t.M.A.d, .bool t.M.B.n, .slice t.M.B.A t.M.B.xs.length t.M.B.c, .bool t.M.B.m, .slice t.M.B.B t.M.B.ds.length t.M.B.d, .bool t.M.C.n, .slice t.M.C.A t.M.C.xs.length t.M.C.c, .bool t.M.C.m, .slice t.M.C.B t.M.C.ds.length t.M.C.d, .bool t.M.D.n, .slice t.M.D.A t.M.D.xs.length t.M.D.c, .bool t.M.D.m, .slice t.M.D.B t.M.D.ds.length t.M.D.d, .bool t.N.A.n, .slice t.N.A.A t.N.A.xs.length t.N.A.c, .bool t.N.A.m, .slice t.N.A.B t.N.A.ds.length t.N.A.d, .bool t.N.B.n, .slice t.N.B.A t.N.B.xs.length t.N.B.c, .bool t.N.B.m, .slice t.N.B.B t.N.B.ds.length t.N.B.d, .bool t.N.C.n, .slice t.N.C.A t.N.C.xs.length t.N.C.c, .bool t.N.C.m, .slice t.N.C.B t.N.C.ds.length t.N.C.d, .bool t.N.D.n, .slice t.N.D.A t.N.D.xs.length t.N.D.c, .bool t.N.D.m, .slice t.N.D.B t.N.D.ds.length t.N.D.d] 42
 replace X1 := X1.kp (Kept.of hb4)
 replace X2 := X2.kp (Kept.of hb4)
 replace Y1 := Y1.kp (Kept.of hb4)
 replace Y2 := Y2.kp (Kept.of hb4)
 replace BW := BW.trans (hb4.mono BW.size)
 clear hb4
 obtain ⟨V6, e7, hb8, K9, -, -⟩ := alloc_new V2 [.bool p.R.Y.n, .slice p.R.Y.A p.R.Y.xs.length p.R.Y.c, .bool p.R.Y.m, .slice p.R.Y.B p.R.Y.ds.length p.R.Y.d, .bool p.R.U.n, .slice p.R.U.A p.R.U.xs.length p.R.U.c, .bool p.R.U.m, .slice p.R.U.B p.R.U.ds.length p.R.U.d, .bool p.S.Y.n, .slice p.S.Y.A p.S.Y.xs.length p.S.Y.c, .bool p.S.Y.m, .slice p.S.Y.B p.S.Y.ds.length p.S.Y.d, .bool p.S.U.n, .slice p.S.U.A p.S.U.xs.length p.S.U.c, .bool p.S.U.m, .slice p.S.U.B p.S.U.ds.length p.S.U.d] 46
 rw [z1] at K9
 replace K5 := K5.on hb8
 replace X1 := X1.kp (Kept.of hb8)
 replace X2 := X2.kp (Kept.of hb8)
 replace Y1 := Y1.kp (Kept.of hb8)
 replace Y2 := Y2.kp (Kept.of hb8)
 replace BW := BW.trans (hb8.mono BW.size)
 clear hb8
 clear z1
 go_enter Tryz.func4, Tryz.ntmps4
 go_upto_region 1 with fail
 rw [← e3, ← e7]
 clear e3 e7
 have atM : AtB V6 (w.heap.size) 0 (mcs t.M) := Box.at_mid (l := []) (r := mcs t.N) (show Box V6 (w.heap.size) ([] ++ (mcs t.M ++ mcs t.N)) from K5) rfl
 have atN : AtB V6 (w.heap.size) 16 (mcs t.N) := Box.at_mid (l := mcs t.M) (r := []) (show Box V6 (w.heap.size) (mcs t.M ++ (mcs t.N ++ [])) from K5) rfl
 obtain ⟨c10, c11, c12, c13, c14, c15, c16, c17, c18, c19, c20, c21, c22, c23, c24, c25⟩ := K9.c16
 go_wp2_with (first | (refine wpList_ldO (by rfl) (by rfl) (by rfl) atM (by rfl) ?_) | (refine wpList_ldO (by rfl) (by rfl) (by rfl) atN (by rfl) ?_))
 clear c10 c11 c12 c13 c14 c15 c16 c17 c18 c19 c20 c21 c22 c23 c24 c25
 refine (keeps_walk X1 X2 Y1 Y2).mono ?_
 rintro _ w26 ⟨rfl, hb⟩
 replace BW := BW.trans (hb.mono BW.size)
 clear hb
 go_wp2_with fail
 exact bodyPost_ret (v := .bool true) (by simp [results, Tryz.results4, go_sem]) rfl ⟨rfl, BW⟩
end Go.Proofs.YtfhleccodbjfbaaGreat
