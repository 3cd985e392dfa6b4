/-
  What ray's calls answer of matrices and rays that may be. Conditions: that they may be.
-/
import Derived.Test.YtjamfkafgfpobaaGreatRet
import Derived.Test.YtjamfkafgfpobaaGreatXtra
import Derived.Test.YtjamfkafgfpobaaGreatRf
import Derived.Deep.RegionHeld3
import Derived.Deep.DeepCutAuto
import Derived.BigRegion
namespace Go.Proofs.YtjamfkafgfpobaaGreat
open Go.RowKit Nb
set_option maxHeartbeats 8000000 in
set_option maxRecDepth 20000 in
theorem y_Mir {q : Mq} {m : Mv} {w : World} (Fm1 : Fm w q m) (hd : q.det = 1) :
    Calls Tryz.prog 19 #[mv m] w (fun e w' => ∃ f : Mv, e = .returned (.tuple #[mv f, .int .i64 0]) ∧ Fm w' (q.mir) f ∧ Below w.heap.size w w') := by
 have BW : Below w.heap.size w w := Below.refl _ _
 obtain ⟨V2, e3, hb4, K5, -, z1⟩ := alloc_new w [.bool m.A.n, .slice m.A.A m.A.xs.length m.A.c, .bool m.A.m, .slice m.A.B m.A.ds.length m.A.d, .bool m.B.n, .slice m.B.A m.B.xs.length m.B.c, .bool m.B.m, .slice m.B.B m.B.ds.length m.B.d, .bool m.C.n, .slice m.C.A m.C.xs.length m.C.c, .bool m.C.m, .slice m.C.B m.C.ds.length m.C.d, .bool m.D.n, .slice m.D.A m.D.xs.length m.D.c, .bool m.D.m, .slice m.D.B m.D.ds.length m.D.d] 31
 replace K5 : Box V2 (w.heap.size) (mcs m) := K5
 replace Fm1 := Fm1.kp (Kept.of hb4)
 replace BW := BW.trans (hb4.mono BW.size)
 clear hb4
 obtain ⟨V6, e7, hb8, K9, Z10, -⟩ := alloc_new V2 [.bool false, .slice none 0 0, .bool false, .slice none 0 0, .bool false, .slice none 0 0, .bool false, .slice none 0 0, .bool false, .slice none 0 0, .bool false, .slice none 0 0, .bool false, .slice none 0 0, .bool false, .slice none 0 0] 31
 rw [z1] at K9 Z10
 replace K9 : Box V6 (w.heap.size + 1) (zcs16) := K9
 have n11 : w.heap.size ≠ w.heap.size + 1 := Nat.ne_of_lt (z1 ▸ K5.lt)
 have g12 : w.heap.size ≤ w.heap.size + 1 := z1 ▸ BW.size
 replace K5 := K5.on hb8
 replace Fm1 := Fm1.kp (Kept.of hb8)
 replace BW := BW.trans (hb8.mono BW.size)
 clear hb8
 clear z1
 go_enter Tryz.func19, Tryz.ntmps19
 go_upto_region 1 with fail
 rw [← e3, ← e7]
 clear e3 e7
 have c13 : Box V6 (w.heap.size) [.bool m.A.n, .slice m.A.A m.A.xs.length m.A.c, .bool m.A.m, .slice m.A.B m.A.ds.length m.A.d, .bool m.B.n, .slice m.B.A m.B.xs.length m.B.c, .bool m.B.m, .slice m.B.B m.B.ds.length m.B.d, .bool m.C.n, .slice m.C.A m.C.xs.length m.C.c, .bool m.C.m, .slice m.C.B m.C.ds.length m.C.d, .bool m.D.n, .slice m.D.A m.D.xs.length m.D.c, .bool m.D.m, .slice m.D.B m.D.ds.length m.D.d] := K5
 go_wp2_with (first | (refine wpList_ldM (by rfl) (by rfl) (by rfl) c13 (by rfl) ?_))
 clear c13
 refine (y_check0 Fm1 hd).mono ?_
 rintro _ w14 ⟨rfl, hb⟩
 replace K5 := K5.on hb
 replace K9 := K9.on hb
 replace Z10 := Z10.on hb
 replace Fm1 := Fm1.kp (Kept.of hb)
 replace BW := BW.trans (hb.mono BW.size)
 clear hb
 go_wp2_with fail
 refine (y_rkMir Fm1 K5).mono ?_
 rintro _ w15 ⟨f, e1, rfl, h, hb⟩
 replace K9 := K9.on hb
 replace Z10 := Z10.on hb
 replace BW := BW.trans (hb.mono BW.size)
 clear hb
 obtain ⟨h, rfl⟩ := h
 obtain ⟨c16, c17, c18, c19, c20, c21, c22, c23, c24, c25, c26, c27, c28, c29, c30, c31⟩ := K9.c16
 obtain ⟨c32, c33, c34, c35, c36, c37, c38, c39, c40, c41, c42, c43, c44, c45, c46, c47⟩ := Z10.f16
 obtain ⟨V48, hk50⟩ : ∃ V48, V48 = w15.setCells (w.heap.size + 1) 0 [.bool f.A.n, .slice f.A.A f.A.xs.length f.A.c, .bool f.A.m, .slice f.A.B f.A.ds.length f.A.d, .bool f.B.n, .slice f.B.A f.B.xs.length f.B.c, .bool f.B.m, .slice f.B.B f.B.ds.length f.B.d, .bool f.C.n, .slice f.C.A f.C.xs.length f.C.c, .bool f.C.m, .slice f.C.B f.C.ds.length f.C.d, .bool f.D.n, .slice f.D.A f.D.xs.length f.D.c, .bool f.D.m, .slice f.D.B f.D.ds.length f.D.d] := ⟨_, rfl⟩
 have e49 := hk50
 simp only [World.setCells, Nat.zero_add, Nat.reduceAdd] at e49
 have hk51 := Kept.overE hk50 K9 rfl (Nat.le_of_ble_eq_true rfl)
 replace K9 := K9.overE hk50 rfl
 replace h := h.kp hk51
 replace BW := Below.putE BW hk50 g12
 clear hk50 hk51
 replace K9 : Box V48 (w.heap.size + 1) (mcs f) := K9
 go_wp2_with fail
 clear c16 c17 c18 c19 c20 c21 c22 c23 c24 c25 c26 c27 c28 c29 c30 c31 c32 c33 c34 c35 c36 c37 c38 c39 c40 c41 c42 c43 c44 c45 c46 c47
 rw [← e49]
 clear e49
 obtain ⟨c52, c53, c54, c55, c56, c57, c58, c59, c60, c61, c62, c63, c64, c65, c66, c67⟩ := K9.c16
 exact bodyPost_ret (v := .tuple #[mv f, .int .i64 0]) (by simp [results, Tryz.results19, go_sem, c52, c53, c54, c55, c56, c57, c58, c59, c60, c61, c62, c63, c64, c65, c66, c67]) rfl ⟨f, rfl, h, BW⟩
theorem chk_ray0 {r : Yq} {y : Yv} {w : World} (h : Fy w r y) : Calls Tryz.prog 53 #[yv y] w (fun e w' => e = .returned (.int .i64 0) ∧ Below w.heap.size w w') := by
 have := y_chkRay h.xy
 rwa [chkv_ok h.fY.okv, chkv_ok h.fU.okv] at this
set_option maxHeartbeats 8000000 in
set_option maxRecDepth 20000 in
theorem y_Thr {q : Mq} {m : Mv} {r : Yq} {y : Yv} {w : World} (Fm1 : Fm w q m) (Fy1 : Fy w r y) (hd1 : q.det = 1) :
    Calls Tryz.prog 20 #[mv m, yv y] w (fun e w' => ∃ (f : Yv) (e1 : Int), e = .returned (.tuple #[yv f, .int .i64 e1]) ∧ YIs w' (q.thr r) f e1 ∧ Below w.heap.size w w') := by
 have BW : Below w.heap.size w w := Below.refl _ _
 obtain ⟨V2, e3, hb4, K5, -, z1⟩ := alloc_new w [.bool m.A.n, .slice m.A.A m.A.xs.length m.A.c, .bool m.A.m, .slice m.A.B m.A.ds.length m.A.d, .bool m.B.n, .slice m.B.A m.B.xs.length m.B.c, .bool m.B.m, .slice m.B.B m.B.ds.length m.B.d, .bool m.C.n, .slice m.C.A m.C.xs.length m.C.c, .bool m.C.m, .slice m.C.B m.C.ds.length m.C.d, .bool m.D.n, .slice m.D.A m.D.xs.length m.D.c, .bool m.D.m, .slice m.D.B m.D.ds.length m.D.d] 31
 replace K5 : Box V2 (w.heap.size) (mcs m) := K5
 replace Fm1 := Fm1.kp (Kept.of hb4)
 replace Fy1 := Fy1.kp (Kept.of hb4)
 replace BW := BW.trans (hb4.mono BW.size)
 clear hb4
 obtain ⟨V7, e8, hb9, K10, -, z6⟩ := alloc_new V2 [.bool y.Y.n, .slice y.Y.A y.Y.xs.length y.Y.c, .bool y.Y.m, .slice y.Y.B y.Y.ds.length y.Y.d, .bool y.U.n, .slice y.U.A y.U.xs.length y.U.c, .bool y.U.m, .slice y.U.B y.U.ds.length y.U.d] 40
 rw [z1] at K10 z6
 replace K10 : Box V7 (w.heap.size + 1) (ycs y) := K10
 replace K5 := K5.on hb9
 replace Fm1 := Fm1.kp (Kept.of hb9)
 replace Fy1 := Fy1.kp (Kept.of hb9)
 replace BW := BW.trans (hb9.mono BW.size)
 clear hb9
 obtain ⟨V11, e12, hb13, K14, Z15, -⟩ := alloc_new V7 [.bool false, .slice none 0 0, .bool false, .slice none 0 0, .bool false, .slice none 0 0, .bool false, .slice none 0 0] 40
 rw [z6] at K14 Z15
 replace K14 : Box V11 (w.heap.size + 1 + 1) (zcs8) := K14
 have n16 : w.heap.size ≠ w.heap.size + 1 + 1 := Nat.ne_of_lt (z6 ▸ K5.lt)
 have n17 : w.heap.size + 1 ≠ w.heap.size + 1 + 1 := Nat.ne_of_lt (z6 ▸ K10.lt)
 have g18 : w.heap.size ≤ w.heap.size + 1 + 1 := z6 ▸ BW.size
 replace K5 := K5.on hb13
 replace K10 := K10.on hb13
 replace Fm1 := Fm1.kp (Kept.of hb13)
 replace Fy1 := Fy1.kp (Kept.of hb13)
 replace BW := BW.trans (hb13.mono BW.size)
 clear hb13
 clear z1 z6
 go_enter Tryz.func20, Tryz.ntmps20
 go_wp2_with fail
 rw [← e3, ← e8, ← e12]
 clear e3 e8 e12
 go_cut [5] (fun s5 wx => ∃ (f : Yv) (e1 : Int), s5 = .int .i64 e1 ∧ Below w.heap.size w wx ∧ Box wx (w.heap.size + 1 + 1) (ycs f) ∧ YIs wx (q.thr r) f e1)
 case first =>
   refine wp_region_noPanic ?_
   have hb : Below V11.heap.size V11 V11.drew := (Below.refl _ _).drew
   replace K5 := K5.on hb
   replace K10 := K10.on hb
   replace K14 := K14.on hb
   replace Z15 := Z15.on hb
   replace Fm1 := Fm1.kp (Kept.of hb)
   replace Fy1 := Fy1.kp (Kept.of hb)
   replace BW := BW.trans (hb.mono BW.size)
   clear hb
   refine wp_region_held_drew (S := (fun wx => Box wx (w.heap.size) [.bool m.A.n, .slice m.A.A m.A.xs.length m.A.c, .bool m.A.m, .slice m.A.B m.A.ds.length m.A.d, .bool m.B.n, .slice m.B.A m.B.xs.length m.B.c, .bool m.B.m, .slice m.B.B m.B.ds.length m.B.d, .bool m.C.n, .slice m.C.A m.C.xs.length m.C.c, .bool m.C.m, .slice m.C.B m.C.ds.length m.C.d, .bool m.D.n, .slice m.D.A m.D.xs.length m.D.c, .bool m.D.m, .slice m.D.B m.D.ds.length m.D.d] ∧ Cs wx (w.heap.size + 1) 0 [.bool y.Y.n, .slice y.Y.A y.Y.xs.length y.Y.c, .bool y.Y.m, .slice y.Y.B y.Y.ds.length y.Y.d, .bool y.U.n, .slice y.U.A y.U.xs.length y.U.c, .bool y.U.m, .slice y.U.B y.U.ds.length y.U.d])) (by kernel_rfl) (by exact ⟨K5, K10.cs⟩) (fun hHeld => ?_)
   generalize V11.drew = Vd19 at *
   refine pT 0 ?_ (hy := fun wt hSw => ldM rfl rfl hSw.1)
   (try simp only [p0, p1, p2, p3])
   refine pT 2 ?_
   (try simp only [p0, p1, p2, p3])
   refine pR2 1 6 (fun K hK => ?_) (fun K hK => ?_)
   · go_simp
     (go_at_call 14; with_reducible refine (y_check0 Fm1 hd1).mono ?_)
     rintro _ w20 ⟨rfl, hb⟩
     (try go_wp2_with fail)
     replace K5 := K5.on hb
     replace K10 := K10.on hb
     replace K14 := K14.on hb
     replace Z15 := Z15.on hb
     replace Fm1 := Fm1.kp (Kept.of hb)
     replace Fy1 := Fy1.kp (Kept.of hb)
     replace BW := BW.trans (hb.mono BW.size)
     clear hb
     clear hHeld
     refine hK.out _ _ (by exact ⟨K5, K10.cs⟩) (fun hHeld => ?_)
     clear hK
     (try simp only [p0, p1, p2, p3])
     refine pR2 3 6 (fun K hK => ?_) (fun K hK => ?_)
     · go_simp
       (go_at_call 53; with_reducible refine (chk_ray0 Fy1).mono ?_)
       rintro _ w21 ⟨rfl, hb⟩
       (try go_wp2_with fail)
       replace K5 := K5.on hb
       replace K10 := K10.on hb
       replace K14 := K14.on hb
       replace Z15 := Z15.on hb
       replace Fm1 := Fm1.kp (Kept.of hb)
       replace Fy1 := Fy1.kp (Kept.of hb)
       replace BW := BW.trans (hb.mono BW.size)
       clear hb
       clear hHeld
       refine hK.out _ _ (by exact ⟨K5, K10.cs⟩) (fun hHeld => ?_)
       clear hK
       (try simp only [p0, p1, p2, p3])
       refine pR2 4 6 (fun K hK => ?_) (fun K hK => ?_)
       · go_simp
         obtain ⟨V22, e23, hb24, K25, -, -⟩ := alloc_new w21 [.int .i64 0, .int .i64 0] 32
         have n26 : w.heap.size + 1 + 1 ≠ w21.heap.size := Nat.ne_of_lt (K14.lt)
         replace K5 := K5.on hb24
         replace K10 := K10.on hb24
         replace K14 := K14.on hb24
         replace Z15 := Z15.on hb24
         replace Fm1 := Fm1.kp (Kept.of hb24)
         replace Fy1 := Fy1.kp (Kept.of hb24)
         replace BW := BW.trans (hb24.mono BW.size)
         clear hb24
         rw [← e23]
         clear e23
         generalize w21.heap.size = b27 at *
         clear hHeld
         refine hK.out _ _ (by exact ⟨K5, K10.cs⟩) (fun hHeld => ?_)
         clear hK
         (try simp only [p0, p1, p2, p3])
         refine pR2 5 6 (fun K hK => ?_) (fun K hK => ?_)
         · go_simp
           (go_at_call 38; with_reducible refine (cor_zero K25).mono ?_)
           rintro _ w28 ⟨rfl, hb⟩
           (try go_wp2_with fail)
           replace K5 := K5.on hb
           replace K10 := K10.on hb
           replace K14 := K14.on hb
           replace K25 := K25.on hb
           replace Z15 := Z15.on hb
           replace Fm1 := Fm1.kp (Kept.of hb)
           replace Fy1 := Fy1.kp (Kept.of hb)
           replace BW := BW.trans (hb.mono BW.size)
           clear hb
           clear hHeld
           refine hK.out _ _ (by exact ⟨K5, K10.cs⟩) (fun hHeld => ?_)
           clear hK
           (try simp only [p0, p1, p2, p3])
           refine pR1 6 (fun K hK => ?_)
           go_simp
           clear hHeld
           refine hK.out _ _ (by exact ⟨K5, K10.cs⟩) (fun hHeld => ?_)
           clear hK
           (try simp only [p0, p1, p2, p3])
           refine pR1 7 (fun K hK => ?_)
           go_simp
           (go_at_call 52; with_reducible refine (y_rkThr Fm1 Fy1 K5 K10).mono ?_)
           rintro _ w29 ⟨f, e1, rfl, h, hb⟩
           (try go_wp2_with fail)
           replace K5 := K5.on hb
           replace K10 := K10.on hb
           replace K14 := K14.on hb
           replace K25 := K25.on hb
           replace Z15 := Z15.on hb
           replace Fm1 := Fm1.kp (Kept.of hb)
           replace Fy1 := Fy1.kp (Kept.of hb)
           replace BW := BW.trans (hb.mono BW.size)
           clear hb
           clear hHeld
           refine hK.out _ _ (by exact ⟨K5, K10.cs⟩) (fun hHeld => ?_)
           clear hK
           (try simp only [p0, p1, p2, p3])
           refine pT 8 ?_
           (try simp only [p0, p1, p2, p3])
           refine pT 9 ?_
           (try simp only [p0, p1, p2, p3])
           refine pR1 10 (fun K hK => ?_)
           obtain ⟨c30, c31, c32, c33, c34, c35, c36, c37⟩ := K14.c8
           obtain ⟨c38, c39, c40, c41, c42, c43, c44, c45⟩ := Z15.f8
           go_simp
           clear c30 c31 c32 c33 c34 c35 c36 c37 c38 c39 c40 c41 c42 c43 c44 c45
           obtain ⟨V46, hk48⟩ : ∃ V46, V46 = w29.setCells (w.heap.size + 1 + 1) 0 [.bool f.Y.n, .slice f.Y.A f.Y.xs.length f.Y.c, .bool f.Y.m, .slice f.Y.B f.Y.ds.length f.Y.d, .bool f.U.n, .slice f.U.A f.U.xs.length f.U.c, .bool f.U.m, .slice f.U.B f.U.ds.length f.U.d] := ⟨_, rfl⟩
           have e47 := hk48
           simp only [World.setCells, Nat.zero_add, Nat.reduceAdd] at e47
           have hk49 := Kept.overE hk48 K14 rfl (Nat.le_of_ble_eq_true rfl)
           replace K5 := K5.awayE hk48 n16
           replace K10 := K10.awayE hk48 n17
           replace K14 := K14.overE hk48 rfl
           replace K25 := K25.awayE hk48 n26.symm
           replace Z15 := Z15.putE hk48
           replace Fm1 := Fm1.kp hk49
           replace Fy1 := Fy1.kp hk49
           replace h := h.kp hk49
           replace BW := Below.putE BW hk48 g18
           clear hk48 hk49
           replace K14 : Box V46 (w.heap.size + 1 + 1) (ycs f) := K14
           rw [← e47]
           clear e47
           clear hHeld
           refine hK.out _ _ (by exact ⟨K5, K10.cs⟩) (fun hHeld => ?_)
           clear hK
           (try simp only [p0, p1, p2, p3])
           refine pT 11 ?_
           (try simp only [p0, p1, p2, p3])
           refine wpAnyH_done (by kernel_rfl) (NoPanic.normal ?_) _
           go_wp2
           go_meet
           exact ⟨f, e1, rfl, BW, K14, h⟩
         · go_simp
           clear hHeld
           refine hK.out _ _ (by exact ⟨K5, K10.cs⟩) (fun hHeld => ?_)
           clear hK
           (try simp only [p0, p1, p2, p3])
           refine pR1 5 (fun K hK => ?_)
           go_simp
           (go_at_call 38; with_reducible refine (cor_zero K25).mono ?_)
           rintro _ w28 ⟨rfl, hb⟩
           (try go_wp2_with fail)
           replace K5 := K5.on hb
           replace K10 := K10.on hb
           replace K14 := K14.on hb
           replace K25 := K25.on hb
           replace Z15 := Z15.on hb
           replace Fm1 := Fm1.kp (Kept.of hb)
           replace Fy1 := Fy1.kp (Kept.of hb)
           replace BW := BW.trans (hb.mono BW.size)
           clear hb
           clear hHeld
           refine hK.out _ _ (by exact ⟨K5, K10.cs⟩) (fun hHeld => ?_)
           clear hK
           (try simp only [p0, p1, p2, p3])
           refine pR1 7 (fun K hK => ?_)
           go_simp
           (go_at_call 52; with_reducible refine (y_rkThr Fm1 Fy1 K5 K10).mono ?_)
           rintro _ w29 ⟨f, e1, rfl, h, hb⟩
           (try go_wp2_with fail)
           replace K5 := K5.on hb
           replace K10 := K10.on hb
           replace K14 := K14.on hb
           replace K25 := K25.on hb
           replace Z15 := Z15.on hb
           replace Fm1 := Fm1.kp (Kept.of hb)
           replace Fy1 := Fy1.kp (Kept.of hb)
           replace BW := BW.trans (hb.mono BW.size)
           clear hb
           clear hHeld
           refine hK.out _ _ (by exact ⟨K5, K10.cs⟩) (fun hHeld => ?_)
           clear hK
           (try simp only [p0, p1, p2, p3])
           refine pT 8 ?_
           (try simp only [p0, p1, p2, p3])
           refine pT 9 ?_
           (try simp only [p0, p1, p2, p3])
           refine pR1 10 (fun K hK => ?_)
           obtain ⟨c30, c31, c32, c33, c34, c35, c36, c37⟩ := K14.c8
           obtain ⟨c38, c39, c40, c41, c42, c43, c44, c45⟩ := Z15.f8
           go_simp
           clear c30 c31 c32 c33 c34 c35 c36 c37 c38 c39 c40 c41 c42 c43 c44 c45
           obtain ⟨V46, hk48⟩ : ∃ V46, V46 = w29.setCells (w.heap.size + 1 + 1) 0 [.bool f.Y.n, .slice f.Y.A f.Y.xs.length f.Y.c, .bool f.Y.m, .slice f.Y.B f.Y.ds.length f.Y.d, .bool f.U.n, .slice f.U.A f.U.xs.length f.U.c, .bool f.U.m, .slice f.U.B f.U.ds.length f.U.d] := ⟨_, rfl⟩
           have e47 := hk48
           simp only [World.setCells, Nat.zero_add, Nat.reduceAdd] at e47
           have hk49 := Kept.overE hk48 K14 rfl (Nat.le_of_ble_eq_true rfl)
           replace K5 := K5.awayE hk48 n16
           replace K10 := K10.awayE hk48 n17
           replace K14 := K14.overE hk48 rfl
           replace K25 := K25.awayE hk48 n26.symm
           replace Z15 := Z15.putE hk48
           replace Fm1 := Fm1.kp hk49
           replace Fy1 := Fy1.kp hk49
           replace h := h.kp hk49
           replace BW := Below.putE BW hk48 g18
           clear hk48 hk49
           replace K14 : Box V46 (w.heap.size + 1 + 1) (ycs f) := K14
           rw [← e47]
           clear e47
           clear hHeld
           refine hK.out _ _ (by exact ⟨K5, K10.cs⟩) (fun hHeld => ?_)
           clear hK
           (try simp only [p0, p1, p2, p3])
           refine pT 11 ?_
           (try simp only [p0, p1, p2, p3])
           refine wpAnyH_done (by kernel_rfl) (NoPanic.normal ?_) _
           go_wp2
           go_meet
           exact ⟨f, e1, rfl, BW, K14, h⟩
       · go_simp
         clear hHeld
         refine hK.out _ _ (by exact ⟨K5, K10.cs⟩) (fun hHeld => ?_)
         clear hK
         (try simp only [p0, p1, p2, p3])
         refine pR1 4 (fun K hK => ?_)
         go_simp
         obtain ⟨V22, e23, hb24, K25, -, -⟩ := alloc_new w21 [.int .i64 0, .int .i64 0] 32
         have n26 : w.heap.size + 1 + 1 ≠ w21.heap.size := Nat.ne_of_lt (K14.lt)
         replace K5 := K5.on hb24
         replace K10 := K10.on hb24
         replace K14 := K14.on hb24
         replace Z15 := Z15.on hb24
         replace Fm1 := Fm1.kp (Kept.of hb24)
         replace Fy1 := Fy1.kp (Kept.of hb24)
         replace BW := BW.trans (hb24.mono BW.size)
         clear hb24
         rw [← e23]
         clear e23
         generalize w21.heap.size = b27 at *
         clear hHeld
         refine hK.out _ _ (by exact ⟨K5, K10.cs⟩) (fun hHeld => ?_)
         clear hK
         (try simp only [p0, p1, p2, p3])
         refine pR1 5 (fun K hK => ?_)
         go_simp
         (go_at_call 38; with_reducible refine (cor_zero K25).mono ?_)
         rintro _ w28 ⟨rfl, hb⟩
         (try go_wp2_with fail)
         replace K5 := K5.on hb
         replace K10 := K10.on hb
         replace K14 := K14.on hb
         replace K25 := K25.on hb
         replace Z15 := Z15.on hb
         replace Fm1 := Fm1.kp (Kept.of hb)
         replace Fy1 := Fy1.kp (Kept.of hb)
         replace BW := BW.trans (hb.mono BW.size)
         clear hb
         clear hHeld
         refine hK.out _ _ (by exact ⟨K5, K10.cs⟩) (fun hHeld => ?_)
         clear hK
         (try simp only [p0, p1, p2, p3])
         refine pR1 7 (fun K hK => ?_)
         go_simp
         (go_at_call 52; with_reducible refine (y_rkThr Fm1 Fy1 K5 K10).mono ?_)
         rintro _ w29 ⟨f, e1, rfl, h, hb⟩
         (try go_wp2_with fail)
         replace K5 := K5.on hb
         replace K10 := K10.on hb
         replace K14 := K14.on hb
         replace K25 := K25.on hb
         replace Z15 := Z15.on hb
         replace Fm1 := Fm1.kp (Kept.of hb)
         replace Fy1 := Fy1.kp (Kept.of hb)
         replace BW := BW.trans (hb.mono BW.size)
         clear hb
         clear hHeld
         refine hK.out _ _ (by exact ⟨K5, K10.cs⟩) (fun hHeld => ?_)
         clear hK
         (try simp only [p0, p1, p2, p3])
         refine pT 8 ?_
         (try simp only [p0, p1, p2, p3])
         refine pT 9 ?_
         (try simp only [p0, p1, p2, p3])
         refine pR1 10 (fun K hK => ?_)
         obtain ⟨c30, c31, c32, c33, c34, c35, c36, c37⟩ := K14.c8
         obtain ⟨c38, c39, c40, c41, c42, c43, c44, c45⟩ := Z15.f8
         go_simp
         clear c30 c31 c32 c33 c34 c35 c36 c37 c38 c39 c40 c41 c42 c43 c44 c45
         obtain ⟨V46, hk48⟩ : ∃ V46, V46 = w29.setCells (w.heap.size + 1 + 1) 0 [.bool f.Y.n, .slice f.Y.A f.Y.xs.length f.Y.c, .bool f.Y.m, .slice f.Y.B f.Y.ds.length f.Y.d, .bool f.U.n, .slice f.U.A f.U.xs.length f.U.c, .bool f.U.m, .slice f.U.B f.U.ds.length f.U.d] := ⟨_, rfl⟩
         have e47 := hk48
         simp only [World.setCells, Nat.zero_add, Nat.reduceAdd] at e47
         have hk49 := Kept.overE hk48 K14 rfl (Nat.le_of_ble_eq_true rfl)
         replace K5 := K5.awayE hk48 n16
         replace K10 := K10.awayE hk48 n17
         replace K14 := K14.overE hk48 rfl
         replace K25 := K25.awayE hk48 n26.symm
         replace Z15 := Z15.putE hk48
         replace Fm1 := Fm1.kp hk49
         replace Fy1 := Fy1.kp hk49
         replace h := h.kp hk49
         replace BW := Below.putE BW hk48 g18
         clear hk48 hk49
         replace K14 : Box V46 (w.heap.size + 1 + 1) (ycs f) := K14
         rw [← e47]
         clear e47
         clear hHeld
         refine hK.out _ _ (by exact ⟨K5, K10.cs⟩) (fun hHeld => ?_)
         clear hK
         (try simp only [p0, p1, p2, p3])
         refine pT 11 ?_
         (try simp only [p0, p1, p2, p3])
         refine wpAnyH_done (by kernel_rfl) (NoPanic.normal ?_) _
         go_wp2
         go_meet
         exact ⟨f, e1, rfl, BW, K14, h⟩
     · go_simp
       clear hHeld
       refine hK.out _ _ (by exact ⟨K5, K10.cs⟩) (fun hHeld => ?_)
       clear hK
       (try simp only [p0, p1, p2, p3])
       refine pR1 3 (fun K hK => ?_)
       go_simp
       (go_at_call 53; with_reducible refine (chk_ray0 Fy1).mono ?_)
       rintro _ w21 ⟨rfl, hb⟩
       (try go_wp2_with fail)
       replace K5 := K5.on hb
       replace K10 := K10.on hb
       replace K14 := K14.on hb
       replace Z15 := Z15.on hb
       replace Fm1 := Fm1.kp (Kept.of hb)
       replace Fy1 := Fy1.kp (Kept.of hb)
       replace BW := BW.trans (hb.mono BW.size)
       clear hb
       clear hHeld
       refine hK.out _ _ (by exact ⟨K5, K10.cs⟩) (fun hHeld => ?_)
       clear hK
       (try simp only [p0, p1, p2, p3])
       refine pR1 4 (fun K hK => ?_)
       go_simp
       obtain ⟨V22, e23, hb24, K25, -, -⟩ := alloc_new w21 [.int .i64 0, .int .i64 0] 32
       have n26 : w.heap.size + 1 + 1 ≠ w21.heap.size := Nat.ne_of_lt (K14.lt)
       replace K5 := K5.on hb24
       replace K10 := K10.on hb24
       replace K14 := K14.on hb24
       replace Z15 := Z15.on hb24
       replace Fm1 := Fm1.kp (Kept.of hb24)
       replace Fy1 := Fy1.kp (Kept.of hb24)
       replace BW := BW.trans (hb24.mono BW.size)
       clear hb24
       rw [← e23]
       clear e23
       generalize w21.heap.size = b27 at *
       clear hHeld
       refine hK.out _ _ (by exact ⟨K5, K10.cs⟩) (fun hHeld => ?_)
       clear hK
       (try simp only [p0, p1, p2, p3])
       refine pR1 5 (fun K hK => ?_)
       go_simp
       (go_at_call 38; with_reducible refine (cor_zero K25).mono ?_)
       rintro _ w28 ⟨rfl, hb⟩
       (try go_wp2_with fail)
       replace K5 := K5.on hb
       replace K10 := K10.on hb
       replace K14 := K14.on hb
       replace K25 := K25.on hb
       replace Z15 := Z15.on hb
       replace Fm1 := Fm1.kp (Kept.of hb)
       replace Fy1 := Fy1.kp (Kept.of hb)
       replace BW := BW.trans (hb.mono BW.size)
       clear hb
       clear hHeld
       refine hK.out _ _ (by exact ⟨K5, K10.cs⟩) (fun hHeld => ?_)
       clear hK
       (try simp only [p0, p1, p2, p3])
       refine pR1 7 (fun K hK => ?_)
       go_simp
       (go_at_call 52; with_reducible refine (y_rkThr Fm1 Fy1 K5 K10).mono ?_)
       rintro _ w29 ⟨f, e1, rfl, h, hb⟩
       (try go_wp2_with fail)
       replace K5 := K5.on hb
       replace K10 := K10.on hb
       replace K14 := K14.on hb
       replace K25 := K25.on hb
       replace Z15 := Z15.on hb
       replace Fm1 := Fm1.kp (Kept.of hb)
       replace Fy1 := Fy1.kp (Kept.of hb)
       replace BW := BW.trans (hb.mono BW.size)
       clear hb
       clear hHeld
       refine hK.out _ _ (by exact ⟨K5, K10.cs⟩) (fun hHeld => ?_)
       clear hK
       (try simp only [p0, p1, p2, p3])
       refine pT 8 ?_
       (try simp only [p0, p1, p2, p3])
       refine pT 9 ?_
       (try simp only [p0, p1, p2, p3])
       refine pR1 10 (fun K hK => ?_)
       obtain ⟨c30, c31, c32, c33, c34, c35, c36, c37⟩ := K14.c8
       obtain ⟨c38, c39, c40, c41, c42, c43, c44, c45⟩ := Z15.f8
       go_simp
       clear c30 c31 c32 c33 c34 c35 c36 c37 c38 c39 c40 c41 c42 c43 c44 c45
       obtain ⟨V46, hk48⟩ : ∃ V46, V46 = w29.setCells (w.heap.size + 1 + 1) 0 [.bool f.Y.n, .slice f.Y.A f.Y.xs.length f.Y.c, .bool f.Y.m, .slice f.Y.B f.Y.ds.length f.Y.d, .bool f.U.n, .slice f.U.A f.U.xs.length f.U.c, .bool f.U.m, .slice f.U.B f.U.ds.length f.U.d] := ⟨_, rfl⟩
       have e47 := hk48
       simp only [World.setCells, Nat.zero_add, Nat.reduceAdd] at e47
       have hk49 := Kept.overE hk48 K14 rfl (Nat.le_of_ble_eq_true rfl)
       replace K5 := K5.awayE hk48 n16
       replace K10 := K10.awayE hk48 n17
       replace K14 := K14.overE hk48 rfl
       replace K25 := K25.awayE hk48 n26.symm
       replace Z15 := Z15.putE hk48
       replace Fm1 := Fm1.kp hk49
       replace Fy1 := Fy1.kp hk49
       replace h := h.kp hk49
       replace BW := Below.putE BW hk48 g18
       clear hk48 hk49
       replace K14 : Box V46 (w.heap.size + 1 + 1) (ycs f) := K14
       rw [← e47]
       clear e47
       clear hHeld
       refine hK.out _ _ (by exact ⟨K5, K10.cs⟩) (fun hHeld => ?_)
       clear hK
       (try simp only [p0, p1, p2, p3])
       refine pT 11 ?_
       (try simp only [p0, p1, p2, p3])
       refine wpAnyH_done (by kernel_rfl) (NoPanic.normal ?_) _
       go_wp2
       go_meet
       exact ⟨f, e1, rfl, BW, K14, h⟩
   · go_simp
     clear hHeld
     refine hK.out _ _ (by exact ⟨K5, K10.cs⟩) (fun hHeld => ?_)
     clear hK
     (try simp only [p0, p1, p2, p3])
     refine pR1 1 (fun K hK => ?_)
     go_simp
     (go_at_call 14; with_reducible refine (y_check0 Fm1 hd1).mono ?_)
     rintro _ w20 ⟨rfl, hb⟩
     (try go_wp2_with fail)
     replace K5 := K5.on hb
     replace K10 := K10.on hb
     replace K14 := K14.on hb
     replace Z15 := Z15.on hb
     replace Fm1 := Fm1.kp (Kept.of hb)
     replace Fy1 := Fy1.kp (Kept.of hb)
     replace BW := BW.trans (hb.mono BW.size)
     clear hb
     clear hHeld
     refine hK.out _ _ (by exact ⟨K5, K10.cs⟩) (fun hHeld => ?_)
     clear hK
     (try simp only [p0, p1, p2, p3])
     refine pR1 3 (fun K hK => ?_)
     go_simp
     (go_at_call 53; with_reducible refine (chk_ray0 Fy1).mono ?_)
     rintro _ w21 ⟨rfl, hb⟩
     (try go_wp2_with fail)
     replace K5 := K5.on hb
     replace K10 := K10.on hb
     replace K14 := K14.on hb
     replace Z15 := Z15.on hb
     replace Fm1 := Fm1.kp (Kept.of hb)
     replace Fy1 := Fy1.kp (Kept.of hb)
     replace BW := BW.trans (hb.mono BW.size)
     clear hb
     clear hHeld
     refine hK.out _ _ (by exact ⟨K5, K10.cs⟩) (fun hHeld => ?_)
     clear hK
     (try simp only [p0, p1, p2, p3])
     refine pR1 4 (fun K hK => ?_)
     go_simp
     obtain ⟨V22, e23, hb24, K25, -, -⟩ := alloc_new w21 [.int .i64 0, .int .i64 0] 32
     have n26 : w.heap.size + 1 + 1 ≠ w21.heap.size := Nat.ne_of_lt (K14.lt)
     replace K5 := K5.on hb24
     replace K10 := K10.on hb24
     replace K14 := K14.on hb24
     replace Z15 := Z15.on hb24
     replace Fm1 := Fm1.kp (Kept.of hb24)
     replace Fy1 := Fy1.kp (Kept.of hb24)
     replace BW := BW.trans (hb24.mono BW.size)
     clear hb24
     rw [← e23]
     clear e23
     generalize w21.heap.size = b27 at *
     clear hHeld
     refine hK.out _ _ (by exact ⟨K5, K10.cs⟩) (fun hHeld => ?_)
     clear hK
     (try simp only [p0, p1, p2, p3])
     refine pR1 5 (fun K hK => ?_)
     go_simp
     (go_at_call 38; with_reducible refine (cor_zero K25).mono ?_)
     rintro _ w28 ⟨rfl, hb⟩
     (try go_wp2_with fail)
     replace K5 := K5.on hb
     replace K10 := K10.on hb
     replace K14 := K14.on hb
     replace Z15 := Z15.on hb
     replace Fm1 := Fm1.kp (Kept.of hb)
     replace Fy1 := Fy1.kp (Kept.of hb)
     replace BW := BW.trans (hb.mono BW.size)
     clear hb
     clear hHeld
     refine hK.out _ _ (by exact ⟨K5, K10.cs⟩) (fun hHeld => ?_)
     clear hK
     (try simp only [p0, p1, p2, p3])
     refine pR1 7 (fun K hK => ?_)
     go_simp
     (go_at_call 52; with_reducible refine (y_rkThr Fm1 Fy1 K5 K10).mono ?_)
     rintro _ w29 ⟨f, e1, rfl, h, hb⟩
     (try go_wp2_with fail)
     replace K5 := K5.on hb
     replace K10 := K10.on hb
     replace K14 := K14.on hb
     replace Z15 := Z15.on hb
     replace BW := BW.trans (hb.mono BW.size)
     clear hb
     clear hHeld
     refine hK.out _ _ (by exact ⟨K5, K10.cs⟩) (fun hHeld => ?_)
     clear hK
     (try simp only [p0, p1, p2, p3])
     refine pT 8 ?_
     (try simp only [p0, p1, p2, p3])
     refine pT 9 ?_
     (try simp only [p0, p1, p2, p3])
     refine pR1 10 (fun K hK => ?_)
     obtain ⟨c30, c31, c32, c33, c34, c35, c36, c37⟩ := K14.c8
     obtain ⟨c38, c39, c40, c41, c42, c43, c44, c45⟩ := Z15.f8
     go_simp
     clear c30 c31 c32 c33 c34 c35 c36 c37 c38 c39 c40 c41 c42 c43 c44 c45
     obtain ⟨V46, hk48⟩ : ∃ V46, V46 = w29.setCells (w.heap.size + 1 + 1) 0 [.bool f.Y.n, .slice f.Y.A f.Y.xs.length f.Y.c, .bool f.Y.m, .slice f.Y.B f.Y.ds.length f.Y.d, .bool f.U.n, .slice f.U.A f.U.xs.length f.U.c, .bool f.U.m, .slice f.U.B f.U.ds.length f.U.d] := ⟨_, rfl⟩
     have e47 := hk48
     simp only [World.setCells, Nat.zero_add, Nat.reduceAdd] at e47
     have hk49 := Kept.overE hk48 K14 rfl (Nat.le_of_ble_eq_true rfl)
     replace K5 := K5.awayE hk48 n16
     replace K10 := K10.awayE hk48 n17
     replace K14 := K14.overE hk48 rfl
     replace h := h.kp hk49
     replace BW := Below.putE BW hk48 g18
     clear hk48 hk49
     replace K14 : Box V46 (w.heap.size + 1 + 1) (ycs f) := K14
     rw [← e47]
     clear e47
     clear hHeld
     refine hK.out _ _ (by exact ⟨K5, K10.cs⟩) (fun hHeld => ?_)
     clear hK
     (try simp only [p0, p1, p2, p3])
     refine pT 11 ?_
     (try simp only [p0, p1, p2, p3])
     refine wpAnyH_done (by kernel_rfl) (NoPanic.normal ?_) _
     go_wp2
     go_meet
     exact ⟨f, e1, rfl, BW, K14, h⟩
 case rest =>
   obtain ⟨f, e1, rfl, BW, KR, h⟩ := hcut
   obtain ⟨c19, c20, c21, c22, c23, c24, c25, c26⟩ := KR.c8
   go_wp2_with fail
   exact bodyPost_ret (v := .tuple #[yv f, .int .i64 e1]) (by simp [results, Tryz.results20, go_sem, c19, c20, c21, c22, c23, c24, c25, c26]) rfl ⟨f, e1, rfl, h, BW⟩
end Go.Proofs.YtjamfkafgfpobaaGreat
