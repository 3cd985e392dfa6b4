/-
  A ray behind each element of a bench that may be: the rays, or the refusal. Condition: that bench and ray are no longer than memory.
-/
import Derived.Test.YtjamfkafgfpobaaGreatTr1
import Derived.Deep.RegionHeld3
import Derived.Deep.DeepCutAuto
import Derived.BigRegion
namespace Go.Proofs.YtjamfkafgfpobaaGreat
open Go.RowKit Nb

set_option maxHeartbeats 8000000 in
set_option maxRecDepth 20000 in
theorem b_fromY {r : Yq} {y : Yv} {w : World} (Y : Fy w r y) :
    Calls Tryz.prog 60 #[yv y] w (GYx w (r) (1024)) := by
 have BW : Below w.heap.size w w := Below.refl _ _
 obtain ⟨V2, e3, hb4, K5, Z6, z1⟩ := alloc_new w [.bool y.Y.n, .slice y.Y.A y.Y.xs.length y.Y.c, .bool y.Y.m, .slice y.Y.B y.Y.ds.length y.Y.d, .bool y.U.n, .slice y.U.A y.U.xs.length y.U.c, .bool y.U.m, .slice y.U.B y.U.ds.length y.U.d] 40
 replace K5 : Box V2 (w.heap.size) (ycs y) := K5
 have g7 : w.heap.size ≤ w.heap.size := BW.size
 replace Y := Y.kp (Kept.of hb4)
 replace BW := BW.trans (hb4.mono BW.size)
 clear hb4
 obtain ⟨V8, e9, hb10, K11, Z12, -⟩ := alloc_new V2 [.bool false, .slice none 0 0, .bool false, .slice none 0 0, .bool false, .slice none 0 0, .bool false, .slice none 0 0] 105
 rw [z1] at K11 Z12
 replace K11 : Box V8 (w.heap.size + 1) (zcs8) := K11
 have n13 : w.heap.size ≠ w.heap.size + 1 := Nat.ne_of_lt (z1 ▸ K5.lt)
 have g14 : w.heap.size ≤ w.heap.size + 1 := z1 ▸ BW.size
 replace K5 := K5.on hb10
 replace Y := Y.kp (Kept.of hb10)
 replace BW := BW.trans (hb10.mono BW.size)
 clear hb10
 clear z1
 go_enter Tryz.func60, Tryz.ntmps60
 go_wp2_with fail
 rw [← e3, ← e9]
 clear e3 e9
 refine wp_region_noPanic ?_
 have hb : Below V8.heap.size V8 V8.drew := (Below.refl _ _).drew
 replace K5 := K5.on hb
 replace K11 := K11.on hb
 replace Z12 := Z12.on hb
 replace Y := Y.kp (Kept.of hb)
 replace BW := BW.trans (hb.mono BW.size)
 clear hb
 refine wp_region_held_drew (S := (fun wx => Cs wx (w.heap.size) 0 [.bool y.Y.n, .slice y.Y.A y.Y.xs.length y.Y.c, .bool y.Y.m, .slice y.Y.B y.Y.ds.length y.Y.d, .bool y.U.n, .slice y.U.A y.U.xs.length y.U.c, .bool y.U.m, .slice y.U.B y.U.ds.length y.U.d])) (by kernel_rfl) (by exact K5.cs) (fun hHeld => ?_)
 generalize V8.drew = Vd15 at *
 refine pT 0 ?_
 (try simp only [p0, p1, p2, p3])
 refine pT 1 ?_
 (try simp only [p0, p1, p2, p3])
 refine pT 3 ?_
 (try simp only [p0, p1, p2, p3])
 refine pT 4 ?_
 (try simp only [p0, p1, p2, p3])
 refine pR1 2 (fun K hK => ?_)
 go_simp
 (go_at_call 45; with_reducible refine (q_from Y.fY).mono ?_)
 rintro _ w16 ⟨f1, rfl, L1, hb⟩
 (try go_wp2_with fail)
 replace K5 := K5.on hb
 replace K11 := K11.on hb
 replace Z12 := Z12.on hb
 replace Y := Y.kp (Kept.of hb)
 replace BW := BW.trans (hb.mono BW.size)
 clear hb
 clear hHeld
 refine hK.out _ _ (by exact K5.cs) (fun hHeld => ?_)
 clear hK
 (try simp only [p0, p1, p2, p3])
 refine pR1 5 (fun K hK => ?_)
 go_simp
 (go_at_call 45; with_reducible refine (q_from Y.fU).mono ?_)
 rintro _ w17 ⟨f2, rfl, L2, hb⟩
 (try go_wp2_with fail)
 replace K5 := K5.on hb
 replace K11 := K11.on hb
 replace Z12 := Z12.on hb
 replace L1 := L1.kp (Kept.of hb)
 replace BW := BW.trans (hb.mono BW.size)
 clear hb
 clear hHeld
 refine hK.out _ _ (by exact K5.cs) (fun hHeld => ?_)
 clear hK
 (try simp only [p0, p1, p2, p3])
 refine pT 6 ?_
 (try simp only [p0, p1, p2, p3])
 refine pR1 7 (fun K hK => ?_)
 obtain ⟨c18, c19, c20, c21, c22, c23, c24, c25⟩ := K11.c8
 obtain ⟨c26, c27, c28, c29, c30, c31, c32, c33⟩ := Z12.f8
 go_simp
 clear c18 c19 c20 c21 c22 c23 c24 c25 c26 c27 c28 c29 c30 c31 c32 c33
 obtain ⟨V34, hk36⟩ : ∃ V34, V34 = w17.setCells (w.heap.size + 1) 0 [.bool f1.n, .slice f1.A f1.xs.length f1.c, .bool f1.m, .slice f1.B f1.ds.length f1.d, .bool f2.n, .slice f2.A f2.xs.length f2.c, .bool f2.m, .slice f2.B f2.ds.length f2.d] := ⟨_, rfl⟩
 have e35 := hk36
 simp only [World.setCells, Nat.zero_add, Nat.reduceAdd] at e35
 have hk37 := Kept.overE hk36 K11 rfl (Nat.le_of_ble_eq_true rfl)
 replace K5 := K5.awayE hk36 n13
 replace K11 := K11.overE hk36 rfl
 replace L1 := L1.kp hk37
 replace L2 := L2.kp hk37
 replace BW := Below.putE BW hk36 g14
 clear hk36 hk37
 rw [← e35]
 clear e35
 clear hHeld
 refine hK.out _ _ (by exact K5.cs) (fun hHeld => ?_)
 clear hK
 (try simp only [p0, p1, p2, p3])
 refine wpAnyH_done (by kernel_rfl) (NoPanic.normal ?_) _
 go_wp2
 obtain ⟨c38, c39, c40, c41, c42, c43, c44, c45⟩ := K11.c8
 exact bodyPost_ret (v := yv ⟨f1, f2⟩) (by simp [results, Tryz.results60, go_sem, c38, c39, c40, c41, c42, c43, c44, c45]) rfl ⟨⟨f1, f2⟩, rfl, ⟨L1, L2⟩, BW⟩
set_option maxHeartbeats 16000000 in
set_option maxRecDepth 100000 in
theorem b_Trace {a : Option Addr} {c : Nat} {es : List Ev} {zs : List Eq} {r : Yq} {y : Yv} {w : World} (S : Sle w a c es) (hF : Fes w zs es) (hn : es.length ≤ 4096) (Y : Fy w r y) :
    Calls Tryz.prog 24 #[.slice a es.length c, yv y] w (fun e w' => ∃ (v : Value) (er : Int), e = .returned (.tuple #[v, .int .i64 er]) ∧ TrIs w' zs r es.length v er ∧ Below w.heap.size w w') := by
 have HS := Lib.hid S
 have HF := Lib.hid hF
 have hn2 : (es.length : Int) ≤ 4096 := by omega
 clear S hF hn
 have BW : Below w.heap.size w w := Below.refl _ _
 obtain ⟨V1, e2, hb3, K4, Z5, -⟩ := alloc_new w [.bool y.Y.n, .slice y.Y.A y.Y.xs.length y.Y.c, .bool y.Y.m, .slice y.Y.B y.Y.ds.length y.Y.d, .bool y.U.n, .slice y.U.A y.U.xs.length y.U.c, .bool y.U.m, .slice y.U.B y.U.ds.length y.U.d] 40
 replace K4 : Box V1 (w.heap.size) (ycs y) := K4
 have g6 : w.heap.size ≤ w.heap.size := BW.size
 replace Y := Y.kp (Kept.of hb3)
 replace BW := BW.trans (hb3.mono BW.size)
 clear hb3
 go_enter Tryz.func24, Tryz.ntmps24
 go_wp2_with fail
 rw [← e2]
 clear e2
 have BW0 := Lib.hid BW
 refine (b_check (HS.out.on BW)).mono ?_
 rintro _ w7 ⟨r0, rfl, hr, hb⟩
 replace K4 := K4.on hb
 replace Z5 := Z5.on hb
 replace Y := Y.kp (Kept.of hb)
 replace BW := BW.trans (hb.mono BW.size)
 clear hb
 obtain rfl : r0 = 0 := hr.yes (by omega) (HF.out.kp (Kept.of BW0.out)).may
 clear hr
 obtain ⟨c8, c9, c10, c11, c12, c13, c14, c15⟩ := K4.c8
 go_wp2_with fail
 clear c8 c9 c10 c11 c12 c13 c14 c15
 refine (r_check Y.fY.fx).mono ?_
 rintro _ w16 ⟨rfl, hb⟩
 replace K4 := K4.on hb
 replace Z5 := Z5.on hb
 replace Y := Y.kp (Kept.of hb)
 replace BW := BW.trans (hb.mono BW.size)
 clear hb
 rw [chkv_ok Y.fY.okv]
 obtain ⟨c17, c18, c19, c20, c21, c22, c23, c24⟩ := K4.c8
 go_wp2_with fail
 clear c17 c18 c19 c20 c21 c22 c23 c24
 refine (r_check Y.fU.fx).mono ?_
 rintro _ w25 ⟨rfl, hb⟩
 replace K4 := K4.on hb
 replace Z5 := Z5.on hb
 replace Y := Y.kp (Kept.of hb)
 replace BW := BW.trans (hb.mono BW.size)
 clear hb
 rw [chkv_ok Y.fU.okv]
 go_wp2_with fail
 go_cut [7, 8] (fun s7 s8 wx => ∃ (h g : Nat) (y1 : Yv), s7 = .slice (some ⟨h, 0, none⟩) es.length es.length ∧ s8 = .pointer (some ⟨g, 0, none⟩) ∧ Below w.heap.size w wx ∧ Gy wx r y1 1024 ∧ Box wx h ((List.replicate es.length yv0).flatMap ycs) ∧ Fz wx h ∧ w.heap.size ≤ h ∧ Box wx g (ycs y1) ∧ Fz wx g ∧ w.heap.size ≤ g ∧ h ≠ g)
 case first =>
   refine wp_region_noPanic ?_
   have hb : Below w25.heap.size w25 w25.drew := (Below.refl _ _).drew
   replace K4 := K4.on hb
   replace Z5 := Z5.on hb
   replace Y := Y.kp (Kept.of hb)
   replace BW := BW.trans (hb.mono BW.size)
   clear hb
   refine wp_region_held_drew (S := (fun wx => Cs wx (w.heap.size) 0 [.bool y.Y.n, .slice y.Y.A y.Y.xs.length y.Y.c, .bool y.Y.m, .slice y.Y.B y.Y.ds.length y.Y.d, .bool y.U.n, .slice y.U.A y.U.xs.length y.U.c, .bool y.U.m, .slice y.U.B y.U.ds.length y.U.d])) (by kernel_rfl) (by exact K4.cs) (fun hHeld => ?_)
   generalize w25.drew = Vd26 at *
   refine pT 0 ?_
   (try simp only [p0, p1, p2, p3])
   refine pT 1 ?_
   (try simp only [p0, p1, p2, p3])
   refine pT 3 ?_
   (try simp only [p0, p1, p2, p3])
   refine pR3 2 4 5 (fun K hK => ?_) (fun K hK => ?_) (fun K hK => ?_)
   · refine ite_yes (by rfl) (wp_makeY (n := es.length) rfl rfl rfl (by omega) ?_)
     intro V8 hbV KH ZH hzV
     have gh : w.heap.size ≤ Vd26.heap.size := BW.size
     have n27 : w.heap.size ≠ Vd26.heap.size := Nat.ne_of_lt K4.lt
     replace K4 := K4.on hbV
     replace Z5 := Z5.on hbV
     replace Y := Y.kp (Kept.of hbV)
     replace BW := BW.trans (hbV.mono BW.size)
     clear hbV hzV
     generalize Vd26.heap.size = h at *
     clear hHeld
     refine hK.out _ _ (by exact K4.cs) (fun hHeld => ?_)
     clear hK
     (try simp only [p0, p1, p2, p3])
     refine pR2 4 5 (fun K hK => ?_) (fun K hK => ?_)
     · go_simp
       (go_at_call 60; with_reducible refine (b_fromY Y).mono ?_)
       rintro _ w28 ⟨y1, rfl, L1, hb⟩
       (try go_wp2_with fail)
       replace K4 := K4.on hb
       replace KH := KH.on hb
       replace Z5 := Z5.on hb
       replace ZH := ZH.on hb
       replace Y := Y.kp (Kept.of hb)
       replace BW := BW.trans (hb.mono BW.size)
       clear hb
       clear hHeld
       refine hK.out _ _ (by exact K4.cs) (fun hHeld => ?_)
       clear hK
       (try simp only [p0, p1, p2, p3])
       refine pR1 5 (fun K hK => ?_)
       go_simp
       obtain ⟨V29, e30, hb31, K32, Z33, -⟩ := alloc_new w28 [.bool false, .slice none 0 0, .bool false, .slice none 0 0, .bool false, .slice none 0 0, .bool false, .slice none 0 0] 105
       replace K32 : Box V29 (w28.heap.size) (zcs8) := K32
       have n34 : w.heap.size ≠ w28.heap.size := Nat.ne_of_lt (K4.lt)
       have n35 : h ≠ w28.heap.size := Nat.ne_of_lt (KH.lt)
       have g36 : w.heap.size ≤ w28.heap.size := BW.size
       replace K4 := K4.on hb31
       replace KH := KH.on hb31
       replace Z5 := Z5.on hb31
       replace ZH := ZH.on hb31
       replace Y := Y.kp (Kept.of hb31)
       replace L1 := L1.kp (Kept.of hb31)
       replace BW := BW.trans (hb31.mono BW.size)
       clear hb31
       rw [← e30]
       clear e30
       generalize w28.heap.size = b37 at *
       clear hHeld
       refine hK.out _ _ (by exact K4.cs) (fun hHeld => ?_)
       clear hK
       (try simp only [p0, p1, p2, p3])
       refine pT 6 ?_
       (try simp only [p0, p1, p2, p3])
       refine pR1 7 (fun K hK => ?_)
       obtain ⟨c38, c39, c40, c41, c42, c43, c44, c45⟩ := K32.c8
       obtain ⟨c46, c47, c48, c49, c50, c51, c52, c53⟩ := Z33.f8
       go_simp
       clear c38 c39 c40 c41 c42 c43 c44 c45 c46 c47 c48 c49 c50 c51 c52 c53
       obtain ⟨V54, hk56⟩ : ∃ V54, V54 = V29.setCells (b37) 0 [.bool y1.Y.n, .slice y1.Y.A y1.Y.xs.length y1.Y.c, .bool y1.Y.m, .slice y1.Y.B y1.Y.ds.length y1.Y.d, .bool y1.U.n, .slice y1.U.A y1.U.xs.length y1.U.c, .bool y1.U.m, .slice y1.U.B y1.U.ds.length y1.U.d] := ⟨_, rfl⟩
       have e55 := hk56
       simp only [World.setCells, Nat.zero_add, Nat.reduceAdd] at e55
       have hk57 := Kept.overE hk56 K32 rfl (Nat.le_of_ble_eq_true rfl)
       replace K4 := K4.awayE hk56 n34
       replace KH := KH.awayE hk56 n35
       replace K32 := K32.overE hk56 rfl
       replace Z5 := Z5.putE hk56
       replace ZH := ZH.putE hk56
       replace Z33 := Z33.putE hk56
       replace Y := Y.kp hk57
       replace L1 := L1.kp hk57
       replace BW := Below.putE BW hk56 g36
       clear hk56 hk57
       replace K32 : Box V54 (b37) (ycs y1) := K32
       rw [← e55]
       clear e55
       clear hHeld
       refine hK.out _ _ (by exact K4.cs) (fun hHeld => ?_)
       clear hK
       (try simp only [p0, p1, p2, p3])
       refine wpAnyH_done (by kernel_rfl) (NoPanic.normal ?_) _
       go_wp2
       go_meet
       exact ⟨h, b37, y1, rfl, rfl, BW, L1, KH, ZH, gh, K32, Z33, g36, n35⟩
     · go_simp
       obtain ⟨V28, e29, hb30, K31, Z32, -⟩ := alloc_new V8 [.bool false, .slice none 0 0, .bool false, .slice none 0 0, .bool false, .slice none 0 0, .bool false, .slice none 0 0] 105
       replace K31 : Box V28 (V8.heap.size) (zcs8) := K31
       have n33 : w.heap.size ≠ V8.heap.size := Nat.ne_of_lt (K4.lt)
       have n34 : h ≠ V8.heap.size := Nat.ne_of_lt (KH.lt)
       have g35 : w.heap.size ≤ V8.heap.size := BW.size
       replace K4 := K4.on hb30
       replace KH := KH.on hb30
       replace Z5 := Z5.on hb30
       replace ZH := ZH.on hb30
       replace Y := Y.kp (Kept.of hb30)
       replace BW := BW.trans (hb30.mono BW.size)
       clear hb30
       rw [← e29]
       clear e29
       generalize V8.heap.size = b36 at *
       clear hHeld
       refine hK.out _ _ (by exact K4.cs) (fun hHeld => ?_)
       clear hK
       (try simp only [p0, p1, p2, p3])
       refine pR1 4 (fun K hK => ?_)
       go_simp
       (go_at_call 60; with_reducible refine (b_fromY Y).mono ?_)
       rintro _ w37 ⟨y1, rfl, L1, hb⟩
       (try go_wp2_with fail)
       replace K4 := K4.on hb
       replace KH := KH.on hb
       replace K31 := K31.on hb
       replace Z5 := Z5.on hb
       replace ZH := ZH.on hb
       replace Z32 := Z32.on hb
       replace Y := Y.kp (Kept.of hb)
       replace BW := BW.trans (hb.mono BW.size)
       clear hb
       clear hHeld
       refine hK.out _ _ (by exact K4.cs) (fun hHeld => ?_)
       clear hK
       (try simp only [p0, p1, p2, p3])
       refine pT 6 ?_
       (try simp only [p0, p1, p2, p3])
       refine pR1 7 (fun K hK => ?_)
       obtain ⟨c38, c39, c40, c41, c42, c43, c44, c45⟩ := K31.c8
       obtain ⟨c46, c47, c48, c49, c50, c51, c52, c53⟩ := Z32.f8
       go_simp
       clear c38 c39 c40 c41 c42 c43 c44 c45 c46 c47 c48 c49 c50 c51 c52 c53
       obtain ⟨V54, hk56⟩ : ∃ V54, V54 = w37.setCells (b36) 0 [.bool y1.Y.n, .slice y1.Y.A y1.Y.xs.length y1.Y.c, .bool y1.Y.m, .slice y1.Y.B y1.Y.ds.length y1.Y.d, .bool y1.U.n, .slice y1.U.A y1.U.xs.length y1.U.c, .bool y1.U.m, .slice y1.U.B y1.U.ds.length y1.U.d] := ⟨_, rfl⟩
       have e55 := hk56
       simp only [World.setCells, Nat.zero_add, Nat.reduceAdd] at e55
       have hk57 := Kept.overE hk56 K31 rfl (Nat.le_of_ble_eq_true rfl)
       replace K4 := K4.awayE hk56 n33
       replace KH := KH.awayE hk56 n34
       replace K31 := K31.overE hk56 rfl
       replace Z5 := Z5.putE hk56
       replace ZH := ZH.putE hk56
       replace Z32 := Z32.putE hk56
       replace Y := Y.kp hk57
       replace L1 := L1.kp hk57
       replace BW := Below.putE BW hk56 g35
       clear hk56 hk57
       replace K31 : Box V54 (b36) (ycs y1) := K31
       rw [← e55]
       clear e55
       clear hHeld
       refine hK.out _ _ (by exact K4.cs) (fun hHeld => ?_)
       clear hK
       (try simp only [p0, p1, p2, p3])
       refine wpAnyH_done (by kernel_rfl) (NoPanic.normal ?_) _
       go_wp2
       go_meet
       exact ⟨h, b36, y1, rfl, rfl, BW, L1, KH, ZH, gh, K31, Z32, g35, n34⟩
   · go_simp
     (go_at_call 60; with_reducible refine (b_fromY Y).mono ?_)
     rintro _ w27 ⟨y1, rfl, L1, hb⟩
     (try go_wp2_with fail)
     replace K4 := K4.on hb
     replace Z5 := Z5.on hb
     replace Y := Y.kp (Kept.of hb)
     replace BW := BW.trans (hb.mono BW.size)
     clear hb
     clear hHeld
     refine hK.out _ _ (by exact K4.cs) (fun hHeld => ?_)
     clear hK
     (try simp only [p0, p1, p2, p3])
     refine pR2 2 5 (fun K hK => ?_) (fun K hK => ?_)
     · refine ite_yes (by rfl) (wp_makeY (n := es.length) rfl rfl rfl (by omega) ?_)
       intro V8 hbV KH ZH hzV
       have gh : w.heap.size ≤ w27.heap.size := BW.size
       have n28 : w.heap.size ≠ w27.heap.size := Nat.ne_of_lt K4.lt
       replace K4 := K4.on hbV
       replace Z5 := Z5.on hbV
       replace Y := Y.kp (Kept.of hbV)
       replace L1 := L1.kp (Kept.of hbV)
       replace BW := BW.trans (hbV.mono BW.size)
       clear hbV hzV
       generalize w27.heap.size = h at *
       clear hHeld
       refine hK.out _ _ (by exact K4.cs) (fun hHeld => ?_)
       clear hK
       (try simp only [p0, p1, p2, p3])
       refine pR1 5 (fun K hK => ?_)
       go_simp
       obtain ⟨V29, e30, hb31, K32, Z33, -⟩ := alloc_new V8 [.bool false, .slice none 0 0, .bool false, .slice none 0 0, .bool false, .slice none 0 0, .bool false, .slice none 0 0] 105
       replace K32 : Box V29 (V8.heap.size) (zcs8) := K32
       have n34 : w.heap.size ≠ V8.heap.size := Nat.ne_of_lt (K4.lt)
       have n35 : h ≠ V8.heap.size := Nat.ne_of_lt (KH.lt)
       have g36 : w.heap.size ≤ V8.heap.size := BW.size
       replace K4 := K4.on hb31
       replace KH := KH.on hb31
       replace Z5 := Z5.on hb31
       replace ZH := ZH.on hb31
       replace Y := Y.kp (Kept.of hb31)
       replace L1 := L1.kp (Kept.of hb31)
       replace BW := BW.trans (hb31.mono BW.size)
       clear hb31
       rw [← e30]
       clear e30
       generalize V8.heap.size = b37 at *
       clear hHeld
       refine hK.out _ _ (by exact K4.cs) (fun hHeld => ?_)
       clear hK
       (try simp only [p0, p1, p2, p3])
       refine pT 6 ?_
       (try simp only [p0, p1, p2, p3])
       refine pR1 7 (fun K hK => ?_)
       obtain ⟨c38, c39, c40, c41, c42, c43, c44, c45⟩ := K32.c8
       obtain ⟨c46, c47, c48, c49, c50, c51, c52, c53⟩ := Z33.f8
       go_simp
       clear c38 c39 c40 c41 c42 c43 c44 c45 c46 c47 c48 c49 c50 c51 c52 c53
       obtain ⟨V54, hk56⟩ : ∃ V54, V54 = V29.setCells (b37) 0 [.bool y1.Y.n, .slice y1.Y.A y1.Y.xs.length y1.Y.c, .bool y1.Y.m, .slice y1.Y.B y1.Y.ds.length y1.Y.d, .bool y1.U.n, .slice y1.U.A y1.U.xs.length y1.U.c, .bool y1.U.m, .slice y1.U.B y1.U.ds.length y1.U.d] := ⟨_, rfl⟩
       have e55 := hk56
       simp only [World.setCells, Nat.zero_add, Nat.reduceAdd] at e55
       have hk57 := Kept.overE hk56 K32 rfl (Nat.le_of_ble_eq_true rfl)
       replace K4 := K4.awayE hk56 n34
       replace KH := KH.awayE hk56 n35
       replace K32 := K32.overE hk56 rfl
       replace Z5 := Z5.putE hk56
       replace ZH := ZH.putE hk56
       replace Z33 := Z33.putE hk56
       replace Y := Y.kp hk57
       replace L1 := L1.kp hk57
       replace BW := Below.putE BW hk56 g36
       clear hk56 hk57
       replace K32 : Box V54 (b37) (ycs y1) := K32
       rw [← e55]
       clear e55
       clear hHeld
       refine hK.out _ _ (by exact K4.cs) (fun hHeld => ?_)
       clear hK
       (try simp only [p0, p1, p2, p3])
       refine wpAnyH_done (by kernel_rfl) (NoPanic.normal ?_) _
       go_wp2
       go_meet
       exact ⟨h, b37, y1, rfl, rfl, BW, L1, KH, ZH, gh, K32, Z33, g36, n35⟩
     · go_simp
       obtain ⟨V28, e29, hb30, K31, Z32, -⟩ := alloc_new w27 [.bool false, .slice none 0 0, .bool false, .slice none 0 0, .bool false, .slice none 0 0, .bool false, .slice none 0 0] 105
       replace K31 : Box V28 (w27.heap.size) (zcs8) := K31
       have n33 : w.heap.size ≠ w27.heap.size := Nat.ne_of_lt (K4.lt)
       have g34 : w.heap.size ≤ w27.heap.size := BW.size
       replace K4 := K4.on hb30
       replace Z5 := Z5.on hb30
       replace Y := Y.kp (Kept.of hb30)
       replace L1 := L1.kp (Kept.of hb30)
       replace BW := BW.trans (hb30.mono BW.size)
       clear hb30
       rw [← e29]
       clear e29
       generalize w27.heap.size = b35 at *
       clear hHeld
       refine hK.out _ _ (by exact K4.cs) (fun hHeld => ?_)
       clear hK
       (try simp only [p0, p1, p2, p3])
       refine pR1 2 (fun K hK => ?_)
       refine ite_yes (by rfl) (wp_makeY (n := es.length) rfl rfl rfl (by omega) ?_)
       intro V8 hbV KH ZH hzV
       have gh : w.heap.size ≤ V28.heap.size := BW.size
       have n36 : w.heap.size ≠ V28.heap.size := Nat.ne_of_lt K4.lt
       have n37 : b35 ≠ V28.heap.size := Nat.ne_of_lt K31.lt
       replace K4 := K4.on hbV
       replace K31 := K31.on hbV
       replace Z5 := Z5.on hbV
       replace Z32 := Z32.on hbV
       replace Y := Y.kp (Kept.of hbV)
       replace L1 := L1.kp (Kept.of hbV)
       replace BW := BW.trans (hbV.mono BW.size)
       clear hbV hzV
       generalize V28.heap.size = h at *
       clear hHeld
       refine hK.out _ _ (by exact K4.cs) (fun hHeld => ?_)
       clear hK
       (try simp only [p0, p1, p2, p3])
       refine pT 6 ?_
       (try simp only [p0, p1, p2, p3])
       refine pR1 7 (fun K hK => ?_)
       obtain ⟨c38, c39, c40, c41, c42, c43, c44, c45⟩ := K31.c8
       obtain ⟨c46, c47, c48, c49, c50, c51, c52, c53⟩ := Z32.f8
       go_simp
       clear c38 c39 c40 c41 c42 c43 c44 c45 c46 c47 c48 c49 c50 c51 c52 c53
       obtain ⟨V54, hk56⟩ : ∃ V54, V54 = V8.setCells (b35) 0 [.bool y1.Y.n, .slice y1.Y.A y1.Y.xs.length y1.Y.c, .bool y1.Y.m, .slice y1.Y.B y1.Y.ds.length y1.Y.d, .bool y1.U.n, .slice y1.U.A y1.U.xs.length y1.U.c, .bool y1.U.m, .slice y1.U.B y1.U.ds.length y1.U.d] := ⟨_, rfl⟩
       have e55 := hk56
       simp only [World.setCells, Nat.zero_add, Nat.reduceAdd] at e55
       have hk57 := Kept.overE hk56 K31 rfl (Nat.le_of_ble_eq_true rfl)
       replace K4 := K4.awayE hk56 n33
       replace K31 := K31.overE hk56 rfl
       replace KH := KH.awayE hk56 n37.symm
       replace Z5 := Z5.putE hk56
       replace Z32 := Z32.putE hk56
       replace ZH := ZH.putE hk56
       replace Y := Y.kp hk57
       replace L1 := L1.kp hk57
       replace BW := Below.putE BW hk56 g34
       clear hk56 hk57
       replace K31 : Box V54 (b35) (ycs y1) := K31
       rw [← e55]
       clear e55
       clear hHeld
       refine hK.out _ _ (by exact K4.cs) (fun hHeld => ?_)
       clear hK
       (try simp only [p0, p1, p2, p3])
       refine wpAnyH_done (by kernel_rfl) (NoPanic.normal ?_) _
       go_wp2
       go_meet
       exact ⟨h, b35, y1, rfl, rfl, BW, L1, KH, ZH, gh, K31, Z32, g34, n37.symm⟩
   · go_simp
     obtain ⟨V27, e28, hb29, K30, Z31, -⟩ := alloc_new Vd26 [.bool false, .slice none 0 0, .bool false, .slice none 0 0, .bool false, .slice none 0 0, .bool false, .slice none 0 0] 105
     replace K30 : Box V27 (Vd26.heap.size) (zcs8) := K30
     have n32 : w.heap.size ≠ Vd26.heap.size := Nat.ne_of_lt (K4.lt)
     have g33 : w.heap.size ≤ Vd26.heap.size := BW.size
     replace K4 := K4.on hb29
     replace Z5 := Z5.on hb29
     replace Y := Y.kp (Kept.of hb29)
     replace BW := BW.trans (hb29.mono BW.size)
     clear hb29
     rw [← e28]
     clear e28
     generalize Vd26.heap.size = b34 at *
     clear hHeld
     refine hK.out _ _ (by exact K4.cs) (fun hHeld => ?_)
     clear hK
     (try simp only [p0, p1, p2, p3])
     refine pR2 2 4 (fun K hK => ?_) (fun K hK => ?_)
     · refine ite_yes (by rfl) (wp_makeY (n := es.length) rfl rfl rfl (by omega) ?_)
       intro V8 hbV KH ZH hzV
       have gh : w.heap.size ≤ V27.heap.size := BW.size
       have n35 : w.heap.size ≠ V27.heap.size := Nat.ne_of_lt K4.lt
       have n36 : b34 ≠ V27.heap.size := Nat.ne_of_lt K30.lt
       replace K4 := K4.on hbV
       replace K30 := K30.on hbV
       replace Z5 := Z5.on hbV
       replace Z31 := Z31.on hbV
       replace Y := Y.kp (Kept.of hbV)
       replace BW := BW.trans (hbV.mono BW.size)
       clear hbV hzV
       generalize V27.heap.size = h at *
       clear hHeld
       refine hK.out _ _ (by exact K4.cs) (fun hHeld => ?_)
       clear hK
       (try simp only [p0, p1, p2, p3])
       refine pR1 4 (fun K hK => ?_)
       go_simp
       (go_at_call 60; with_reducible refine (b_fromY Y).mono ?_)
       rintro _ w37 ⟨y1, rfl, L1, hb⟩
       (try go_wp2_with fail)
       replace K4 := K4.on hb
       replace K30 := K30.on hb
       replace KH := KH.on hb
       replace Z5 := Z5.on hb
       replace Z31 := Z31.on hb
       replace ZH := ZH.on hb
       replace Y := Y.kp (Kept.of hb)
       replace BW := BW.trans (hb.mono BW.size)
       clear hb
       clear hHeld
       refine hK.out _ _ (by exact K4.cs) (fun hHeld => ?_)
       clear hK
       (try simp only [p0, p1, p2, p3])
       refine pT 6 ?_
       (try simp only [p0, p1, p2, p3])
       refine pR1 7 (fun K hK => ?_)
       obtain ⟨c38, c39, c40, c41, c42, c43, c44, c45⟩ := K30.c8
       obtain ⟨c46, c47, c48, c49, c50, c51, c52, c53⟩ := Z31.f8
       go_simp
       clear c38 c39 c40 c41 c42 c43 c44 c45 c46 c47 c48 c49 c50 c51 c52 c53
       obtain ⟨V54, hk56⟩ : ∃ V54, V54 = w37.setCells (b34) 0 [.bool y1.Y.n, .slice y1.Y.A y1.Y.xs.length y1.Y.c, .bool y1.Y.m, .slice y1.Y.B y1.Y.ds.length y1.Y.d, .bool y1.U.n, .slice y1.U.A y1.U.xs.length y1.U.c, .bool y1.U.m, .slice y1.U.B y1.U.ds.length y1.U.d] := ⟨_, rfl⟩
       have e55 := hk56
       simp only [World.setCells, Nat.zero_add, Nat.reduceAdd] at e55
       have hk57 := Kept.overE hk56 K30 rfl (Nat.le_of_ble_eq_true rfl)
       replace K4 := K4.awayE hk56 n32
       replace K30 := K30.overE hk56 rfl
       replace KH := KH.awayE hk56 n36.symm
       replace Z5 := Z5.putE hk56
       replace Z31 := Z31.putE hk56
       replace ZH := ZH.putE hk56
       replace Y := Y.kp hk57
       replace L1 := L1.kp hk57
       replace BW := Below.putE BW hk56 g33
       clear hk56 hk57
       replace K30 : Box V54 (b34) (ycs y1) := K30
       rw [← e55]
       clear e55
       clear hHeld
       refine hK.out _ _ (by exact K4.cs) (fun hHeld => ?_)
       clear hK
       (try simp only [p0, p1, p2, p3])
       refine wpAnyH_done (by kernel_rfl) (NoPanic.normal ?_) _
       go_wp2
       go_meet
       exact ⟨h, b34, y1, rfl, rfl, BW, L1, KH, ZH, gh, K30, Z31, g33, n36.symm⟩
     · go_simp
       (go_at_call 60; with_reducible refine (b_fromY Y).mono ?_)
       rintro _ w35 ⟨y1, rfl, L1, hb⟩
       (try go_wp2_with fail)
       replace K4 := K4.on hb
       replace K30 := K30.on hb
       replace Z5 := Z5.on hb
       replace Z31 := Z31.on hb
       replace Y := Y.kp (Kept.of hb)
       replace BW := BW.trans (hb.mono BW.size)
       clear hb
       clear hHeld
       refine hK.out _ _ (by exact K4.cs) (fun hHeld => ?_)
       clear hK
       (try simp only [p0, p1, p2, p3])
       refine pR1 2 (fun K hK => ?_)
       refine ite_yes (by rfl) (wp_makeY (n := es.length) rfl rfl rfl (by omega) ?_)
       intro V8 hbV KH ZH hzV
       have gh : w.heap.size ≤ w35.heap.size := BW.size
       have n36 : w.heap.size ≠ w35.heap.size := Nat.ne_of_lt K4.lt
       have n37 : b34 ≠ w35.heap.size := Nat.ne_of_lt K30.lt
       replace K4 := K4.on hbV
       replace K30 := K30.on hbV
       replace Z5 := Z5.on hbV
       replace Z31 := Z31.on hbV
       replace Y := Y.kp (Kept.of hbV)
       replace L1 := L1.kp (Kept.of hbV)
       replace BW := BW.trans (hbV.mono BW.size)
       clear hbV hzV
       generalize w35.heap.size = h at *
       clear hHeld
       refine hK.out _ _ (by exact K4.cs) (fun hHeld => ?_)
       clear hK
       (try simp only [p0, p1, p2, p3])
       refine pT 6 ?_
       (try simp only [p0, p1, p2, p3])
       refine pR1 7 (fun K hK => ?_)
       obtain ⟨c38, c39, c40, c41, c42, c43, c44, c45⟩ := K30.c8
       obtain ⟨c46, c47, c48, c49, c50, c51, c52, c53⟩ := Z31.f8
       go_simp
       clear c38 c39 c40 c41 c42 c43 c44 c45 c46 c47 c48 c49 c50 c51 c52 c53
       obtain ⟨V54, hk56⟩ : ∃ V54, V54 = V8.setCells (b34) 0 [.bool y1.Y.n, .slice y1.Y.A y1.Y.xs.length y1.Y.c, .bool y1.Y.m, .slice y1.Y.B y1.Y.ds.length y1.Y.d, .bool y1.U.n, .slice y1.U.A y1.U.xs.length y1.U.c, .bool y1.U.m, .slice y1.U.B y1.U.ds.length y1.U.d] := ⟨_, rfl⟩
       have e55 := hk56
       simp only [World.setCells, Nat.zero_add, Nat.reduceAdd] at e55
       have hk57 := Kept.overE hk56 K30 rfl (Nat.le_of_ble_eq_true rfl)
       replace K4 := K4.awayE hk56 n32
       replace K30 := K30.overE hk56 rfl
       replace KH := KH.awayE hk56 n37.symm
       replace Z5 := Z5.putE hk56
       replace Z31 := Z31.putE hk56
       replace ZH := ZH.putE hk56
       replace Y := Y.kp hk57
       replace L1 := L1.kp hk57
       replace BW := Below.putE BW hk56 g33
       clear hk56 hk57
       replace K30 : Box V54 (b34) (ycs y1) := K30
       rw [← e55]
       clear e55
       clear hHeld
       refine hK.out _ _ (by exact K4.cs) (fun hHeld => ?_)
       clear hK
       (try simp only [p0, p1, p2, p3])
       refine wpAnyH_done (by kernel_rfl) (NoPanic.normal ?_) _
       go_wp2
       go_meet
       exact ⟨h, b34, y1, rfl, rfl, BW, L1, KH, ZH, gh, K30, Z31, g33, n37.symm⟩
 case rest =>
   obtain ⟨h, g, y1, rfl, rfl, BW, L1, KH, ZH, gh, KG, ZG, gg, hgn⟩ := hcut
   go_wp2_with fail
   go_loopw [34] (fun iv wr => ∃ (k : Nat) (xs : List Yv) (yk : Yv), iv = .int .i64 (k : Nat) ∧ k ≤ es.length ∧ xs.length = es.length ∧ RaysAt wr zs r xs k ∧ Box wr h (xs.flatMap ycs) ∧ Fz wr h ∧ Gy wr (rayAt zs r k) yk 2050 ∧ Box wr g (ycs yk) ∧ Fz wr g ∧ Below w.heap.size w wr) (fun iv _ => es.length - (intOf iv).toNat)
   case atStart => exact ⟨0, List.replicate es.length yv0, y1, rfl, by omega, by simp, fun i y hi => by omega, KH, ZH, (by rw [rayAt_zero]; exact L1.mono (by decide)), KG, ZG, BW⟩
   case round =>
     obtain ⟨k, xs, yk, rfl, hk, hxl, hG, KH, ZH, LY, KG, ZG, BW⟩ := hrel
     have HG := Lib.hid hG
     have HXL := Lib.hid hxl
     clear hG hxl
     by_cases hlt : k < es.length
     · have h2 : (k : Int) < (es.length : Int) := by omega
       obtain ⟨e, he⟩ : ∃ e, es[k]? = some e := ⟨_, List.getElem?_eq_getElem hlt⟩
       obtain ⟨z, hz⟩ : ∃ z, zs[k]? = some z := ⟨_, List.getElem?_eq_getElem (by rw [HF.out.1]; exact hlt)⟩
       obtain ⟨ge, o, ha, hge, hat0⟩ := HS.out.2.2.2 k e he
       have hat : AtB wr ge (o + k * 9) [.int .u8 e.k, .bool e.P.n, .slice e.P.A e.P.xs.length e.P.c, .bool e.P.m, .slice e.P.B e.P.ds.length e.P.d, .bool e.Q.n, .slice e.Q.A e.Q.xs.length e.Q.c, .bool e.Q.m, .slice e.Q.B e.Q.ds.length e.Q.d] := hat0.on hge BW
       have X := (HF.out.2 k z e hz he).1.kp (Kept.of BW)
       have HM := Lib.hid (HF.out.2 k z e hz he).2
       have HZ := Lib.hid hz
       clear hat0 he hz
       subst ha
       have KP : Kept wr wr := Kept.of (Below.refl _ _)
       obtain ⟨V501, e502, hb503, K504, -, -⟩ := alloc_new wr [.int .u8 e.k, .bool e.P.n, .slice e.P.A e.P.xs.length e.P.c, .bool e.P.m, .slice e.P.B e.P.ds.length e.P.d, .bool e.Q.n, .slice e.Q.A e.Q.xs.length e.Q.c, .bool e.Q.m, .slice e.Q.B e.Q.ds.length e.Q.d] 58
       have n505 : h ≠ wr.heap.size := Nat.ne_of_lt (KH.lt)
       have n506 : g ≠ wr.heap.size := Nat.ne_of_lt (KG.lt)
       replace KH := KH.on hb503
       replace KG := KG.on hb503
       replace ZH := ZH.on hb503
       replace ZG := ZG.on hb503
       replace X := X.kp (Kept.of hb503)
       replace KP := KP.kp (Kept.of hb503)
       replace LY := LY.kp (Kept.of hb503)
       replace BW := BW.trans (hb503.mono BW.size)
       clear hb503
       go_wp2_with (first | (refine wpList_ldE (by rfl) (by rfl) (by rfl) hat (by rfl) ?_))
       rw [← e502]
       clear e502
       generalize wr.heap.size = b507 at *
       go_wp2_with fail
       go_cut [] (fun wx => ∃ (y2 : Yv), Below w.heap.size w wx ∧ Kept wr wx ∧ Gy wx (rayAt zs r (k + 1)) y2 8208 ∧ Box wx h (xs.flatMap ycs) ∧ Fz wx h ∧ Box wx g (ycs y2) ∧ Fz wx g)
       case first =>
         refine wp_region_noPanic ?_
         have hb : Below V501.heap.size V501 V501.drew := (Below.refl _ _).drew
         replace KH := KH.on hb
         replace KG := KG.on hb
         replace K504 := K504.on hb
         replace ZH := ZH.on hb
         replace ZG := ZG.on hb
         replace X := X.kp (Kept.of hb)
         replace KP := KP.kp (Kept.of hb)
         replace LY := LY.kp (Kept.of hb)
         replace BW := BW.trans (hb.mono BW.size)
         clear hb
         refine wp_region_held_drew (S := (fun wx => Cs wx (b507) 0 [.int .u8 e.k, .bool e.P.n, .slice e.P.A e.P.xs.length e.P.c, .bool e.P.m, .slice e.P.B e.P.ds.length e.P.d, .bool e.Q.n, .slice e.Q.A e.Q.xs.length e.Q.c, .bool e.Q.m, .slice e.Q.B e.Q.ds.length e.Q.d])) (by kernel_rfl) (by exact K504.cs) (fun hHeld => ?_)
         generalize V501.drew = Vd508 at *
         refine pT 0 ?_
         (try simp only [p0, p1, p2, p3])
         refine pR2 1 2 (fun K hK => ?_) (fun K hK => ?_)
         · go_simp
           (go_at_call 61; with_reducible refine (b_matrix X HM.out).mono ?_)
           rintro _ w509 ⟨f, rfl, L, hb⟩
           (try go_wp2_with fail)
           replace KH := KH.on hb
           replace KG := KG.on hb
           replace K504 := K504.on hb
           replace ZH := ZH.on hb
           replace ZG := ZG.on hb
           replace X := X.kp (Kept.of hb)
           replace KP := KP.kp (Kept.of hb)
           replace LY := LY.kp (Kept.of hb)
           replace BW := BW.trans (hb.mono BW.size)
           clear hb
           clear hHeld
           refine hK.out _ _ (by exact K504.cs) (fun hHeld => ?_)
           clear hK
           (try simp only [p0, p1, p2, p3])
           refine pR1 2 (fun K hK => ?_)
           obtain ⟨c510, c511, c512, c513, c514, c515, c516, c517⟩ := KG.c8
           go_simp
           clear c510 c511 c512 c513 c514 c515 c516 c517
           clear hHeld
           refine hK.out _ _ (by exact K504.cs) (fun hHeld => ?_)
           clear hK
           (try simp only [p0, p1, p2, p3])
           refine pR1 3 (fun K hK => ?_)
           go_simp
           (go_at_call 62; with_reducible refine (b_thr L LY (by decide)).mono ?_)
           rintro _ w518 ⟨y2, rfl, L2, hb⟩
           (try go_wp2_with fail)
           replace KH := KH.on hb
           replace KG := KG.on hb
           replace K504 := K504.on hb
           replace ZH := ZH.on hb
           replace ZG := ZG.on hb
           replace X := X.kp (Kept.of hb)
           replace KP := KP.kp (Kept.of hb)
           replace LY := LY.kp (Kept.of hb)
           replace L := L.kp (Kept.of hb)
           replace BW := BW.trans (hb.mono BW.size)
           clear hb
           clear hHeld
           refine hK.out _ _ (by exact K504.cs) (fun hHeld => ?_)
           clear hK
           (try simp only [p0, p1, p2, p3])
           refine pR1 4 (fun K hK => ?_)
           obtain ⟨c519, c520, c521, c522, c523, c524, c525, c526⟩ := KG.c8
           obtain ⟨c527, c528, c529, c530, c531, c532, c533, c534⟩ := ZG.f8
           go_simp
           clear c519 c520 c521 c522 c523 c524 c525 c526 c527 c528 c529 c530 c531 c532 c533 c534
           obtain ⟨V535, hk537⟩ : ∃ V535, V535 = w518.setCells (g) 0 [.bool y2.Y.n, .slice y2.Y.A y2.Y.xs.length y2.Y.c, .bool y2.Y.m, .slice y2.Y.B y2.Y.ds.length y2.Y.d, .bool y2.U.n, .slice y2.U.A y2.U.xs.length y2.U.c, .bool y2.U.m, .slice y2.U.B y2.U.ds.length y2.U.d] := ⟨_, rfl⟩
           have e536 := hk537
           simp only [World.setCells, Nat.zero_add, Nat.reduceAdd] at e536
           have hk538 := Kept.overE hk537 KG rfl (Nat.le_of_ble_eq_true rfl)
           replace KH := KH.awayE hk537 hgn
           replace KG := KG.overE hk537 rfl
           replace K504 := K504.awayE hk537 n506.symm
           replace ZH := ZH.putE hk537
           replace ZG := ZG.putE hk537
           replace X := X.kp hk538
           replace KP := KP.kp hk538
           replace LY := LY.kp hk538
           replace L := L.kp hk538
           replace L2 := L2.kp hk538
           replace BW := Below.putE BW hk537 gg
           clear hk537 hk538
           replace KG : Box V535 (g) (ycs y2) := KG
           rw [← e536]
           clear e536
           clear hHeld
           refine hK.out _ _ (by exact K504.cs) (fun hHeld => ?_)
           clear hK
           (try simp only [p0, p1, p2, p3])
           refine wpAnyH_done (by kernel_rfl) (NoPanic.normal ?_) _
           go_wp2
           go_meet
           exact ⟨y2, BW, KP, (by rw [rayAt_succ HZ.out]; exact L2.mono (by decide)), KH, ZH, KG, ZG⟩
         · obtain ⟨c509, c510, c511, c512, c513, c514, c515, c516⟩ := KG.c8
           go_simp
           clear c509 c510 c511 c512 c513 c514 c515 c516
           clear hHeld
           refine hK.out _ _ (by exact K504.cs) (fun hHeld => ?_)
           clear hK
           (try simp only [p0, p1, p2, p3])
           refine pR1 1 (fun K hK => ?_)
           go_simp
           (go_at_call 61; with_reducible refine (b_matrix X HM.out).mono ?_)
           rintro _ w517 ⟨f, rfl, L, hb⟩
           (try go_wp2_with fail)
           replace KH := KH.on hb
           replace KG := KG.on hb
           replace K504 := K504.on hb
           replace ZH := ZH.on hb
           replace ZG := ZG.on hb
           replace X := X.kp (Kept.of hb)
           replace KP := KP.kp (Kept.of hb)
           replace LY := LY.kp (Kept.of hb)
           replace BW := BW.trans (hb.mono BW.size)
           clear hb
           clear hHeld
           refine hK.out _ _ (by exact K504.cs) (fun hHeld => ?_)
           clear hK
           (try simp only [p0, p1, p2, p3])
           refine pR1 3 (fun K hK => ?_)
           go_simp
           (go_at_call 62; with_reducible refine (b_thr L LY (by decide)).mono ?_)
           rintro _ w518 ⟨y2, rfl, L2, hb⟩
           (try go_wp2_with fail)
           replace KH := KH.on hb
           replace KG := KG.on hb
           replace K504 := K504.on hb
           replace ZH := ZH.on hb
           replace ZG := ZG.on hb
           replace X := X.kp (Kept.of hb)
           replace KP := KP.kp (Kept.of hb)
           replace LY := LY.kp (Kept.of hb)
           replace L := L.kp (Kept.of hb)
           replace BW := BW.trans (hb.mono BW.size)
           clear hb
           clear hHeld
           refine hK.out _ _ (by exact K504.cs) (fun hHeld => ?_)
           clear hK
           (try simp only [p0, p1, p2, p3])
           refine pR1 4 (fun K hK => ?_)
           obtain ⟨c519, c520, c521, c522, c523, c524, c525, c526⟩ := KG.c8
           obtain ⟨c527, c528, c529, c530, c531, c532, c533, c534⟩ := ZG.f8
           go_simp
           clear c519 c520 c521 c522 c523 c524 c525 c526 c527 c528 c529 c530 c531 c532 c533 c534
           obtain ⟨V535, hk537⟩ : ∃ V535, V535 = w518.setCells (g) 0 [.bool y2.Y.n, .slice y2.Y.A y2.Y.xs.length y2.Y.c, .bool y2.Y.m, .slice y2.Y.B y2.Y.ds.length y2.Y.d, .bool y2.U.n, .slice y2.U.A y2.U.xs.length y2.U.c, .bool y2.U.m, .slice y2.U.B y2.U.ds.length y2.U.d] := ⟨_, rfl⟩
           have e536 := hk537
           simp only [World.setCells, Nat.zero_add, Nat.reduceAdd] at e536
           have hk538 := Kept.overE hk537 KG rfl (Nat.le_of_ble_eq_true rfl)
           replace KH := KH.awayE hk537 hgn
           replace KG := KG.overE hk537 rfl
           replace K504 := K504.awayE hk537 n506.symm
           replace ZH := ZH.putE hk537
           replace ZG := ZG.putE hk537
           replace X := X.kp hk538
           replace KP := KP.kp hk538
           replace LY := LY.kp hk538
           replace L := L.kp hk538
           replace L2 := L2.kp hk538
           replace BW := Below.putE BW hk537 gg
           clear hk537 hk538
           replace KG : Box V535 (g) (ycs y2) := KG
           rw [← e536]
           clear e536
           clear hHeld
           refine hK.out _ _ (by exact K504.cs) (fun hHeld => ?_)
           clear hK
           (try simp only [p0, p1, p2, p3])
           refine wpAnyH_done (by kernel_rfl) (NoPanic.normal ?_) _
           go_wp2
           go_meet
           exact ⟨y2, BW, KP, (by rw [rayAt_succ HZ.out]; exact L2.mono (by decide)), KH, ZH, KG, ZG⟩
       case rest =>
         obtain ⟨y2, BW, KP, LY, KH, ZH, KG, ZG⟩ := hcut
         obtain ⟨c801, c802, c803, c804, c805, c806, c807, c808⟩ := KG.c8
         go_wp2_with fail
         clear c801 c802 c803 c804 c805 c806 c807 c808
         refine (b_fitY LY (by decide)).mono ?_
         rintro _ w809 ⟨f, e1, rfl, hy, hb⟩
         replace KH := KH.on hb
         replace KG := KG.on hb
         replace ZH := ZH.on hb
         replace ZG := ZG.on hb
         replace KP := KP.kp (Kept.of hb)
         replace LY := LY.kp (Kept.of hb)
         replace BW := BW.trans (hb.mono BW.size)
         clear hb
         have hl8 : k * 8 + (ycs f).length ≤ (xs.flatMap ycs).length := by rw [flat_len ycs_len, ycs_len, HXL.out]; omega
         obtain ⟨V9, hk9⟩ : ∃ V9, V9 = w809.setCells h (k * 8) (ycs f) := ⟨_, rfl⟩
         have HK9 := Lib.hid hk9
         have KH0 := KH
         have ZH0 := ZH
         obtain ⟨KH9, kp9⟩ := rowY_set (xs := xs) (k := k) KH (by rw [HXL.out]; exact hlt) hk9
         replace ZH := ZH.putE hk9
         replace KG := KG.awayE hk9 hgn.symm
         replace ZG := ZG.putE hk9
         replace BW := Below.putE BW hk9 gh
         rcases hy with ⟨rfl, hF, Ly⟩ | ⟨rfl, hN⟩
         · have hf1 := (show FitsY (rayAt zs r (k + 1)) from hF)
           have LYn := ((LY.kp kp9).reset hf1).mono (show 1024 ≤ 2050 by decide)
           have HG9 := Lib.hid (RaysAt.step (k := k) HG.out (KP.trans kp9) (Ly.kp kp9))
           clear hk9 kp9 LY KP Ly hF hf1
           go_wp2_with (first | (refine wpList_stYO (vs := ycs f) (by rfl) (by rfl) (by rfl) (by rfl) KH0 ZH0 hl8 (by rfl) (by rfl) ?_; rw [← HK9.out]))
           go_roundw
           case rel => exact ⟨k + 1, xs.set k f, y2, by go_num, by omega, by rw [List.length_set]; exact HXL.out, HG9.out, KH9, ZH, LYn, KG, ZG, BW⟩
           case measure => simp [intOf]; omega
         · clear hk9 kp9 LY KP
           go_wp2_with (first | (refine wpList_stYO (vs := ycs f) (by rfl) (by rfl) (by rfl) (by rfl) KH0 ZH0 hl8 (by rfl) (by rfl) ?_; rw [← HK9.out]))
           exact bodyPost_ret (v := .tuple #[.slice none 0 0, .int .i64 4]) (by simp [results, Tryz.results24, go_sem]) rfl ⟨_, _, rfl, .inr ⟨rfl, rfl, k, hlt, hN⟩, BW⟩
     · obtain rfl : k = es.length := by omega
       go_wp2_with fail
       exact bodyPost_ret (v := .tuple #[.slice (some ⟨h, 0, none⟩) es.length es.length, .int .i64 0]) (by simp [results, Tryz.results24, go_sem]) rfl ⟨_, _, rfl, .inl ⟨rfl, h, xs, rfl, HXL.out, HG.out, KH⟩, BW⟩
end Go.Proofs.YtjamfkafgfpobaaGreat
