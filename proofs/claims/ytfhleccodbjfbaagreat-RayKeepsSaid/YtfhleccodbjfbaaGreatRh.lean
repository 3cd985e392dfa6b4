/-
  What the statements' own functions return: behind, may, less, turned, SameRay, alive. Conditions: as each theorem states.
-/
import Derived.Test.YtfhleccodbjfbaaGreatRg
import Derived.Test.YtfhleccodbjfbaaGreatRlb
import Derived.Deep.RegionHeld3
import Derived.Deep.DeepCutAuto
import Derived.BigRegion
namespace Go.Proofs.YtfhleccodbjfbaaGreat
open Go.RowKit Nb
set_option maxHeartbeats 8000000 in
set_option maxRecDepth 20000 in
theorem y_behind {q r : Mq} {m n : Mv} {g : Nat} {w : World} (Fm1 : Fm w q m) (Fn1 : Fm w r n) (hd1 : q.det = 1) (hd2 : r.det = 1) (Kg : Box w g [.bool true]) (Zg : Fz w g) (hf : FitsM (q.mul r)) :
    Calls Tryz.prog 13 #[mv m, mv n, .pointer (some ⟨g, 0, none⟩)] w (fun e w' => ∃ f : Mv, e = .returned (mv f) ∧ Fm w' (q.mul r) f ∧ Below w.heap.size w w') := by
 have HF := Lib.hid hf
 have HD := Lib.hid (Mq.det_mul hd1 hd2)
 clear hf
 have BW : Below w.heap.size w w := Below.refl _ _
 obtain ⟨V2, e3, hb4, K5, -, z1⟩ := alloc_new w [.bool m.A.n, .slice m.A.A m.A.xs.length m.A.c, .bool m.A.m, .slice m.A.B m.A.ds.length m.A.d, .bool m.B.n, .slice m.B.A m.B.xs.length m.B.c, .bool m.B.m, .slice m.B.B m.B.ds.length m.B.d, .bool m.C.n, .slice m.C.A m.C.xs.length m.C.c, .bool m.C.m, .slice m.C.B m.C.ds.length m.C.d, .bool m.D.n, .slice m.D.A m.D.xs.length m.D.c, .bool m.D.m, .slice m.D.B m.D.ds.length m.D.d] 28
 replace K5 : Box V2 (w.heap.size) (mcs m) := K5
 have n6 : g ≠ w.heap.size := Nat.ne_of_lt (Kg.lt)
 replace Kg := Kg.on hb4
 replace Zg := Zg.on hb4
 replace Fm1 := Fm1.kp (Kept.of hb4)
 replace Fn1 := Fn1.kp (Kept.of hb4)
 replace BW := BW.trans (hb4.mono BW.size)
 clear hb4
 obtain ⟨V8, e9, hb10, K11, -, z7⟩ := alloc_new V2 [.bool n.A.n, .slice n.A.A n.A.xs.length n.A.c, .bool n.A.m, .slice n.A.B n.A.ds.length n.A.d, .bool n.B.n, .slice n.B.A n.B.xs.length n.B.c, .bool n.B.m, .slice n.B.B n.B.ds.length n.B.d, .bool n.C.n, .slice n.C.A n.C.xs.length n.C.c, .bool n.C.m, .slice n.C.B n.C.ds.length n.C.d, .bool n.D.n, .slice n.D.A n.D.xs.length n.D.c, .bool n.D.m, .slice n.D.B n.D.ds.length n.D.d] 28
 rw [z1] at K11 z7
 replace K11 : Box V8 (w.heap.size + 1) (mcs n) := K11
 have n12 : g ≠ w.heap.size + 1 := Nat.ne_of_lt (z1 ▸ Kg.lt)
 replace Kg := Kg.on hb10
 replace K5 := K5.on hb10
 replace Zg := Zg.on hb10
 replace Fm1 := Fm1.kp (Kept.of hb10)
 replace Fn1 := Fn1.kp (Kept.of hb10)
 replace BW := BW.trans (hb10.mono BW.size)
 clear hb10
 obtain ⟨V13, e14, hb15, K16, Z17, -⟩ := alloc_new V8 [.bool false, .slice none 0 0, .bool false, .slice none 0 0, .bool false, .slice none 0 0, .bool false, .slice none 0 0, .bool false, .slice none 0 0, .bool false, .slice none 0 0, .bool false, .slice none 0 0, .bool false, .slice none 0 0] 28
 rw [z7] at K16 Z17
 replace K16 : Box V13 (w.heap.size + 1 + 1) (zcs16) := K16
 have n18 : g ≠ w.heap.size + 1 + 1 := Nat.ne_of_lt (z7 ▸ Kg.lt)
 have n19 : w.heap.size ≠ w.heap.size + 1 + 1 := Nat.ne_of_lt (z7 ▸ K5.lt)
 have n20 : w.heap.size + 1 ≠ w.heap.size + 1 + 1 := Nat.ne_of_lt (z7 ▸ K11.lt)
 have g21 : w.heap.size ≤ w.heap.size + 1 + 1 := z7 ▸ BW.size
 replace Kg := Kg.on hb15
 replace K5 := K5.on hb15
 replace K11 := K11.on hb15
 replace Zg := Zg.on hb15
 replace Fm1 := Fm1.kp (Kept.of hb15)
 replace Fn1 := Fn1.kp (Kept.of hb15)
 replace BW := BW.trans (hb15.mono BW.size)
 clear hb15
 clear z1 z7
 go_enter Tryz.func13, Tryz.ntmps13
 go_upto_region 1 with fail
 rw [← e3, ← e9, ← e14]
 clear e3 e9 e14
 have c22 : Box V13 (w.heap.size) [.bool m.A.n, .slice m.A.A m.A.xs.length m.A.c, .bool m.A.m, .slice m.A.B m.A.ds.length m.A.d, .bool m.B.n, .slice m.B.A m.B.xs.length m.B.c, .bool m.B.m, .slice m.B.B m.B.ds.length m.B.d, .bool m.C.n, .slice m.C.A m.C.xs.length m.C.c, .bool m.C.m, .slice m.C.B m.C.ds.length m.C.d, .bool m.D.n, .slice m.D.A m.D.xs.length m.D.c, .bool m.D.m, .slice m.D.B m.D.ds.length m.D.d] := K5
 have c23 : Box V13 (w.heap.size + 1) [.bool n.A.n, .slice n.A.A n.A.xs.length n.A.c, .bool n.A.m, .slice n.A.B n.A.ds.length n.A.d, .bool n.B.n, .slice n.B.A n.B.xs.length n.B.c, .bool n.B.m, .slice n.B.B n.B.ds.length n.B.d, .bool n.C.n, .slice n.C.A n.C.xs.length n.C.c, .bool n.C.m, .slice n.C.B n.C.ds.length n.C.d, .bool n.D.n, .slice n.D.A n.D.xs.length n.D.c, .bool n.D.m, .slice n.D.B n.D.ds.length n.D.d] := K11
 go_wp2_with (first | (refine wpList_ldM (by rfl) (by rfl) (by rfl) c22 (by rfl) ?_) | (refine wpList_ldM (by rfl) (by rfl) (by rfl) c23 (by rfl) ?_))
 clear c22 c23
 refine (y_Mul Fm1 Fn1 hd1 hd2).mono ?_
 rintro _ w24 ⟨f, e1, rfl, h, hb⟩
 replace Kg := Kg.on hb
 replace K5 := K5.on hb
 replace K11 := K11.on hb
 replace K16 := K16.on hb
 replace Zg := Zg.on hb
 replace Z17 := Z17.on hb
 replace BW := BW.trans (hb.mono BW.size)
 clear hb
 obtain ⟨rfl, L⟩ := h.yes HF.out
 clear h
 obtain ⟨V25, e26, hb27, K28, Z29, -⟩ := alloc_new w24 [.bool f.A.n, .slice f.A.A f.A.xs.length f.A.c, .bool f.A.m, .slice f.A.B f.A.ds.length f.A.d, .bool f.B.n, .slice f.B.A f.B.xs.length f.B.c, .bool f.B.m, .slice f.B.B f.B.ds.length f.B.d, .bool f.C.n, .slice f.C.A f.C.xs.length f.C.c, .bool f.C.m, .slice f.C.B f.C.ds.length f.C.d, .bool f.D.n, .slice f.D.A f.D.xs.length f.D.c, .bool f.D.m, .slice f.D.B f.D.ds.length f.D.d] 28
 replace K28 : Box V25 (w24.heap.size) (mcs f) := K28
 have n30 : g ≠ w24.heap.size := Nat.ne_of_lt (Kg.lt)
 have n31 : w.heap.size ≠ w24.heap.size := Nat.ne_of_lt (K5.lt)
 have n32 : w.heap.size + 1 ≠ w24.heap.size := Nat.ne_of_lt (K11.lt)
 have n33 : w.heap.size + 1 + 1 ≠ w24.heap.size := Nat.ne_of_lt (K16.lt)
 have g34 : w.heap.size ≤ w24.heap.size := BW.size
 replace Kg := Kg.on hb27
 replace K16 := K16.on hb27
 replace Zg := Zg.on hb27
 replace Z17 := Z17.on hb27
 replace L := L.kp (Kept.of hb27)
 replace BW := BW.trans (hb27.mono BW.size)
 clear hb27
 go_upto_region 2 with fail
 rw [← e26]
 clear e26
 generalize w24.heap.size = b35 at *
 have c36 := Kg.c1
 have c37 : Box V25 (b35) [.bool f.A.n, .slice f.A.A f.A.xs.length f.A.c, .bool f.A.m, .slice f.A.B f.A.ds.length f.A.d, .bool f.B.n, .slice f.B.A f.B.xs.length f.B.c, .bool f.B.m, .slice f.B.B f.B.ds.length f.B.d, .bool f.C.n, .slice f.C.A f.C.xs.length f.C.c, .bool f.C.m, .slice f.C.B f.C.ds.length f.C.d, .bool f.D.n, .slice f.D.A f.D.xs.length f.D.c, .bool f.D.m, .slice f.D.B f.D.ds.length f.D.d] := K28
 go_wp2_with (first | (refine wpList_ldG (by rfl) (by rfl) (by rfl) c37 (by rfl) ?_))
 clear c36 c37
 refine (y_check0 L HD.out).mono ?_
 rintro _ w38 ⟨rfl, hb⟩
 replace Kg := Kg.on hb
 replace K16 := K16.on hb
 replace K28 := K28.on hb
 replace Zg := Zg.on hb
 replace Z17 := Z17.on hb
 replace L := L.kp (Kept.of hb)
 replace BW := BW.trans (hb.mono BW.size)
 clear hb
 have c39 := Kg.c1
 have c40 := Zg.f1
 have e41 : Hid (w38 = w38.setCell ⟨g, 0, none⟩ (.bool true)) := Lib.hid (setCell_id (Kg.c 0 _ rfl)).symm
 go_upto_region 3 with fail
 clear c39 c40
 rw [← e41.out]
 clear e41
 have c42 := K28
 have c43 := Lib.hid (st16 (P := Tryz.prog) (vs := mcs f) K16 Z17 rfl rfl)
 obtain ⟨V44, hk46⟩ : ∃ V44, V44 = w38.setCells (w.heap.size + 1 + 1) 0 (mcs f) := ⟨_, rfl⟩
 have e45 := Lib.hid hk46
 have hk47 := Kept.overE hk46 K16 rfl (Nat.le_of_ble_eq_true rfl)
 replace K16 := K16.overE hk46 rfl
 replace L := L.kp hk47
 replace BW := Below.putE BW hk46 g21
 clear hk46 hk47
 replace K16 : Box V44 (w.heap.size + 1 + 1) (mcs f) := K16
 go_wp2_with (first | (refine wpList_ldM (by rfl) (by rfl) (by rfl) c42 (by rfl) ?_))
 rw [c43.out, ← e45.out]
 go_wp2_with fail
 clear c43 e45
 clear c42
 exact bodyPost_ret (v := mv f) (res_M Tryz.results13 (by rfl) K16 rfl) rfl ⟨f, rfl, L, BW⟩
set_option maxHeartbeats 16000000 in
set_option maxRecDepth 100000 in
theorem y_may2 {m n : Mv} {g l : Nat} {w : World} (Vm : Xm w m) (Vn : Xm w n) (K : Box w g [.bool m.A.n, .slice m.A.A m.A.xs.length m.A.c, .bool m.A.m, .slice m.A.B m.A.ds.length m.A.d, .bool m.B.n, .slice m.B.A m.B.xs.length m.B.c, .bool m.B.m, .slice m.B.B m.B.ds.length m.B.d, .bool m.C.n, .slice m.C.A m.C.xs.length m.C.c, .bool m.C.m, .slice m.C.B m.C.ds.length m.C.d, .bool m.D.n, .slice m.D.A m.D.xs.length m.D.c, .bool m.D.m, .slice m.D.B m.D.ds.length m.D.d, .bool n.A.n, .slice n.A.A n.A.xs.length n.A.c, .bool n.A.m, .slice n.A.B n.A.ds.length n.A.d, .bool n.B.n, .slice n.B.A n.B.xs.length n.B.c, .bool n.B.m, .slice n.B.B n.B.ds.length n.B.d, .bool n.C.n, .slice n.C.A n.C.xs.length n.C.c, .bool n.C.m, .slice n.C.B n.C.ds.length n.C.d, .bool n.D.n, .slice n.D.A n.D.xs.length n.D.c, .bool n.D.m, .slice n.D.B n.D.ds.length n.D.d]) :
    Calls Tryz.prog 10 #[.slice (some ⟨g, 0, none⟩) 2 l] w (fun ee w' => ∃ r : Bool, ee = .returned (.bool r) ∧ (r = true → (MayM w m ∧ msz m ≤ 600) ∧ (MayM w n ∧ msz n ≤ 600)) ∧ Below w.heap.size w w') := by
 have HK := Lib.hid K
 have Cm := Lib.hid (fun (W : World) (h : Xm W m) => y_msize h)
 have Dm := Lib.hid (fun (W : World) (h : Xm W m) => y_check h)
 have HXm := Lib.hid Vm
 have Cn := Lib.hid (fun (W : World) (h : Xm W n) => y_msize h)
 have Dn := Lib.hid (fun (W : World) (h : Xm W n) => y_check h)
 have HXn := Lib.hid Vn
 generalize hsm : msz m = sm at *
 generalize hsn : msz n = sn at *
 have at0 : AtB w g 0 (mcs m) := Box.at_mid (l := []) (r := mcs n) (show Box w g (([]) ++ (mcs m ++ (mcs n))) from K) rfl
 clear K hsm hsn
 have hb0 : Below w.heap.size w w := Below.refl _ _
 go_enter Tryz.func10, Tryz.ntmps10
 go_wp2
 refine wp_loop_rounds 3 ?_
 rw [rounds_succ]
 go_wp2_with (first | (refine wpList_ldO (by rfl) (by rfl) (by rfl) at0 (by rfl) ?_))
 refine (Cm.out _ (HXm.out.kp (Kept.of hb0))).mono ?_
 rintro e w1 ⟨rfl, hb⟩
 have hb1 := hb0.trans (hb.mono hb0.size)
 clear hb
 clear at0
 have K1 := HK.out.on hb1
 have at1 : AtB w1 g 0 (mcs m) := Box.at_mid (l := []) (r := mcs n) (show Box w1 g (([]) ++ (mcs m ++ (mcs n))) from K1) rfl
 clear K1
 by_cases hm : 600 < sm
 · go_wp2
   go_ret
   exact ⟨false, rfl, fun h => (by cases h), hb1⟩
 · have hq : decide (600 < sm) = false := by simp; omega
   go_wp2_with (first | (refine wpList_ldO (by first | rfl | simp [Region.wanted, yielded]) (by rfl) (by rfl) at1 (by rfl) ?_))
   clear hq
   refine (Dm.out _ (HXm.out.kp (Kept.of hb1))).mono ?_
   rintro e w2 ⟨r, rfl, hr, hb⟩
   have hb2 := hb1.trans (hb.mono hb1.size)
   clear hb
   clear at1
   have K2 := HK.out.on hb2
   have at2 : AtB w2 g 16 (mcs n) := Box.at_mid (l := mcs m) (r := []) (show Box w2 g ((mcs m) ++ (mcs n ++ ([]))) from K2) rfl
   clear K2
   rcases hr with ⟨rfl, hmm⟩ | ⟨rfl, hmm⟩
   · have HMm := Lib.hid hmm
     clear hmm
     go_wp2
     rw [rounds_succ]
     go_wp2_with (first | (refine wpList_ldO (by rfl) (by rfl) (by rfl) at2 (by rfl) ?_))
     refine (Cn.out _ (HXn.out.kp (Kept.of hb2))).mono ?_
     rintro e w3 ⟨rfl, hb⟩
     have hb3 := hb2.trans (hb.mono hb2.size)
     clear hb
     clear at2
     have K3 := HK.out.on hb3
     have at3 : AtB w3 g 16 (mcs n) := Box.at_mid (l := mcs m) (r := []) (show Box w3 g ((mcs m) ++ (mcs n ++ ([]))) from K3) rfl
     clear K3
     by_cases hn : 600 < sn
     · go_wp2
       go_ret
       exact ⟨false, rfl, fun h => (by cases h), hb3⟩
     · have hq : decide (600 < sn) = false := by simp; omega
       go_wp2_with (first | (refine wpList_ldO (by first | rfl | simp [Region.wanted, yielded]) (by rfl) (by rfl) at3 (by rfl) ?_))
       clear hq
       refine (Dn.out _ (HXn.out.kp (Kept.of hb3))).mono ?_
       rintro e w4 ⟨r, rfl, hr, hb⟩
       have hb4 := hb3.trans (hb.mono hb3.size)
       clear hb
       clear at3
       rcases hr with ⟨rfl, hmn⟩ | ⟨rfl, hmn⟩
       · have HMn := Lib.hid hmn
         clear hmn
         go_wp2
         rw [rounds_succ]
         go_wp2
         go_ret
         exact ⟨true, rfl, fun _ => ⟨⟨MayM.at HXm.out HMm.out, by omega⟩, ⟨MayM.at HXn.out HMn.out, by omega⟩⟩, hb4⟩
       · go_wp2
         go_ret
         exact ⟨false, rfl, fun h => (by cases h), hb4⟩
   · go_wp2
     go_ret
     exact ⟨false, rfl, fun h => (by cases h), hb2⟩
set_option maxHeartbeats 8000000 in
set_option maxRecDepth 20000 in
theorem y_less {q p : Rat} {a b : Fv} {w : World} (La : Ff w q a) (Lb : Ff w p b) (hf : FitsQ (q - p)) :
    Calls Tryz.prog 17 #[fv a, fv b] w (GF w (q - p)) := by
 have HF := Lib.hid hf
 clear hf
 have BW : Below w.heap.size w w := Below.refl _ _
 obtain ⟨V2, e3, hb4, K5, -, z1⟩ := alloc_new w [.bool a.n, .slice a.A a.xs.length a.c, .bool a.m, .slice a.B a.ds.length a.d] 26
 replace La := La.kp (Kept.of hb4)
 replace Lb := Lb.kp (Kept.of hb4)
 replace BW := BW.trans (hb4.mono BW.size)
 clear hb4
 obtain ⟨V7, e8, hb9, K10, -, z6⟩ := alloc_new V2 [.bool b.n, .slice b.A b.xs.length b.c, .bool b.m, .slice b.B b.ds.length b.d] 26
 rw [z1] at K10 z6
 replace K5 := K5.on hb9
 replace La := La.kp (Kept.of hb9)
 replace Lb := Lb.kp (Kept.of hb9)
 replace BW := BW.trans (hb9.mono BW.size)
 clear hb9
 obtain ⟨V11, e12, hb13, K14, Z15, -⟩ := alloc_new V7 [.bool false, .slice none 0 0, .bool false, .slice none 0 0] 26
 rw [z6] at K14 Z15
 have n16 : w.heap.size ≠ w.heap.size + 1 + 1 := Nat.ne_of_lt (z6 ▸ K5.lt)
 have n17 : w.heap.size + 1 ≠ w.heap.size + 1 + 1 := Nat.ne_of_lt (z6 ▸ K10.lt)
 have g18 : w.heap.size ≤ w.heap.size + 1 + 1 := z6 ▸ BW.size
 replace La := La.kp (Kept.of hb13)
 replace Lb := Lb.kp (Kept.of hb13)
 replace BW := BW.trans (hb13.mono BW.size)
 clear hb13
 clear z1 z6
 go_enter Tryz.func17, Tryz.ntmps17
 go_wp2_with fail
 rw [← e3, ← e8, ← e12]
 clear e3 e8 e12
 refine (r_sub La Lb).mono ?_
 rintro _ w19 ⟨f, er, rfl, h, hb⟩
 replace K14 := K14.on hb
 replace Z15 := Z15.on hb
 replace BW := BW.trans (hb.mono BW.size)
 clear hb
 obtain ⟨rfl, L⟩ := h.yes not_false HF.out
 clear h
 obtain ⟨V20, e21, hb22, K23, -, -⟩ := alloc_new w19 [.bool f.n, .slice f.A f.xs.length f.c, .bool f.m, .slice f.B f.ds.length f.d] 26
 have n24 : w.heap.size + 1 + 1 ≠ w19.heap.size := Nat.ne_of_lt (K14.lt)
 replace K14 := K14.on hb22
 replace Z15 := Z15.on hb22
 replace L := L.kp (Kept.of hb22)
 replace BW := BW.trans (hb22.mono BW.size)
 clear hb22
 obtain ⟨c25, c26, c27, c28⟩ := K14.c4
 obtain ⟨c29, c30, c31, c32⟩ := Z15.f4
 rw [e21] at c25 c26 c27 c28 c29 c30 c31 c32
 obtain ⟨V33, hk35⟩ : ∃ V33, V33 = V20.setCells (w.heap.size + 1 + 1) 0 [.bool f.n, .slice f.A f.xs.length f.c, .bool f.m, .slice f.B f.ds.length f.d] := ⟨_, rfl⟩
 have e34 := hk35
 simp only [World.setCells, Nat.zero_add, Nat.reduceAdd] at e34
 have hk36 := Kept.overE hk35 K14 rfl (Nat.le_of_ble_eq_true rfl)
 replace K14 := K14.overE hk35 rfl
 replace L := L.kp hk36
 replace BW := Below.putE BW hk35 g18
 clear hk35 hk36
 go_wp2_with fail
 clear c25 c26 c27 c28 c29 c30 c31 c32
 rw [← e21, ← e34]
 clear e21 e34
 generalize w19.heap.size = b37 at *
 obtain ⟨c38, c39, c40, c41⟩ := K14.c4
 exact bodyPost_ret (v := fv f) (by simp [results, Tryz.results17, go_sem, c38, c39, c40, c41]) rfl ⟨f, rfl, L, BW⟩
set_option maxHeartbeats 8000000 in
set_option maxRecDepth 20000 in
theorem y_turned {r : Yq} {y : Yv} {w : World} (Fy1 : Fy w r y) :
    Calls Tryz.prog 56 #[yv y] w (fun e w' => ∃ f : Yv, e = .returned (yv f) ∧ Fy w' r.turn f ∧ Below w.heap.size w w') := by
 have HF := Lib.hid (show FitsQ (((0 : Int) : Rat) - r.u) from by have h0 : ((0 : Int) : Rat) = 0 := rfl; rw [h0, show (0 : Rat) - r.u = -r.u by grind]; exact fits_neg Fy1.fU.fits)
 have BW : Below w.heap.size w w := Below.refl _ _
 obtain ⟨V2, e3, hb4, K5, -, z1⟩ := alloc_new w [.bool y.Y.n, .slice y.Y.A y.Y.xs.length y.Y.c, .bool y.Y.m, .slice y.Y.B y.Y.ds.length y.Y.d, .bool y.U.n, .slice y.U.A y.U.xs.length y.U.c, .bool y.U.m, .slice y.U.B y.U.ds.length y.U.d] 44
 replace K5 : Box V2 (w.heap.size) (ycs y) := K5
 replace Fy1 := Fy1.kp (Kept.of hb4)
 replace BW := BW.trans (hb4.mono BW.size)
 clear hb4
 obtain ⟨V6, e7, hb8, K9, Z10, -⟩ := alloc_new V2 [.bool false, .slice none 0 0, .bool false, .slice none 0 0, .bool false, .slice none 0 0, .bool false, .slice none 0 0] 44
 rw [z1] at K9 Z10
 replace K9 : Box V6 (w.heap.size + 1) (zcs8) := K9
 have n11 : w.heap.size ≠ w.heap.size + 1 := Nat.ne_of_lt (z1 ▸ K5.lt)
 have g12 : w.heap.size ≤ w.heap.size + 1 := z1 ▸ BW.size
 replace K5 := K5.on hb8
 replace Fy1 := Fy1.kp (Kept.of hb8)
 replace BW := BW.trans (hb8.mono BW.size)
 clear hb8
 clear z1
 go_enter Tryz.func56, Tryz.ntmps56
 go_wp2_with fail
 rw [← e3, ← e7]
 clear e3 e7
 refine (f_int (n := 0) (by decide) (by decide)).mono ?_
 rintro _ w13 ⟨f0, rfl, h0, hb⟩
 replace K5 := K5.on hb
 replace K9 := K9.on hb
 replace Z10 := Z10.on hb
 replace Fy1 := Fy1.kp (Kept.of hb)
 replace BW := BW.trans (hb.mono BW.size)
 clear hb
 obtain ⟨V14, e15, hb16, K17, -, -⟩ := alloc_new w13 [.bool f0.n, .slice f0.A f0.xs.length f0.c, .bool f0.m, .slice f0.B f0.ds.length f0.d] 26
 have n18 : w.heap.size + 1 ≠ w13.heap.size := Nat.ne_of_lt (K9.lt)
 replace K5 := K5.on hb16
 replace K9 := K9.on hb16
 replace Z10 := Z10.on hb16
 replace Fy1 := Fy1.kp (Kept.of hb16)
 replace h0 := h0.kp (Kept.of hb16)
 replace BW := BW.trans (hb16.mono BW.size)
 clear hb16
 obtain ⟨c19, c20, c21, c22, c23, c24, c25, c26⟩ := K5.c8
 rw [e15] at c19 c20 c21 c22 c23 c24 c25 c26
 go_wp2_with fail
 clear c19 c20 c21 c22 c23 c24 c25 c26
 rw [← e15]
 clear e15
 generalize w13.heap.size = b27 at *
 refine (r_sub h0 Fy1.fU).mono ?_
 rintro _ w28 ⟨f, er, rfl, h, hb⟩
 replace K5 := K5.on hb
 replace K9 := K9.on hb
 replace Z10 := Z10.on hb
 replace Fy1 := Fy1.kp (Kept.of hb)
 replace h0 := h0.kp (Kept.of hb)
 replace BW := BW.trans (hb.mono BW.size)
 clear hb
 obtain ⟨rfl, L⟩ := h.yes not_false HF.out
 clear h
 obtain ⟨V29, e30, hb31, K32, -, -⟩ := alloc_new w28 [.bool f.n, .slice f.A f.xs.length f.c, .bool f.m, .slice f.B f.ds.length f.d] 26
 have n33 : w.heap.size + 1 ≠ w28.heap.size := Nat.ne_of_lt (K9.lt)
 replace K5 := K5.on hb31
 replace K9 := K9.on hb31
 replace Z10 := Z10.on hb31
 replace Fy1 := Fy1.kp (Kept.of hb31)
 replace h0 := h0.kp (Kept.of hb31)
 replace L := L.kp (Kept.of hb31)
 replace BW := BW.trans (hb31.mono BW.size)
 clear hb31
 obtain ⟨c34, c35, c36, c37, c38, c39, c40, c41⟩ := K5.c8
 rw [e30] at c34 c35 c36 c37 c38 c39 c40 c41
 obtain ⟨c42, c43, c44, c45, c46, c47, c48, c49⟩ := K9.c8
 obtain ⟨c50, c51, c52, c53, c54, c55, c56, c57⟩ := Z10.f8
 rw [e30] at c42 c43 c44 c45 c46 c47 c48 c49 c50 c51 c52 c53 c54 c55 c56 c57
 obtain ⟨V58, hk60⟩ : ∃ V58, V58 = V29.setCells (w.heap.size + 1) 0 [.bool y.Y.n, .slice y.Y.A y.Y.xs.length y.Y.c, .bool y.Y.m, .slice y.Y.B y.Y.ds.length y.Y.d, .bool f.n, .slice f.A f.xs.length f.c, .bool f.m, .slice f.B f.ds.length f.d] := ⟨_, rfl⟩
 have e59 := hk60
 simp only [World.setCells, Nat.zero_add, Nat.reduceAdd] at e59
 have hk61 := Kept.overE hk60 K9 rfl (Nat.le_of_ble_eq_true rfl)
 replace K9 := K9.overE hk60 rfl
 replace Fy1 := Fy1.kp hk61
 replace h0 := h0.kp hk61
 replace L := L.kp hk61
 replace BW := Below.putE BW hk60 g12
 clear hk60 hk61
 go_wp2_with fail
 clear c34 c35 c36 c37 c38 c39 c40 c41 c42 c43 c44 c45 c46 c47 c48 c49 c50 c51 c52 c53 c54 c55 c56 c57
 rw [← e30, ← e59]
 clear e30 e59
 generalize w28.heap.size = b62 at *
 obtain ⟨c63, c64, c65, c66, c67, c68, c69, c70⟩ := K9.c8
 exact bodyPost_ret (v := yv ⟨y.Y, f⟩) (by simp [results, Tryz.results56, go_sem, c63, c64, c65, c66, c67, c68, c69, c70]) rfl ⟨⟨y.Y, f⟩, rfl, ⟨Fy1.fY, L.to (by have h0 : ((0 : Int) : Rat) = 0 := rfl; rw [h0]; unfold Yq.turn; grind)⟩, BW⟩
set_option maxHeartbeats 8000000 in
set_option maxRecDepth 20000 in
theorem y_sameY {q : Yq} {m n : Yv} {w : World} (Fa : Fy w q m) (Fb : Fy w q n) :
    Calls Tryz.prog 36 #[yv m, yv n] w (fun e w' => e = .returned (.bool true) ∧ Below w.heap.size w w') := by
 have BW : Below w.heap.size w w := Below.refl _ _
 obtain ⟨V2, e3, hb4, K5, -, z1⟩ := alloc_new w [.bool m.Y.n, .slice m.Y.A m.Y.xs.length m.Y.c, .bool m.Y.m, .slice m.Y.B m.Y.ds.length m.Y.d, .bool m.U.n, .slice m.U.A m.U.xs.length m.U.c, .bool m.U.m, .slice m.U.B m.U.ds.length m.U.d] 44
 replace K5 : Box V2 (w.heap.size) (ycs m) := K5
 replace Fa := Fa.kp (Kept.of hb4)
 replace Fb := Fb.kp (Kept.of hb4)
 replace BW := BW.trans (hb4.mono BW.size)
 clear hb4
 obtain ⟨V6, e7, hb8, K9, -, -⟩ := alloc_new V2 [.bool n.Y.n, .slice n.Y.A n.Y.xs.length n.Y.c, .bool n.Y.m, .slice n.Y.B n.Y.ds.length n.Y.d, .bool n.U.n, .slice n.U.A n.U.xs.length n.U.c, .bool n.U.m, .slice n.U.B n.U.ds.length n.U.d] 44
 rw [z1] at K9
 replace K9 : Box V6 (w.heap.size + 1) (ycs n) := K9
 replace K5 := K5.on hb8
 replace Fa := Fa.kp (Kept.of hb8)
 replace Fb := Fb.kp (Kept.of hb8)
 replace BW := BW.trans (hb8.mono BW.size)
 clear hb8
 clear z1
 go_enter Tryz.func36, Tryz.ntmps36
 go_wp2_with fail
 rw [← e3, ← e7]
 clear e3 e7
 refine (r_same Fa.fY Fb.fY).mono ?_
 rintro _ w10 ⟨rfl, hb⟩
 replace K5 := K5.on hb
 replace K9 := K9.on hb
 replace Fa := Fa.kp (Kept.of hb)
 replace Fb := Fb.kp (Kept.of hb)
 replace BW := BW.trans (hb.mono BW.size)
 clear hb
 rw [decide_eq_true rfl]
 obtain ⟨c11, c12, c13, c14, c15, c16, c17, c18⟩ := K5.c8
 obtain ⟨c19, c20, c21, c22, c23, c24, c25, c26⟩ := K9.c8
 go_wp2_with fail
 clear c11 c12 c13 c14 c15 c16 c17 c18 c19 c20 c21 c22 c23 c24 c25 c26
 refine (r_same Fa.fU Fb.fU).mono ?_
 rintro _ w27 ⟨rfl, hb⟩
 replace BW := BW.trans (hb.mono BW.size)
 clear hb
 rw [decide_eq_true rfl]
 go_wp2_with fail
 exact bodyPost_ret (v := .bool true) (by simp [results, Tryz.results36, go_sem]) rfl ⟨rfl, BW⟩
def alM : Mq := ⟨((1 : Int) : Rat), ((0 : Int) : Rat), ((-2 : Int) : Rat), ((1 : Int) : Rat)⟩
def alN : Mq := ⟨((1 : Int) : Rat), Rat.divInt 1 2, ((0 : Int) : Rat), ((1 : Int) : Rat)⟩
def alR : Yq := ⟨((0 : Int) : Rat), ((1 : Int) : Rat)⟩
theorem al_half : FitsQ (Rat.divInt 1 2) := ⟨fits_low (by decide +kernel), fits_low (by decide +kernel)⟩
theorem al_dM : alM.det = 1 := by unfold Mq.det alM; decide +kernel
theorem al_dN : alN.det = 1 := by unfold Mq.det alN; decide +kernel
theorem al_mul : FitsM (alM.mul alN) := ⟨⟨fits_low (by unfold Mq.mul alM alN; decide +kernel), fits_low (by unfold Mq.mul alM alN; decide +kernel)⟩, ⟨fits_low (by unfold Mq.mul alM alN; decide +kernel), fits_low (by unfold Mq.mul alM alN; decide +kernel)⟩, ⟨fits_low (by unfold Mq.mul alM alN; decide +kernel), fits_low (by unfold Mq.mul alM alN; decide +kernel)⟩, ⟨fits_low (by unfold Mq.mul alM alN; decide +kernel), fits_low (by unfold Mq.mul alM alN; decide +kernel)⟩⟩
theorem al_thr : FitsY ((alM.mul alN).thr alR) := ⟨⟨fits_low (by unfold Mq.thr Mq.mul alM alN alR; decide +kernel), fits_low (by unfold Mq.thr Mq.mul alM alN alR; decide +kernel)⟩, ⟨fits_low (by unfold Mq.thr Mq.mul alM alN alR; decide +kernel), fits_low (by unfold Mq.thr Mq.mul alM alN alR; decide +kernel)⟩⟩
theorem al_1 : (alM.mul alN).d = ((0 : Int) : Rat) := by unfold Mq.mul alM alN; decide +kernel
theorem al_2 : (alM.mul alN).c = ((-2 : Int) : Rat) := by unfold Mq.mul alM alN; decide +kernel
theorem al_3 : ((alM.mul alN).thr alR).y = Rat.divInt 1 2 := by unfold Mq.thr Mq.mul alM alN alR; decide +kernel
theorem al_4 : ((alM.mul alN).thr alR).u = ((0 : Int) : Rat) := by unfold Mq.thr Mq.mul alM alN alR; decide +kernel
theorem al_not {w : World} {f : Fv} (h : Ff w ((1 : Int) : Rat) f) : ¬ MayM w ⟨f, f, f, f⟩ := by
 rintro ⟨q, hq, hd⟩
 have h1 := hq.1.uniq h
 have h2 := hq.2.1.uniq h
 have h3 := hq.2.2.1.uniq h
 have h4 := hq.2.2.2.uniq h
 unfold Mq.det at hd
 rw [h1, h2, h3, h4] at hd
 revert hd
 decide +kernel
set_option maxHeartbeats 16000000 in
set_option maxRecDepth 100000 in
theorem y_alive {w : World} :
    Calls Tryz.prog 11 #[] w (fun e w' => e = .returned (.bool true) ∧ Below w.heap.size w w') := by
 have BW : Below w.heap.size w w := Below.refl _ _
 go_enter Tryz.func11, Tryz.ntmps11
 go_wp2_with fail
 refine (f_int (n := 1) (by decide) (by decide)).mono ?_
 rintro _ w1 ⟨f1, rfl, L1, hb⟩
 replace BW := BW.trans (hb.mono BW.size)
 clear hb
 obtain ⟨V2, e3, hb4, K5, Z6, -⟩ := alloc_new w1 [.bool f1.n, .slice f1.A f1.xs.length f1.c, .bool f1.m, .slice f1.B f1.ds.length f1.d] 26
 have g7 : w.heap.size ≤ w1.heap.size := BW.size
 replace L1 := L1.kp (Kept.of hb4)
 replace BW := BW.trans (hb4.mono BW.size)
 clear hb4
 go_wp2_with fail
 rw [← e3]
 clear e3
 generalize w1.heap.size = b8 at *
 refine (f_int (n := 0) (by decide) (by decide)).mono ?_
 rintro _ w9 ⟨f2, rfl, L2, hb⟩
 replace K5 := K5.on hb
 replace L1 := L1.kp (Kept.of hb)
 replace BW := BW.trans (hb.mono BW.size)
 clear hb
 obtain ⟨V10, e11, hb12, K13, Z14, -⟩ := alloc_new w9 [.bool f2.n, .slice f2.A f2.xs.length f2.c, .bool f2.m, .slice f2.B f2.ds.length f2.d] 26
 have n15 : b8 ≠ w9.heap.size := Nat.ne_of_lt (K5.lt)
 have g16 : w.heap.size ≤ w9.heap.size := BW.size
 replace K5 := K5.on hb12
 replace L1 := L1.kp (Kept.of hb12)
 replace L2 := L2.kp (Kept.of hb12)
 replace BW := BW.trans (hb12.mono BW.size)
 clear hb12
 go_wp2_with fail
 rw [← e11]
 clear e11
 generalize w9.heap.size = b17 at *
 refine (r_of 1 2 _ (by decide) (by decide) (by decide) (by decide)).mono ?_
 rintro _ w18 ⟨f3, er, rfl, h3, hb⟩
 replace K5 := K5.on hb
 replace K13 := K13.on hb
 replace L1 := L1.kp (Kept.of hb)
 replace L2 := L2.kp (Kept.of hb)
 replace BW := BW.trans (hb.mono BW.size)
 clear hb
 obtain ⟨rfl, L3⟩ := h3.yes (by decide) al_half
 clear h3
 obtain ⟨V19, e20, hb21, K22, Z23, -⟩ := alloc_new w18 [.bool f3.n, .slice f3.A f3.xs.length f3.c, .bool f3.m, .slice f3.B f3.ds.length f3.d] 26
 have n24 : b8 ≠ w18.heap.size := Nat.ne_of_lt (K5.lt)
 have n25 : b17 ≠ w18.heap.size := Nat.ne_of_lt (K13.lt)
 have g26 : w.heap.size ≤ w18.heap.size := BW.size
 replace K5 := K5.on hb21
 replace K13 := K13.on hb21
 replace L1 := L1.kp (Kept.of hb21)
 replace L2 := L2.kp (Kept.of hb21)
 replace L3 := L3.kp (Kept.of hb21)
 replace BW := BW.trans (hb21.mono BW.size)
 clear hb21
 go_wp2_with fail
 rw [← e20]
 clear e20
 generalize w18.heap.size = b27 at *
 refine (f_int (n := -2) (by decide) (by decide)).mono ?_
 rintro _ w28 ⟨f4, rfl, L4, hb⟩
 replace K5 := K5.on hb
 replace K13 := K13.on hb
 replace K22 := K22.on hb
 replace L1 := L1.kp (Kept.of hb)
 replace L2 := L2.kp (Kept.of hb)
 replace L3 := L3.kp (Kept.of hb)
 replace BW := BW.trans (hb.mono BW.size)
 clear hb
 obtain ⟨V29, e30, hb31, K32, Z33, -⟩ := alloc_new w28 [.bool f4.n, .slice f4.A f4.xs.length f4.c, .bool f4.m, .slice f4.B f4.ds.length f4.d] 26
 have n34 : b8 ≠ w28.heap.size := Nat.ne_of_lt (K5.lt)
 have n35 : b17 ≠ w28.heap.size := Nat.ne_of_lt (K13.lt)
 have n36 : b27 ≠ w28.heap.size := Nat.ne_of_lt (K22.lt)
 have g37 : w.heap.size ≤ w28.heap.size := BW.size
 replace K5 := K5.on hb31
 replace K13 := K13.on hb31
 replace K22 := K22.on hb31
 replace L1 := L1.kp (Kept.of hb31)
 replace L2 := L2.kp (Kept.of hb31)
 replace L3 := L3.kp (Kept.of hb31)
 replace L4 := L4.kp (Kept.of hb31)
 replace BW := BW.trans (hb31.mono BW.size)
 clear hb31
 obtain ⟨c38, c39, c40, c41⟩ := K5.c4
 obtain ⟨c42, c43, c44, c45⟩ := K13.c4
 obtain ⟨c46, c47, c48, c49⟩ := K22.c4
 rw [e30] at c38 c39 c40 c41 c42 c43 c44 c45 c46 c47 c48 c49
 go_wp2_with fail
 clear c38 c39 c40 c41 c42 c43 c44 c45 c46 c47 c48 c49
 rw [← e30]
 clear e30
 generalize w28.heap.size = b50 at *
 refine (y_Mul (q := alM) (r := alN) (m := ⟨f1, f2, f4, f1⟩) (n := ⟨f1, f3, f2, f1⟩) ⟨L1, L2, L4, L1⟩ ⟨L1, L3, L2, L1⟩ al_dM al_dN).mono ?_
 rintro _ w51 ⟨f, e1, rfl, h, hb⟩
 replace K5 := K5.on hb
 replace K13 := K13.on hb
 replace K22 := K22.on hb
 replace K32 := K32.on hb
 replace L1 := L1.kp (Kept.of hb)
 replace L2 := L2.kp (Kept.of hb)
 replace L3 := L3.kp (Kept.of hb)
 replace L4 := L4.kp (Kept.of hb)
 replace BW := BW.trans (hb.mono BW.size)
 clear hb
 obtain ⟨rfl, L⟩ := h.yes al_mul
 clear h
 obtain ⟨V52, e53, hb54, K55, Z56, -⟩ := alloc_new w51 [.bool f.A.n, .slice f.A.A f.A.xs.length f.A.c, .bool f.A.m, .slice f.A.B f.A.ds.length f.A.d, .bool f.B.n, .slice f.B.A f.B.xs.length f.B.c, .bool f.B.m, .slice f.B.B f.B.ds.length f.B.d, .bool f.C.n, .slice f.C.A f.C.xs.length f.C.c, .bool f.C.m, .slice f.C.B f.C.ds.length f.C.d, .bool f.D.n, .slice f.D.A f.D.xs.length f.D.c, .bool f.D.m, .slice f.D.B f.D.ds.length f.D.d] 28
 replace K55 : Box V52 (w51.heap.size) (mcs f) := K55
 have n57 : b8 ≠ w51.heap.size := Nat.ne_of_lt (K5.lt)
 have n58 : b17 ≠ w51.heap.size := Nat.ne_of_lt (K13.lt)
 have n59 : b27 ≠ w51.heap.size := Nat.ne_of_lt (K22.lt)
 have n60 : b50 ≠ w51.heap.size := Nat.ne_of_lt (K32.lt)
 have g61 : w.heap.size ≤ w51.heap.size := BW.size
 replace K5 := K5.on hb54
 replace K13 := K13.on hb54
 replace K22 := K22.on hb54
 replace K32 := K32.on hb54
 replace L1 := L1.kp (Kept.of hb54)
 replace L2 := L2.kp (Kept.of hb54)
 replace L3 := L3.kp (Kept.of hb54)
 replace L4 := L4.kp (Kept.of hb54)
 replace L := L.kp (Kept.of hb54)
 replace BW := BW.trans (hb54.mono BW.size)
 clear hb54
 go_upto_region 6 with fail
 rw [← e53]
 clear e53
 generalize w51.heap.size = b62 at *
 obtain ⟨c63, c64, c65, c66⟩ := K5.c4
 obtain ⟨c67, c68, c69, c70⟩ := K13.c4
 have c71 : Box V52 (b62) [.bool f.A.n, .slice f.A.A f.A.xs.length f.A.c, .bool f.A.m, .slice f.A.B f.A.ds.length f.A.d, .bool f.B.n, .slice f.B.A f.B.xs.length f.B.c, .bool f.B.m, .slice f.B.B f.B.ds.length f.B.d, .bool f.C.n, .slice f.C.A f.C.xs.length f.C.c, .bool f.C.m, .slice f.C.B f.C.ds.length f.C.d, .bool f.D.n, .slice f.D.A f.D.xs.length f.D.c, .bool f.D.m, .slice f.D.B f.D.ds.length f.D.d] := K55
 go_wp2_with (first | (refine wpList_ldM (by rfl) (by rfl) (by rfl) c71 (by rfl) ?_))
 clear c63 c64 c65 c66 c67 c68 c69 c70 c71
 refine (y_Thr (r := alR) (y := ⟨f2, f1⟩) L ⟨L2, L1⟩ (Mq.det_mul al_dM al_dN)).mono ?_
 rintro _ w72 ⟨g, e2, rfl, h, hb⟩
 replace K5 := K5.on hb
 replace K13 := K13.on hb
 replace K22 := K22.on hb
 replace K32 := K32.on hb
 replace K55 := K55.on hb
 replace L1 := L1.kp (Kept.of hb)
 replace L2 := L2.kp (Kept.of hb)
 replace L3 := L3.kp (Kept.of hb)
 replace L4 := L4.kp (Kept.of hb)
 replace L := L.kp (Kept.of hb)
 replace BW := BW.trans (hb.mono BW.size)
 clear hb
 obtain ⟨rfl, R⟩ := h.yes al_thr
 clear h
 obtain ⟨V73, e74, hb75, K76, Z77, -⟩ := alloc_new w72 [.bool g.Y.n, .slice g.Y.A g.Y.xs.length g.Y.c, .bool g.Y.m, .slice g.Y.B g.Y.ds.length g.Y.d, .bool g.U.n, .slice g.U.A g.U.xs.length g.U.c, .bool g.U.m, .slice g.U.B g.U.ds.length g.U.d] 44
 replace K76 : Box V73 (w72.heap.size) (ycs g) := K76
 have n78 : b8 ≠ w72.heap.size := Nat.ne_of_lt (K5.lt)
 have n79 : b17 ≠ w72.heap.size := Nat.ne_of_lt (K13.lt)
 have n80 : b27 ≠ w72.heap.size := Nat.ne_of_lt (K22.lt)
 have n81 : b50 ≠ w72.heap.size := Nat.ne_of_lt (K32.lt)
 have n82 : b62 ≠ w72.heap.size := Nat.ne_of_lt (K55.lt)
 have g83 : w.heap.size ≤ w72.heap.size := BW.size
 replace K5 := K5.on hb75
 replace K13 := K13.on hb75
 replace K22 := K22.on hb75
 replace K32 := K32.on hb75
 replace K55 := K55.on hb75
 replace L1 := L1.kp (Kept.of hb75)
 replace L2 := L2.kp (Kept.of hb75)
 replace L3 := L3.kp (Kept.of hb75)
 replace L4 := L4.kp (Kept.of hb75)
 replace L := L.kp (Kept.of hb75)
 replace R := R.kp (Kept.of hb75)
 replace BW := BW.trans (hb75.mono BW.size)
 clear hb75
 obtain ⟨c84, c85, c86, c87⟩ := K13.c4
 obtain ⟨c88, c89, c90, c91, c92, c93, c94, c95, c96, c97, c98, c99, c100, c101, c102, c103⟩ := K55.c16
 rw [e74] at c84 c85 c86 c87 c88 c89 c90 c91 c92 c93 c94 c95 c96 c97 c98 c99 c100 c101 c102 c103
 go_wp2_with fail
 clear c84 c85 c86 c87 c88 c89 c90 c91 c92 c93 c94 c95 c96 c97 c98 c99 c100 c101 c102 c103
 rw [← e74]
 clear e74
 generalize w72.heap.size = b104 at *
 refine (r_same L.fD L2).mono ?_
 rintro _ w105 ⟨rfl, hb⟩
 replace K5 := K5.on hb
 replace K13 := K13.on hb
 replace K22 := K22.on hb
 replace K32 := K32.on hb
 replace K55 := K55.on hb
 replace K76 := K76.on hb
 replace L1 := L1.kp (Kept.of hb)
 replace L2 := L2.kp (Kept.of hb)
 replace L3 := L3.kp (Kept.of hb)
 replace L4 := L4.kp (Kept.of hb)
 replace L := L.kp (Kept.of hb)
 replace R := R.kp (Kept.of hb)
 replace BW := BW.trans (hb.mono BW.size)
 clear hb
 rw [decide_eq_true al_1]
 obtain ⟨c106, c107, c108, c109⟩ := K32.c4
 obtain ⟨c110, c111, c112, c113, c114, c115, c116, c117, c118, c119, c120, c121, c122, c123, c124, c125⟩ := K55.c16
 go_wp2_with fail
 clear c106 c107 c108 c109 c110 c111 c112 c113 c114 c115 c116 c117 c118 c119 c120 c121 c122 c123 c124 c125
 refine (r_same L.fC L4).mono ?_
 rintro _ w126 ⟨rfl, hb⟩
 replace K5 := K5.on hb
 replace K13 := K13.on hb
 replace K22 := K22.on hb
 replace K76 := K76.on hb
 replace L1 := L1.kp (Kept.of hb)
 replace L2 := L2.kp (Kept.of hb)
 replace L3 := L3.kp (Kept.of hb)
 replace R := R.kp (Kept.of hb)
 replace BW := BW.trans (hb.mono BW.size)
 clear hb
 rw [decide_eq_true al_2]
 obtain ⟨c127, c128, c129, c130⟩ := K22.c4
 obtain ⟨c131, c132, c133, c134, c135, c136, c137, c138⟩ := K76.c8
 go_wp2_with fail
 clear c127 c128 c129 c130 c131 c132 c133 c134 c135 c136 c137 c138
 refine (r_same R.fY L3).mono ?_
 rintro _ w139 ⟨rfl, hb⟩
 replace K5 := K5.on hb
 replace K13 := K13.on hb
 replace K76 := K76.on hb
 replace L1 := L1.kp (Kept.of hb)
 replace L2 := L2.kp (Kept.of hb)
 replace R := R.kp (Kept.of hb)
 replace BW := BW.trans (hb.mono BW.size)
 clear hb
 rw [decide_eq_true al_3]
 obtain ⟨c140, c141, c142, c143⟩ := K13.c4
 obtain ⟨c144, c145, c146, c147, c148, c149, c150, c151⟩ := K76.c8
 go_wp2_with fail
 clear c140 c141 c142 c143 c144 c145 c146 c147 c148 c149 c150 c151
 refine (r_same R.fU L2).mono ?_
 rintro _ w152 ⟨rfl, hb⟩
 replace K5 := K5.on hb
 replace L1 := L1.kp (Kept.of hb)
 replace BW := BW.trans (hb.mono BW.size)
 clear hb
 rw [decide_eq_true al_4]
 obtain ⟨c153, c154, c155, c156⟩ := K5.c4
 go_wp2_with fail
 clear c153 c154 c155 c156
 refine (y_check1 (m := ⟨f1, f1, f1, f1⟩) ⟨L1.fx, L1.fx, L1.fx, L1.fx⟩ (al_not L1)).mono ?_
 rintro _ w157 ⟨rfl, hb⟩
 replace BW := BW.trans (hb.mono BW.size)
 clear hb
 go_wp2_with fail
 exact bodyPost_ret (v := .bool true) (by simp [results, Tryz.results11, go_sem]) rfl ⟨rfl, BW⟩
end Go.Proofs.YtfhleccodbjfbaaGreat
