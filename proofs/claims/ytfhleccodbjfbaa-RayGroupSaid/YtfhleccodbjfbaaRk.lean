/-
  What the statements' own functions return: SameMatrix, One, may of three. Conditions: as each theorem states.
-/
import Derived.Test.YtfhleccodbjfbaaRh
import Derived.Deep.RegionHeld3
import Derived.Deep.DeepCutAuto
import Derived.BigRegion
namespace Go.Proofs.Ytfhleccodbjfbaa
open Go.RowKit Nb
set_option maxHeartbeats 8000000 in
set_option maxRecDepth 20000 in
theorem y_sameM {q : Mq} {m n : Mv} {w : World} (Fa : Fm w q m) (Fb : Fm w q n) :
    Calls Try.prog 6 #[mv m, mv n] w (fun e w' => e = .returned (.bool true) ∧ Below w.heap.size w w') := by
 have BW : Below w.heap.size w w := Below.refl _ _
 obtain ⟨V2, e3, hb4, K5, -, z1⟩ := alloc_new w [.bool m.A.n, .slice m.A.A m.A.xs.length m.A.c, .bool m.A.m, .slice m.A.B m.A.ds.length m.A.d, .bool m.B.n, .slice m.B.A m.B.xs.length m.B.c, .bool m.B.m, .slice m.B.B m.B.ds.length m.B.d, .bool m.C.n, .slice m.C.A m.C.xs.length m.C.c, .bool m.C.m, .slice m.C.B m.C.ds.length m.C.d, .bool m.D.n, .slice m.D.A m.D.xs.length m.D.c, .bool m.D.m, .slice m.D.B m.D.ds.length m.D.d] 28
 replace K5 : Box V2 (w.heap.size) (mcs m) := K5
 replace Fa := Fa.kp (Kept.of hb4)
 replace Fb := Fb.kp (Kept.of hb4)
 replace BW := BW.trans (hb4.mono BW.size)
 clear hb4
 obtain ⟨V6, e7, hb8, K9, -, -⟩ := alloc_new V2 [.bool n.A.n, .slice n.A.A n.A.xs.length n.A.c, .bool n.A.m, .slice n.A.B n.A.ds.length n.A.d, .bool n.B.n, .slice n.B.A n.B.xs.length n.B.c, .bool n.B.m, .slice n.B.B n.B.ds.length n.B.d, .bool n.C.n, .slice n.C.A n.C.xs.length n.C.c, .bool n.C.m, .slice n.C.B n.C.ds.length n.C.d, .bool n.D.n, .slice n.D.A n.D.xs.length n.D.c, .bool n.D.m, .slice n.D.B n.D.ds.length n.D.d] 28
 rw [z1] at K9
 replace K9 : Box V6 (w.heap.size + 1) (mcs n) := K9
 replace K5 := K5.on hb8
 replace Fa := Fa.kp (Kept.of hb8)
 replace Fb := Fb.kp (Kept.of hb8)
 replace BW := BW.trans (hb8.mono BW.size)
 clear hb8
 clear z1
 go_enter Try.func6, Try.ntmps6
 go_wp2_with fail
 rw [← e3, ← e7]
 clear e3 e7
 refine (r_same Fa.fA Fb.fA).mono ?_
 rintro _ w10 ⟨rfl, hb⟩
 replace K5 := K5.on hb
 replace K9 := K9.on hb
 replace Fa := Fa.kp (Kept.of hb)
 replace Fb := Fb.kp (Kept.of hb)
 replace BW := BW.trans (hb.mono BW.size)
 clear hb
 rw [decide_eq_true rfl]
 obtain ⟨c11, c12, c13, c14, c15, c16, c17, c18, c19, c20, c21, c22, c23, c24, c25, c26⟩ := K5.c16
 obtain ⟨c27, c28, c29, c30, c31, c32, c33, c34, c35, c36, c37, c38, c39, c40, c41, c42⟩ := K9.c16
 go_wp2_with fail
 clear c11 c12 c13 c14 c15 c16 c17 c18 c19 c20 c21 c22 c23 c24 c25 c26 c27 c28 c29 c30 c31 c32 c33 c34 c35 c36 c37 c38 c39 c40 c41 c42
 refine (r_same Fa.fB Fb.fB).mono ?_
 rintro _ w43 ⟨rfl, hb⟩
 replace K5 := K5.on hb
 replace K9 := K9.on hb
 replace Fa := Fa.kp (Kept.of hb)
 replace Fb := Fb.kp (Kept.of hb)
 replace BW := BW.trans (hb.mono BW.size)
 clear hb
 rw [decide_eq_true rfl]
 obtain ⟨c44, c45, c46, c47, c48, c49, c50, c51, c52, c53, c54, c55, c56, c57, c58, c59⟩ := K5.c16
 obtain ⟨c60, c61, c62, c63, c64, c65, c66, c67, c68, c69, c70, c71, c72, c73, c74, c75⟩ := K9.c16
 go_wp2_with fail
 clear c44 c45 c46 c47 c48 c49 c50 c51 c52 c53 c54 c55 c56 c57 c58 c59 c60 c61 c62 c63 c64 c65 c66 c67 c68 c69 c70 c71 c72 c73 c74 c75
 refine (r_same Fa.fC Fb.fC).mono ?_
 rintro _ w76 ⟨rfl, hb⟩
 replace K5 := K5.on hb
 replace K9 := K9.on hb
 replace Fa := Fa.kp (Kept.of hb)
 replace Fb := Fb.kp (Kept.of hb)
 replace BW := BW.trans (hb.mono BW.size)
 clear hb
 rw [decide_eq_true rfl]
 obtain ⟨c77, c78, c79, c80, c81, c82, c83, c84, c85, c86, c87, c88, c89, c90, c91, c92⟩ := K5.c16
 obtain ⟨c93, c94, c95, c96, c97, c98, c99, c100, c101, c102, c103, c104, c105, c106, c107, c108⟩ := K9.c16
 go_wp2_with fail
 clear c77 c78 c79 c80 c81 c82 c83 c84 c85 c86 c87 c88 c89 c90 c91 c92 c93 c94 c95 c96 c97 c98 c99 c100 c101 c102 c103 c104 c105 c106 c107 c108
 refine (r_same Fa.fD Fb.fD).mono ?_
 rintro _ w109 ⟨rfl, hb⟩
 replace BW := BW.trans (hb.mono BW.size)
 clear hb
 rw [decide_eq_true rfl]
 go_wp2_with fail
 exact bodyPost_ret (v := .bool true) (by simp [results, Try.results6, go_sem]) rfl ⟨rfl, BW⟩
set_option maxHeartbeats 16000000 in
set_option maxRecDepth 100000 in
theorem y_may3 {m n o : Mv} {g l : Nat} {w : World} (Vm : Xm w m) (Vn : Xm w n) (Vo : Xm w o) (K : Box w g [.bool m.A.n, .slice m.A.A m.A.xs.length m.A.c, .bool m.A.m, .slice m.A.B m.A.ds.length m.A.d, .bool m.B.n, .slice m.B.A m.B.xs.length m.B.c, .bool m.B.m, .slice m.B.B m.B.ds.length m.B.d, .bool m.C.n, .slice m.C.A m.C.xs.length m.C.c, .bool m.C.m, .slice m.C.B m.C.ds.length m.C.d, .bool m.D.n, .slice m.D.A m.D.xs.length m.D.c, .bool m.D.m, .slice m.D.B m.D.ds.length m.D.d, .bool n.A.n, .slice n.A.A n.A.xs.length n.A.c, .bool n.A.m, .slice n.A.B n.A.ds.length n.A.d, .bool n.B.n, .slice n.B.A n.B.xs.length n.B.c, .bool n.B.m, .slice n.B.B n.B.ds.length n.B.d, .bool n.C.n, .slice n.C.A n.C.xs.length n.C.c, .bool n.C.m, .slice n.C.B n.C.ds.length n.C.d, .bool n.D.n, .slice n.D.A n.D.xs.length n.D.c, .bool n.D.m, .slice n.D.B n.D.ds.length n.D.d, .bool o.A.n, .slice o.A.A o.A.xs.length o.A.c, .bool o.A.m, .slice o.A.B o.A.ds.length o.A.d, .bool o.B.n, .slice o.B.A o.B.xs.length o.B.c, .bool o.B.m, .slice o.B.B o.B.ds.length o.B.d, .bool o.C.n, .slice o.C.A o.C.xs.length o.C.c, .bool o.C.m, .slice o.C.B o.C.ds.length o.C.d, .bool o.D.n, .slice o.D.A o.D.xs.length o.D.c, .bool o.D.m, .slice o.D.B o.D.ds.length o.D.d]) :
    Calls Try.prog 4 #[.slice (some ⟨g, 0, none⟩) 3 l] w (fun ee w' => ∃ r : Bool, ee = .returned (.bool r) ∧ (r = true → (MayM w m ∧ msz m ≤ 600) ∧ (MayM w n ∧ msz n ≤ 600) ∧ (MayM w o ∧ msz o ≤ 600)) ∧ Below w.heap.size w w') := by
 have HK := Lib.hid K
 have Cm := Lib.hid (fun (W : World) (h : Xm W m) => y_msize h)
 have Dm := Lib.hid (fun (W : World) (h : Xm W m) => y_check h)
 have HXm := Lib.hid Vm
 have Cn := Lib.hid (fun (W : World) (h : Xm W n) => y_msize h)
 have Dn := Lib.hid (fun (W : World) (h : Xm W n) => y_check h)
 have HXn := Lib.hid Vn
 have Co := Lib.hid (fun (W : World) (h : Xm W o) => y_msize h)
 have Do := Lib.hid (fun (W : World) (h : Xm W o) => y_check h)
 have HXo := Lib.hid Vo
 generalize hsm : msz m = sm at *
 generalize hsn : msz n = sn at *
 generalize hso : msz o = so at *
 have at0 : AtB w g 0 (mcs m) := Box.at_mid (l := []) (r := mcs n ++ mcs o) (show Box w g (([]) ++ (mcs m ++ (mcs n ++ mcs o))) from K) rfl
 clear K hsm hsn hso
 have hb0 : Below w.heap.size w w := Below.refl _ _
 go_enter Try.func4, Try.ntmps4
 go_wp2
 refine wp_loop_rounds 4 ?_
 rw [rounds_succ]
 go_wp2_with (first | (refine wpList_ldO (by rfl) (by rfl) (by rfl) at0 (by rfl) ?_))
 refine (Cm.out _ (HXm.out.kp (Kept.of hb0))).mono ?_
 rintro e w1 ⟨rfl, hb⟩
 have hb1 := hb0.trans (hb.mono hb0.size)
 clear hb
 clear at0
 have K1 := HK.out.on hb1
 have at1 : AtB w1 g 0 (mcs m) := Box.at_mid (l := []) (r := mcs n ++ mcs o) (show Box w1 g (([]) ++ (mcs m ++ (mcs n ++ mcs o))) from K1) rfl
 clear K1
 by_cases hm : 600 < sm
 · go_wp2
   go_ret
   exact ⟨false, rfl, fun h => (by cases h), hb1⟩
 · have hq : decide (600 < sm) = false := by simp; omega
   go_wp2_with (first | (refine wpList_ldO (by first | rfl | simp [Region.wanted, yielded]) (by rfl) (by rfl) at1 (by rfl) ?_))
   clear hq
   refine (Dm.out _ (HXm.out.kp (Kept.of hb1))).mono ?_
   rintro e w2 ⟨r, rfl, hr, hb⟩
   have hb2 := hb1.trans (hb.mono hb1.size)
   clear hb
   clear at1
   have K2 := HK.out.on hb2
   have at2 : AtB w2 g 16 (mcs n) := Box.at_mid (l := mcs m) (r := mcs o) (show Box w2 g ((mcs m) ++ (mcs n ++ (mcs o))) from K2) rfl
   clear K2
   rcases hr with ⟨rfl, hmm⟩ | ⟨rfl, hmm⟩
   · have HMm := Lib.hid hmm
     clear hmm
     go_wp2
     rw [rounds_succ]
     go_wp2_with (first | (refine wpList_ldO (by rfl) (by rfl) (by rfl) at2 (by rfl) ?_))
     refine (Cn.out _ (HXn.out.kp (Kept.of hb2))).mono ?_
     rintro e w3 ⟨rfl, hb⟩
     have hb3 := hb2.trans (hb.mono hb2.size)
     clear hb
     clear at2
     have K3 := HK.out.on hb3
     have at3 : AtB w3 g 16 (mcs n) := Box.at_mid (l := mcs m) (r := mcs o) (show Box w3 g ((mcs m) ++ (mcs n ++ (mcs o))) from K3) rfl
     clear K3
     by_cases hn : 600 < sn
     · go_wp2
       go_ret
       exact ⟨false, rfl, fun h => (by cases h), hb3⟩
     · have hq : decide (600 < sn) = false := by simp; omega
       go_wp2_with (first | (refine wpList_ldO (by first | rfl | simp [Region.wanted, yielded]) (by rfl) (by rfl) at3 (by rfl) ?_))
       clear hq
       refine (Dn.out _ (HXn.out.kp (Kept.of hb3))).mono ?_
       rintro e w4 ⟨r, rfl, hr, hb⟩
       have hb4 := hb3.trans (hb.mono hb3.size)
       clear hb
       clear at3
       have K4 := HK.out.on hb4
       have at4 : AtB w4 g 32 (mcs o) := Box.at_mid (l := mcs m ++ mcs n) (r := []) (show Box w4 g ((mcs m ++ mcs n) ++ (mcs o ++ ([]))) from K4) rfl
       clear K4
       rcases hr with ⟨rfl, hmn⟩ | ⟨rfl, hmn⟩
       · have HMn := Lib.hid hmn
         clear hmn
         go_wp2
         rw [rounds_succ]
         go_wp2_with (first | (refine wpList_ldO (by rfl) (by rfl) (by rfl) at4 (by rfl) ?_))
         refine (Co.out _ (HXo.out.kp (Kept.of hb4))).mono ?_
         rintro e w5 ⟨rfl, hb⟩
         have hb5 := hb4.trans (hb.mono hb4.size)
         clear hb
         clear at4
         have K5 := HK.out.on hb5
         have at5 : AtB w5 g 32 (mcs o) := Box.at_mid (l := mcs m ++ mcs n) (r := []) (show Box w5 g ((mcs m ++ mcs n) ++ (mcs o ++ ([]))) from K5) rfl
         clear K5
         by_cases ho : 600 < so
         · go_wp2
           go_ret
           exact ⟨false, rfl, fun h => (by cases h), hb5⟩
         · have hq : decide (600 < so) = false := by simp; omega
           go_wp2_with (first | (refine wpList_ldO (by first | rfl | simp [Region.wanted, yielded]) (by rfl) (by rfl) at5 (by rfl) ?_))
           clear hq
           refine (Do.out _ (HXo.out.kp (Kept.of hb5))).mono ?_
           rintro e w6 ⟨r, rfl, hr, hb⟩
           have hb6 := hb5.trans (hb.mono hb5.size)
           clear hb
           clear at5
           rcases hr with ⟨rfl, hmo⟩ | ⟨rfl, hmo⟩
           · have HMo := Lib.hid hmo
             clear hmo
             go_wp2
             rw [rounds_succ]
             go_wp2
             go_ret
             exact ⟨true, rfl, fun _ => ⟨⟨MayM.at HXm.out HMm.out, by omega⟩, ⟨MayM.at HXn.out HMn.out, by omega⟩, ⟨MayM.at HXo.out HMo.out, by omega⟩⟩, hb6⟩
           · go_wp2
             go_ret
             exact ⟨false, rfl, fun h => (by cases h), hb6⟩
       · go_wp2
         go_ret
         exact ⟨false, rfl, fun h => (by cases h), hb4⟩
   · go_wp2
     go_ret
     exact ⟨false, rfl, fun h => (by cases h), hb2⟩
set_option maxHeartbeats 8000000 in
set_option maxRecDepth 20000 in
theorem y_One {w : World} :
    Calls Try.prog 8 #[] w (fun e w' => ∃ f : Mv, e = .returned (mv f) ∧ Fm w' Mq.one f ∧ Below w.heap.size w w') := by
 have BW : Below w.heap.size w w := Below.refl _ _
 obtain ⟨V1, e2, hb3, K4, Z5, -⟩ := alloc_new w [.bool false, .slice none 0 0, .bool false, .slice none 0 0, .bool false, .slice none 0 0, .bool false, .slice none 0 0, .bool false, .slice none 0 0, .bool false, .slice none 0 0, .bool false, .slice none 0 0, .bool false, .slice none 0 0] 28
 replace K4 : Box V1 (w.heap.size) (zcs16) := K4
 have g6 : w.heap.size ≤ w.heap.size := BW.size
 replace BW := BW.trans (hb3.mono BW.size)
 clear hb3
 go_enter Try.func8, Try.ntmps8
 go_wp2_with fail
 rw [← e2]
 clear e2
 refine (y_of (n := 1) (by decide) (by decide)).mono ?_
 rintro _ w7 ⟨f1, rfl, h1, hb⟩
 replace K4 := K4.on hb
 replace Z5 := Z5.on hb
 replace BW := BW.trans (hb.mono BW.size)
 clear hb
 go_wp2_with fail
 refine (y_of (n := 0) (by decide) (by decide)).mono ?_
 rintro _ w8 ⟨f2, rfl, h2, hb⟩
 replace K4 := K4.on hb
 replace Z5 := Z5.on hb
 replace h1 := h1.kp (Kept.of hb)
 replace BW := BW.trans (hb.mono BW.size)
 clear hb
 go_wp2_with fail
 refine (y_of (n := 0) (by decide) (by decide)).mono ?_
 rintro _ w9 ⟨f3, rfl, h3, hb⟩
 replace K4 := K4.on hb
 replace Z5 := Z5.on hb
 replace h1 := h1.kp (Kept.of hb)
 replace h2 := h2.kp (Kept.of hb)
 replace BW := BW.trans (hb.mono BW.size)
 clear hb
 go_wp2_with fail
 refine (y_of (n := 1) (by decide) (by decide)).mono ?_
 rintro _ w10 ⟨f4, rfl, h4, hb⟩
 replace K4 := K4.on hb
 replace Z5 := Z5.on hb
 replace h1 := h1.kp (Kept.of hb)
 replace h2 := h2.kp (Kept.of hb)
 replace h3 := h3.kp (Kept.of hb)
 replace BW := BW.trans (hb.mono BW.size)
 clear hb
 obtain ⟨c11, c12, c13, c14, c15, c16, c17, c18, c19, c20, c21, c22, c23, c24, c25, c26⟩ := K4.c16
 obtain ⟨c27, c28, c29, c30, c31, c32, c33, c34, c35, c36, c37, c38, c39, c40, c41, c42⟩ := Z5.f16
 obtain ⟨V43, hk45⟩ : ∃ V43, V43 = w10.setCells (w.heap.size) 0 [.bool f1.n, .slice f1.A f1.xs.length f1.c, .bool f1.m, .slice f1.B f1.ds.length f1.d, .bool f2.n, .slice f2.A f2.xs.length f2.c, .bool f2.m, .slice f2.B f2.ds.length f2.d, .bool f3.n, .slice f3.A f3.xs.length f3.c, .bool f3.m, .slice f3.B f3.ds.length f3.d, .bool f4.n, .slice f4.A f4.xs.length f4.c, .bool f4.m, .slice f4.B f4.ds.length f4.d] := ⟨_, rfl⟩
 have e44 := hk45
 simp only [World.setCells, Nat.zero_add, Nat.reduceAdd] at e44
 have hk46 := Kept.overE hk45 K4 rfl (Nat.le_of_ble_eq_true rfl)
 replace K4 := K4.overE hk45 rfl
 replace h1 := h1.kp hk46
 replace h2 := h2.kp hk46
 replace h3 := h3.kp hk46
 replace h4 := h4.kp hk46
 replace BW := Below.putE BW hk45 g6
 clear hk45 hk46
 go_wp2_with fail
 clear c11 c12 c13 c14 c15 c16 c17 c18 c19 c20 c21 c22 c23 c24 c25 c26 c27 c28 c29 c30 c31 c32 c33 c34 c35 c36 c37 c38 c39 c40 c41 c42
 rw [← e44]
 clear e44
 obtain ⟨c47, c48, c49, c50, c51, c52, c53, c54, c55, c56, c57, c58, c59, c60, c61, c62⟩ := K4.c16
 exact bodyPost_ret (v := mv ⟨f1, f2, f3, f4⟩) (by simp [results, Try.results8, go_sem, c47, c48, c49, c50, c51, c52, c53, c54, c55, c56, c57, c58, c59, c60, c61, c62]) rfl ⟨⟨f1, f2, f3, f4⟩, rfl, ⟨h1, h2, h3, h4⟩, BW⟩
end Go.Proofs.Ytfhleccodbjfbaa
