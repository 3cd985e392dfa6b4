/-
  What ray makes of matrices and rays by its sums of two products. Conditions: that they may be.
-/
import Derived.Test.YtjamfkafgfpobaaGreatDoorXta
import Derived.Test.YtjamfkafgfpobaaGreatDoorRc0
import Derived.Test.YtjamfkafgfpobaaGreatDoorXtra
import Derived.Deep.RegionHeld3
import Derived.Deep.DeepCutAuto
import Derived.BigRegion
namespace Go.Proofs.YtjamfkafgfpobaaGreatDoor
open Go.RowKit Nb
set_option maxHeartbeats 8000000 in
set_option maxRecDepth 20000 in
theorem y_doThr {q : Mq} {m : Mv} {r : Yq} {y : Yv} {g p1 p2 : Nat} {w : World} (Fm1 : Fm w q m) (Fy1 : Fy w r y) (K1 : Box w p1 (mcs m)) (K2 : Box w p2 (ycs y)) (n1 : p1 ≠ g) (n2 : p2 ≠ g) (Kg : Box w g [.int .i64 0]) (Zg : Fz w g) :
    Calls Tryz.prog 41 #[.func (.func 77) #[] #[.pointer (some ⟨g, 0, none⟩)], .pointer (some ⟨p1, 0, none⟩), .pointer (some ⟨p2, 0, none⟩)] w (fun e w' => ∃ (f : Yv) (e1 : Int), e = .returned (yv f) ∧ YIs w' (q.thr r) f e1 ∧ Box w' g [.int .i64 e1] ∧ Fz w' g ∧ But g w w') := by
 have hg0 := Kg.lt
 have BW : But g w w := But.refl _ _
 obtain ⟨V1, e2, hb3, K4, Z5, -⟩ := alloc_new w [.bool false, .slice none 0 0, .bool false, .slice none 0 0, .bool false, .slice none 0 0, .bool false, .slice none 0 0] 29
 replace K4 : Box V1 (w.heap.size) (zcs8) := K4
 have n6 : g ≠ w.heap.size := Nat.ne_of_lt (Kg.lt)
 have n7 : p1 ≠ w.heap.size := Nat.ne_of_lt (K1.lt)
 have n8 : p2 ≠ w.heap.size := Nat.ne_of_lt (K2.lt)
 have g9 : w.heap.size ≤ w.heap.size := BW.size
 replace Kg := Kg.on hb3
 replace K1 := K1.on hb3
 replace K2 := K2.on hb3
 replace Zg := Zg.on hb3
 replace Fm1 := Fm1.kp (Kept.of hb3)
 replace Fy1 := Fy1.kp (Kept.of hb3)
 replace BW := BW.go hg0 hb3
 clear hb3
 go_enter Tryz.func41, Tryz.ntmps41
 go_wp2_with fail
 rw [← e2]
 clear e2
 refine wp_region_noPanic ?_
 have hb : Below V1.heap.size V1 V1.drew := (Below.refl _ _).drew
 replace Kg := Kg.on hb
 replace K1 := K1.on hb
 replace K2 := K2.on hb
 replace K4 := K4.on hb
 replace Zg := Zg.on hb
 replace Z5 := Z5.on hb
 replace Fm1 := Fm1.kp (Kept.of hb)
 replace Fy1 := Fy1.kp (Kept.of hb)
 replace BW := BW.go hg0 hb
 clear hb
 refine wp_region_held_drew (S := (fun wx => Cs wx (p1) 0 [.bool m.A.n, .slice m.A.A m.A.xs.length m.A.c, .bool m.A.m, .slice m.A.B m.A.ds.length m.A.d, .bool m.B.n, .slice m.B.A m.B.xs.length m.B.c, .bool m.B.m, .slice m.B.B m.B.ds.length m.B.d, .bool m.C.n, .slice m.C.A m.C.xs.length m.C.c, .bool m.C.m, .slice m.C.B m.C.ds.length m.C.d, .bool m.D.n, .slice m.D.A m.D.xs.length m.D.c, .bool m.D.m, .slice m.D.B m.D.ds.length m.D.d] ∧ Cs wx (p2) 0 [.bool y.Y.n, .slice y.Y.A y.Y.xs.length y.Y.c, .bool y.Y.m, .slice y.Y.B y.Y.ds.length y.Y.d, .bool y.U.n, .slice y.U.A y.U.xs.length y.U.c, .bool y.U.m, .slice y.U.B y.U.ds.length y.U.d])) (by kernel_rfl) (by exact ⟨K1.cs, K2.cs⟩) (fun hHeld => ?_)
 generalize V1.drew = Vd10 at *
 refine pT 0 ?_
 (try simp only [p0, p1, p2, p3])
 refine pT 1 ?_
 (try simp only [p0, p1, p2, p3])
 refine pT 2 ?_
 (try simp only [p0, p1, p2, p3])
 refine pT 3 ?_
 (try simp only [p0, p1, p2, p3])
 refine pT 4 ?_
 (try simp only [p0, p1, p2, p3])
 refine pT 5 ?_
 (try simp only [p0, p1, p2, p3])
 refine pT 6 ?_
 (try simp only [p0, p1, p2, p3])
 refine pT 7 ?_
 (try simp only [p0, p1, p2, p3])
 refine pT 8 ?_
 (try simp only [p0, p1, p2, p3])
 refine pT 10 ?_
 (try simp only [p0, p1, p2, p3])
 refine pT 11 ?_
 (try simp only [p0, p1, p2, p3])
 refine pT 12 ?_
 (try simp only [p0, p1, p2, p3])
 refine pT 13 ?_
 (try simp only [p0, p1, p2, p3])
 refine pT 14 ?_
 (try simp only [p0, p1, p2, p3])
 refine pT 15 ?_
 (try simp only [p0, p1, p2, p3])
 refine pT 16 ?_
 (try simp only [p0, p1, p2, p3])
 refine pT 17 ?_
 (try simp only [p0, p1, p2, p3])
 refine pT 18 ?_
 (try simp only [p0, p1, p2, p3])
 refine pR1 9 (fun K hK => ?_)
 go_simp
 (go_at_call 77; with_reducible refine (y_putY Fm1.fA Fy1.fY Fm1.fB Fy1.fU Kg Zg).mono ?_)
 rintro _ w11 ⟨f1, e1, rfl, h1, Kg1, Zg1, hb⟩
 (try go_wp2_with fail)
 clear Kg Zg
 replace K1 := hb.box n1 K1
 replace K2 := hb.box n2 K2
 replace K4 := hb.box n6.symm K4
 replace Z5 := hb.fz n6.symm Z5
 replace Fm1 := Fm1.kp hb.kept
 replace Fy1 := Fy1.kp hb.kept
 replace BW := BW.but hb
 clear hb
 clear hHeld
 refine hK.out _ _ (by exact ⟨K1.cs, K2.cs⟩) (fun hHeld => ?_)
 clear hK
 (try simp only [p0, p1, p2, p3])
 refine pR1 19 (fun K hK => ?_)
 go_simp
 (go_at_call 77; with_reducible refine (y_putY Fm1.fC Fy1.fY Fm1.fD Fy1.fU Kg1 Zg1).mono ?_)
 rintro _ w12 ⟨f2, e2, rfl, h2, Kg2, Zg2, hb⟩
 (try go_wp2_with fail)
 clear Kg1 Zg1
 replace K1 := hb.box n1 K1
 replace K2 := hb.box n2 K2
 replace K4 := hb.box n6.symm K4
 replace Z5 := hb.fz n6.symm Z5
 replace h1 := h1.kp hb.kept
 replace BW := BW.but hb
 clear hb
 clear hHeld
 refine hK.out _ _ (by exact ⟨K1.cs, K2.cs⟩) (fun hHeld => ?_)
 clear hK
 (try simp only [p0, p1, p2, p3])
 refine pT 20 ?_
 (try simp only [p0, p1, p2, p3])
 refine pR1 21 (fun K hK => ?_)
 obtain ⟨c13, c14, c15, c16, c17, c18, c19, c20⟩ := K4.c8
 obtain ⟨c21, c22, c23, c24, c25, c26, c27, c28⟩ := Z5.f8
 go_simp
 clear c13 c14 c15 c16 c17 c18 c19 c20 c21 c22 c23 c24 c25 c26 c27 c28
 obtain ⟨V29, hk31⟩ : ∃ V29, V29 = w12.setCells (w.heap.size) 0 [.bool f1.n, .slice f1.A f1.xs.length f1.c, .bool f1.m, .slice f1.B f1.ds.length f1.d, .bool f2.n, .slice f2.A f2.xs.length f2.c, .bool f2.m, .slice f2.B f2.ds.length f2.d] := ⟨_, rfl⟩
 have e30 := hk31
 simp only [World.setCells, Nat.zero_add, Nat.reduceAdd] at e30
 have hk32 := Kept.overE hk31 K4 rfl (Nat.le_of_ble_eq_true rfl)
 replace Kg2 := Kg2.awayE hk31 n6
 replace K1 := K1.awayE hk31 n7
 replace K2 := K2.awayE hk31 n8
 replace K4 := K4.overE hk31 rfl
 replace Zg2 := Zg2.putE hk31
 replace h1 := h1.kp hk32
 replace h2 := h2.kp hk32
 replace BW := BW.put hk31 hk32 g9 hg0
 clear hk31 hk32
 rw [← e30]
 clear e30
 clear hHeld
 refine hK.out _ _ (by exact ⟨K1.cs, K2.cs⟩) (fun hHeld => ?_)
 clear hK
 (try simp only [p0, p1, p2, p3])
 refine wpAnyH_done (by kernel_rfl) (NoPanic.normal ?_) _
 go_wp2
 obtain ⟨c33, c34, c35, c36, c37, c38, c39, c40⟩ := K4.c8
 exact bodyPost_ret (v := yv ⟨f1, f2⟩) (by simp [results, Tryz.results41, go_sem, c33, c34, c35, c36, c37, c38, c39, c40]) rfl ⟨⟨f1, f2⟩, e2, rfl, yis_two (z := q.thr r) h1 h2, Kg2, Zg2, BW⟩
end Go.Proofs.YtjamfkafgfpobaaGreatDoor
