/-
  ray: dot, reckon, Through, Mirror. Conditions: as each theorem states.
-/
import Derived.Test.YtjamfkafgfpobaaGreatDoorXta
import Derived.Test.YtjamfkafgfpobaaGreatDoorRc0
import Derived.Test.YtjamfkafgfpobaaGreatDoorXtra
import Derived.Deep.RegionHeld3
import Derived.Deep.DeepCutAuto
import Derived.BigRegion
import Derived.Test.YtjamfkafgfpobaaGreatDoorRf
namespace Go.Proofs.YtjamfkafgfpobaaGreatDoor
open Go.RowKit Nb
set_option maxHeartbeats 8000000 in
set_option maxRecDepth 20000 in
theorem y_doThr {q : Mq} {m : Mv} {r : Yq} {y : Yv} {g p1 p2 : Nat} {w : World} (Fm1 : Fm w q m) (Fy1 : Fy w r y) (K1 : Box w p1 (mcs m)) (K2 : Box w p2 (ycs y)) (n1 : p1 ≠ g) (n2 : p2 ≠ g) (Kg : Box w g [.int .i64 0]) (Zg : Fz w g) :
    Calls Tryz.prog 41 #[.func (.func 77) #[] #[.pointer (some ⟨g, 0, none⟩)], .pointer (some ⟨p1, 0, none⟩), .pointer (some ⟨p2, 0, none⟩)] w (fun e w' => ∃ (f : Yv) (e1 : Int), e = .returned (yv f) ∧ YIs w' (q.thr r) f e1 ∧ Box w' g [.int .i64 e1] ∧ Fz w' g ∧ But g w w') := by
 have hg0 := Kg.lt
 have BW : But g w w := But.refl _ _
 obtain ⟨V1, e2, hb3, K4, Z5, -⟩ := alloc_new w [.bool false, .slice none 0 0, .bool false, .slice none 0 0, .bool false, .slice none 0 0, .bool false, .slice none 0 0] 29
 replace K4 : Box V1 (w.heap.size) (zcs8) := K4
 have n6 : g ≠ w.heap.size := Nat.ne_of_lt (Kg.lt)
 have n7 : p1 ≠ w.heap.size := Nat.ne_of_lt (K1.lt)
 have n8 : p2 ≠ w.heap.size := Nat.ne_of_lt (K2.lt)
 have g9 : w.heap.size ≤ w.heap.size := BW.size
 replace Kg := Kg.on hb3
 replace K1 := K1.on hb3
 replace K2 := K2.on hb3
 replace Zg := Zg.on hb3
 replace Fm1 := Fm1.kp (Kept.of hb3)
 replace Fy1 := Fy1.kp (Kept.of hb3)
 replace BW := BW.go hg0 hb3
 clear hb3
 go_enter Tryz.func41, Tryz.ntmps41
 go_wp2_with fail
 rw [← e2]
 clear e2
 refine wp_region_noPanic ?_
 have hb : Below V1.heap.size V1 V1.drew := (Below.refl _ _).drew
 replace Kg := Kg.on hb
 replace K1 := K1.on hb
 replace K2 := K2.on hb
 replace K4 := K4.on hb
 replace Zg := Zg.on hb
 replace Z5 := Z5.on hb
 replace Fm1 := Fm1.kp (Kept.of hb)
 replace Fy1 := Fy1.kp (Kept.of hb)
 replace BW := BW.go hg0 hb
 clear hb
 refine wp_region_held_drew (S := (fun wx => Cs wx (p1) 0 [.bool m.A.n, .slice m.A.A m.A.xs.length m.A.c, .bool m.A.m, .slice m.A.B m.A.ds.length m.A.d, .bool m.B.n, .slice m.B.A m.B.xs.length m.B.c, .bool m.B.m, .slice m.B.B m.B.ds.length m.B.d, .bool m.C.n, .slice m.C.A m.C.xs.length m.C.c, .bool m.C.m, .slice m.C.B m.C.ds.length m.C.d, .bool m.D.n, .slice m.D.A m.D.xs.length m.D.c, .bool m.D.m, .slice m.D.B m.D.ds.length m.D.d] ∧ Cs wx (p2) 0 [.bool y.Y.n, .slice y.Y.A y.Y.xs.length y.Y.c, .bool y.Y.m, .slice y.Y.B y.Y.ds.length y.Y.d, .bool y.U.n, .slice y.U.A y.U.xs.length y.U.c, .bool y.U.m, .slice y.U.B y.U.ds.length y.U.d])) (by kernel_rfl) (by exact ⟨K1.cs, K2.cs⟩) (fun hHeld => ?_)
 generalize V1.drew = Vd10 at *
 refine pT 0 ?_
 (try simp only [p0, p1, p2, p3])
 refine pT 1 ?_
 (try simp only [p0, p1, p2, p3])
 refine pT 2 ?_
 (try simp only [p0, p1, p2, p3])
 refine pT 3 ?_
 (try simp only [p0, p1, p2, p3])
 refine pT 4 ?_
 (try simp only [p0, p1, p2, p3])
 refine pT 5 ?_
 (try simp only [p0, p1, p2, p3])
 refine pT 6 ?_
 (try simp only [p0, p1, p2, p3])
 refine pT 7 ?_
 (try simp only [p0, p1, p2, p3])
 refine pT 8 ?_
 (try simp only [p0, p1, p2, p3])
 refine pT 10 ?_
 (try simp only [p0, p1, p2, p3])
 refine pT 11 ?_
 (try simp only [p0, p1, p2, p3])
 refine pT 12 ?_
 (try simp only [p0, p1, p2, p3])
 refine pT 13 ?_
 (try simp only [p0, p1, p2, p3])
 refine pT 14 ?_
 (try simp only [p0, p1, p2, p3])
 refine pT 15 ?_
 (try simp only [p0, p1, p2, p3])
 refine pT 16 ?_
 (try simp only [p0, p1, p2, p3])
 refine pT 17 ?_
 (try simp only [p0, p1, p2, p3])
 refine pT 18 ?_
 (try simp only [p0, p1, p2, p3])
 refine pR1 9 (fun K hK => ?_)
 go_simp
 (go_at_call 77; with_reducible refine (y_putY Fm1.fA Fy1.fY Fm1.fB Fy1.fU Kg Zg).mono ?_)
 rintro _ w11 ⟨f1, e1, rfl, h1, Kg1, Zg1, hb⟩
 (try go_wp2_with fail)
 clear Kg Zg
 replace K1 := hb.box n1 K1
 replace K2 := hb.box n2 K2
 replace K4 := hb.box n6.symm K4
 replace Z5 := hb.fz n6.symm Z5
 replace Fm1 := Fm1.kp hb.kept
 replace Fy1 := Fy1.kp hb.kept
 replace BW := BW.but hb
 clear hb
 clear hHeld
 refine hK.out _ _ (by exact ⟨K1.cs, K2.cs⟩) (fun hHeld => ?_)
 clear hK
 (try simp only [p0, p1, p2, p3])
 refine pR1 19 (fun K hK => ?_)
 go_simp
 (go_at_call 77; with_reducible refine (y_putY Fm1.fC Fy1.fY Fm1.fD Fy1.fU Kg1 Zg1).mono ?_)
 rintro _ w12 ⟨f2, e2, rfl, h2, Kg2, Zg2, hb⟩
 (try go_wp2_with fail)
 clear Kg1 Zg1
 replace K1 := hb.box n1 K1
 replace K2 := hb.box n2 K2
 replace K4 := hb.box n6.symm K4
 replace Z5 := hb.fz n6.symm Z5
 replace h1 := h1.kp hb.kept
 replace BW := BW.but hb
 clear hb
 clear hHeld
 refine hK.out _ _ (by exact ⟨K1.cs, K2.cs⟩) (fun hHeld => ?_)
 clear hK
 (try simp only [p0, p1, p2, p3])
 refine pT 20 ?_
 (try simp only [p0, p1, p2, p3])
 refine pR1 21 (fun K hK => ?_)
 obtain ⟨c13, c14, c15, c16, c17, c18, c19, c20⟩ := K4.c8
 obtain ⟨c21, c22, c23, c24, c25, c26, c27, c28⟩ := Z5.f8
 go_simp
 clear c13 c14 c15 c16 c17 c18 c19 c20 c21 c22 c23 c24 c25 c26 c27 c28
 obtain ⟨V29, hk31⟩ : ∃ V29, V29 = w12.setCells (w.heap.size) 0 [.bool f1.n, .slice f1.A f1.xs.length f1.c, .bool f1.m, .slice f1.B f1.ds.length f1.d, .bool f2.n, .slice f2.A f2.xs.length f2.c, .bool f2.m, .slice f2.B f2.ds.length f2.d] := ⟨_, rfl⟩
 have e30 := hk31
 simp only [World.setCells, Nat.zero_add, Nat.reduceAdd] at e30
 have hk32 := Kept.overE hk31 K4 rfl (Nat.le_of_ble_eq_true rfl)
 replace Kg2 := Kg2.awayE hk31 n6
 replace K1 := K1.awayE hk31 n7
 replace K2 := K2.awayE hk31 n8
 replace K4 := K4.overE hk31 rfl
 replace Zg2 := Zg2.putE hk31
 replace h1 := h1.kp hk32
 replace h2 := h2.kp hk32
 replace BW := BW.put hk31 hk32 g9 hg0
 clear hk31 hk32
 rw [← e30]
 clear e30
 clear hHeld
 refine hK.out _ _ (by exact ⟨K1.cs, K2.cs⟩) (fun hHeld => ?_)
 clear hK
 (try simp only [p0, p1, p2, p3])
 refine wpAnyH_done (by kernel_rfl) (NoPanic.normal ?_) _
 go_wp2
 obtain ⟨c33, c34, c35, c36, c37, c38, c39, c40⟩ := K4.c8
 exact bodyPost_ret (v := yv ⟨f1, f2⟩) (by simp [results, Tryz.results41, go_sem, c33, c34, c35, c36, c37, c38, c39, c40]) rfl ⟨⟨f1, f2⟩, e2, rfl, yis_two (z := q.thr r) h1 h2, Kg2, Zg2, BW⟩
end Go.Proofs.YtjamfkafgfpobaaGreatDoor
namespace Go.Proofs.YtjamfkafgfpobaaGreatDoor
open Go.RowKit Nb
set_option maxHeartbeats 8000000 in
set_option maxRecDepth 20000 in
theorem y_rkThr {q : Mq} {m : Mv} {r : Yq} {y : Yv} {p1 p2 : Nat} {w : World} (Fm1 : Fm w q m) (Fy1 : Fy w r y) (K1 : Box w p1 (mcs m)) (K2 : Box w p2 (ycs y)) :
    Calls Tryz.prog 38 #[.int .i64 0, .func (.func 41) #[] #[.pointer (some ⟨p1, 0, none⟩), .pointer (some ⟨p2, 0, none⟩)]] w (fun e w' => ∃ (f : Yv) (e1 : Int), e = .returned (.tuple #[yv f, .int .i64 e1]) ∧ YIs w' (q.thr r) f e1 ∧ Below w.heap.size w w') := by
 have BW : Below w.heap.size w w := Below.refl _ _
 obtain ⟨V2, e3, hb4, K5, Z6, z1⟩ := alloc_new w [.int .i64 0] 38
 have n7 : p1 ≠ w.heap.size := Nat.ne_of_lt (K1.lt)
 have n8 : p2 ≠ w.heap.size := Nat.ne_of_lt (K2.lt)
 have g9 : w.heap.size ≤ w.heap.size := BW.size
 replace K1 := K1.on hb4
 replace K2 := K2.on hb4
 replace Fm1 := Fm1.kp (Kept.of hb4)
 replace Fy1 := Fy1.kp (Kept.of hb4)
 replace BW := BW.trans (hb4.mono BW.size)
 clear hb4
 obtain ⟨V11, e12, hb13, K14, Z15, z10⟩ := alloc_new V2 [.bool false, .slice none 0 0, .bool false, .slice none 0 0, .bool false, .slice none 0 0, .bool false, .slice none 0 0] 29
 rw [z1] at K14 Z15 z10
 replace K14 : Box V11 (w.heap.size + 1) (zcs8) := K14
 have n16 : p1 ≠ w.heap.size + 1 := Nat.ne_of_lt (z1 ▸ K1.lt)
 have n17 : p2 ≠ w.heap.size + 1 := Nat.ne_of_lt (z1 ▸ K2.lt)
 have n18 : w.heap.size ≠ w.heap.size + 1 := Nat.ne_of_lt (z1 ▸ K5.lt)
 have g19 : w.heap.size ≤ w.heap.size + 1 := z1 ▸ BW.size
 replace K1 := K1.on hb13
 replace K2 := K2.on hb13
 replace K5 := K5.on hb13
 replace Z6 := Z6.on hb13
 replace Fm1 := Fm1.kp (Kept.of hb13)
 replace Fy1 := Fy1.kp (Kept.of hb13)
 replace BW := BW.trans (hb13.mono BW.size)
 clear hb13
 obtain ⟨V20, e21, hb22, K23, Z24, -⟩ := alloc_new V11 [.bool false, .slice none 0 0, .bool false, .slice none 0 0, .bool false, .slice none 0 0, .bool false, .slice none 0 0] 29
 rw [z10] at K23 Z24
 replace K23 : Box V20 (w.heap.size + 1 + 1) (zcs8) := K23
 have n25 : p1 ≠ w.heap.size + 1 + 1 := Nat.ne_of_lt (z10 ▸ K1.lt)
 have n26 : p2 ≠ w.heap.size + 1 + 1 := Nat.ne_of_lt (z10 ▸ K2.lt)
 have n27 : w.heap.size ≠ w.heap.size + 1 + 1 := Nat.ne_of_lt (z10 ▸ K5.lt)
 have n28 : w.heap.size + 1 ≠ w.heap.size + 1 + 1 := Nat.ne_of_lt (z10 ▸ K14.lt)
 have g29 : w.heap.size ≤ w.heap.size + 1 + 1 := z10 ▸ BW.size
 replace K1 := K1.on hb22
 replace K2 := K2.on hb22
 replace K5 := K5.on hb22
 replace K14 := K14.on hb22
 replace Z6 := Z6.on hb22
 replace Z15 := Z15.on hb22
 replace Fm1 := Fm1.kp (Kept.of hb22)
 replace Fy1 := Fy1.kp (Kept.of hb22)
 replace BW := BW.trans (hb22.mono BW.size)
 clear hb22
 clear z1 z10
 go_enter Tryz.func38, Tryz.ntmps38
 go_wp2_with fail
 rw [← e3, ← e12, ← e21]
 clear e3 e12 e21
 go_wp2_with fail
 refine (y_doThr Fm1 Fy1 K1 K2 n7 n8 K5 Z6).mono ?_
 rintro _ w30 ⟨f, e1, rfl, h, Kg, Zg, hb⟩
 replace K1 := hb.box n7 K1
 replace K2 := hb.box n8 K2
 clear K5 Z6
 replace K14 := hb.box n18.symm K14
 replace Z15 := hb.fz n18.symm Z15
 replace K23 := hb.box n27.symm K23
 replace Z24 := hb.fz n27.symm Z24
 replace BW := BW.trans (hb.b.mono g9)
 clear hb
 by_cases he : e1 = 0
 · obtain rfl : e1 = 0 := he
   obtain ⟨V31, e32, hb33, K34, Z35, -⟩ := alloc_new w30 [.bool f.Y.n, .slice f.Y.A f.Y.xs.length f.Y.c, .bool f.Y.m, .slice f.Y.B f.Y.ds.length f.Y.d, .bool f.U.n, .slice f.U.A f.U.xs.length f.U.c, .bool f.U.m, .slice f.U.B f.U.ds.length f.U.d] 29
   replace K34 : Box V31 (w30.heap.size) (ycs f) := K34
   have n36 : p1 ≠ w30.heap.size := Nat.ne_of_lt (K1.lt)
   have n37 : p2 ≠ w30.heap.size := Nat.ne_of_lt (K2.lt)
   have n38 : w.heap.size ≠ w30.heap.size := Nat.ne_of_lt (Kg.lt)
   have n39 : w.heap.size + 1 ≠ w30.heap.size := Nat.ne_of_lt (K14.lt)
   have n40 : w.heap.size + 1 + 1 ≠ w30.heap.size := Nat.ne_of_lt (K23.lt)
   have g41 : w.heap.size ≤ w30.heap.size := BW.size
   replace Kg := Kg.on hb33
   replace K14 := K14.on hb33
   replace Z15 := Z15.on hb33
   replace h := h.kp (Kept.of hb33)
   replace BW := BW.trans (hb33.mono BW.size)
   clear hb33
   have c42 := Kg.c1
   rw [e32] at c42
   obtain ⟨c43, c44, c45, c46, c47, c48, c49, c50⟩ := K14.c8
   obtain ⟨c51, c52, c53, c54, c55, c56, c57, c58⟩ := Z15.f8
   rw [e32] at c43 c44 c45 c46 c47 c48 c49 c50 c51 c52 c53 c54 c55 c56 c57 c58
   obtain ⟨V59, hk61⟩ : ∃ V59, V59 = V31.setCells (w.heap.size + 1) 0 [.bool f.Y.n, .slice f.Y.A f.Y.xs.length f.Y.c, .bool f.Y.m, .slice f.Y.B f.Y.ds.length f.Y.d, .bool f.U.n, .slice f.U.A f.U.xs.length f.U.c, .bool f.U.m, .slice f.U.B f.U.ds.length f.U.d] := ⟨_, rfl⟩
   have e60 := hk61
   simp only [World.setCells, Nat.zero_add, Nat.reduceAdd] at e60
   have hk62 := Kept.overE hk61 K14 rfl (Nat.le_of_ble_eq_true rfl)
   replace K14 := K14.overE hk61 rfl
   replace h := h.kp hk62
   replace BW := Below.putE BW hk61 g19
   clear hk61 hk62
   replace K14 : Box V59 (w.heap.size + 1) (ycs f) := K14
   go_wp2_with fail
   clear c42 c43 c44 c45 c46 c47 c48 c49 c50 c51 c52 c53 c54 c55 c56 c57 c58
   rw [← e32, ← e60]
   clear e32 e60
   generalize w30.heap.size = b63 at *
   obtain ⟨c64, c65, c66, c67, c68, c69, c70, c71⟩ := K14.c8
   exact bodyPost_ret (v := .tuple #[yv f, .int .i64 0]) (by simp [results, Tryz.results38, go_sem, c64, c65, c66, c67, c68, c69, c70, c71]) rfl ⟨f, 0, rfl, h, BW⟩
 · have he2 : (e1 == 0) = false := by simpa using he
   have HE := Lib.hid he
   clear he
   obtain ⟨V31, e32, hb33, K34, Z35, -⟩ := alloc_new w30 [.bool f.Y.n, .slice f.Y.A f.Y.xs.length f.Y.c, .bool f.Y.m, .slice f.Y.B f.Y.ds.length f.Y.d, .bool f.U.n, .slice f.U.A f.U.xs.length f.U.c, .bool f.U.m, .slice f.U.B f.U.ds.length f.U.d] 29
   replace K34 : Box V31 (w30.heap.size) (ycs f) := K34
   have n36 : p1 ≠ w30.heap.size := Nat.ne_of_lt (K1.lt)
   have n37 : p2 ≠ w30.heap.size := Nat.ne_of_lt (K2.lt)
   have n38 : w.heap.size ≠ w30.heap.size := Nat.ne_of_lt (Kg.lt)
   have n39 : w.heap.size + 1 ≠ w30.heap.size := Nat.ne_of_lt (K14.lt)
   have n40 : w.heap.size + 1 + 1 ≠ w30.heap.size := Nat.ne_of_lt (K23.lt)
   have g41 : w.heap.size ≤ w30.heap.size := BW.size
   replace Kg := Kg.on hb33
   replace K14 := K14.on hb33
   replace K23 := K23.on hb33
   replace Z15 := Z15.on hb33
   replace h := h.kp (Kept.of hb33)
   replace BW := BW.trans (hb33.mono BW.size)
   clear hb33
   have c42 := Kg.c1
   rw [e32] at c42
   go_wp2_with fail
   clear c42
   rw [← e32]
   clear e32
   generalize w30.heap.size = b43 at *
   refine wp_region_noPanic ?_
   have hb : Below V31.heap.size V31 V31.drew := (Below.refl _ _).drew
   replace Kg := Kg.on hb
   replace K14 := K14.on hb
   replace K23 := K23.on hb
   replace Z15 := Z15.on hb
   replace h := h.kp (Kept.of hb)
   replace BW := BW.trans (hb.mono BW.size)
   clear hb
   refine wp_region_held_drew (S := (fun wx => Cs wx (w.heap.size) 0 [.int .i64 e1] ∧ Cs wx (w.heap.size + 1 + 1) 0 [.bool false, .slice none 0 0, .bool false, .slice none 0 0, .bool false, .slice none 0 0, .bool false, .slice none 0 0])) (by kernel_rfl) (by exact ⟨Kg.cs, K23.cs⟩) (fun hHeld => ?_)
   generalize V31.drew = Vd44 at *
   refine pT 0 ?_
   (try simp only [p0, p1, p2, p3])
   refine pT 1 ?_
   (try simp only [p0, p1, p2, p3])
   refine pR1 2 (fun K hK => ?_)
   obtain ⟨c45, c46, c47, c48, c49, c50, c51, c52⟩ := K14.c8
   obtain ⟨c53, c54, c55, c56, c57, c58, c59, c60⟩ := Z15.f8
   go_simp
   clear c45 c46 c47 c48 c49 c50 c51 c52 c53 c54 c55 c56 c57 c58 c59 c60
   obtain ⟨V61, hk63⟩ : ∃ V61, V61 = Vd44.setCells (w.heap.size + 1) 0 [.bool false, .slice none 0 0, .bool false, .slice none 0 0, .bool false, .slice none 0 0, .bool false, .slice none 0 0] := ⟨_, rfl⟩
   have e62 := hk63
   simp only [World.setCells, Nat.zero_add, Nat.reduceAdd] at e62
   have hk64 := Kept.overE hk63 K14 rfl (Nat.le_of_ble_eq_true rfl)
   replace Kg := Kg.awayE hk63 n18
   replace K14 := K14.overE hk63 rfl
   replace K23 := K23.awayE hk63 n28.symm
   replace h := h.kp hk64
   replace BW := Below.putE BW hk63 g19
   clear hk63 hk64
   replace K14 : Box V61 (w.heap.size + 1) (zcs8) := K14
   rw [← e62]
   clear e62
   clear hHeld
   refine hK.out _ _ (by exact ⟨Kg.cs, K23.cs⟩) (fun hHeld => ?_)
   clear hK
   (try simp only [p0, p1, p2, p3])
   refine pT 3 ?_
   (try simp only [p0, p1, p2, p3])
   refine wpAnyH_done (by kernel_rfl) (NoPanic.normal ?_) _
   go_wp2
   obtain ⟨c65, c66, c67, c68, c69, c70, c71, c72⟩ := K14.c8
   exact bodyPost_ret (v := .tuple #[.agg #[.bool false, .slice none 0 0, .bool false, .slice none 0 0, .bool false, .slice none 0 0, .bool false, .slice none 0 0], .int .i64 e1]) (by simp [results, Tryz.results38, go_sem, c65, c66, c67, c68, c69, c70, c71, c72]) rfl ⟨yv0, e1, rfl, h.no HE.out, BW⟩
end Go.Proofs.YtjamfkafgfpobaaGreatDoor
namespace Go.Proofs.YtjamfkafgfpobaaGreatDoor
open Go.RowKit Nb
theorem chk_ray0 {r : Yq} {y : Yv} {w : World} (h : Fy w r y) : Calls Tryz.prog 40 #[yv y] w (fun e w' => e = .returned (.int .i64 0) ∧ Below w.heap.size w w') := by
 have := y_chkRay h.xy
 rwa [chkv_ok h.fY.okv, chkv_ok h.fU.okv] at this
set_option maxHeartbeats 8000000 in
set_option maxRecDepth 20000 in
theorem y_Thr {q : Mq} {m : Mv} {r : Yq} {y : Yv} {w : World} (Fm1 : Fm w q m) (Fy1 : Fy w r y) (hd1 : q.det = 1) :
    Calls Tryz.prog 13 #[mv m, yv y] w (fun e w' => ∃ (f : Yv) (e1 : Int), e = .returned (.tuple #[yv f, .int .i64 e1]) ∧ YIs w' (q.thr r) f e1 ∧ Below w.heap.size w w') := by
 have BW : Below w.heap.size w w := Below.refl _ _
 obtain ⟨V2, e3, hb4, K5, -, z1⟩ := alloc_new w [.bool m.A.n, .slice m.A.A m.A.xs.length m.A.c, .bool m.A.m, .slice m.A.B m.A.ds.length m.A.d, .bool m.B.n, .slice m.B.A m.B.xs.length m.B.c, .bool m.B.m, .slice m.B.B m.B.ds.length m.B.d, .bool m.C.n, .slice m.C.A m.C.xs.length m.C.c, .bool m.C.m, .slice m.C.B m.C.ds.length m.C.d, .bool m.D.n, .slice m.D.A m.D.xs.length m.D.c, .bool m.D.m, .slice m.D.B m.D.ds.length m.D.d] 37
 replace K5 : Box V2 (w.heap.size) (mcs m) := K5
 replace Fm1 := Fm1.kp (Kept.of hb4)
 replace Fy1 := Fy1.kp (Kept.of hb4)
 replace BW := BW.trans (hb4.mono BW.size)
 clear hb4
 obtain ⟨V7, e8, hb9, K10, -, z6⟩ := alloc_new V2 [.bool y.Y.n, .slice y.Y.A y.Y.xs.length y.Y.c, .bool y.Y.m, .slice y.Y.B y.Y.ds.length y.Y.d, .bool y.U.n, .slice y.U.A y.U.xs.length y.U.c, .bool y.U.m, .slice y.U.B y.U.ds.length y.U.d] 29
 rw [z1] at K10 z6
 replace K10 : Box V7 (w.heap.size + 1) (ycs y) := K10
 replace K5 := K5.on hb9
 replace Fm1 := Fm1.kp (Kept.of hb9)
 replace Fy1 := Fy1.kp (Kept.of hb9)
 replace BW := BW.trans (hb9.mono BW.size)
 clear hb9
 obtain ⟨V11, e12, hb13, K14, Z15, -⟩ := alloc_new V7 [.bool false, .slice none 0 0, .bool false, .slice none 0 0, .bool false, .slice none 0 0, .bool false, .slice none 0 0] 29
 rw [z6] at K14 Z15
 replace K14 : Box V11 (w.heap.size + 1 + 1) (zcs8) := K14
 have n16 : w.heap.size ≠ w.heap.size + 1 + 1 := Nat.ne_of_lt (z6 ▸ K5.lt)
 have n17 : w.heap.size + 1 ≠ w.heap.size + 1 + 1 := Nat.ne_of_lt (z6 ▸ K10.lt)
 have g18 : w.heap.size ≤ w.heap.size + 1 + 1 := z6 ▸ BW.size
 replace K5 := K5.on hb13
 replace K10 := K10.on hb13
 replace Fm1 := Fm1.kp (Kept.of hb13)
 replace Fy1 := Fy1.kp (Kept.of hb13)
 replace BW := BW.trans (hb13.mono BW.size)
 clear hb13
 clear z1 z6
 go_enter Tryz.func13, Tryz.ntmps13
 go_wp2_with fail
 rw [← e3, ← e8, ← e12]
 clear e3 e8 e12
 go_cut [5] (fun s5 wx => ∃ (f : Yv) (e1 : Int), s5 = .int .i64 e1 ∧ Below w.heap.size w wx ∧ Box wx (w.heap.size + 1 + 1) (ycs f) ∧ YIs wx (q.thr r) f e1)
 case first =>
  refine wp_region_noPanic ?_
  have hb : Below V11.heap.size V11 V11.drew := (Below.refl _ _).drew
  replace K5 := K5.on hb
  replace K10 := K10.on hb
  replace K14 := K14.on hb
  replace Z15 := Z15.on hb
  replace Fm1 := Fm1.kp (Kept.of hb)
  replace Fy1 := Fy1.kp (Kept.of hb)
  replace BW := BW.trans (hb.mono BW.size)
  clear hb
  refine wp_region_held_drew (S := (fun wx => Box wx (w.heap.size) [.bool m.A.n, .slice m.A.A m.A.xs.length m.A.c, .bool m.A.m, .slice m.A.B m.A.ds.length m.A.d, .bool m.B.n, .slice m.B.A m.B.xs.length m.B.c, .bool m.B.m, .slice m.B.B m.B.ds.length m.B.d, .bool m.C.n, .slice m.C.A m.C.xs.length m.C.c, .bool m.C.m, .slice m.C.B m.C.ds.length m.C.d, .bool m.D.n, .slice m.D.A m.D.xs.length m.D.c, .bool m.D.m, .slice m.D.B m.D.ds.length m.D.d] ∧ Cs wx (w.heap.size + 1) 0 [.bool y.Y.n, .slice y.Y.A y.Y.xs.length y.Y.c, .bool y.Y.m, .slice y.Y.B y.Y.ds.length y.Y.d, .bool y.U.n, .slice y.U.A y.U.xs.length y.U.c, .bool y.U.m, .slice y.U.B y.U.ds.length y.U.d])) (by kernel_rfl) (by exact ⟨K5, K10.cs⟩) (fun hHeld => ?_)
  generalize V11.drew = Vd19 at *
  refine pT 0 ?_ (hy := fun wt hSw => ldM rfl rfl hSw.1)
  (try simp only [p0, p1, p2, p3])
  refine pT 2 ?_
  (try simp only [p0, p1, p2, p3])
  refine pR2 1 6 (fun K hK => ?_) (fun K hK => ?_)
  ·go_simp
   (go_at_call 12; with_reducible refine (y_check0 Fm1 hd1).mono ?_)
   rintro _ w20 ⟨rfl, hb⟩
   (try go_wp2_with fail)
   replace K5 := K5.on hb
   replace K10 := K10.on hb
   replace K14 := K14.on hb
   replace Z15 := Z15.on hb
   replace Fm1 := Fm1.kp (Kept.of hb)
   replace Fy1 := Fy1.kp (Kept.of hb)
   replace BW := BW.trans (hb.mono BW.size)
   clear hb
   clear hHeld
   refine hK.out _ _ (by exact ⟨K5, K10.cs⟩) (fun hHeld => ?_)
   clear hK
   (try simp only [p0, p1, p2, p3])
   refine pR2 3 6 (fun K hK => ?_) (fun K hK => ?_)
   ·go_simp
    (go_at_call 40; with_reducible refine (chk_ray0 Fy1).mono ?_)
    rintro _ w21 ⟨rfl, hb⟩
    (try go_wp2_with fail)
    replace K5 := K5.on hb
    replace K10 := K10.on hb
    replace K14 := K14.on hb
    replace Z15 := Z15.on hb
    replace Fm1 := Fm1.kp (Kept.of hb)
    replace Fy1 := Fy1.kp (Kept.of hb)
    replace BW := BW.trans (hb.mono BW.size)
    clear hb
    clear hHeld
    refine hK.out _ _ (by exact ⟨K5, K10.cs⟩) (fun hHeld => ?_)
    clear hK
    (try simp only [p0, p1, p2, p3])
    refine pR2 4 6 (fun K hK => ?_) (fun K hK => ?_)
    ·go_simp
     obtain ⟨V22, e23, hb24, K25, -, -⟩ := alloc_new w21 [.int .i64 0, .int .i64 0] 38
     have n26 : w.heap.size + 1 + 1 ≠ w21.heap.size := Nat.ne_of_lt (K14.lt)
     replace K5 := K5.on hb24
     replace K10 := K10.on hb24
     replace K14 := K14.on hb24
     replace Z15 := Z15.on hb24
     replace Fm1 := Fm1.kp (Kept.of hb24)
     replace Fy1 := Fy1.kp (Kept.of hb24)
     replace BW := BW.trans (hb24.mono BW.size)
     clear hb24
     rw [← e23]
     clear e23
     generalize w21.heap.size = b27 at *
     clear hHeld
     refine hK.out _ _ (by exact ⟨K5, K10.cs⟩) (fun hHeld => ?_)
     clear hK
     (try simp only [p0, p1, p2, p3])
     refine pR2 5 6 (fun K hK => ?_) (fun K hK => ?_)
     ·go_simp
      (go_at_call 39; with_reducible refine (cor_zero K25).mono ?_)
      rintro _ w28 ⟨rfl, hb⟩
      (try go_wp2_with fail)
      replace K5 := K5.on hb
      replace K10 := K10.on hb
      replace K14 := K14.on hb
      replace Z15 := Z15.on hb
      replace Fm1 := Fm1.kp (Kept.of hb)
      replace Fy1 := Fy1.kp (Kept.of hb)
      replace BW := BW.trans (hb.mono BW.size)
      clear hb
      clear hHeld
      refine hK.out _ _ (by exact ⟨K5, K10.cs⟩) (fun hHeld => ?_)
      clear hK
      (try simp only [p0, p1, p2, p3])
      refine pR1 6 (fun K hK => ?_)
      go_simp
      clear hHeld
      refine hK.out _ _ (by exact ⟨K5, K10.cs⟩) (fun hHeld => ?_)
      clear hK
      (try simp only [p0, p1, p2, p3])
      refine pR1 7 (fun K hK => ?_)
      go_simp
      (go_at_call 38; with_reducible refine (y_rkThr Fm1 Fy1 K5 K10).mono ?_)
      rintro _ w29 ⟨f, e1, rfl, h, hb⟩
      (try go_wp2_with fail)
      replace K5 := K5.on hb
      replace K10 := K10.on hb
      replace K14 := K14.on hb
      replace Z15 := Z15.on hb
      replace BW := BW.trans (hb.mono BW.size)
      clear hb
      clear hHeld
      refine hK.out _ _ (by exact ⟨K5, K10.cs⟩) (fun hHeld => ?_)
      clear hK
      (try simp only [p0, p1, p2, p3])
      refine pT 8 ?_
      (try simp only [p0, p1, p2, p3])
      refine pT 9 ?_
      (try simp only [p0, p1, p2, p3])
      refine pR1 10 (fun K hK => ?_)
      obtain ⟨c30, c31, c32, c33, c34, c35, c36, c37⟩ := K14.c8
      obtain ⟨c38, c39, c40, c41, c42, c43, c44, c45⟩ := Z15.f8
      go_simp
      clear c30 c31 c32 c33 c34 c35 c36 c37 c38 c39 c40 c41 c42 c43 c44 c45
      obtain ⟨V46, hk48⟩ : ∃ V46, V46 = w29.setCells (w.heap.size + 1 + 1) 0 [.bool f.Y.n, .slice f.Y.A f.Y.xs.length f.Y.c, .bool f.Y.m, .slice f.Y.B f.Y.ds.length f.Y.d, .bool f.U.n, .slice f.U.A f.U.xs.length f.U.c, .bool f.U.m, .slice f.U.B f.U.ds.length f.U.d] := ⟨_, rfl⟩
      have e47 := hk48
      simp only [World.setCells, Nat.zero_add, Nat.reduceAdd] at e47
      have hk49 := Kept.overE hk48 K14 rfl (Nat.le_of_ble_eq_true rfl)
      replace K5 := K5.awayE hk48 n16
      replace K10 := K10.awayE hk48 n17
      replace K14 := K14.overE hk48 rfl
      replace h := h.kp hk49
      replace BW := Below.putE BW hk48 g18
      clear hk48 hk49
      replace K14 : Box V46 (w.heap.size + 1 + 1) (ycs f) := K14
      rw [← e47]
      clear e47
      clear hHeld
      refine hK.out _ _ (by exact ⟨K5, K10.cs⟩) (fun hHeld => ?_)
      clear hK
      (try simp only [p0, p1, p2, p3])
      refine pT 11 ?_
      (try simp only [p0, p1, p2, p3])
      refine wpAnyH_done (by kernel_rfl) (NoPanic.normal ?_) _
      go_wp2
      go_meet
      exact ⟨f, e1, rfl, BW, K14, h⟩
     ·go_simp
      clear hHeld
      refine hK.out _ _ (by exact ⟨K5, K10.cs⟩) (fun hHeld => ?_)
      clear hK
      (try simp only [p0, p1, p2, p3])
      refine pR1 5 (fun K hK => ?_)
      go_simp
      (go_at_call 39; with_reducible refine (cor_zero K25).mono ?_)
      rintro _ w28 ⟨rfl, hb⟩
      (try go_wp2_with fail)
      replace K5 := K5.on hb
      replace K10 := K10.on hb
      replace K14 := K14.on hb
      replace Z15 := Z15.on hb
      replace Fm1 := Fm1.kp (Kept.of hb)
      replace Fy1 := Fy1.kp (Kept.of hb)
      replace BW := BW.trans (hb.mono BW.size)
      clear hb
      clear hHeld
      refine hK.out _ _ (by exact ⟨K5, K10.cs⟩) (fun hHeld => ?_)
      clear hK
      (try simp only [p0, p1, p2, p3])
      refine pR1 7 (fun K hK => ?_)
      go_simp
      (go_at_call 38; with_reducible refine (y_rkThr Fm1 Fy1 K5 K10).mono ?_)
      rintro _ w29 ⟨f, e1, rfl, h, hb⟩
      (try go_wp2_with fail)
      replace K5 := K5.on hb
      replace K10 := K10.on hb
      replace K14 := K14.on hb
      replace Z15 := Z15.on hb
      replace BW := BW.trans (hb.mono BW.size)
      clear hb
      clear hHeld
      refine hK.out _ _ (by exact ⟨K5, K10.cs⟩) (fun hHeld => ?_)
      clear hK
      (try simp only [p0, p1, p2, p3])
      refine pT 8 ?_
      (try simp only [p0, p1, p2, p3])
      refine pT 9 ?_
      (try simp only [p0, p1, p2, p3])
      refine pR1 10 (fun K hK => ?_)
      obtain ⟨c30, c31, c32, c33, c34, c35, c36, c37⟩ := K14.c8
      obtain ⟨c38, c39, c40, c41, c42, c43, c44, c45⟩ := Z15.f8
      go_simp
      clear c30 c31 c32 c33 c34 c35 c36 c37 c38 c39 c40 c41 c42 c43 c44 c45
      obtain ⟨V46, hk48⟩ : ∃ V46, V46 = w29.setCells (w.heap.size + 1 + 1) 0 [.bool f.Y.n, .slice f.Y.A f.Y.xs.length f.Y.c, .bool f.Y.m, .slice f.Y.B f.Y.ds.length f.Y.d, .bool f.U.n, .slice f.U.A f.U.xs.length f.U.c, .bool f.U.m, .slice f.U.B f.U.ds.length f.U.d] := ⟨_, rfl⟩
      have e47 := hk48
      simp only [World.setCells, Nat.zero_add, Nat.reduceAdd] at e47
      have hk49 := Kept.overE hk48 K14 rfl (Nat.le_of_ble_eq_true rfl)
      replace K5 := K5.awayE hk48 n16
      replace K10 := K10.awayE hk48 n17
      replace K14 := K14.overE hk48 rfl
      replace h := h.kp hk49
      replace BW := Below.putE BW hk48 g18
      clear hk48 hk49
      replace K14 : Box V46 (w.heap.size + 1 + 1) (ycs f) := K14
      rw [← e47]
      clear e47
      clear hHeld
      refine hK.out _ _ (by exact ⟨K5, K10.cs⟩) (fun hHeld => ?_)
      clear hK
      (try simp only [p0, p1, p2, p3])
      refine pT 11 ?_
      (try simp only [p0, p1, p2, p3])
      refine wpAnyH_done (by kernel_rfl) (NoPanic.normal ?_) _
      go_wp2
      go_meet
      exact ⟨f, e1, rfl, BW, K14, h⟩
    ·go_simp
     clear hHeld
     refine hK.out _ _ (by exact ⟨K5, K10.cs⟩) (fun hHeld => ?_)
     clear hK
     (try simp only [p0, p1, p2, p3])
     refine pR1 4 (fun K hK => ?_)
     go_simp
     obtain ⟨V22, e23, hb24, K25, -, -⟩ := alloc_new w21 [.int .i64 0, .int .i64 0] 38
     have n26 : w.heap.size + 1 + 1 ≠ w21.heap.size := Nat.ne_of_lt (K14.lt)
     replace K5 := K5.on hb24
     replace K10 := K10.on hb24
     replace K14 := K14.on hb24
     replace Z15 := Z15.on hb24
     replace Fm1 := Fm1.kp (Kept.of hb24)
     replace Fy1 := Fy1.kp (Kept.of hb24)
     replace BW := BW.trans (hb24.mono BW.size)
     clear hb24
     rw [← e23]
     clear e23
     generalize w21.heap.size = b27 at *
     clear hHeld
     refine hK.out _ _ (by exact ⟨K5, K10.cs⟩) (fun hHeld => ?_)
     clear hK
     (try simp only [p0, p1, p2, p3])
     refine pR1 5 (fun K hK => ?_)
     go_simp
     (go_at_call 39; with_reducible refine (cor_zero K25).mono ?_)
     rintro _ w28 ⟨rfl, hb⟩
     (try go_wp2_with fail)
     replace K5 := K5.on hb
     replace K10 := K10.on hb
     replace K14 := K14.on hb
     replace Z15 := Z15.on hb
     replace Fm1 := Fm1.kp (Kept.of hb)
     replace Fy1 := Fy1.kp (Kept.of hb)
     replace BW := BW.trans (hb.mono BW.size)
     clear hb
     clear hHeld
     refine hK.out _ _ (by exact ⟨K5, K10.cs⟩) (fun hHeld => ?_)
     clear hK
     (try simp only [p0, p1, p2, p3])
     refine pR1 7 (fun K hK => ?_)
     go_simp
     (go_at_call 38; with_reducible refine (y_rkThr Fm1 Fy1 K5 K10).mono ?_)
     rintro _ w29 ⟨f, e1, rfl, h, hb⟩
     (try go_wp2_with fail)
     replace K5 := K5.on hb
     replace K10 := K10.on hb
     replace K14 := K14.on hb
     replace Z15 := Z15.on hb
     replace BW := BW.trans (hb.mono BW.size)
     clear hb
     clear hHeld
     refine hK.out _ _ (by exact ⟨K5, K10.cs⟩) (fun hHeld => ?_)
     clear hK
     (try simp only [p0, p1, p2, p3])
     refine pT 8 ?_
     (try simp only [p0, p1, p2, p3])
     refine pT 9 ?_
     (try simp only [p0, p1, p2, p3])
     refine pR1 10 (fun K hK => ?_)
     obtain ⟨c30, c31, c32, c33, c34, c35, c36, c37⟩ := K14.c8
     obtain ⟨c38, c39, c40, c41, c42, c43, c44, c45⟩ := Z15.f8
     go_simp
     clear c30 c31 c32 c33 c34 c35 c36 c37 c38 c39 c40 c41 c42 c43 c44 c45
     obtain ⟨V46, hk48⟩ : ∃ V46, V46 = w29.setCells (w.heap.size + 1 + 1) 0 [.bool f.Y.n, .slice f.Y.A f.Y.xs.length f.Y.c, .bool f.Y.m, .slice f.Y.B f.Y.ds.length f.Y.d, .bool f.U.n, .slice f.U.A f.U.xs.length f.U.c, .bool f.U.m, .slice f.U.B f.U.ds.length f.U.d] := ⟨_, rfl⟩
     have e47 := hk48
     simp only [World.setCells, Nat.zero_add, Nat.reduceAdd] at e47
     have hk49 := Kept.overE hk48 K14 rfl (Nat.le_of_ble_eq_true rfl)
     replace K5 := K5.awayE hk48 n16
     replace K10 := K10.awayE hk48 n17
     replace K14 := K14.overE hk48 rfl
     replace h := h.kp hk49
     replace BW := Below.putE BW hk48 g18
     clear hk48 hk49
     replace K14 : Box V46 (w.heap.size + 1 + 1) (ycs f) := K14
     rw [← e47]
     clear e47
     clear hHeld
     refine hK.out _ _ (by exact ⟨K5, K10.cs⟩) (fun hHeld => ?_)
     clear hK
     (try simp only [p0, p1, p2, p3])
     refine pT 11 ?_
     (try simp only [p0, p1, p2, p3])
     refine wpAnyH_done (by kernel_rfl) (NoPanic.normal ?_) _
     go_wp2
     go_meet
     exact ⟨f, e1, rfl, BW, K14, h⟩
   ·go_simp
    clear hHeld
    refine hK.out _ _ (by exact ⟨K5, K10.cs⟩) (fun hHeld => ?_)
    clear hK
    (try simp only [p0, p1, p2, p3])
    refine pR1 3 (fun K hK => ?_)
    go_simp
    (go_at_call 40; with_reducible refine (chk_ray0 Fy1).mono ?_)
    rintro _ w21 ⟨rfl, hb⟩
    (try go_wp2_with fail)
    replace K5 := K5.on hb
    replace K10 := K10.on hb
    replace K14 := K14.on hb
    replace Z15 := Z15.on hb
    replace Fm1 := Fm1.kp (Kept.of hb)
    replace Fy1 := Fy1.kp (Kept.of hb)
    replace BW := BW.trans (hb.mono BW.size)
    clear hb
    clear hHeld
    refine hK.out _ _ (by exact ⟨K5, K10.cs⟩) (fun hHeld => ?_)
    clear hK
    (try simp only [p0, p1, p2, p3])
    refine pR1 4 (fun K hK => ?_)
    go_simp
    obtain ⟨V22, e23, hb24, K25, -, -⟩ := alloc_new w21 [.int .i64 0, .int .i64 0] 38
    have n26 : w.heap.size + 1 + 1 ≠ w21.heap.size := Nat.ne_of_lt (K14.lt)
    replace K5 := K5.on hb24
    replace K10 := K10.on hb24
    replace K14 := K14.on hb24
    replace Z15 := Z15.on hb24
    replace Fm1 := Fm1.kp (Kept.of hb24)
    replace Fy1 := Fy1.kp (Kept.of hb24)
    replace BW := BW.trans (hb24.mono BW.size)
    clear hb24
    rw [← e23]
    clear e23
    generalize w21.heap.size = b27 at *
    clear hHeld
    refine hK.out _ _ (by exact ⟨K5, K10.cs⟩) (fun hHeld => ?_)
    clear hK
    (try simp only [p0, p1, p2, p3])
    refine pR1 5 (fun K hK => ?_)
    go_simp
    (go_at_call 39; with_reducible refine (cor_zero K25).mono ?_)
    rintro _ w28 ⟨rfl, hb⟩
    (try go_wp2_with fail)
    replace K5 := K5.on hb
    replace K10 := K10.on hb
    replace K14 := K14.on hb
    replace Z15 := Z15.on hb
    replace Fm1 := Fm1.kp (Kept.of hb)
    replace Fy1 := Fy1.kp (Kept.of hb)
    replace BW := BW.trans (hb.mono BW.size)
    clear hb
    clear hHeld
    refine hK.out _ _ (by exact ⟨K5, K10.cs⟩) (fun hHeld => ?_)
    clear hK
    (try simp only [p0, p1, p2, p3])
    refine pR1 7 (fun K hK => ?_)
    go_simp
    (go_at_call 38; with_reducible refine (y_rkThr Fm1 Fy1 K5 K10).mono ?_)
    rintro _ w29 ⟨f, e1, rfl, h, hb⟩
    (try go_wp2_with fail)
    replace K5 := K5.on hb
    replace K10 := K10.on hb
    replace K14 := K14.on hb
    replace Z15 := Z15.on hb
    replace BW := BW.trans (hb.mono BW.size)
    clear hb
    clear hHeld
    refine hK.out _ _ (by exact ⟨K5, K10.cs⟩) (fun hHeld => ?_)
    clear hK
    (try simp only [p0, p1, p2, p3])
    refine pT 8 ?_
    (try simp only [p0, p1, p2, p3])
    refine pT 9 ?_
    (try simp only [p0, p1, p2, p3])
    refine pR1 10 (fun K hK => ?_)
    obtain ⟨c30, c31, c32, c33, c34, c35, c36, c37⟩ := K14.c8
    obtain ⟨c38, c39, c40, c41, c42, c43, c44, c45⟩ := Z15.f8
    go_simp
    clear c30 c31 c32 c33 c34 c35 c36 c37 c38 c39 c40 c41 c42 c43 c44 c45
    obtain ⟨V46, hk48⟩ : ∃ V46, V46 = w29.setCells (w.heap.size + 1 + 1) 0 [.bool f.Y.n, .slice f.Y.A f.Y.xs.length f.Y.c, .bool f.Y.m, .slice f.Y.B f.Y.ds.length f.Y.d, .bool f.U.n, .slice f.U.A f.U.xs.length f.U.c, .bool f.U.m, .slice f.U.B f.U.ds.length f.U.d] := ⟨_, rfl⟩
    have e47 := hk48
    simp only [World.setCells, Nat.zero_add, Nat.reduceAdd] at e47
    have hk49 := Kept.overE hk48 K14 rfl (Nat.le_of_ble_eq_true rfl)
    replace K5 := K5.awayE hk48 n16
    replace K10 := K10.awayE hk48 n17
    replace K14 := K14.overE hk48 rfl
    replace h := h.kp hk49
    replace BW := Below.putE BW hk48 g18
    clear hk48 hk49
    replace K14 : Box V46 (w.heap.size + 1 + 1) (ycs f) := K14
    rw [← e47]
    clear e47
    clear hHeld
    refine hK.out _ _ (by exact ⟨K5, K10.cs⟩) (fun hHeld => ?_)
    clear hK
    (try simp only [p0, p1, p2, p3])
    refine pT 11 ?_
    (try simp only [p0, p1, p2, p3])
    refine wpAnyH_done (by kernel_rfl) (NoPanic.normal ?_) _
    go_wp2
    go_meet
    exact ⟨f, e1, rfl, BW, K14, h⟩
  ·go_simp
   clear hHeld
   refine hK.out _ _ (by exact ⟨K5, K10.cs⟩) (fun hHeld => ?_)
   clear hK
   (try simp only [p0, p1, p2, p3])
   refine pR1 1 (fun K hK => ?_)
   go_simp
   (go_at_call 12; with_reducible refine (y_check0 Fm1 hd1).mono ?_)
   rintro _ w20 ⟨rfl, hb⟩
   (try go_wp2_with fail)
   replace K5 := K5.on hb
   replace K10 := K10.on hb
   replace K14 := K14.on hb
   replace Z15 := Z15.on hb
   replace Fm1 := Fm1.kp (Kept.of hb)
   replace Fy1 := Fy1.kp (Kept.of hb)
   replace BW := BW.trans (hb.mono BW.size)
   clear hb
   clear hHeld
   refine hK.out _ _ (by exact ⟨K5, K10.cs⟩) (fun hHeld => ?_)
   clear hK
   (try simp only [p0, p1, p2, p3])
   refine pR1 3 (fun K hK => ?_)
   go_simp
   (go_at_call 40; with_reducible refine (chk_ray0 Fy1).mono ?_)
   rintro _ w21 ⟨rfl, hb⟩
   (try go_wp2_with fail)
   replace K5 := K5.on hb
   replace K10 := K10.on hb
   replace K14 := K14.on hb
   replace Z15 := Z15.on hb
   replace Fm1 := Fm1.kp (Kept.of hb)
   replace Fy1 := Fy1.kp (Kept.of hb)
   replace BW := BW.trans (hb.mono BW.size)
   clear hb
   clear hHeld
   refine hK.out _ _ (by exact ⟨K5, K10.cs⟩) (fun hHeld => ?_)
   clear hK
   (try simp only [p0, p1, p2, p3])
   refine pR1 4 (fun K hK => ?_)
   go_simp
   obtain ⟨V22, e23, hb24, K25, -, -⟩ := alloc_new w21 [.int .i64 0, .int .i64 0] 38
   have n26 : w.heap.size + 1 + 1 ≠ w21.heap.size := Nat.ne_of_lt (K14.lt)
   replace K5 := K5.on hb24
   replace K10 := K10.on hb24
   replace K14 := K14.on hb24
   replace Z15 := Z15.on hb24
   replace Fm1 := Fm1.kp (Kept.of hb24)
   replace Fy1 := Fy1.kp (Kept.of hb24)
   replace BW := BW.trans (hb24.mono BW.size)
   clear hb24
   rw [← e23]
   clear e23
   generalize w21.heap.size = b27 at *
   clear hHeld
   refine hK.out _ _ (by exact ⟨K5, K10.cs⟩) (fun hHeld => ?_)
   clear hK
   (try simp only [p0, p1, p2, p3])
   refine pR1 5 (fun K hK => ?_)
   go_simp
   (go_at_call 39; with_reducible refine (cor_zero K25).mono ?_)
   rintro _ w28 ⟨rfl, hb⟩
   (try go_wp2_with fail)
   replace K5 := K5.on hb
   replace K10 := K10.on hb
   replace K14 := K14.on hb
   replace Z15 := Z15.on hb
   replace Fm1 := Fm1.kp (Kept.of hb)
   replace Fy1 := Fy1.kp (Kept.of hb)
   replace BW := BW.trans (hb.mono BW.size)
   clear hb
   clear hHeld
   refine hK.out _ _ (by exact ⟨K5, K10.cs⟩) (fun hHeld => ?_)
   clear hK
   (try simp only [p0, p1, p2, p3])
   refine pR1 7 (fun K hK => ?_)
   go_simp
   (go_at_call 38; with_reducible refine (y_rkThr Fm1 Fy1 K5 K10).mono ?_)
   rintro _ w29 ⟨f, e1, rfl, h, hb⟩
   (try go_wp2_with fail)
   replace K5 := K5.on hb
   replace K10 := K10.on hb
   replace K14 := K14.on hb
   replace Z15 := Z15.on hb
   replace BW := BW.trans (hb.mono BW.size)
   clear hb
   clear hHeld
   refine hK.out _ _ (by exact ⟨K5, K10.cs⟩) (fun hHeld => ?_)
   clear hK
   (try simp only [p0, p1, p2, p3])
   refine pT 8 ?_
   (try simp only [p0, p1, p2, p3])
   refine pT 9 ?_
   (try simp only [p0, p1, p2, p3])
   refine pR1 10 (fun K hK => ?_)
   obtain ⟨c30, c31, c32, c33, c34, c35, c36, c37⟩ := K14.c8
   obtain ⟨c38, c39, c40, c41, c42, c43, c44, c45⟩ := Z15.f8
   go_simp
   clear c30 c31 c32 c33 c34 c35 c36 c37 c38 c39 c40 c41 c42 c43 c44 c45
   obtain ⟨V46, hk48⟩ : ∃ V46, V46 = w29.setCells (w.heap.size + 1 + 1) 0 [.bool f.Y.n, .slice f.Y.A f.Y.xs.length f.Y.c, .bool f.Y.m, .slice f.Y.B f.Y.ds.length f.Y.d, .bool f.U.n, .slice f.U.A f.U.xs.length f.U.c, .bool f.U.m, .slice f.U.B f.U.ds.length f.U.d] := ⟨_, rfl⟩
   have e47 := hk48
   simp only [World.setCells, Nat.zero_add, Nat.reduceAdd] at e47
   have hk49 := Kept.overE hk48 K14 rfl (Nat.le_of_ble_eq_true rfl)
   replace K5 := K5.awayE hk48 n16
   replace K10 := K10.awayE hk48 n17
   replace K14 := K14.overE hk48 rfl
   replace h := h.kp hk49
   replace BW := Below.putE BW hk48 g18
   clear hk48 hk49
   replace K14 : Box V46 (w.heap.size + 1 + 1) (ycs f) := K14
   rw [← e47]
   clear e47
   clear hHeld
   refine hK.out _ _ (by exact ⟨K5, K10.cs⟩) (fun hHeld => ?_)
   clear hK
   (try simp only [p0, p1, p2, p3])
   refine pT 11 ?_
   (try simp only [p0, p1, p2, p3])
   refine wpAnyH_done (by kernel_rfl) (NoPanic.normal ?_) _
   go_wp2
   go_meet
   exact ⟨f, e1, rfl, BW, K14, h⟩
 case rest =>
  obtain ⟨f, e1, rfl, BW, KR, h⟩ := hcut
  obtain ⟨c19, c20, c21, c22, c23, c24, c25, c26⟩ := KR.c8
  go_wp2_with fail
  exact bodyPost_ret (v := .tuple #[yv f, .int .i64 e1]) (by simp [results, Tryz.results13, go_sem, c19, c20, c21, c22, c23, c24, c25, c26]) rfl ⟨f, e1, rfl, h, BW⟩
end Go.Proofs.YtjamfkafgfpobaaGreatDoor
