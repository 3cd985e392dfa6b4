/-
  One matrix behind another: what ray.Mul answers. Conditions: that the matrices may be.
-/
import Derived.Test.YtjamfkafgfpobaaGreatDoorRc
import Derived.Test.YtjamfkafgfpobaaGreatDoorXtra
import Derived.Test.YtjamfkafgfpobaaGreatDoorRf
import Derived.Deep.RegionHeld3
import Derived.Deep.DeepCutAuto
import Derived.BigRegion
namespace Go.Proofs.YtjamfkafgfpobaaGreatDoor
open Go.RowKit Nb
set_option maxHeartbeats 8000000 in
set_option maxRecDepth 20000 in
theorem y_rkMul {q r : Mq} {m n : Mv} {p1 p2 : Nat} {w : World} (Fm1 : Fm w q m) (Fn1 : Fm w r n) (K1 : Box w p1 (mcs m)) (K2 : Box w p2 (mcs n)) :
    Calls Tryz.prog 45 #[.int .i64 0, .func (.func 55) #[] #[.pointer (some ⟨p1, 0, none⟩), .pointer (some ⟨p2, 0, none⟩)]] w (fun e w' => ∃ (f : Mv) (e1 : Int), e = .returned (.tuple #[mv f, .int .i64 e1]) ∧ MIs w' (q.mul r) f e1 ∧ Below w.heap.size w w') := by
 have BW : Below w.heap.size w w := Below.refl _ _
 obtain ⟨V2, e3, hb4, K5, Z6, z1⟩ := alloc_new w [.int .i64 0] 38
 have n7 : p1 ≠ w.heap.size := Nat.ne_of_lt (K1.lt)
 have n8 : p2 ≠ w.heap.size := Nat.ne_of_lt (K2.lt)
 have g9 : w.heap.size ≤ w.heap.size := BW.size
 replace K1 := K1.on hb4
 replace K2 := K2.on hb4
 replace Fm1 := Fm1.kp (Kept.of hb4)
 replace Fn1 := Fn1.kp (Kept.of hb4)
 replace BW := BW.trans (hb4.mono BW.size)
 clear hb4
 obtain ⟨V11, e12, hb13, K14, Z15, z10⟩ := alloc_new V2 [.bool false, .slice none 0 0, .bool false, .slice none 0 0, .bool false, .slice none 0 0, .bool false, .slice none 0 0, .bool false, .slice none 0 0, .bool false, .slice none 0 0, .bool false, .slice none 0 0, .bool false, .slice none 0 0] 37
 rw [z1] at K14 Z15 z10
 replace K14 : Box V11 (w.heap.size + 1) (zcs16) := K14
 have n16 : p1 ≠ w.heap.size + 1 := Nat.ne_of_lt (z1 ▸ K1.lt)
 have n17 : p2 ≠ w.heap.size + 1 := Nat.ne_of_lt (z1 ▸ K2.lt)
 have n18 : w.heap.size ≠ w.heap.size + 1 := Nat.ne_of_lt (z1 ▸ K5.lt)
 have g19 : w.heap.size ≤ w.heap.size + 1 := z1 ▸ BW.size
 replace K1 := K1.on hb13
 replace K2 := K2.on hb13
 replace K5 := K5.on hb13
 replace Z6 := Z6.on hb13
 replace Fm1 := Fm1.kp (Kept.of hb13)
 replace Fn1 := Fn1.kp (Kept.of hb13)
 replace BW := BW.trans (hb13.mono BW.size)
 clear hb13
 obtain ⟨V20, e21, hb22, K23, Z24, -⟩ := alloc_new V11 [.bool false, .slice none 0 0, .bool false, .slice none 0 0, .bool false, .slice none 0 0, .bool false, .slice none 0 0, .bool false, .slice none 0 0, .bool false, .slice none 0 0, .bool false, .slice none 0 0, .bool false, .slice none 0 0] 37
 rw [z10] at K23 Z24
 replace K23 : Box V20 (w.heap.size + 1 + 1) (zcs16) := K23
 have n25 : p1 ≠ w.heap.size + 1 + 1 := Nat.ne_of_lt (z10 ▸ K1.lt)
 have n26 : p2 ≠ w.heap.size + 1 + 1 := Nat.ne_of_lt (z10 ▸ K2.lt)
 have n27 : w.heap.size ≠ w.heap.size + 1 + 1 := Nat.ne_of_lt (z10 ▸ K5.lt)
 have n28 : w.heap.size + 1 ≠ w.heap.size + 1 + 1 := Nat.ne_of_lt (z10 ▸ K14.lt)
 have g29 : w.heap.size ≤ w.heap.size + 1 + 1 := z10 ▸ BW.size
 replace K1 := K1.on hb22
 replace K2 := K2.on hb22
 replace K5 := K5.on hb22
 replace K14 := K14.on hb22
 replace Z6 := Z6.on hb22
 replace Z15 := Z15.on hb22
 replace Fm1 := Fm1.kp (Kept.of hb22)
 replace Fn1 := Fn1.kp (Kept.of hb22)
 replace BW := BW.trans (hb22.mono BW.size)
 clear hb22
 clear z1 z10
 go_enter Tryz.func45, Tryz.ntmps45
 go_wp2_with fail
 rw [← e3, ← e12, ← e21]
 clear e3 e12 e21
 go_wp2_with fail
 refine (y_doMul Fm1 Fn1 K1 K2 n7 n8 K5 Z6).mono ?_
 rintro _ w30 ⟨f, e1, rfl, h, Kg, Zg, hb⟩
 replace K1 := hb.box n7 K1
 replace K2 := hb.box n8 K2
 clear K5 Z6
 replace K14 := hb.box n18.symm K14
 replace Z15 := hb.fz n18.symm Z15
 replace K23 := hb.box n27.symm K23
 replace Z24 := hb.fz n27.symm Z24
 replace BW := BW.trans (hb.b.mono g9)
 clear hb
 by_cases he : e1 = 0
 · obtain rfl : e1 = 0 := he
   obtain ⟨V31, e32, hb33, K34, Z35, -⟩ := alloc_new w30 [.bool f.A.n, .slice f.A.A f.A.xs.length f.A.c, .bool f.A.m, .slice f.A.B f.A.ds.length f.A.d, .bool f.B.n, .slice f.B.A f.B.xs.length f.B.c, .bool f.B.m, .slice f.B.B f.B.ds.length f.B.d, .bool f.C.n, .slice f.C.A f.C.xs.length f.C.c, .bool f.C.m, .slice f.C.B f.C.ds.length f.C.d, .bool f.D.n, .slice f.D.A f.D.xs.length f.D.c, .bool f.D.m, .slice f.D.B f.D.ds.length f.D.d] 37
   replace K34 : Box V31 (w30.heap.size) (mcs f) := K34
   have n36 : p1 ≠ w30.heap.size := Nat.ne_of_lt (K1.lt)
   have n37 : p2 ≠ w30.heap.size := Nat.ne_of_lt (K2.lt)
   have n38 : w.heap.size ≠ w30.heap.size := Nat.ne_of_lt (Kg.lt)
   have n39 : w.heap.size + 1 ≠ w30.heap.size := Nat.ne_of_lt (K14.lt)
   have n40 : w.heap.size + 1 + 1 ≠ w30.heap.size := Nat.ne_of_lt (K23.lt)
   have g41 : w.heap.size ≤ w30.heap.size := BW.size
   replace Kg := Kg.on hb33
   replace K14 := K14.on hb33
   replace Z15 := Z15.on hb33
   replace h := h.kp (Kept.of hb33)
   replace BW := BW.trans (hb33.mono BW.size)
   clear hb33
   go_upto_region 5 with fail
   rw [← e32]
   clear e32
   generalize w30.heap.size = b42 at *
   have c43 := Kg.c1
   go_upto_region 7 with fail
   clear c43
   have c44 := K34
   have c45 := Lib.hid (st16 (P := Tryz.prog) (vs := mcs f) K14 Z15 rfl rfl)
   obtain ⟨V46, hk48⟩ : ∃ V46, V46 = V31.setCells (w.heap.size + 1) 0 (mcs f) := ⟨_, rfl⟩
   have e47 := Lib.hid hk48
   have hk49 := Kept.overE hk48 K14 rfl (Nat.le_of_ble_eq_true rfl)
   replace K14 := K14.overE hk48 rfl
   replace h := h.kp hk49
   replace BW := Below.putE BW hk48 g19
   clear hk48 hk49
   replace K14 : Box V46 (w.heap.size + 1) (mcs f) := K14
   go_wp2_with (first | (refine wpList_ldM (by rfl) (by rfl) (by rfl) c44 (by rfl) ?_))
   rw [c45.out, ← e47.out]
   go_wp2_with fail
   clear c45 e47
   clear c44
   obtain ⟨c50, c51, c52, c53, c54, c55, c56, c57, c58, c59, c60, c61, c62, c63, c64, c65⟩ := K14.c16
   exact bodyPost_ret (v := .tuple #[mv f, .int .i64 0]) (by simp [results, Tryz.results45, go_sem, c50, c51, c52, c53, c54, c55, c56, c57, c58, c59, c60, c61, c62, c63, c64, c65]) rfl ⟨f, 0, rfl, h, BW⟩
 · have he2 : (e1 == 0) = false := by simpa using he
   have HE := Lib.hid he
   clear he
   obtain ⟨V31, e32, hb33, K34, Z35, -⟩ := alloc_new w30 [.bool f.A.n, .slice f.A.A f.A.xs.length f.A.c, .bool f.A.m, .slice f.A.B f.A.ds.length f.A.d, .bool f.B.n, .slice f.B.A f.B.xs.length f.B.c, .bool f.B.m, .slice f.B.B f.B.ds.length f.B.d, .bool f.C.n, .slice f.C.A f.C.xs.length f.C.c, .bool f.C.m, .slice f.C.B f.C.ds.length f.C.d, .bool f.D.n, .slice f.D.A f.D.xs.length f.D.c, .bool f.D.m, .slice f.D.B f.D.ds.length f.D.d] 37
   replace K34 : Box V31 (w30.heap.size) (mcs f) := K34
   have n36 : p1 ≠ w30.heap.size := Nat.ne_of_lt (K1.lt)
   have n37 : p2 ≠ w30.heap.size := Nat.ne_of_lt (K2.lt)
   have n38 : w.heap.size ≠ w30.heap.size := Nat.ne_of_lt (Kg.lt)
   have n39 : w.heap.size + 1 ≠ w30.heap.size := Nat.ne_of_lt (K14.lt)
   have n40 : w.heap.size + 1 + 1 ≠ w30.heap.size := Nat.ne_of_lt (K23.lt)
   have g41 : w.heap.size ≤ w30.heap.size := BW.size
   replace Kg := Kg.on hb33
   replace K14 := K14.on hb33
   replace K23 := K23.on hb33
   replace Z15 := Z15.on hb33
   replace h := h.kp (Kept.of hb33)
   replace BW := BW.trans (hb33.mono BW.size)
   clear hb33
   have c42 := Kg.c1
   rw [e32] at c42
   go_wp2_with fail
   clear c42
   rw [← e32]
   clear e32
   generalize w30.heap.size = b43 at *
   refine wp_region_noPanic ?_
   have hb : Below V31.heap.size V31 V31.drew := (Below.refl _ _).drew
   replace Kg := Kg.on hb
   replace K14 := K14.on hb
   replace K23 := K23.on hb
   replace Z15 := Z15.on hb
   replace h := h.kp (Kept.of hb)
   replace BW := BW.trans (hb.mono BW.size)
   clear hb
   refine wp_region_held_drew (S := (fun wx => Cs wx (w.heap.size) 0 [.int .i64 e1] ∧ Box wx (w.heap.size + 1 + 1) [.bool false, .slice none 0 0, .bool false, .slice none 0 0, .bool false, .slice none 0 0, .bool false, .slice none 0 0, .bool false, .slice none 0 0, .bool false, .slice none 0 0, .bool false, .slice none 0 0, .bool false, .slice none 0 0])) (by kernel_rfl) (by exact ⟨Kg.cs, K23⟩) (fun hHeld => ?_)
   generalize V31.drew = Vd44 at *
   refine pT 0 ?_ (hy := fun wt hSw => ldM rfl rfl hSw.2)
   (try simp only [p0, p1, p2, p3])
   refine pT 1 ?_
   (try simp only [p0, p1, p2, p3])
   refine pR1 2 (fun K hK => ?_)
   refine ite_yes (by rfl) (wp_stM rfl rfl rfl K14 Z15 rfl rfl rfl ?_)
   obtain ⟨V45, hk47⟩ : ∃ V45, V45 = Vd44.setCells (w.heap.size + 1) 0 [.bool false, .slice none 0 0, .bool false, .slice none 0 0, .bool false, .slice none 0 0, .bool false, .slice none 0 0, .bool false, .slice none 0 0, .bool false, .slice none 0 0, .bool false, .slice none 0 0, .bool false, .slice none 0 0] := ⟨_, rfl⟩
   have e46 := hk47
   have hk48 := Kept.overE hk47 K14 rfl (Nat.le_of_ble_eq_true rfl)
   replace Kg := Kg.awayE hk47 n18
   replace K14 := K14.overE hk47 rfl
   replace K23 := K23.awayE hk47 n28.symm
   replace h := h.kp hk48
   replace BW := Below.putE BW hk47 g19
   clear hk47 hk48
   replace K14 : Box V45 (w.heap.size + 1) (zcs16) := K14
   rw [← e46]
   clear e46
   clear hHeld
   refine hK.out _ _ (by exact ⟨Kg.cs, K23⟩) (fun hHeld => ?_)
   clear hK
   (try simp only [p0, p1, p2, p3])
   refine pT 3 ?_
   (try simp only [p0, p1, p2, p3])
   refine wpAnyH_done (by kernel_rfl) (NoPanic.normal ?_) _
   go_wp2
   obtain ⟨c49, c50, c51, c52, c53, c54, c55, c56, c57, c58, c59, c60, c61, c62, c63, c64⟩ := K14.c16
   exact bodyPost_ret (v := .tuple #[.agg #[.bool false, .slice none 0 0, .bool false, .slice none 0 0, .bool false, .slice none 0 0, .bool false, .slice none 0 0, .bool false, .slice none 0 0, .bool false, .slice none 0 0, .bool false, .slice none 0 0, .bool false, .slice none 0 0], .int .i64 e1]) (by simp [results, Tryz.results45, go_sem, c49, c50, c51, c52, c53, c54, c55, c56, c57, c58, c59, c60, c61, c62, c63, c64]) rfl ⟨mv0, e1, rfl, h.no HE.out, BW⟩
set_option maxHeartbeats 8000000 in
set_option maxRecDepth 20000 in
theorem y_Mul {q r : Mq} {m n : Mv} {w : World} (Fm1 : Fm w q m) (Fn1 : Fm w r n) (hd1 : q.det = 1) (hd2 : r.det = 1) :
    Calls Tryz.prog 22 #[mv m, mv n] w (fun e w' => ∃ (f : Mv) (e1 : Int), e = .returned (.tuple #[mv f, .int .i64 e1]) ∧ MIs w' (q.mul r) f e1 ∧ Below w.heap.size w w') := by
 have BW : Below w.heap.size w w := Below.refl _ _
 obtain ⟨V2, e3, hb4, K5, -, z1⟩ := alloc_new w [.bool m.A.n, .slice m.A.A m.A.xs.length m.A.c, .bool m.A.m, .slice m.A.B m.A.ds.length m.A.d, .bool m.B.n, .slice m.B.A m.B.xs.length m.B.c, .bool m.B.m, .slice m.B.B m.B.ds.length m.B.d, .bool m.C.n, .slice m.C.A m.C.xs.length m.C.c, .bool m.C.m, .slice m.C.B m.C.ds.length m.C.d, .bool m.D.n, .slice m.D.A m.D.xs.length m.D.c, .bool m.D.m, .slice m.D.B m.D.ds.length m.D.d] 37
 replace K5 : Box V2 (w.heap.size) (mcs m) := K5
 replace Fm1 := Fm1.kp (Kept.of hb4)
 replace Fn1 := Fn1.kp (Kept.of hb4)
 replace BW := BW.trans (hb4.mono BW.size)
 clear hb4
 obtain ⟨V7, e8, hb9, K10, -, z6⟩ := alloc_new V2 [.bool n.A.n, .slice n.A.A n.A.xs.length n.A.c, .bool n.A.m, .slice n.A.B n.A.ds.length n.A.d, .bool n.B.n, .slice n.B.A n.B.xs.length n.B.c, .bool n.B.m, .slice n.B.B n.B.ds.length n.B.d, .bool n.C.n, .slice n.C.A n.C.xs.length n.C.c, .bool n.C.m, .slice n.C.B n.C.ds.length n.C.d, .bool n.D.n, .slice n.D.A n.D.xs.length n.D.c, .bool n.D.m, .slice n.D.B n.D.ds.length n.D.d] 37
 rw [z1] at K10 z6
 replace K10 : Box V7 (w.heap.size + 1) (mcs n) := K10
 replace K5 := K5.on hb9
 replace Fm1 := Fm1.kp (Kept.of hb9)
 replace Fn1 := Fn1.kp (Kept.of hb9)
 replace BW := BW.trans (hb9.mono BW.size)
 clear hb9
 obtain ⟨V11, e12, hb13, K14, Z15, -⟩ := alloc_new V7 [.bool false, .slice none 0 0, .bool false, .slice none 0 0, .bool false, .slice none 0 0, .bool false, .slice none 0 0, .bool false, .slice none 0 0, .bool false, .slice none 0 0, .bool false, .slice none 0 0, .bool false, .slice none 0 0] 37
 rw [z6] at K14 Z15
 replace K14 : Box V11 (w.heap.size + 1 + 1) (zcs16) := K14
 have n16 : w.heap.size ≠ w.heap.size + 1 + 1 := Nat.ne_of_lt (z6 ▸ K5.lt)
 have n17 : w.heap.size + 1 ≠ w.heap.size + 1 + 1 := Nat.ne_of_lt (z6 ▸ K10.lt)
 have g18 : w.heap.size ≤ w.heap.size + 1 + 1 := z6 ▸ BW.size
 replace K5 := K5.on hb13
 replace K10 := K10.on hb13
 replace Fm1 := Fm1.kp (Kept.of hb13)
 replace Fn1 := Fn1.kp (Kept.of hb13)
 replace BW := BW.trans (hb13.mono BW.size)
 clear hb13
 clear z1 z6
 go_enter Tryz.func22, Tryz.ntmps22
 go_wp2_with fail
 rw [← e3, ← e8, ← e12]
 clear e3 e8 e12
 go_cut [5] (fun s5 wx => ∃ (f : Mv) (e1 : Int), s5 = .int .i64 e1 ∧ Below w.heap.size w wx ∧ Box wx (w.heap.size + 1 + 1) (mcs f) ∧ MIs wx (q.mul r) f e1)
 case first =>
  refine wp_region_noPanic ?_
  have hb : Below V11.heap.size V11 V11.drew := (Below.refl _ _).drew
  replace K5 := K5.on hb
  replace K10 := K10.on hb
  replace K14 := K14.on hb
  replace Z15 := Z15.on hb
  replace Fm1 := Fm1.kp (Kept.of hb)
  replace Fn1 := Fn1.kp (Kept.of hb)
  replace BW := BW.trans (hb.mono BW.size)
  clear hb
  refine wp_region_held_drew (S := (fun wx => Box wx (w.heap.size) [.bool m.A.n, .slice m.A.A m.A.xs.length m.A.c, .bool m.A.m, .slice m.A.B m.A.ds.length m.A.d, .bool m.B.n, .slice m.B.A m.B.xs.length m.B.c, .bool m.B.m, .slice m.B.B m.B.ds.length m.B.d, .bool m.C.n, .slice m.C.A m.C.xs.length m.C.c, .bool m.C.m, .slice m.C.B m.C.ds.length m.C.d, .bool m.D.n, .slice m.D.A m.D.xs.length m.D.c, .bool m.D.m, .slice m.D.B m.D.ds.length m.D.d] ∧ Box wx (w.heap.size + 1) [.bool n.A.n, .slice n.A.A n.A.xs.length n.A.c, .bool n.A.m, .slice n.A.B n.A.ds.length n.A.d, .bool n.B.n, .slice n.B.A n.B.xs.length n.B.c, .bool n.B.m, .slice n.B.B n.B.ds.length n.B.d, .bool n.C.n, .slice n.C.A n.C.xs.length n.C.c, .bool n.C.m, .slice n.C.B n.C.ds.length n.C.d, .bool n.D.n, .slice n.D.A n.D.xs.length n.D.c, .bool n.D.m, .slice n.D.B n.D.ds.length n.D.d])) (by kernel_rfl) (by exact ⟨K5, K10⟩) (fun hHeld => ?_)
  generalize V11.drew = Vd19 at *
  refine pT 0 ?_ (hy := fun wt hSw => ldM rfl rfl hSw.1)
  (try simp only [p0, p1, p2, p3])
  refine pT 2 ?_ (hy := fun wt hSw => ldM rfl rfl hSw.2)
  (try simp only [p0, p1, p2, p3])
  refine pR2 1 6 (fun K hK => ?_) (fun K hK => ?_)
  ·go_simp
   (go_at_call 12; with_reducible refine (y_check0 Fm1 hd1).mono ?_)
   rintro _ w20 ⟨rfl, hb⟩
   (try go_wp2_with fail)
   replace K5 := K5.on hb
   replace K10 := K10.on hb
   replace K14 := K14.on hb
   replace Z15 := Z15.on hb
   replace Fm1 := Fm1.kp (Kept.of hb)
   replace Fn1 := Fn1.kp (Kept.of hb)
   replace BW := BW.trans (hb.mono BW.size)
   clear hb
   clear hHeld
   refine hK.out _ _ (by exact ⟨K5, K10⟩) (fun hHeld => ?_)
   clear hK
   (try simp only [p0, p1, p2, p3])
   refine pR2 3 6 (fun K hK => ?_) (fun K hK => ?_)
   ·go_simp
    (go_at_call 12; with_reducible refine (y_check0 Fn1 hd2).mono ?_)
    rintro _ w21 ⟨rfl, hb⟩
    (try go_wp2_with fail)
    replace K5 := K5.on hb
    replace K10 := K10.on hb
    replace K14 := K14.on hb
    replace Z15 := Z15.on hb
    replace Fm1 := Fm1.kp (Kept.of hb)
    replace Fn1 := Fn1.kp (Kept.of hb)
    replace BW := BW.trans (hb.mono BW.size)
    clear hb
    clear hHeld
    refine hK.out _ _ (by exact ⟨K5, K10⟩) (fun hHeld => ?_)
    clear hK
    (try simp only [p0, p1, p2, p3])
    refine pR2 4 6 (fun K hK => ?_) (fun K hK => ?_)
    ·go_simp
     obtain ⟨V22, e23, hb24, K25, -, -⟩ := alloc_new w21 [.int .i64 0, .int .i64 0] 38
     have n26 : w.heap.size + 1 + 1 ≠ w21.heap.size := Nat.ne_of_lt (K14.lt)
     replace K5 := K5.on hb24
     replace K10 := K10.on hb24
     replace K14 := K14.on hb24
     replace Z15 := Z15.on hb24
     replace Fm1 := Fm1.kp (Kept.of hb24)
     replace Fn1 := Fn1.kp (Kept.of hb24)
     replace BW := BW.trans (hb24.mono BW.size)
     clear hb24
     rw [← e23]
     clear e23
     generalize w21.heap.size = b27 at *
     clear hHeld
     refine hK.out _ _ (by exact ⟨K5, K10⟩) (fun hHeld => ?_)
     clear hK
     (try simp only [p0, p1, p2, p3])
     refine pR2 5 6 (fun K hK => ?_) (fun K hK => ?_)
     ·go_simp
      (go_at_call 39; with_reducible refine (cor_zero K25).mono ?_)
      rintro _ w28 ⟨rfl, hb⟩
      (try go_wp2_with fail)
      replace K5 := K5.on hb
      replace K10 := K10.on hb
      replace K14 := K14.on hb
      replace Z15 := Z15.on hb
      replace Fm1 := Fm1.kp (Kept.of hb)
      replace Fn1 := Fn1.kp (Kept.of hb)
      replace BW := BW.trans (hb.mono BW.size)
      clear hb
      clear hHeld
      refine hK.out _ _ (by exact ⟨K5, K10⟩) (fun hHeld => ?_)
      clear hK
      (try simp only [p0, p1, p2, p3])
      refine pR1 6 (fun K hK => ?_)
      go_simp
      clear hHeld
      refine hK.out _ _ (by exact ⟨K5, K10⟩) (fun hHeld => ?_)
      clear hK
      (try simp only [p0, p1, p2, p3])
      refine pR1 7 (fun K hK => ?_)
      go_simp
      (go_at_call 45; with_reducible refine (y_rkMul Fm1 Fn1 K5 K10).mono ?_)
      rintro _ w29 ⟨f, e1, rfl, h, hb⟩
      (try go_wp2_with fail)
      replace K5 := K5.on hb
      replace K10 := K10.on hb
      replace K14 := K14.on hb
      replace Z15 := Z15.on hb
      replace BW := BW.trans (hb.mono BW.size)
      clear hb
      clear hHeld
      refine hK.out _ _ (by exact ⟨K5, K10⟩) (fun hHeld => ?_)
      clear hK
      (try simp only [p0, p1, p2, p3])
      refine pT 8 ?_
      (try simp only [p0, p1, p2, p3])
      refine pT 9 ?_
      (try simp only [p0, p1, p2, p3])
      refine pR1 10 (fun K hK => ?_)
      refine ite_yes (by rfl) (wp_stM rfl rfl rfl K14 Z15 rfl rfl rfl ?_)
      obtain ⟨V30, hk32⟩ : ∃ V30, V30 = w29.setCells (w.heap.size + 1 + 1) 0 [.bool f.A.n, .slice f.A.A f.A.xs.length f.A.c, .bool f.A.m, .slice f.A.B f.A.ds.length f.A.d, .bool f.B.n, .slice f.B.A f.B.xs.length f.B.c, .bool f.B.m, .slice f.B.B f.B.ds.length f.B.d, .bool f.C.n, .slice f.C.A f.C.xs.length f.C.c, .bool f.C.m, .slice f.C.B f.C.ds.length f.C.d, .bool f.D.n, .slice f.D.A f.D.xs.length f.D.c, .bool f.D.m, .slice f.D.B f.D.ds.length f.D.d] := ⟨_, rfl⟩
      have e31 := hk32
      have hk33 := Kept.overE hk32 K14 rfl (Nat.le_of_ble_eq_true rfl)
      replace K5 := K5.awayE hk32 n16
      replace K10 := K10.awayE hk32 n17
      replace K14 := K14.overE hk32 rfl
      replace h := h.kp hk33
      replace BW := Below.putE BW hk32 g18
      clear hk32 hk33
      replace K14 : Box V30 (w.heap.size + 1 + 1) (mcs f) := K14
      rw [← e31]
      clear e31
      clear hHeld
      refine hK.out _ _ (by exact ⟨K5, K10⟩) (fun hHeld => ?_)
      clear hK
      (try simp only [p0])
      refine pT 11 ?_
      (try simp only [p0, p1, p2, p3])
      refine wpAnyH_done (by kernel_rfl) (NoPanic.normal ?_) _
      go_wp2
      go_meet
      exact ⟨f, e1, rfl, BW, K14, h⟩
     ·go_simp
      clear hHeld
      refine hK.out _ _ (by exact ⟨K5, K10⟩) (fun hHeld => ?_)
      clear hK
      (try simp only [p0, p1, p2, p3])
      refine pR1 5 (fun K hK => ?_)
      go_simp
      (go_at_call 39; with_reducible refine (cor_zero K25).mono ?_)
      rintro _ w28 ⟨rfl, hb⟩
      (try go_wp2_with fail)
      replace K5 := K5.on hb
      replace K10 := K10.on hb
      replace K14 := K14.on hb
      replace Z15 := Z15.on hb
      replace Fm1 := Fm1.kp (Kept.of hb)
      replace Fn1 := Fn1.kp (Kept.of hb)
      replace BW := BW.trans (hb.mono BW.size)
      clear hb
      clear hHeld
      refine hK.out _ _ (by exact ⟨K5, K10⟩) (fun hHeld => ?_)
      clear hK
      (try simp only [p0, p1, p2, p3])
      refine pR1 7 (fun K hK => ?_)
      go_simp
      (go_at_call 45; with_reducible refine (y_rkMul Fm1 Fn1 K5 K10).mono ?_)
      rintro _ w29 ⟨f, e1, rfl, h, hb⟩
      (try go_wp2_with fail)
      replace K5 := K5.on hb
      replace K10 := K10.on hb
      replace K14 := K14.on hb
      replace Z15 := Z15.on hb
      replace BW := BW.trans (hb.mono BW.size)
      clear hb
      clear hHeld
      refine hK.out _ _ (by exact ⟨K5, K10⟩) (fun hHeld => ?_)
      clear hK
      (try simp only [p0, p1, p2, p3])
      refine pT 8 ?_
      (try simp only [p0, p1, p2, p3])
      refine pT 9 ?_
      (try simp only [p0, p1, p2, p3])
      refine pR1 10 (fun K hK => ?_)
      refine ite_yes (by rfl) (wp_stM rfl rfl rfl K14 Z15 rfl rfl rfl ?_)
      obtain ⟨V30, hk32⟩ : ∃ V30, V30 = w29.setCells (w.heap.size + 1 + 1) 0 [.bool f.A.n, .slice f.A.A f.A.xs.length f.A.c, .bool f.A.m, .slice f.A.B f.A.ds.length f.A.d, .bool f.B.n, .slice f.B.A f.B.xs.length f.B.c, .bool f.B.m, .slice f.B.B f.B.ds.length f.B.d, .bool f.C.n, .slice f.C.A f.C.xs.length f.C.c, .bool f.C.m, .slice f.C.B f.C.ds.length f.C.d, .bool f.D.n, .slice f.D.A f.D.xs.length f.D.c, .bool f.D.m, .slice f.D.B f.D.ds.length f.D.d] := ⟨_, rfl⟩
      have e31 := hk32
      have hk33 := Kept.overE hk32 K14 rfl (Nat.le_of_ble_eq_true rfl)
      replace K5 := K5.awayE hk32 n16
      replace K10 := K10.awayE hk32 n17
      replace K14 := K14.overE hk32 rfl
      replace h := h.kp hk33
      replace BW := Below.putE BW hk32 g18
      clear hk32 hk33
      replace K14 : Box V30 (w.heap.size + 1 + 1) (mcs f) := K14
      rw [← e31]
      clear e31
      clear hHeld
      refine hK.out _ _ (by exact ⟨K5, K10⟩) (fun hHeld => ?_)
      clear hK
      (try simp only [p0])
      refine pT 11 ?_
      (try simp only [p0, p1, p2, p3])
      refine wpAnyH_done (by kernel_rfl) (NoPanic.normal ?_) _
      go_wp2
      go_meet
      exact ⟨f, e1, rfl, BW, K14, h⟩
    ·go_simp
     clear hHeld
     refine hK.out _ _ (by exact ⟨K5, K10⟩) (fun hHeld => ?_)
     clear hK
     (try simp only [p0, p1, p2, p3])
     refine pR1 4 (fun K hK => ?_)
     go_simp
     obtain ⟨V22, e23, hb24, K25, -, -⟩ := alloc_new w21 [.int .i64 0, .int .i64 0] 38
     have n26 : w.heap.size + 1 + 1 ≠ w21.heap.size := Nat.ne_of_lt (K14.lt)
     replace K5 := K5.on hb24
     replace K10 := K10.on hb24
     replace K14 := K14.on hb24
     replace Z15 := Z15.on hb24
     replace Fm1 := Fm1.kp (Kept.of hb24)
     replace Fn1 := Fn1.kp (Kept.of hb24)
     replace BW := BW.trans (hb24.mono BW.size)
     clear hb24
     rw [← e23]
     clear e23
     generalize w21.heap.size = b27 at *
     clear hHeld
     refine hK.out _ _ (by exact ⟨K5, K10⟩) (fun hHeld => ?_)
     clear hK
     (try simp only [p0, p1, p2, p3])
     refine pR1 5 (fun K hK => ?_)
     go_simp
     (go_at_call 39; with_reducible refine (cor_zero K25).mono ?_)
     rintro _ w28 ⟨rfl, hb⟩
     (try go_wp2_with fail)
     replace K5 := K5.on hb
     replace K10 := K10.on hb
     replace K14 := K14.on hb
     replace Z15 := Z15.on hb
     replace Fm1 := Fm1.kp (Kept.of hb)
     replace Fn1 := Fn1.kp (Kept.of hb)
     replace BW := BW.trans (hb.mono BW.size)
     clear hb
     clear hHeld
     refine hK.out _ _ (by exact ⟨K5, K10⟩) (fun hHeld => ?_)
     clear hK
     (try simp only [p0, p1, p2, p3])
     refine pR1 7 (fun K hK => ?_)
     go_simp
     (go_at_call 45; with_reducible refine (y_rkMul Fm1 Fn1 K5 K10).mono ?_)
     rintro _ w29 ⟨f, e1, rfl, h, hb⟩
     (try go_wp2_with fail)
     replace K5 := K5.on hb
     replace K10 := K10.on hb
     replace K14 := K14.on hb
     replace Z15 := Z15.on hb
     replace BW := BW.trans (hb.mono BW.size)
     clear hb
     clear hHeld
     refine hK.out _ _ (by exact ⟨K5, K10⟩) (fun hHeld => ?_)
     clear hK
     (try simp only [p0, p1, p2, p3])
     refine pT 8 ?_
     (try simp only [p0, p1, p2, p3])
     refine pT 9 ?_
     (try simp only [p0, p1, p2, p3])
     refine pR1 10 (fun K hK => ?_)
     refine ite_yes (by rfl) (wp_stM rfl rfl rfl K14 Z15 rfl rfl rfl ?_)
     obtain ⟨V30, hk32⟩ : ∃ V30, V30 = w29.setCells (w.heap.size + 1 + 1) 0 [.bool f.A.n, .slice f.A.A f.A.xs.length f.A.c, .bool f.A.m, .slice f.A.B f.A.ds.length f.A.d, .bool f.B.n, .slice f.B.A f.B.xs.length f.B.c, .bool f.B.m, .slice f.B.B f.B.ds.length f.B.d, .bool f.C.n, .slice f.C.A f.C.xs.length f.C.c, .bool f.C.m, .slice f.C.B f.C.ds.length f.C.d, .bool f.D.n, .slice f.D.A f.D.xs.length f.D.c, .bool f.D.m, .slice f.D.B f.D.ds.length f.D.d] := ⟨_, rfl⟩
     have e31 := hk32
     have hk33 := Kept.overE hk32 K14 rfl (Nat.le_of_ble_eq_true rfl)
     replace K5 := K5.awayE hk32 n16
     replace K10 := K10.awayE hk32 n17
     replace K14 := K14.overE hk32 rfl
     replace h := h.kp hk33
     replace BW := Below.putE BW hk32 g18
     clear hk32 hk33
     replace K14 : Box V30 (w.heap.size + 1 + 1) (mcs f) := K14
     rw [← e31]
     clear e31
     clear hHeld
     refine hK.out _ _ (by exact ⟨K5, K10⟩) (fun hHeld => ?_)
     clear hK
     (try simp only [p0])
     refine pT 11 ?_
     (try simp only [p0, p1, p2, p3])
     refine wpAnyH_done (by kernel_rfl) (NoPanic.normal ?_) _
     go_wp2
     go_meet
     exact ⟨f, e1, rfl, BW, K14, h⟩
   ·go_simp
    clear hHeld
    refine hK.out _ _ (by exact ⟨K5, K10⟩) (fun hHeld => ?_)
    clear hK
    (try simp only [p0, p1, p2, p3])
    refine pR1 3 (fun K hK => ?_)
    go_simp
    (go_at_call 12; with_reducible refine (y_check0 Fn1 hd2).mono ?_)
    rintro _ w21 ⟨rfl, hb⟩
    (try go_wp2_with fail)
    replace K5 := K5.on hb
    replace K10 := K10.on hb
    replace K14 := K14.on hb
    replace Z15 := Z15.on hb
    replace Fm1 := Fm1.kp (Kept.of hb)
    replace Fn1 := Fn1.kp (Kept.of hb)
    replace BW := BW.trans (hb.mono BW.size)
    clear hb
    clear hHeld
    refine hK.out _ _ (by exact ⟨K5, K10⟩) (fun hHeld => ?_)
    clear hK
    (try simp only [p0, p1, p2, p3])
    refine pR1 4 (fun K hK => ?_)
    go_simp
    obtain ⟨V22, e23, hb24, K25, -, -⟩ := alloc_new w21 [.int .i64 0, .int .i64 0] 38
    have n26 : w.heap.size + 1 + 1 ≠ w21.heap.size := Nat.ne_of_lt (K14.lt)
    replace K5 := K5.on hb24
    replace K10 := K10.on hb24
    replace K14 := K14.on hb24
    replace Z15 := Z15.on hb24
    replace Fm1 := Fm1.kp (Kept.of hb24)
    replace Fn1 := Fn1.kp (Kept.of hb24)
    replace BW := BW.trans (hb24.mono BW.size)
    clear hb24
    rw [← e23]
    clear e23
    generalize w21.heap.size = b27 at *
    clear hHeld
    refine hK.out _ _ (by exact ⟨K5, K10⟩) (fun hHeld => ?_)
    clear hK
    (try simp only [p0, p1, p2, p3])
    refine pR1 5 (fun K hK => ?_)
    go_simp
    (go_at_call 39; with_reducible refine (cor_zero K25).mono ?_)
    rintro _ w28 ⟨rfl, hb⟩
    (try go_wp2_with fail)
    replace K5 := K5.on hb
    replace K10 := K10.on hb
    replace K14 := K14.on hb
    replace Z15 := Z15.on hb
    replace Fm1 := Fm1.kp (Kept.of hb)
    replace Fn1 := Fn1.kp (Kept.of hb)
    replace BW := BW.trans (hb.mono BW.size)
    clear hb
    clear hHeld
    refine hK.out _ _ (by exact ⟨K5, K10⟩) (fun hHeld => ?_)
    clear hK
    (try simp only [p0, p1, p2, p3])
    refine pR1 7 (fun K hK => ?_)
    go_simp
    (go_at_call 45; with_reducible refine (y_rkMul Fm1 Fn1 K5 K10).mono ?_)
    rintro _ w29 ⟨f, e1, rfl, h, hb⟩
    (try go_wp2_with fail)
    replace K5 := K5.on hb
    replace K10 := K10.on hb
    replace K14 := K14.on hb
    replace Z15 := Z15.on hb
    replace BW := BW.trans (hb.mono BW.size)
    clear hb
    clear hHeld
    refine hK.out _ _ (by exact ⟨K5, K10⟩) (fun hHeld => ?_)
    clear hK
    (try simp only [p0, p1, p2, p3])
    refine pT 8 ?_
    (try simp only [p0, p1, p2, p3])
    refine pT 9 ?_
    (try simp only [p0, p1, p2, p3])
    refine pR1 10 (fun K hK => ?_)
    refine ite_yes (by rfl) (wp_stM rfl rfl rfl K14 Z15 rfl rfl rfl ?_)
    obtain ⟨V30, hk32⟩ : ∃ V30, V30 = w29.setCells (w.heap.size + 1 + 1) 0 [.bool f.A.n, .slice f.A.A f.A.xs.length f.A.c, .bool f.A.m, .slice f.A.B f.A.ds.length f.A.d, .bool f.B.n, .slice f.B.A f.B.xs.length f.B.c, .bool f.B.m, .slice f.B.B f.B.ds.length f.B.d, .bool f.C.n, .slice f.C.A f.C.xs.length f.C.c, .bool f.C.m, .slice f.C.B f.C.ds.length f.C.d, .bool f.D.n, .slice f.D.A f.D.xs.length f.D.c, .bool f.D.m, .slice f.D.B f.D.ds.length f.D.d] := ⟨_, rfl⟩
    have e31 := hk32
    have hk33 := Kept.overE hk32 K14 rfl (Nat.le_of_ble_eq_true rfl)
    replace K5 := K5.awayE hk32 n16
    replace K10 := K10.awayE hk32 n17
    replace K14 := K14.overE hk32 rfl
    replace h := h.kp hk33
    replace BW := Below.putE BW hk32 g18
    clear hk32 hk33
    replace K14 : Box V30 (w.heap.size + 1 + 1) (mcs f) := K14
    rw [← e31]
    clear e31
    clear hHeld
    refine hK.out _ _ (by exact ⟨K5, K10⟩) (fun hHeld => ?_)
    clear hK
    (try simp only [p0])
    refine pT 11 ?_
    (try simp only [p0, p1, p2, p3])
    refine wpAnyH_done (by kernel_rfl) (NoPanic.normal ?_) _
    go_wp2
    go_meet
    exact ⟨f, e1, rfl, BW, K14, h⟩
  ·go_simp
   clear hHeld
   refine hK.out _ _ (by exact ⟨K5, K10⟩) (fun hHeld => ?_)
   clear hK
   (try simp only [p0, p1, p2, p3])
   refine pR1 1 (fun K hK => ?_)
   go_simp
   (go_at_call 12; with_reducible refine (y_check0 Fm1 hd1).mono ?_)
   rintro _ w20 ⟨rfl, hb⟩
   (try go_wp2_with fail)
   replace K5 := K5.on hb
   replace K10 := K10.on hb
   replace K14 := K14.on hb
   replace Z15 := Z15.on hb
   replace Fm1 := Fm1.kp (Kept.of hb)
   replace Fn1 := Fn1.kp (Kept.of hb)
   replace BW := BW.trans (hb.mono BW.size)
   clear hb
   clear hHeld
   refine hK.out _ _ (by exact ⟨K5, K10⟩) (fun hHeld => ?_)
   clear hK
   (try simp only [p0, p1, p2, p3])
   refine pR1 3 (fun K hK => ?_)
   go_simp
   (go_at_call 12; with_reducible refine (y_check0 Fn1 hd2).mono ?_)
   rintro _ w21 ⟨rfl, hb⟩
   (try go_wp2_with fail)
   replace K5 := K5.on hb
   replace K10 := K10.on hb
   replace K14 := K14.on hb
   replace Z15 := Z15.on hb
   replace Fm1 := Fm1.kp (Kept.of hb)
   replace Fn1 := Fn1.kp (Kept.of hb)
   replace BW := BW.trans (hb.mono BW.size)
   clear hb
   clear hHeld
   refine hK.out _ _ (by exact ⟨K5, K10⟩) (fun hHeld => ?_)
   clear hK
   (try simp only [p0, p1, p2, p3])
   refine pR1 4 (fun K hK => ?_)
   go_simp
   obtain ⟨V22, e23, hb24, K25, -, -⟩ := alloc_new w21 [.int .i64 0, .int .i64 0] 38
   have n26 : w.heap.size + 1 + 1 ≠ w21.heap.size := Nat.ne_of_lt (K14.lt)
   replace K5 := K5.on hb24
   replace K10 := K10.on hb24
   replace K14 := K14.on hb24
   replace Z15 := Z15.on hb24
   replace Fm1 := Fm1.kp (Kept.of hb24)
   replace Fn1 := Fn1.kp (Kept.of hb24)
   replace BW := BW.trans (hb24.mono BW.size)
   clear hb24
   rw [← e23]
   clear e23
   generalize w21.heap.size = b27 at *
   clear hHeld
   refine hK.out _ _ (by exact ⟨K5, K10⟩) (fun hHeld => ?_)
   clear hK
   (try simp only [p0, p1, p2, p3])
   refine pR1 5 (fun K hK => ?_)
   go_simp
   (go_at_call 39; with_reducible refine (cor_zero K25).mono ?_)
   rintro _ w28 ⟨rfl, hb⟩
   (try go_wp2_with fail)
   replace K5 := K5.on hb
   replace K10 := K10.on hb
   replace K14 := K14.on hb
   replace Z15 := Z15.on hb
   replace Fm1 := Fm1.kp (Kept.of hb)
   replace Fn1 := Fn1.kp (Kept.of hb)
   replace BW := BW.trans (hb.mono BW.size)
   clear hb
   clear hHeld
   refine hK.out _ _ (by exact ⟨K5, K10⟩) (fun hHeld => ?_)
   clear hK
   (try simp only [p0, p1, p2, p3])
   refine pR1 7 (fun K hK => ?_)
   go_simp
   (go_at_call 45; with_reducible refine (y_rkMul Fm1 Fn1 K5 K10).mono ?_)
   rintro _ w29 ⟨f, e1, rfl, h, hb⟩
   (try go_wp2_with fail)
   replace K5 := K5.on hb
   replace K10 := K10.on hb
   replace K14 := K14.on hb
   replace Z15 := Z15.on hb
   replace BW := BW.trans (hb.mono BW.size)
   clear hb
   clear hHeld
   refine hK.out _ _ (by exact ⟨K5, K10⟩) (fun hHeld => ?_)
   clear hK
   (try simp only [p0, p1, p2, p3])
   refine pT 8 ?_
   (try simp only [p0, p1, p2, p3])
   refine pT 9 ?_
   (try simp only [p0, p1, p2, p3])
   refine pR1 10 (fun K hK => ?_)
   refine ite_yes (by rfl) (wp_stM rfl rfl rfl K14 Z15 rfl rfl rfl ?_)
   obtain ⟨V30, hk32⟩ : ∃ V30, V30 = w29.setCells (w.heap.size + 1 + 1) 0 [.bool f.A.n, .slice f.A.A f.A.xs.length f.A.c, .bool f.A.m, .slice f.A.B f.A.ds.length f.A.d, .bool f.B.n, .slice f.B.A f.B.xs.length f.B.c, .bool f.B.m, .slice f.B.B f.B.ds.length f.B.d, .bool f.C.n, .slice f.C.A f.C.xs.length f.C.c, .bool f.C.m, .slice f.C.B f.C.ds.length f.C.d, .bool f.D.n, .slice f.D.A f.D.xs.length f.D.c, .bool f.D.m, .slice f.D.B f.D.ds.length f.D.d] := ⟨_, rfl⟩
   have e31 := hk32
   have hk33 := Kept.overE hk32 K14 rfl (Nat.le_of_ble_eq_true rfl)
   replace K5 := K5.awayE hk32 n16
   replace K10 := K10.awayE hk32 n17
   replace K14 := K14.overE hk32 rfl
   replace h := h.kp hk33
   replace BW := Below.putE BW hk32 g18
   clear hk32 hk33
   replace K14 : Box V30 (w.heap.size + 1 + 1) (mcs f) := K14
   rw [← e31]
   clear e31
   clear hHeld
   refine hK.out _ _ (by exact ⟨K5, K10⟩) (fun hHeld => ?_)
   clear hK
   (try simp only [p0])
   refine pT 11 ?_
   (try simp only [p0, p1, p2, p3])
   refine wpAnyH_done (by kernel_rfl) (NoPanic.normal ?_) _
   go_wp2
   go_meet
   exact ⟨f, e1, rfl, BW, K14, h⟩
 case rest =>
  obtain ⟨f, e1, rfl, BW, KR, h⟩ := hcut
  obtain ⟨c19, c20, c21, c22, c23, c24, c25, c26, c27, c28, c29, c30, c31, c32, c33, c34⟩ := KR.c16
  go_wp2_with fail
  exact bodyPost_ret (v := .tuple #[mv f, .int .i64 e1]) (by simp [results, Tryz.results22, go_sem, c19, c20, c21, c22, c23, c24, c25, c26, c27, c28, c29, c30, c31, c32, c33, c34]) rfl ⟨f, e1, rfl, h, BW⟩
end Go.Proofs.YtjamfkafgfpobaaGreatDoor
