/-
  What ray's reckon returns. Conditions: as each theorem states.
-/
import Derived.Test.YtjamfkafgfpobaaGreatRdt
import Derived.Test.YtjamfkafgfpobaaGreatXtra
import Derived.Deep.RegionHeld3
import Derived.Deep.DeepCutAuto
import Derived.BigRegion
namespace Go.Proofs.YtjamfkafgfpobaaGreat
open Go.RowKit Nb
set_option maxHeartbeats 8000000 in
set_option maxRecDepth 20000 in
theorem y_rkMir {q : Mq} {m : Mv} {p1 : Nat} {w : World} (Fm1 : Fm w q m) (K1 : Box w p1 (mcs m)) :
    Calls Tryz.prog 37 #[.int .i64 0, .func (.func 50) #[] #[.pointer (some ⟨p1, 0, none⟩)]] w (fun e w' => ∃ (f : Mv) (e1 : Int), e = .returned (.tuple #[mv f, .int .i64 e1]) ∧ (Fm w' q.mir f ∧ e1 = 0) ∧ Below w.heap.size w w') := by
 have BW : Below w.heap.size w w := Below.refl _ _
 obtain ⟨V2, e3, hb4, K5, Z6, z1⟩ := alloc_new w [.int .i64 0] 32
 have n7 : p1 ≠ w.heap.size := Nat.ne_of_lt (K1.lt)
 have g8 : w.heap.size ≤ w.heap.size := BW.size
 replace K1 := K1.on hb4
 replace Fm1 := Fm1.kp (Kept.of hb4)
 replace BW := BW.trans (hb4.mono BW.size)
 clear hb4
 obtain ⟨V10, e11, hb12, K13, Z14, z9⟩ := alloc_new V2 [.bool false, .slice none 0 0, .bool false, .slice none 0 0, .bool false, .slice none 0 0, .bool false, .slice none 0 0, .bool false, .slice none 0 0, .bool false, .slice none 0 0, .bool false, .slice none 0 0, .bool false, .slice none 0 0] 31
 rw [z1] at K13 Z14 z9
 replace K13 : Box V10 (w.heap.size + 1) (zcs16) := K13
 have n15 : p1 ≠ w.heap.size + 1 := Nat.ne_of_lt (z1 ▸ K1.lt)
 have n16 : w.heap.size ≠ w.heap.size + 1 := Nat.ne_of_lt (z1 ▸ K5.lt)
 have g17 : w.heap.size ≤ w.heap.size + 1 := z1 ▸ BW.size
 replace K1 := K1.on hb12
 replace K5 := K5.on hb12
 replace Z6 := Z6.on hb12
 replace Fm1 := Fm1.kp (Kept.of hb12)
 replace BW := BW.trans (hb12.mono BW.size)
 clear hb12
 obtain ⟨V18, e19, hb20, K21, Z22, -⟩ := alloc_new V10 [.bool false, .slice none 0 0, .bool false, .slice none 0 0, .bool false, .slice none 0 0, .bool false, .slice none 0 0, .bool false, .slice none 0 0, .bool false, .slice none 0 0, .bool false, .slice none 0 0, .bool false, .slice none 0 0] 31
 rw [z9] at K21 Z22
 replace K21 : Box V18 (w.heap.size + 1 + 1) (zcs16) := K21
 have n23 : p1 ≠ w.heap.size + 1 + 1 := Nat.ne_of_lt (z9 ▸ K1.lt)
 have n24 : w.heap.size ≠ w.heap.size + 1 + 1 := Nat.ne_of_lt (z9 ▸ K5.lt)
 have n25 : w.heap.size + 1 ≠ w.heap.size + 1 + 1 := Nat.ne_of_lt (z9 ▸ K13.lt)
 have g26 : w.heap.size ≤ w.heap.size + 1 + 1 := z9 ▸ BW.size
 replace K1 := K1.on hb20
 replace K5 := K5.on hb20
 replace K13 := K13.on hb20
 replace Z6 := Z6.on hb20
 replace Z14 := Z14.on hb20
 replace Fm1 := Fm1.kp (Kept.of hb20)
 replace BW := BW.trans (hb20.mono BW.size)
 clear hb20
 clear z1 z9
 go_enter Tryz.func37, Tryz.ntmps37
 go_wp2_with fail
 rw [← e3, ← e11, ← e19]
 clear e3 e11 e19
 go_wp2_with fail
 refine (y_doMir Fm1 K1 n7 K5 Z6).mono ?_
 rintro _ w27 ⟨f, rfl, h, Kg, Zg, hb⟩
 replace K1 := hb.box n7 K1
 clear K5 Z6
 replace K13 := hb.box n16.symm K13
 replace Z14 := hb.fz n16.symm Z14
 replace K21 := hb.box n24.symm K21
 replace Z22 := hb.fz n24.symm Z22
 replace BW := BW.trans (hb.b.mono g8)
 clear hb
 obtain ⟨V28, e29, hb30, K31, Z32, -⟩ := alloc_new w27 [.bool f.A.n, .slice f.A.A f.A.xs.length f.A.c, .bool f.A.m, .slice f.A.B f.A.ds.length f.A.d, .bool f.B.n, .slice f.B.A f.B.xs.length f.B.c, .bool f.B.m, .slice f.B.B f.B.ds.length f.B.d, .bool f.C.n, .slice f.C.A f.C.xs.length f.C.c, .bool f.C.m, .slice f.C.B f.C.ds.length f.C.d, .bool f.D.n, .slice f.D.A f.D.xs.length f.D.c, .bool f.D.m, .slice f.D.B f.D.ds.length f.D.d] 31
 replace K31 : Box V28 (w27.heap.size) (mcs f) := K31
 have n33 : p1 ≠ w27.heap.size := Nat.ne_of_lt (K1.lt)
 have n34 : w.heap.size ≠ w27.heap.size := Nat.ne_of_lt (Kg.lt)
 have n35 : w.heap.size + 1 ≠ w27.heap.size := Nat.ne_of_lt (K13.lt)
 have n36 : w.heap.size + 1 + 1 ≠ w27.heap.size := Nat.ne_of_lt (K21.lt)
 have g37 : w.heap.size ≤ w27.heap.size := BW.size
 replace Kg := Kg.on hb30
 replace K13 := K13.on hb30
 replace Z14 := Z14.on hb30
 replace h := h.kp (Kept.of hb30)
 replace BW := BW.trans (hb30.mono BW.size)
 clear hb30
 go_upto_region 5 with fail
 rw [← e29]
 clear e29
 generalize w27.heap.size = b38 at *
 have c39 := Kg.c1
 go_upto_region 7 with fail
 clear c39
 have c40 := K31
 have c41 := Lib.hid (st16 (P := Tryz.prog) (vs := mcs f) K13 Z14 rfl rfl)
 obtain ⟨V42, hk44⟩ : ∃ V42, V42 = V28.setCells (w.heap.size + 1) 0 (mcs f) := ⟨_, rfl⟩
 have e43 := Lib.hid hk44
 have hk45 := Kept.overE hk44 K13 rfl (Nat.le_of_ble_eq_true rfl)
 replace K13 := K13.overE hk44 rfl
 replace h := h.kp hk45
 replace BW := Below.putE BW hk44 g17
 clear hk44 hk45
 replace K13 : Box V42 (w.heap.size + 1) (mcs f) := K13
 go_wp2_with (first | (refine wpList_ldM (by rfl) (by rfl) (by rfl) c40 (by rfl) ?_))
 rw [c41.out, ← e43.out]
 go_wp2_with fail
 clear c41 e43
 clear c40
 obtain ⟨c46, c47, c48, c49, c50, c51, c52, c53, c54, c55, c56, c57, c58, c59, c60, c61⟩ := K13.c16
 exact bodyPost_ret (v := .tuple #[mv f, .int .i64 0]) (by simp [results, Tryz.results37, go_sem, c46, c47, c48, c49, c50, c51, c52, c53, c54, c55, c56, c57, c58, c59, c60, c61]) rfl ⟨f, 0, rfl, ⟨h, rfl⟩, BW⟩
end Go.Proofs.YtjamfkafgfpobaaGreat

namespace Go.Proofs.YtjamfkafgfpobaaGreat
open Go.RowKit Nb
set_option maxHeartbeats 8000000 in
set_option maxRecDepth 20000 in
theorem y_rkThr {q : Mq} {m : Mv} {r : Yq} {y : Yv} {p1 p2 : Nat} {w : World} (Fm1 : Fm w q m) (Fy1 : Fy w r y) (K1 : Box w p1 (mcs m)) (K2 : Box w p2 (ycs y)) :
    Calls Tryz.prog 52 #[.int .i64 0, .func (.func 54) #[] #[.pointer (some ⟨p1, 0, none⟩), .pointer (some ⟨p2, 0, none⟩)]] w (fun e w' => ∃ (f : Yv) (e1 : Int), e = .returned (.tuple #[yv f, .int .i64 e1]) ∧ YIs w' (q.thr r) f e1 ∧ Below w.heap.size w w') := by
 have BW : Below w.heap.size w w := Below.refl _ _
 obtain ⟨V2, e3, hb4, K5, Z6, z1⟩ := alloc_new w [.int .i64 0] 32
 have n7 : p1 ≠ w.heap.size := Nat.ne_of_lt (K1.lt)
 have n8 : p2 ≠ w.heap.size := Nat.ne_of_lt (K2.lt)
 have g9 : w.heap.size ≤ w.heap.size := BW.size
 replace K1 := K1.on hb4
 replace K2 := K2.on hb4
 replace Fm1 := Fm1.kp (Kept.of hb4)
 replace Fy1 := Fy1.kp (Kept.of hb4)
 replace BW := BW.trans (hb4.mono BW.size)
 clear hb4
 obtain ⟨V11, e12, hb13, K14, Z15, z10⟩ := alloc_new V2 [.bool false, .slice none 0 0, .bool false, .slice none 0 0, .bool false, .slice none 0 0, .bool false, .slice none 0 0] 40
 rw [z1] at K14 Z15 z10
 replace K14 : Box V11 (w.heap.size + 1) (zcs8) := K14
 have n16 : p1 ≠ w.heap.size + 1 := Nat.ne_of_lt (z1 ▸ K1.lt)
 have n17 : p2 ≠ w.heap.size + 1 := Nat.ne_of_lt (z1 ▸ K2.lt)
 have n18 : w.heap.size ≠ w.heap.size + 1 := Nat.ne_of_lt (z1 ▸ K5.lt)
 have g19 : w.heap.size ≤ w.heap.size + 1 := z1 ▸ BW.size
 replace K1 := K1.on hb13
 replace K2 := K2.on hb13
 replace K5 := K5.on hb13
 replace Z6 := Z6.on hb13
 replace Fm1 := Fm1.kp (Kept.of hb13)
 replace Fy1 := Fy1.kp (Kept.of hb13)
 replace BW := BW.trans (hb13.mono BW.size)
 clear hb13
 obtain ⟨V20, e21, hb22, K23, Z24, -⟩ := alloc_new V11 [.bool false, .slice none 0 0, .bool false, .slice none 0 0, .bool false, .slice none 0 0, .bool false, .slice none 0 0] 40
 rw [z10] at K23 Z24
 replace K23 : Box V20 (w.heap.size + 1 + 1) (zcs8) := K23
 have n25 : p1 ≠ w.heap.size + 1 + 1 := Nat.ne_of_lt (z10 ▸ K1.lt)
 have n26 : p2 ≠ w.heap.size + 1 + 1 := Nat.ne_of_lt (z10 ▸ K2.lt)
 have n27 : w.heap.size ≠ w.heap.size + 1 + 1 := Nat.ne_of_lt (z10 ▸ K5.lt)
 have n28 : w.heap.size + 1 ≠ w.heap.size + 1 + 1 := Nat.ne_of_lt (z10 ▸ K14.lt)
 have g29 : w.heap.size ≤ w.heap.size + 1 + 1 := z10 ▸ BW.size
 replace K1 := K1.on hb22
 replace K2 := K2.on hb22
 replace K5 := K5.on hb22
 replace K14 := K14.on hb22
 replace Z6 := Z6.on hb22
 replace Z15 := Z15.on hb22
 replace Fm1 := Fm1.kp (Kept.of hb22)
 replace Fy1 := Fy1.kp (Kept.of hb22)
 replace BW := BW.trans (hb22.mono BW.size)
 clear hb22
 clear z1 z10
 go_enter Tryz.func52, Tryz.ntmps52
 go_wp2_with fail
 rw [← e3, ← e12, ← e21]
 clear e3 e12 e21
 go_wp2_with fail
 refine (y_doThr Fm1 Fy1 K1 K2 n7 n8 K5 Z6).mono ?_
 rintro _ w30 ⟨f, e1, rfl, h, Kg, Zg, hb⟩
 replace K1 := hb.box n7 K1
 replace K2 := hb.box n8 K2
 clear K5 Z6
 replace K14 := hb.box n18.symm K14
 replace Z15 := hb.fz n18.symm Z15
 replace K23 := hb.box n27.symm K23
 replace Z24 := hb.fz n27.symm Z24
 replace BW := BW.trans (hb.b.mono g9)
 clear hb
 by_cases he : e1 = 0
 · obtain rfl : e1 = 0 := he
   obtain ⟨V31, e32, hb33, K34, Z35, -⟩ := alloc_new w30 [.bool f.Y.n, .slice f.Y.A f.Y.xs.length f.Y.c, .bool f.Y.m, .slice f.Y.B f.Y.ds.length f.Y.d, .bool f.U.n, .slice f.U.A f.U.xs.length f.U.c, .bool f.U.m, .slice f.U.B f.U.ds.length f.U.d] 40
   replace K34 : Box V31 (w30.heap.size) (ycs f) := K34
   have n36 : p1 ≠ w30.heap.size := Nat.ne_of_lt (K1.lt)
   have n37 : p2 ≠ w30.heap.size := Nat.ne_of_lt (K2.lt)
   have n38 : w.heap.size ≠ w30.heap.size := Nat.ne_of_lt (Kg.lt)
   have n39 : w.heap.size + 1 ≠ w30.heap.size := Nat.ne_of_lt (K14.lt)
   have n40 : w.heap.size + 1 + 1 ≠ w30.heap.size := Nat.ne_of_lt (K23.lt)
   have g41 : w.heap.size ≤ w30.heap.size := BW.size
   replace K1 := K1.on hb33
   replace K2 := K2.on hb33
   replace Kg := Kg.on hb33
   replace K14 := K14.on hb33
   replace K23 := K23.on hb33
   replace Z15 := Z15.on hb33
   replace h := h.kp (Kept.of hb33)
   replace BW := BW.trans (hb33.mono BW.size)
   clear hb33
   have c42 := Kg.c1
   rw [e32] at c42
   obtain ⟨c43, c44, c45, c46, c47, c48, c49, c50⟩ := K14.c8
   obtain ⟨c51, c52, c53, c54, c55, c56, c57, c58⟩ := Z15.f8
   rw [e32] at c43 c44 c45 c46 c47 c48 c49 c50 c51 c52 c53 c54 c55 c56 c57 c58
   obtain ⟨V59, hk61⟩ : ∃ V59, V59 = V31.setCells (w.heap.size + 1) 0 [.bool f.Y.n, .slice f.Y.A f.Y.xs.length f.Y.c, .bool f.Y.m, .slice f.Y.B f.Y.ds.length f.Y.d, .bool f.U.n, .slice f.U.A f.U.xs.length f.U.c, .bool f.U.m, .slice f.U.B f.U.ds.length f.U.d] := ⟨_, rfl⟩
   have e60 := hk61
   simp only [World.setCells, Nat.zero_add, Nat.reduceAdd] at e60
   have hk62 := Kept.overE hk61 K14 rfl (Nat.le_of_ble_eq_true rfl)
   replace K1 := K1.awayE hk61 n16
   replace K2 := K2.awayE hk61 n17
   replace Kg := Kg.awayE hk61 n18
   replace K14 := K14.overE hk61 rfl
   replace K23 := K23.awayE hk61 n28.symm
   replace K34 := K34.awayE hk61 n39.symm
   replace Z15 := Z15.putE hk61
   replace Z35 := Z35.putE hk61
   replace h := h.kp hk62
   replace BW := Below.putE BW hk61 g19
   clear hk61 hk62
   replace K14 : Box V59 (w.heap.size + 1) (ycs f) := K14
   go_wp2_with fail
   clear c42 c43 c44 c45 c46 c47 c48 c49 c50 c51 c52 c53 c54 c55 c56 c57 c58
   rw [← e32, ← e60]
   clear e32 e60
   generalize w30.heap.size = b63 at *
   obtain ⟨c64, c65, c66, c67, c68, c69, c70, c71⟩ := K14.c8
   exact bodyPost_ret (v := .tuple #[yv f, .int .i64 0]) (by simp [results, Tryz.results52, go_sem, c64, c65, c66, c67, c68, c69, c70, c71]) rfl ⟨f, 0, rfl, h, BW⟩
 · have he2 : (e1 == 0) = false := by simpa using he
   have HE := Lib.hid he
   clear he
   obtain ⟨V31, e32, hb33, K34, Z35, -⟩ := alloc_new w30 [.bool f.Y.n, .slice f.Y.A f.Y.xs.length f.Y.c, .bool f.Y.m, .slice f.Y.B f.Y.ds.length f.Y.d, .bool f.U.n, .slice f.U.A f.U.xs.length f.U.c, .bool f.U.m, .slice f.U.B f.U.ds.length f.U.d] 40
   replace K34 : Box V31 (w30.heap.size) (ycs f) := K34
   have n36 : p1 ≠ w30.heap.size := Nat.ne_of_lt (K1.lt)
   have n37 : p2 ≠ w30.heap.size := Nat.ne_of_lt (K2.lt)
   have n38 : w.heap.size ≠ w30.heap.size := Nat.ne_of_lt (Kg.lt)
   have n39 : w.heap.size + 1 ≠ w30.heap.size := Nat.ne_of_lt (K14.lt)
   have n40 : w.heap.size + 1 + 1 ≠ w30.heap.size := Nat.ne_of_lt (K23.lt)
   have g41 : w.heap.size ≤ w30.heap.size := BW.size
   replace Kg := Kg.on hb33
   replace K14 := K14.on hb33
   replace K23 := K23.on hb33
   replace Z15 := Z15.on hb33
   replace h := h.kp (Kept.of hb33)
   replace BW := BW.trans (hb33.mono BW.size)
   clear hb33
   have c42 := Kg.c1
   rw [e32] at c42
   go_wp2_with fail
   clear c42
   rw [← e32]
   clear e32
   generalize w30.heap.size = b43 at *
   refine wp_region_noPanic ?_
   have hb : Below V31.heap.size V31 V31.drew := (Below.refl _ _).drew
   replace Kg := Kg.on hb
   replace K14 := K14.on hb
   replace K23 := K23.on hb
   replace Z15 := Z15.on hb
   replace h := h.kp (Kept.of hb)
   replace BW := BW.trans (hb.mono BW.size)
   clear hb
   refine wp_region_held_drew (S := (fun wx => Cs wx (w.heap.size) 0 [.int .i64 e1] ∧ Cs wx (w.heap.size + 1 + 1) 0 [.bool false, .slice none 0 0, .bool false, .slice none 0 0, .bool false, .slice none 0 0, .bool false, .slice none 0 0])) (by kernel_rfl) (by exact ⟨Kg.cs, K23.cs⟩) (fun hHeld => ?_)
   generalize V31.drew = Vd44 at *
   refine pT 0 ?_
   (try simp only [p0, p1, p2, p3])
   refine pT 1 ?_
   (try simp only [p0, p1, p2, p3])
   refine pR1 2 (fun K hK => ?_)
   obtain ⟨c45, c46, c47, c48, c49, c50, c51, c52⟩ := K14.c8
   obtain ⟨c53, c54, c55, c56, c57, c58, c59, c60⟩ := Z15.f8
   go_simp
   clear c45 c46 c47 c48 c49 c50 c51 c52 c53 c54 c55 c56 c57 c58 c59 c60
   obtain ⟨V61, hk63⟩ : ∃ V61, V61 = Vd44.setCells (w.heap.size + 1) 0 [.bool false, .slice none 0 0, .bool false, .slice none 0 0, .bool false, .slice none 0 0, .bool false, .slice none 0 0] := ⟨_, rfl⟩
   have e62 := hk63
   simp only [World.setCells, Nat.zero_add, Nat.reduceAdd] at e62
   have hk64 := Kept.overE hk63 K14 rfl (Nat.le_of_ble_eq_true rfl)
   replace Kg := Kg.awayE hk63 n18
   replace K14 := K14.overE hk63 rfl
   replace K23 := K23.awayE hk63 n28.symm
   replace h := h.kp hk64
   replace BW := Below.putE BW hk63 g19
   clear hk63 hk64
   replace K14 : Box V61 (w.heap.size + 1) (zcs8) := K14
   rw [← e62]
   clear e62
   clear hHeld
   refine hK.out _ _ (by exact ⟨Kg.cs, K23.cs⟩) (fun hHeld => ?_)
   clear hK
   (try simp only [p0, p1, p2, p3])
   refine pT 3 ?_
   (try simp only [p0, p1, p2, p3])
   refine wpAnyH_done (by kernel_rfl) (NoPanic.normal ?_) _
   go_wp2
   obtain ⟨c65, c66, c67, c68, c69, c70, c71, c72⟩ := K14.c8
   exact bodyPost_ret (v := .tuple #[.agg #[.bool false, .slice none 0 0, .bool false, .slice none 0 0, .bool false, .slice none 0 0, .bool false, .slice none 0 0], .int .i64 e1]) (by simp [results, Tryz.results52, go_sem, c65, c66, c67, c68, c69, c70, c71, c72]) rfl ⟨yv0, e1, rfl, h.no HE.out, BW⟩
end Go.Proofs.YtjamfkafgfpobaaGreat
