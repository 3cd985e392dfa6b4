/-
  What bench's and large's functions answer of elements, matrices and rays of any size. Conditions: that they are no longer than memory.
-/
import Derived.Test.YtjamfkafgfpobaaGreatBl2
import Derived.Deep.RegionHeld3
import Derived.Deep.DeepCutAuto
import Derived.BigRegion
namespace Go.Proofs.YtjamfkafgfpobaaGreat
open Go.RowKit Nb
set_option maxHeartbeats 8000000 in
set_option maxRecDepth 20000 in
theorem b_of {n : Int} {w : World} (h0 : -9223372036854775808 ≤ n) (h1 : n ≤ 9223372036854775807) :
    Calls Tryz.prog 109 #[.int .i64 n] w (GQ w (n : Rat) 2) := by
 have BW : Below w.heap.size w w := Below.refl _ _
 obtain ⟨V1, e2, hb3, K4, Z5, -⟩ := alloc_new w [.bool false, .slice none 0 0, .bool false, .slice none 0 0] 74
 have g6 : w.heap.size ≤ w.heap.size := BW.size
 replace BW := BW.trans (hb3.mono BW.size)
 clear hb3
 go_enter Tryz.func109, Tryz.ntmps109
 go_wp2_with fail
 rw [← e2]
 clear e2
 refine (lof_n h0 h1).mono ?_
 rintro _ w7 ⟨n1, A1, xs1, c1, rfl, N1, hb⟩
 replace K4 := K4.on hb
 replace Z5 := Z5.on hb
 replace BW := BW.trans (hb.mono BW.size)
 clear hb
 go_wp2_with fail
 refine (lof_n (n := 1) (by decide) (by decide)).mono ?_
 rintro _ w8 ⟨n2, A2, xs2, c2, rfl, N2, hb⟩
 replace K4 := K4.on hb
 replace Z5 := Z5.on hb
 replace N1 := N1.kp (Kept.of hb)
 replace BW := BW.trans (hb.mono BW.size)
 clear hb
 obtain ⟨c9, c10, c11, c12⟩ := K4.c4
 obtain ⟨c13, c14, c15, c16⟩ := Z5.f4
 obtain ⟨V17, hk19⟩ : ∃ V17, V17 = w8.setCells (w.heap.size) 0 [.bool n1, .slice A1 xs1.length c1, .bool n2, .slice A2 xs2.length c2] := ⟨_, rfl⟩
 have e18 := hk19
 simp only [World.setCells, Nat.zero_add, Nat.reduceAdd] at e18
 have hk20 := Kept.overE hk19 K4 rfl (Nat.le_of_ble_eq_true rfl)
 replace K4 := K4.overE hk19 rfl
 replace N1 := N1.kp hk20
 replace N2 := N2.kp hk20
 replace BW := Below.putE BW hk19 g6
 clear hk19 hk20
 go_wp2_with fail
 clear c9 c10 c11 c12 c13 c14 c15 c16
 rw [← e18]
 clear e18
 have L : Fq V17 (n : Rat) ⟨n1, A1, xs1, c1, n2, A2, xs2, c2⟩ 2 := ⟨(Lq.mk' (q := (n : Rat)) N1 N2).1, (Lq.mk' (q := (n : Rat)) N1 N2).2.mono (by decide)⟩
 obtain ⟨c21, c22, c23, c24⟩ := K4.c4
 exact bodyPost_ret (v := fv ⟨n1, A1, xs1, c1, n2, A2, xs2, c2⟩) (by simp [results, Tryz.results109, go_sem, c21, c22, c23, c24]) rfl ⟨⟨n1, A1, xs1, c1, n2, A2, xs2, c2⟩, rfl, L, BW⟩
set_option maxHeartbeats 8000000 in
set_option maxRecDepth 20000 in
theorem b_space {q : Rat} {a : Fv} {C : Nat} {w : World} (La : Fq w q a C) (hC : 2 ≤ C) :
    Calls Tryz.prog 97 #[fv a] w (GMx w (Mq.space q) (C)) := by
 have BW : Below w.heap.size w w := Below.refl _ _
 obtain ⟨V2, e3, hb4, K5, -, z1⟩ := alloc_new w [.bool a.n, .slice a.A a.xs.length a.c, .bool a.m, .slice a.B a.ds.length a.d] 74
 replace La := La.kp (Kept.of hb4)
 replace BW := BW.trans (hb4.mono BW.size)
 clear hb4
 obtain ⟨V6, e7, hb8, K9, Z10, -⟩ := alloc_new V2 [.bool false, .slice none 0 0, .bool false, .slice none 0 0, .bool false, .slice none 0 0, .bool false, .slice none 0 0, .bool false, .slice none 0 0, .bool false, .slice none 0 0, .bool false, .slice none 0 0, .bool false, .slice none 0 0] 76
 rw [z1] at K9 Z10
 replace K9 : Box V6 (w.heap.size + 1) (zcs16) := K9
 have n11 : w.heap.size ≠ w.heap.size + 1 := Nat.ne_of_lt (z1 ▸ K5.lt)
 have g12 : w.heap.size ≤ w.heap.size + 1 := z1 ▸ BW.size
 replace K5 := K5.on hb8
 replace La := La.kp (Kept.of hb8)
 replace BW := BW.trans (hb8.mono BW.size)
 clear hb8
 clear z1
 go_enter Tryz.func97, Tryz.ntmps97
 go_wp2_with fail
 rw [← e3, ← e7]
 clear e3 e7
 refine wp_region_noPanic ?_
 have hb : Below V6.heap.size V6 V6.drew := (Below.refl _ _).drew
 replace K5 := K5.on hb
 replace K9 := K9.on hb
 replace Z10 := Z10.on hb
 replace La := La.kp (Kept.of hb)
 replace BW := BW.trans (hb.mono BW.size)
 clear hb
 refine wp_region_held_drew (S := (fun wx => Cs wx (w.heap.size) 0 [.bool a.n, .slice a.A a.xs.length a.c, .bool a.m, .slice a.B a.ds.length a.d])) (by kernel_rfl) (by exact K5.cs) (fun hHeld => ?_)
 generalize V6.drew = Vd13 at *
 refine pT 1 ?_
 (try simp only [p0, p1, p2, p3])
 refine pR1 0 (fun K hK => ?_)
 go_simp
 (go_at_call 109; with_reducible refine (b_of (n := 1) (by decide) (by decide)).mono ?_)
 rintro _ w14 ⟨f1, rfl, L1, hb⟩
 (try go_wp2_with fail)
 replace K5 := K5.on hb
 replace K9 := K9.on hb
 replace Z10 := Z10.on hb
 replace La := La.kp (Kept.of hb)
 replace BW := BW.trans (hb.mono BW.size)
 clear hb
 clear hHeld
 refine hK.out _ _ (by exact K5.cs) (fun hHeld => ?_)
 clear hK
 (try simp only [p0, p1, p2, p3])
 refine pR1 2 (fun K hK => ?_)
 go_simp
 (go_at_call 109; with_reducible refine (b_of (n := 0) (by decide) (by decide)).mono ?_)
 rintro _ w15 ⟨f2, rfl, L2, hb⟩
 (try go_wp2_with fail)
 replace K5 := K5.on hb
 replace K9 := K9.on hb
 replace Z10 := Z10.on hb
 replace La := La.kp (Kept.of hb)
 replace L1 := L1.kp (Kept.of hb)
 replace BW := BW.trans (hb.mono BW.size)
 clear hb
 clear hHeld
 refine hK.out _ _ (by exact K5.cs) (fun hHeld => ?_)
 clear hK
 (try simp only [p0, p1, p2, p3])
 refine pR1 3 (fun K hK => ?_)
 go_simp
 (go_at_call 109; with_reducible refine (b_of (n := 1) (by decide) (by decide)).mono ?_)
 rintro _ w16 ⟨f3, rfl, L3, hb⟩
 (try go_wp2_with fail)
 replace K5 := K5.on hb
 replace K9 := K9.on hb
 replace Z10 := Z10.on hb
 replace La := La.kp (Kept.of hb)
 replace L1 := L1.kp (Kept.of hb)
 replace L2 := L2.kp (Kept.of hb)
 replace BW := BW.trans (hb.mono BW.size)
 clear hb
 clear hHeld
 refine hK.out _ _ (by exact K5.cs) (fun hHeld => ?_)
 clear hK
 (try simp only [p0, p1, p2, p3])
 refine pT 4 ?_
 (try simp only [p0, p1, p2, p3])
 refine pR1 5 (fun K hK => ?_)
 refine ite_yes (by rfl) (wp_stL rfl rfl rfl K9 Z10 rfl rfl rfl ?_)
 obtain ⟨V17, hk19⟩ : ∃ V17, V17 = w16.setCells (w.heap.size + 1) 0 [.bool f1.n, .slice f1.A f1.xs.length f1.c, .bool f1.m, .slice f1.B f1.ds.length f1.d, .bool a.n, .slice a.A a.xs.length a.c, .bool a.m, .slice a.B a.ds.length a.d, .bool f2.n, .slice f2.A f2.xs.length f2.c, .bool f2.m, .slice f2.B f2.ds.length f2.d, .bool f3.n, .slice f3.A f3.xs.length f3.c, .bool f3.m, .slice f3.B f3.ds.length f3.d] := ⟨_, rfl⟩
 have e18 := hk19
 have hk20 := Kept.overE hk19 K9 rfl (Nat.le_of_ble_eq_true rfl)
 replace K5 := K5.awayE hk19 n11
 replace K9 := K9.overE hk19 rfl
 replace La := La.kp hk20
 replace L1 := L1.kp hk20
 replace L2 := L2.kp hk20
 replace L3 := L3.kp hk20
 replace BW := Below.putE BW hk19 g12
 clear hk19 hk20
 rw [← e18]
 clear e18
 clear hHeld
 refine hK.out _ _ (by exact K5.cs) (fun hHeld => ?_)
 clear hK
 (try simp only [p0])
 refine wpAnyH_done (by kernel_rfl) (NoPanic.normal ?_) _
 go_wp2
 exact bodyPost_ret (v := .agg #[.bool f1.n, .slice f1.A f1.xs.length f1.c, .bool f1.m, .slice f1.B f1.ds.length f1.d, .bool a.n, .slice a.A a.xs.length a.c, .bool a.m, .slice a.B a.ds.length a.d, .bool f2.n, .slice f2.A f2.xs.length f2.c, .bool f2.m, .slice f2.B f2.ds.length f2.d, .bool f3.n, .slice f3.A f3.xs.length f3.c, .bool f3.m, .slice f3.B f3.ds.length f3.d]) (res_L Tryz.results97 (by rfl) K9 rfl) rfl ⟨⟨f1, a, f2, f3⟩, rfl, ⟨L1.mono hC, La, L2.mono hC, L3.mono hC⟩, BW⟩
set_option maxHeartbeats 8000000 in
set_option maxRecDepth 20000 in
theorem b_lens {q : Rat} {a : Fv} {C : Nat} {w : World} (La : Fq w q a C) (hC : 2 ≤ C) (hC2 : C ≤ 1759218604390) :
    Calls Tryz.prog 99 #[fv a] w (GMx w (Mq.lens q) (C)) := by
 have BW : Below w.heap.size w w := Below.refl _ _
 obtain ⟨V2, e3, hb4, K5, -, z1⟩ := alloc_new w [.bool a.n, .slice a.A a.xs.length a.c, .bool a.m, .slice a.B a.ds.length a.d] 74
 replace La := La.kp (Kept.of hb4)
 replace BW := BW.trans (hb4.mono BW.size)
 clear hb4
 obtain ⟨V6, e7, hb8, K9, Z10, -⟩ := alloc_new V2 [.bool false, .slice none 0 0, .bool false, .slice none 0 0, .bool false, .slice none 0 0, .bool false, .slice none 0 0, .bool false, .slice none 0 0, .bool false, .slice none 0 0, .bool false, .slice none 0 0, .bool false, .slice none 0 0] 76
 rw [z1] at K9 Z10
 replace K9 : Box V6 (w.heap.size + 1) (zcs16) := K9
 have n11 : w.heap.size ≠ w.heap.size + 1 := Nat.ne_of_lt (z1 ▸ K5.lt)
 have g12 : w.heap.size ≤ w.heap.size + 1 := z1 ▸ BW.size
 replace K5 := K5.on hb8
 replace La := La.kp (Kept.of hb8)
 replace BW := BW.trans (hb8.mono BW.size)
 clear hb8
 clear z1
 go_enter Tryz.func99, Tryz.ntmps99
 go_wp2_with fail
 rw [← e3, ← e7]
 clear e3 e7
 refine wp_region_noPanic ?_
 have hb : Below V6.heap.size V6 V6.drew := (Below.refl _ _).drew
 replace K5 := K5.on hb
 replace K9 := K9.on hb
 replace Z10 := Z10.on hb
 replace La := La.kp (Kept.of hb)
 replace BW := BW.trans (hb.mono BW.size)
 clear hb
 refine wp_region_held_drew (S := (fun wx => Cs wx (w.heap.size) 0 [.bool a.n, .slice a.A a.xs.length a.c, .bool a.m, .slice a.B a.ds.length a.d])) (by kernel_rfl) (by exact K5.cs) (fun hHeld => ?_)
 generalize V6.drew = Vd13 at *
 refine pT 2 ?_
 (try simp only [p0, p1, p2, p3])
 refine pR1 0 (fun K hK => ?_)
 go_simp
 (go_at_call 109; with_reducible refine (b_of (n := 1) (by decide) (by decide)).mono ?_)
 rintro _ w14 ⟨f1, rfl, L1, hb⟩
 (try go_wp2_with fail)
 replace K5 := K5.on hb
 replace K9 := K9.on hb
 replace Z10 := Z10.on hb
 replace La := La.kp (Kept.of hb)
 replace BW := BW.trans (hb.mono BW.size)
 clear hb
 clear hHeld
 refine hK.out _ _ (by exact K5.cs) (fun hHeld => ?_)
 clear hK
 (try simp only [p0, p1, p2, p3])
 refine pR1 1 (fun K hK => ?_)
 go_simp
 (go_at_call 109; with_reducible refine (b_of (n := 0) (by decide) (by decide)).mono ?_)
 rintro _ w15 ⟨f2, rfl, L2, hb⟩
 (try go_wp2_with fail)
 replace K5 := K5.on hb
 replace K9 := K9.on hb
 replace Z10 := Z10.on hb
 replace La := La.kp (Kept.of hb)
 replace L1 := L1.kp (Kept.of hb)
 replace BW := BW.trans (hb.mono BW.size)
 clear hb
 clear hHeld
 refine hK.out _ _ (by exact K5.cs) (fun hHeld => ?_)
 clear hK
 (try simp only [p0, p1, p2, p3])
 refine pR1 3 (fun K hK => ?_)
 go_simp
 (go_at_call 86; with_reducible refine (q_neg La hC2).mono ?_)
 rintro _ w16 ⟨f4, rfl, L4, hb⟩
 (try go_wp2_with fail)
 replace K5 := K5.on hb
 replace K9 := K9.on hb
 replace Z10 := Z10.on hb
 replace L1 := L1.kp (Kept.of hb)
 replace L2 := L2.kp (Kept.of hb)
 replace BW := BW.trans (hb.mono BW.size)
 clear hb
 clear hHeld
 refine hK.out _ _ (by exact K5.cs) (fun hHeld => ?_)
 clear hK
 (try simp only [p0, p1, p2, p3])
 refine pR1 4 (fun K hK => ?_)
 go_simp
 (go_at_call 109; with_reducible refine (b_of (n := 1) (by decide) (by decide)).mono ?_)
 rintro _ w17 ⟨f3, rfl, L3, hb⟩
 (try go_wp2_with fail)
 replace K5 := K5.on hb
 replace K9 := K9.on hb
 replace Z10 := Z10.on hb
 replace L1 := L1.kp (Kept.of hb)
 replace L2 := L2.kp (Kept.of hb)
 replace L4 := L4.kp (Kept.of hb)
 replace BW := BW.trans (hb.mono BW.size)
 clear hb
 clear hHeld
 refine hK.out _ _ (by exact K5.cs) (fun hHeld => ?_)
 clear hK
 (try simp only [p0, p1, p2, p3])
 refine pT 5 ?_
 (try simp only [p0, p1, p2, p3])
 refine pR1 6 (fun K hK => ?_)
 refine ite_yes (by rfl) (wp_stL rfl rfl rfl K9 Z10 rfl rfl rfl ?_)
 obtain ⟨V18, hk20⟩ : ∃ V18, V18 = w17.setCells (w.heap.size + 1) 0 [.bool f1.n, .slice f1.A f1.xs.length f1.c, .bool f1.m, .slice f1.B f1.ds.length f1.d, .bool f2.n, .slice f2.A f2.xs.length f2.c, .bool f2.m, .slice f2.B f2.ds.length f2.d, .bool f4.n, .slice f4.A f4.xs.length f4.c, .bool f4.m, .slice f4.B f4.ds.length f4.d, .bool f3.n, .slice f3.A f3.xs.length f3.c, .bool f3.m, .slice f3.B f3.ds.length f3.d] := ⟨_, rfl⟩
 have e19 := hk20
 have hk21 := Kept.overE hk20 K9 rfl (Nat.le_of_ble_eq_true rfl)
 replace K5 := K5.awayE hk20 n11
 replace K9 := K9.overE hk20 rfl
 replace L1 := L1.kp hk21
 replace L2 := L2.kp hk21
 replace L4 := L4.kp hk21
 replace L3 := L3.kp hk21
 replace BW := Below.putE BW hk20 g12
 clear hk20 hk21
 rw [← e19]
 clear e19
 clear hHeld
 refine hK.out _ _ (by exact K5.cs) (fun hHeld => ?_)
 clear hK
 (try simp only [p0])
 refine wpAnyH_done (by kernel_rfl) (NoPanic.normal ?_) _
 go_wp2
 exact bodyPost_ret (v := .agg #[.bool f1.n, .slice f1.A f1.xs.length f1.c, .bool f1.m, .slice f1.B f1.ds.length f1.d, .bool f2.n, .slice f2.A f2.xs.length f2.c, .bool f2.m, .slice f2.B f2.ds.length f2.d, .bool f4.n, .slice f4.A f4.xs.length f4.c, .bool f4.m, .slice f4.B f4.ds.length f4.d, .bool f3.n, .slice f3.A f3.xs.length f3.c, .bool f3.m, .slice f3.B f3.ds.length f3.d]) (res_L Tryz.results99 (by rfl) K9 rfl) rfl ⟨⟨f1, f2, f4, f3⟩, rfl, ⟨L1.mono hC, L2.mono hC, L4, L3.mono hC⟩, BW⟩
set_option maxHeartbeats 8000000 in
set_option maxRecDepth 20000 in
theorem b_neg {q : Mq} {m : Mv} {C : Nat} {w : World} (G : Gm w q m C) (hC : C ≤ 1759218604390) :
    Calls Tryz.prog 104 #[mv m] w (GMx w (q.neg) (C)) := by
 have BW : Below w.heap.size w w := Below.refl _ _
 obtain ⟨V2, e3, hb4, K5, -, z1⟩ := alloc_new w [.bool m.A.n, .slice m.A.A m.A.xs.length m.A.c, .bool m.A.m, .slice m.A.B m.A.ds.length m.A.d, .bool m.B.n, .slice m.B.A m.B.xs.length m.B.c, .bool m.B.m, .slice m.B.B m.B.ds.length m.B.d, .bool m.C.n, .slice m.C.A m.C.xs.length m.C.c, .bool m.C.m, .slice m.C.B m.C.ds.length m.C.d, .bool m.D.n, .slice m.D.A m.D.xs.length m.D.c, .bool m.D.m, .slice m.D.B m.D.ds.length m.D.d] 76
 replace K5 : Box V2 (w.heap.size) (mcs m) := K5
 replace G := G.kp (Kept.of hb4)
 replace BW := BW.trans (hb4.mono BW.size)
 clear hb4
 obtain ⟨V6, e7, hb8, K9, Z10, -⟩ := alloc_new V2 [.bool false, .slice none 0 0, .bool false, .slice none 0 0, .bool false, .slice none 0 0, .bool false, .slice none 0 0, .bool false, .slice none 0 0, .bool false, .slice none 0 0, .bool false, .slice none 0 0, .bool false, .slice none 0 0] 76
 rw [z1] at K9 Z10
 replace K9 : Box V6 (w.heap.size + 1) (zcs16) := K9
 have n11 : w.heap.size ≠ w.heap.size + 1 := Nat.ne_of_lt (z1 ▸ K5.lt)
 have g12 : w.heap.size ≤ w.heap.size + 1 := z1 ▸ BW.size
 replace K5 := K5.on hb8
 replace G := G.kp (Kept.of hb8)
 replace BW := BW.trans (hb8.mono BW.size)
 clear hb8
 clear z1
 go_enter Tryz.func104, Tryz.ntmps104
 go_wp2_with fail
 rw [← e3, ← e7]
 clear e3 e7
 refine wp_region_noPanic ?_
 have hb : Below V6.heap.size V6 V6.drew := (Below.refl _ _).drew
 replace K5 := K5.on hb
 replace K9 := K9.on hb
 replace Z10 := Z10.on hb
 replace G := G.kp (Kept.of hb)
 replace BW := BW.trans (hb.mono BW.size)
 clear hb
 refine wp_region_held_drew (S := (fun wx => Cs wx (w.heap.size) 0 [.bool m.A.n, .slice m.A.A m.A.xs.length m.A.c, .bool m.A.m, .slice m.A.B m.A.ds.length m.A.d, .bool m.B.n, .slice m.B.A m.B.xs.length m.B.c, .bool m.B.m, .slice m.B.B m.B.ds.length m.B.d, .bool m.C.n, .slice m.C.A m.C.xs.length m.C.c, .bool m.C.m, .slice m.C.B m.C.ds.length m.C.d, .bool m.D.n, .slice m.D.A m.D.xs.length m.D.c, .bool m.D.m, .slice m.D.B m.D.ds.length m.D.d])) (by kernel_rfl) (by exact K5.cs) (fun hHeld => ?_)
 generalize V6.drew = Vd13 at *
 refine pT 0 ?_
 (try simp only [p0, p1, p2, p3])
 refine pT 1 ?_
 (try simp only [p0, p1, p2, p3])
 refine pT 3 ?_
 (try simp only [p0, p1, p2, p3])
 refine pT 4 ?_
 (try simp only [p0, p1, p2, p3])
 refine pT 6 ?_
 (try simp only [p0, p1, p2, p3])
 refine pT 7 ?_
 (try simp only [p0, p1, p2, p3])
 refine pT 9 ?_
 (try simp only [p0, p1, p2, p3])
 refine pT 10 ?_
 (try simp only [p0, p1, p2, p3])
 refine pR1 2 (fun K hK => ?_)
 go_simp
 (go_at_call 86; with_reducible refine (q_neg G.gA hC).mono ?_)
 rintro _ w14 ⟨f1, rfl, L1, hb⟩
 (try go_wp2_with fail)
 replace K5 := K5.on hb
 replace K9 := K9.on hb
 replace Z10 := Z10.on hb
 replace G := G.kp (Kept.of hb)
 replace BW := BW.trans (hb.mono BW.size)
 clear hb
 clear hHeld
 refine hK.out _ _ (by exact K5.cs) (fun hHeld => ?_)
 clear hK
 (try simp only [p0, p1, p2, p3])
 refine pR1 5 (fun K hK => ?_)
 go_simp
 (go_at_call 86; with_reducible refine (q_neg G.gB hC).mono ?_)
 rintro _ w15 ⟨f2, rfl, L2, hb⟩
 (try go_wp2_with fail)
 replace K5 := K5.on hb
 replace K9 := K9.on hb
 replace Z10 := Z10.on hb
 replace G := G.kp (Kept.of hb)
 replace L1 := L1.kp (Kept.of hb)
 replace BW := BW.trans (hb.mono BW.size)
 clear hb
 clear hHeld
 refine hK.out _ _ (by exact K5.cs) (fun hHeld => ?_)
 clear hK
 (try simp only [p0, p1, p2, p3])
 refine pR1 8 (fun K hK => ?_)
 go_simp
 (go_at_call 86; with_reducible refine (q_neg G.gC hC).mono ?_)
 rintro _ w16 ⟨f3, rfl, L3, hb⟩
 (try go_wp2_with fail)
 replace K5 := K5.on hb
 replace K9 := K9.on hb
 replace Z10 := Z10.on hb
 replace G := G.kp (Kept.of hb)
 replace L1 := L1.kp (Kept.of hb)
 replace L2 := L2.kp (Kept.of hb)
 replace BW := BW.trans (hb.mono BW.size)
 clear hb
 clear hHeld
 refine hK.out _ _ (by exact K5.cs) (fun hHeld => ?_)
 clear hK
 (try simp only [p0, p1, p2, p3])
 refine pR1 11 (fun K hK => ?_)
 go_simp
 (go_at_call 86; with_reducible refine (q_neg G.gD hC).mono ?_)
 rintro _ w17 ⟨f4, rfl, L4, hb⟩
 (try go_wp2_with fail)
 replace K5 := K5.on hb
 replace K9 := K9.on hb
 replace Z10 := Z10.on hb
 replace L1 := L1.kp (Kept.of hb)
 replace L2 := L2.kp (Kept.of hb)
 replace L3 := L3.kp (Kept.of hb)
 replace BW := BW.trans (hb.mono BW.size)
 clear hb
 clear hHeld
 refine hK.out _ _ (by exact K5.cs) (fun hHeld => ?_)
 clear hK
 (try simp only [p0, p1, p2, p3])
 refine pT 12 ?_
 (try simp only [p0, p1, p2, p3])
 refine pR1 13 (fun K hK => ?_)
 refine ite_yes (by rfl) (wp_stL rfl rfl rfl K9 Z10 rfl rfl rfl ?_)
 obtain ⟨V18, hk20⟩ : ∃ V18, V18 = w17.setCells (w.heap.size + 1) 0 [.bool f1.n, .slice f1.A f1.xs.length f1.c, .bool f1.m, .slice f1.B f1.ds.length f1.d, .bool f2.n, .slice f2.A f2.xs.length f2.c, .bool f2.m, .slice f2.B f2.ds.length f2.d, .bool f3.n, .slice f3.A f3.xs.length f3.c, .bool f3.m, .slice f3.B f3.ds.length f3.d, .bool f4.n, .slice f4.A f4.xs.length f4.c, .bool f4.m, .slice f4.B f4.ds.length f4.d] := ⟨_, rfl⟩
 have e19 := hk20
 have hk21 := Kept.overE hk20 K9 rfl (Nat.le_of_ble_eq_true rfl)
 replace K5 := K5.awayE hk20 n11
 replace K9 := K9.overE hk20 rfl
 replace L1 := L1.kp hk21
 replace L2 := L2.kp hk21
 replace L3 := L3.kp hk21
 replace L4 := L4.kp hk21
 replace BW := Below.putE BW hk20 g12
 clear hk20 hk21
 rw [← e19]
 clear e19
 clear hHeld
 refine hK.out _ _ (by exact K5.cs) (fun hHeld => ?_)
 clear hK
 (try simp only [p0])
 refine wpAnyH_done (by kernel_rfl) (NoPanic.normal ?_) _
 go_wp2
 exact bodyPost_ret (v := .agg #[.bool f1.n, .slice f1.A f1.xs.length f1.c, .bool f1.m, .slice f1.B f1.ds.length f1.d, .bool f2.n, .slice f2.A f2.xs.length f2.c, .bool f2.m, .slice f2.B f2.ds.length f2.d, .bool f3.n, .slice f3.A f3.xs.length f3.c, .bool f3.m, .slice f3.B f3.ds.length f3.d, .bool f4.n, .slice f4.A f4.xs.length f4.c, .bool f4.m, .slice f4.B f4.ds.length f4.d]) (res_L Tryz.results104 (by rfl) K9 rfl) rfl ⟨⟨f1, f2, f3, f4⟩, rfl, ⟨L1, L2, L3, L4⟩, BW⟩
set_option maxHeartbeats 8000000 in
set_option maxRecDepth 20000 in
theorem b_from {q : Mq} {m : Mv} {w : World} (G : Fm w q m) :
    Calls Tryz.prog 72 #[mv m] w (GMx w (q) (1024)) := by
 have BW : Below w.heap.size w w := Below.refl _ _
 obtain ⟨V2, e3, hb4, K5, -, z1⟩ := alloc_new w [.bool m.A.n, .slice m.A.A m.A.xs.length m.A.c, .bool m.A.m, .slice m.A.B m.A.ds.length m.A.d, .bool m.B.n, .slice m.B.A m.B.xs.length m.B.c, .bool m.B.m, .slice m.B.B m.B.ds.length m.B.d, .bool m.C.n, .slice m.C.A m.C.xs.length m.C.c, .bool m.C.m, .slice m.C.B m.C.ds.length m.C.d, .bool m.D.n, .slice m.D.A m.D.xs.length m.D.c, .bool m.D.m, .slice m.D.B m.D.ds.length m.D.d] 31
 replace K5 : Box V2 (w.heap.size) (mcs m) := K5
 replace G := G.kp (Kept.of hb4)
 replace BW := BW.trans (hb4.mono BW.size)
 clear hb4
 obtain ⟨V6, e7, hb8, K9, Z10, -⟩ := alloc_new V2 [.bool false, .slice none 0 0, .bool false, .slice none 0 0, .bool false, .slice none 0 0, .bool false, .slice none 0 0, .bool false, .slice none 0 0, .bool false, .slice none 0 0, .bool false, .slice none 0 0, .bool false, .slice none 0 0] 76
 rw [z1] at K9 Z10
 replace K9 : Box V6 (w.heap.size + 1) (zcs16) := K9
 have n11 : w.heap.size ≠ w.heap.size + 1 := Nat.ne_of_lt (z1 ▸ K5.lt)
 have g12 : w.heap.size ≤ w.heap.size + 1 := z1 ▸ BW.size
 replace K5 := K5.on hb8
 replace G := G.kp (Kept.of hb8)
 replace BW := BW.trans (hb8.mono BW.size)
 clear hb8
 clear z1
 go_enter Tryz.func72, Tryz.ntmps72
 go_wp2_with fail
 rw [← e3, ← e7]
 clear e3 e7
 refine wp_region_noPanic ?_
 have hb : Below V6.heap.size V6 V6.drew := (Below.refl _ _).drew
 replace K5 := K5.on hb
 replace K9 := K9.on hb
 replace Z10 := Z10.on hb
 replace G := G.kp (Kept.of hb)
 replace BW := BW.trans (hb.mono BW.size)
 clear hb
 refine wp_region_held_drew (S := (fun wx => Cs wx (w.heap.size) 0 [.bool m.A.n, .slice m.A.A m.A.xs.length m.A.c, .bool m.A.m, .slice m.A.B m.A.ds.length m.A.d, .bool m.B.n, .slice m.B.A m.B.xs.length m.B.c, .bool m.B.m, .slice m.B.B m.B.ds.length m.B.d, .bool m.C.n, .slice m.C.A m.C.xs.length m.C.c, .bool m.C.m, .slice m.C.B m.C.ds.length m.C.d, .bool m.D.n, .slice m.D.A m.D.xs.length m.D.c, .bool m.D.m, .slice m.D.B m.D.ds.length m.D.d])) (by kernel_rfl) (by exact K5.cs) (fun hHeld => ?_)
 generalize V6.drew = Vd13 at *
 refine pT 0 ?_
 (try simp only [p0, p1, p2, p3])
 refine pT 1 ?_
 (try simp only [p0, p1, p2, p3])
 refine pT 3 ?_
 (try simp only [p0, p1, p2, p3])
 refine pT 4 ?_
 (try simp only [p0, p1, p2, p3])
 refine pT 6 ?_
 (try simp only [p0, p1, p2, p3])
 refine pT 7 ?_
 (try simp only [p0, p1, p2, p3])
 refine pT 9 ?_
 (try simp only [p0, p1, p2, p3])
 refine pT 10 ?_
 (try simp only [p0, p1, p2, p3])
 refine pR1 2 (fun K hK => ?_)
 go_simp
 (go_at_call 45; with_reducible refine (q_from G.fA).mono ?_)
 rintro _ w14 ⟨f1, rfl, L1, hb⟩
 (try go_wp2_with fail)
 replace K5 := K5.on hb
 replace K9 := K9.on hb
 replace Z10 := Z10.on hb
 replace G := G.kp (Kept.of hb)
 replace BW := BW.trans (hb.mono BW.size)
 clear hb
 clear hHeld
 refine hK.out _ _ (by exact K5.cs) (fun hHeld => ?_)
 clear hK
 (try simp only [p0, p1, p2, p3])
 refine pR1 5 (fun K hK => ?_)
 go_simp
 (go_at_call 45; with_reducible refine (q_from G.fB).mono ?_)
 rintro _ w15 ⟨f2, rfl, L2, hb⟩
 (try go_wp2_with fail)
 replace K5 := K5.on hb
 replace K9 := K9.on hb
 replace Z10 := Z10.on hb
 replace G := G.kp (Kept.of hb)
 replace L1 := L1.kp (Kept.of hb)
 replace BW := BW.trans (hb.mono BW.size)
 clear hb
 clear hHeld
 refine hK.out _ _ (by exact K5.cs) (fun hHeld => ?_)
 clear hK
 (try simp only [p0, p1, p2, p3])
 refine pR1 8 (fun K hK => ?_)
 go_simp
 (go_at_call 45; with_reducible refine (q_from G.fC).mono ?_)
 rintro _ w16 ⟨f3, rfl, L3, hb⟩
 (try go_wp2_with fail)
 replace K5 := K5.on hb
 replace K9 := K9.on hb
 replace Z10 := Z10.on hb
 replace G := G.kp (Kept.of hb)
 replace L1 := L1.kp (Kept.of hb)
 replace L2 := L2.kp (Kept.of hb)
 replace BW := BW.trans (hb.mono BW.size)
 clear hb
 clear hHeld
 refine hK.out _ _ (by exact K5.cs) (fun hHeld => ?_)
 clear hK
 (try simp only [p0, p1, p2, p3])
 refine pR1 11 (fun K hK => ?_)
 go_simp
 (go_at_call 45; with_reducible refine (q_from G.fD).mono ?_)
 rintro _ w17 ⟨f4, rfl, L4, hb⟩
 (try go_wp2_with fail)
 replace K5 := K5.on hb
 replace K9 := K9.on hb
 replace Z10 := Z10.on hb
 replace L1 := L1.kp (Kept.of hb)
 replace L2 := L2.kp (Kept.of hb)
 replace L3 := L3.kp (Kept.of hb)
 replace BW := BW.trans (hb.mono BW.size)
 clear hb
 clear hHeld
 refine hK.out _ _ (by exact K5.cs) (fun hHeld => ?_)
 clear hK
 (try simp only [p0, p1, p2, p3])
 refine pT 12 ?_
 (try simp only [p0, p1, p2, p3])
 refine pR1 13 (fun K hK => ?_)
 refine ite_yes (by rfl) (wp_stL rfl rfl rfl K9 Z10 rfl rfl rfl ?_)
 obtain ⟨V18, hk20⟩ : ∃ V18, V18 = w17.setCells (w.heap.size + 1) 0 [.bool f1.n, .slice f1.A f1.xs.length f1.c, .bool f1.m, .slice f1.B f1.ds.length f1.d, .bool f2.n, .slice f2.A f2.xs.length f2.c, .bool f2.m, .slice f2.B f2.ds.length f2.d, .bool f3.n, .slice f3.A f3.xs.length f3.c, .bool f3.m, .slice f3.B f3.ds.length f3.d, .bool f4.n, .slice f4.A f4.xs.length f4.c, .bool f4.m, .slice f4.B f4.ds.length f4.d] := ⟨_, rfl⟩
 have e19 := hk20
 have hk21 := Kept.overE hk20 K9 rfl (Nat.le_of_ble_eq_true rfl)
 replace K5 := K5.awayE hk20 n11
 replace K9 := K9.overE hk20 rfl
 replace L1 := L1.kp hk21
 replace L2 := L2.kp hk21
 replace L3 := L3.kp hk21
 replace L4 := L4.kp hk21
 replace BW := Below.putE BW hk20 g12
 clear hk20 hk21
 rw [← e19]
 clear e19
 clear hHeld
 refine hK.out _ _ (by exact K5.cs) (fun hHeld => ?_)
 clear hK
 (try simp only [p0])
 refine wpAnyH_done (by kernel_rfl) (NoPanic.normal ?_) _
 go_wp2
 exact bodyPost_ret (v := .agg #[.bool f1.n, .slice f1.A f1.xs.length f1.c, .bool f1.m, .slice f1.B f1.ds.length f1.d, .bool f2.n, .slice f2.A f2.xs.length f2.c, .bool f2.m, .slice f2.B f2.ds.length f2.d, .bool f3.n, .slice f3.A f3.xs.length f3.c, .bool f3.m, .slice f3.B f3.ds.length f3.d, .bool f4.n, .slice f4.A f4.xs.length f4.c, .bool f4.m, .slice f4.B f4.ds.length f4.d]) (res_L Tryz.results72 (by rfl) K9 rfl) rfl ⟨⟨f1, f2, f3, f4⟩, rfl, ⟨L1, L2, L3, L4⟩, BW⟩
set_option maxHeartbeats 8000000 in
set_option maxRecDepth 20000 in
theorem b_thr0 {q : Mq} {m : Mv} {r : Yq} {y : Yv} {C : Nat} {w : World} (G : Gm w q m C) (H : Gy w r y C) (hC0 : 2 * C + 2 ≤ 1759218604390) :
    Calls Tryz.prog 62 #[mv m, yv y] w (GYx w (q.thr r) (2 * (2 * C + 2) + 4)) := by
 have hC : C ≤ 1759218604390 := by omega
 have hC2 : 2 * C + 2 ≤ 1759218604390 := by omega
 have BW : Below w.heap.size w w := Below.refl _ _
 obtain ⟨V2, e3, hb4, K5, -, z1⟩ := alloc_new w [.bool m.A.n, .slice m.A.A m.A.xs.length m.A.c, .bool m.A.m, .slice m.A.B m.A.ds.length m.A.d, .bool m.B.n, .slice m.B.A m.B.xs.length m.B.c, .bool m.B.m, .slice m.B.B m.B.ds.length m.B.d, .bool m.C.n, .slice m.C.A m.C.xs.length m.C.c, .bool m.C.m, .slice m.C.B m.C.ds.length m.C.d, .bool m.D.n, .slice m.D.A m.D.xs.length m.D.c, .bool m.D.m, .slice m.D.B m.D.ds.length m.D.d] 76
 replace K5 : Box V2 (w.heap.size) (mcs m) := K5
 replace G := G.kp (Kept.of hb4)
 replace H := H.kp (Kept.of hb4)
 replace BW := BW.trans (hb4.mono BW.size)
 clear hb4
 obtain ⟨V7, e8, hb9, K10, -, z6⟩ := alloc_new V2 [.bool y.Y.n, .slice y.Y.A y.Y.xs.length y.Y.c, .bool y.Y.m, .slice y.Y.B y.Y.ds.length y.Y.d, .bool y.U.n, .slice y.U.A y.U.xs.length y.U.c, .bool y.U.m, .slice y.U.B y.U.ds.length y.U.d] 105
 rw [z1] at K10 z6
 replace K10 : Box V7 (w.heap.size + 1) (ycs y) := K10
 replace K5 := K5.on hb9
 replace G := G.kp (Kept.of hb9)
 replace H := H.kp (Kept.of hb9)
 replace BW := BW.trans (hb9.mono BW.size)
 clear hb9
 obtain ⟨V11, e12, hb13, K14, Z15, -⟩ := alloc_new V7 [.bool false, .slice none 0 0, .bool false, .slice none 0 0, .bool false, .slice none 0 0, .bool false, .slice none 0 0] 105
 rw [z6] at K14 Z15
 replace K14 : Box V11 (w.heap.size + 1 + 1) (zcs8) := K14
 have n16 : w.heap.size ≠ w.heap.size + 1 + 1 := Nat.ne_of_lt (z6 ▸ K5.lt)
 have n17 : w.heap.size + 1 ≠ w.heap.size + 1 + 1 := Nat.ne_of_lt (z6 ▸ K10.lt)
 have g18 : w.heap.size ≤ w.heap.size + 1 + 1 := z6 ▸ BW.size
 replace K5 := K5.on hb13
 replace K10 := K10.on hb13
 replace G := G.kp (Kept.of hb13)
 replace H := H.kp (Kept.of hb13)
 replace BW := BW.trans (hb13.mono BW.size)
 clear hb13
 clear z1 z6
 go_enter Tryz.func62, Tryz.ntmps62
 go_wp2_with fail
 rw [← e3, ← e8, ← e12]
 clear e3 e8 e12
 refine wp_region_noPanic ?_
 have hb : Below V11.heap.size V11 V11.drew := (Below.refl _ _).drew
 replace K5 := K5.on hb
 replace K10 := K10.on hb
 replace K14 := K14.on hb
 replace Z15 := Z15.on hb
 replace G := G.kp (Kept.of hb)
 replace H := H.kp (Kept.of hb)
 replace BW := BW.trans (hb.mono BW.size)
 clear hb
 refine wp_region_held_drew (S := (fun wx => Cs wx (w.heap.size) 0 [.bool m.A.n, .slice m.A.A m.A.xs.length m.A.c, .bool m.A.m, .slice m.A.B m.A.ds.length m.A.d, .bool m.B.n, .slice m.B.A m.B.xs.length m.B.c, .bool m.B.m, .slice m.B.B m.B.ds.length m.B.d, .bool m.C.n, .slice m.C.A m.C.xs.length m.C.c, .bool m.C.m, .slice m.C.B m.C.ds.length m.C.d, .bool m.D.n, .slice m.D.A m.D.xs.length m.D.c, .bool m.D.m, .slice m.D.B m.D.ds.length m.D.d] ∧ Cs wx (w.heap.size + 1) 0 [.bool y.Y.n, .slice y.Y.A y.Y.xs.length y.Y.c, .bool y.Y.m, .slice y.Y.B y.Y.ds.length y.Y.d, .bool y.U.n, .slice y.U.A y.U.xs.length y.U.c, .bool y.U.m, .slice y.U.B y.U.ds.length y.U.d])) (by kernel_rfl) (by exact ⟨K5.cs, K10.cs⟩) (fun hHeld => ?_)
 generalize V11.drew = Vd19 at *
 refine pT 0 ?_
 (try simp only [p0, p1, p2, p3])
 refine pT 1 ?_
 (try simp only [p0, p1, p2, p3])
 refine pT 2 ?_
 (try simp only [p0, p1, p2, p3])
 refine pT 3 ?_
 (try simp only [p0, p1, p2, p3])
 refine pT 5 ?_
 (try simp only [p0, p1, p2, p3])
 refine pT 6 ?_
 (try simp only [p0, p1, p2, p3])
 refine pT 7 ?_
 (try simp only [p0, p1, p2, p3])
 refine pT 8 ?_
 (try simp only [p0, p1, p2, p3])
 refine pT 11 ?_
 (try simp only [p0, p1, p2, p3])
 refine pT 12 ?_
 (try simp only [p0, p1, p2, p3])
 refine pT 13 ?_
 (try simp only [p0, p1, p2, p3])
 refine pT 14 ?_
 (try simp only [p0, p1, p2, p3])
 refine pT 16 ?_
 (try simp only [p0, p1, p2, p3])
 refine pT 17 ?_
 (try simp only [p0, p1, p2, p3])
 refine pT 18 ?_
 (try simp only [p0, p1, p2, p3])
 refine pT 19 ?_
 (try simp only [p0, p1, p2, p3])
 refine pR1 4 (fun K hK => ?_)
 go_simp
 (go_at_call 85; with_reducible refine (q_mul G.gA H.gY hC).mono ?_)
 rintro _ w20 ⟨f1, rfl, L1, hb⟩
 (try go_wp2_with fail)
 replace K5 := K5.on hb
 replace K10 := K10.on hb
 replace K14 := K14.on hb
 replace Z15 := Z15.on hb
 replace G := G.kp (Kept.of hb)
 replace H := H.kp (Kept.of hb)
 replace BW := BW.trans (hb.mono BW.size)
 clear hb
 clear hHeld
 refine hK.out _ _ (by exact ⟨K5.cs, K10.cs⟩) (fun hHeld => ?_)
 clear hK
 (try simp only [p0, p1, p2, p3])
 refine pR1 9 (fun K hK => ?_)
 go_simp
 (go_at_call 85; with_reducible refine (q_mul G.gB H.gU hC).mono ?_)
 rintro _ w21 ⟨f2, rfl, L2, hb⟩
 (try go_wp2_with fail)
 replace K5 := K5.on hb
 replace K10 := K10.on hb
 replace K14 := K14.on hb
 replace Z15 := Z15.on hb
 replace G := G.kp (Kept.of hb)
 replace H := H.kp (Kept.of hb)
 replace L1 := L1.kp (Kept.of hb)
 replace BW := BW.trans (hb.mono BW.size)
 clear hb
 clear hHeld
 refine hK.out _ _ (by exact ⟨K5.cs, K10.cs⟩) (fun hHeld => ?_)
 clear hK
 (try simp only [p0, p1, p2, p3])
 refine pR1 10 (fun K hK => ?_)
 go_simp
 (go_at_call 66; with_reducible refine (q_add L1 L2 hC2).mono ?_)
 rintro _ w22 ⟨f3, rfl, L3, hb⟩
 (try go_wp2_with fail)
 replace K5 := K5.on hb
 replace K10 := K10.on hb
 replace K14 := K14.on hb
 replace Z15 := Z15.on hb
 replace G := G.kp (Kept.of hb)
 replace H := H.kp (Kept.of hb)
 replace BW := BW.trans (hb.mono BW.size)
 clear hb
 clear hHeld
 refine hK.out _ _ (by exact ⟨K5.cs, K10.cs⟩) (fun hHeld => ?_)
 clear hK
 (try simp only [p0, p1, p2, p3])
 refine pR1 15 (fun K hK => ?_)
 go_simp
 (go_at_call 85; with_reducible refine (q_mul G.gC H.gY hC).mono ?_)
 rintro _ w23 ⟨f4, rfl, L4, hb⟩
 (try go_wp2_with fail)
 replace K5 := K5.on hb
 replace K10 := K10.on hb
 replace K14 := K14.on hb
 replace Z15 := Z15.on hb
 replace G := G.kp (Kept.of hb)
 replace H := H.kp (Kept.of hb)
 replace L3 := L3.kp (Kept.of hb)
 replace BW := BW.trans (hb.mono BW.size)
 clear hb
 clear hHeld
 refine hK.out _ _ (by exact ⟨K5.cs, K10.cs⟩) (fun hHeld => ?_)
 clear hK
 (try simp only [p0, p1, p2, p3])
 refine pR1 20 (fun K hK => ?_)
 go_simp
 (go_at_call 85; with_reducible refine (q_mul G.gD H.gU hC).mono ?_)
 rintro _ w24 ⟨f5, rfl, L5, hb⟩
 (try go_wp2_with fail)
 replace K5 := K5.on hb
 replace K10 := K10.on hb
 replace K14 := K14.on hb
 replace Z15 := Z15.on hb
 replace L3 := L3.kp (Kept.of hb)
 replace L4 := L4.kp (Kept.of hb)
 replace BW := BW.trans (hb.mono BW.size)
 clear hb
 clear hHeld
 refine hK.out _ _ (by exact ⟨K5.cs, K10.cs⟩) (fun hHeld => ?_)
 clear hK
 (try simp only [p0, p1, p2, p3])
 refine pR1 21 (fun K hK => ?_)
 go_simp
 (go_at_call 66; with_reducible refine (q_add L4 L5 hC2).mono ?_)
 rintro _ w25 ⟨f6, rfl, L6, hb⟩
 (try go_wp2_with fail)
 replace K5 := K5.on hb
 replace K10 := K10.on hb
 replace K14 := K14.on hb
 replace Z15 := Z15.on hb
 replace L3 := L3.kp (Kept.of hb)
 replace BW := BW.trans (hb.mono BW.size)
 clear hb
 clear hHeld
 refine hK.out _ _ (by exact ⟨K5.cs, K10.cs⟩) (fun hHeld => ?_)
 clear hK
 (try simp only [p0, p1, p2, p3])
 refine pT 22 ?_
 (try simp only [p0, p1, p2, p3])
 refine pR1 23 (fun K hK => ?_)
 obtain ⟨c26, c27, c28, c29, c30, c31, c32, c33⟩ := K14.c8
 obtain ⟨c34, c35, c36, c37, c38, c39, c40, c41⟩ := Z15.f8
 go_simp
 clear c26 c27 c28 c29 c30 c31 c32 c33 c34 c35 c36 c37 c38 c39 c40 c41
 obtain ⟨V42, hk44⟩ : ∃ V42, V42 = w25.setCells (w.heap.size + 1 + 1) 0 [.bool f3.n, .slice f3.A f3.xs.length f3.c, .bool f3.m, .slice f3.B f3.ds.length f3.d, .bool f6.n, .slice f6.A f6.xs.length f6.c, .bool f6.m, .slice f6.B f6.ds.length f6.d] := ⟨_, rfl⟩
 have e43 := hk44
 simp only [World.setCells, Nat.zero_add, Nat.reduceAdd] at e43
 have hk45 := Kept.overE hk44 K14 rfl (Nat.le_of_ble_eq_true rfl)
 replace K5 := K5.awayE hk44 n16
 replace K10 := K10.awayE hk44 n17
 replace K14 := K14.overE hk44 rfl
 replace L3 := L3.kp hk45
 replace L6 := L6.kp hk45
 replace BW := Below.putE BW hk44 g18
 clear hk44 hk45
 rw [← e43]
 clear e43
 clear hHeld
 refine hK.out _ _ (by exact ⟨K5.cs, K10.cs⟩) (fun hHeld => ?_)
 clear hK
 (try simp only [p0, p1, p2, p3])
 refine wpAnyH_done (by kernel_rfl) (NoPanic.normal ?_) _
 go_wp2
 obtain ⟨c46, c47, c48, c49, c50, c51, c52, c53⟩ := K14.c8
 exact bodyPost_ret (v := .agg #[.bool f3.n, .slice f3.A f3.xs.length f3.c, .bool f3.m, .slice f3.B f3.ds.length f3.d, .bool f6.n, .slice f6.A f6.xs.length f6.c, .bool f6.m, .slice f6.B f6.ds.length f6.d]) (by simp [results, Tryz.results62, go_sem, c46, c47, c48, c49, c50, c51, c52, c53]) rfl ⟨⟨f3, f6⟩, rfl, ⟨L3, L6⟩, BW⟩
theorem b_thr {q : Mq} {m : Mv} {r : Yq} {y : Yv} {C : Nat} {w : World} (G : Gm w q m C) (H : Gy w r y C) (hC0 : 2 * C + 2 ≤ 1759218604390) : Calls Tryz.prog 62 #[mv m, yv y] w (GYx w (q.thr r) (4 * C + 8)) := by
 refine (b_thr0 G H hC0).mono ?_
 rintro _ w1 ⟨f, rfl, h, hb⟩
 exact ⟨f, rfl, h.mono (by omega), hb⟩
set_option maxHeartbeats 8000000 in
set_option maxRecDepth 20000 in
theorem b_clo1 {p q : Rat} {a b : Fv} {C : Nat} {w : World} (La : Fq w p a C) (_Lb : Fq w q b C) (hC : 2 * C + 2 ≤ 1759218604390) :
    Calls Tryz.prog 96 #[fv a, fv b] w (GMx w (Mq.space p) (2 * C + 2)) := by
 have BW : Below w.heap.size w w := Below.refl _ _
 obtain ⟨V2, e3, hb4, K5, -, z1⟩ := alloc_new w [.bool a.n, .slice a.A a.xs.length a.c, .bool a.m, .slice a.B a.ds.length a.d] 74
 replace La := La.kp (Kept.of hb4)
 replace BW := BW.trans (hb4.mono BW.size)
 clear hb4
 obtain ⟨V7, e8, hb9, K10, -, z6⟩ := alloc_new V2 [.bool b.n, .slice b.A b.xs.length b.c, .bool b.m, .slice b.B b.ds.length b.d] 74
 rw [z1] at K10 z6
 replace K5 := K5.on hb9
 replace La := La.kp (Kept.of hb9)
 replace BW := BW.trans (hb9.mono BW.size)
 clear hb9
 obtain ⟨V11, e12, hb13, K14, Z15, -⟩ := alloc_new V7 [.bool false, .slice none 0 0, .bool false, .slice none 0 0, .bool false, .slice none 0 0, .bool false, .slice none 0 0, .bool false, .slice none 0 0, .bool false, .slice none 0 0, .bool false, .slice none 0 0, .bool false, .slice none 0 0] 76
 rw [z6] at K14 Z15
 replace K14 : Box V11 (w.heap.size + 1 + 1) (zcs16) := K14
 have n16 : w.heap.size ≠ w.heap.size + 1 + 1 := Nat.ne_of_lt (z6 ▸ K5.lt)
 have n17 : w.heap.size + 1 ≠ w.heap.size + 1 + 1 := Nat.ne_of_lt (z6 ▸ K10.lt)
 have g18 : w.heap.size ≤ w.heap.size + 1 + 1 := z6 ▸ BW.size
 replace La := La.kp (Kept.of hb13)
 replace BW := BW.trans (hb13.mono BW.size)
 clear hb13
 clear z1 z6
 go_enter Tryz.func96, Tryz.ntmps96
 go_wp2_with fail
 rw [← e3, ← e8, ← e12]
 clear e3 e8 e12
 refine (b_space (La.mono (show C ≤ 2 * C + 2 by omega)) (by omega)).mono ?_
 rintro _ w19 ⟨f, rfl, L, hb⟩
 replace K14 := K14.on hb
 replace Z15 := Z15.on hb
 replace BW := BW.trans (hb.mono BW.size)
 clear hb
 obtain ⟨c20, c21, c22, c23, c24, c25, c26, c27, c28, c29, c30, c31, c32, c33, c34, c35⟩ := K14.c16
 obtain ⟨c36, c37, c38, c39, c40, c41, c42, c43, c44, c45, c46, c47, c48, c49, c50, c51⟩ := Z15.f16
 obtain ⟨V52, hk54⟩ : ∃ V52, V52 = w19.setCells (w.heap.size + 1 + 1) 0 [.bool f.A.n, .slice f.A.A f.A.xs.length f.A.c, .bool f.A.m, .slice f.A.B f.A.ds.length f.A.d, .bool f.B.n, .slice f.B.A f.B.xs.length f.B.c, .bool f.B.m, .slice f.B.B f.B.ds.length f.B.d, .bool f.C.n, .slice f.C.A f.C.xs.length f.C.c, .bool f.C.m, .slice f.C.B f.C.ds.length f.C.d, .bool f.D.n, .slice f.D.A f.D.xs.length f.D.c, .bool f.D.m, .slice f.D.B f.D.ds.length f.D.d] := ⟨_, rfl⟩
 have e53 := hk54
 simp only [World.setCells, Nat.zero_add, Nat.reduceAdd] at e53
 have hk55 := Kept.overE hk54 K14 rfl (Nat.le_of_ble_eq_true rfl)
 replace K14 := K14.overE hk54 rfl
 replace L := L.kp hk55
 replace BW := Below.putE BW hk54 g18
 clear hk54 hk55
 replace K14 : Box V52 (w.heap.size + 1 + 1) (mcs f) := K14
 go_wp2_with fail
 clear c20 c21 c22 c23 c24 c25 c26 c27 c28 c29 c30 c31 c32 c33 c34 c35 c36 c37 c38 c39 c40 c41 c42 c43 c44 c45 c46 c47 c48 c49 c50 c51
 rw [← e53]
 clear e53
 exact bodyPost_ret (v := mv f) (res_L Tryz.results96 (by rfl) K14 rfl) rfl ⟨f, rfl, L, BW⟩
set_option maxHeartbeats 8000000 in
set_option maxRecDepth 20000 in
theorem b_clo2 {p q : Rat} {a b : Fv} {C : Nat} {w : World} (La : Fq w p a C) (_Lb : Fq w q b C) (hC : 2 * C + 2 ≤ 1759218604390) :
    Calls Tryz.prog 98 #[fv a, fv b] w (GMx w (Mq.lens p) (2 * C + 2)) := by
 have BW : Below w.heap.size w w := Below.refl _ _
 obtain ⟨V2, e3, hb4, K5, -, z1⟩ := alloc_new w [.bool a.n, .slice a.A a.xs.length a.c, .bool a.m, .slice a.B a.ds.length a.d] 74
 replace La := La.kp (Kept.of hb4)
 replace BW := BW.trans (hb4.mono BW.size)
 clear hb4
 obtain ⟨V7, e8, hb9, K10, -, z6⟩ := alloc_new V2 [.bool b.n, .slice b.A b.xs.length b.c, .bool b.m, .slice b.B b.ds.length b.d] 74
 rw [z1] at K10 z6
 replace K5 := K5.on hb9
 replace La := La.kp (Kept.of hb9)
 replace BW := BW.trans (hb9.mono BW.size)
 clear hb9
 obtain ⟨V11, e12, hb13, K14, Z15, -⟩ := alloc_new V7 [.bool false, .slice none 0 0, .bool false, .slice none 0 0, .bool false, .slice none 0 0, .bool false, .slice none 0 0, .bool false, .slice none 0 0, .bool false, .slice none 0 0, .bool false, .slice none 0 0, .bool false, .slice none 0 0] 76
 rw [z6] at K14 Z15
 replace K14 : Box V11 (w.heap.size + 1 + 1) (zcs16) := K14
 have n16 : w.heap.size ≠ w.heap.size + 1 + 1 := Nat.ne_of_lt (z6 ▸ K5.lt)
 have n17 : w.heap.size + 1 ≠ w.heap.size + 1 + 1 := Nat.ne_of_lt (z6 ▸ K10.lt)
 have g18 : w.heap.size ≤ w.heap.size + 1 + 1 := z6 ▸ BW.size
 replace La := La.kp (Kept.of hb13)
 replace BW := BW.trans (hb13.mono BW.size)
 clear hb13
 clear z1 z6
 go_enter Tryz.func98, Tryz.ntmps98
 go_wp2_with fail
 rw [← e3, ← e8, ← e12]
 clear e3 e8 e12
 refine (b_lens (La.mono (show C ≤ 2 * C + 2 by omega)) (by omega) hC).mono ?_
 rintro _ w19 ⟨f, rfl, L, hb⟩
 replace K14 := K14.on hb
 replace Z15 := Z15.on hb
 replace BW := BW.trans (hb.mono BW.size)
 clear hb
 obtain ⟨c20, c21, c22, c23, c24, c25, c26, c27, c28, c29, c30, c31, c32, c33, c34, c35⟩ := K14.c16
 obtain ⟨c36, c37, c38, c39, c40, c41, c42, c43, c44, c45, c46, c47, c48, c49, c50, c51⟩ := Z15.f16
 obtain ⟨V52, hk54⟩ : ∃ V52, V52 = w19.setCells (w.heap.size + 1 + 1) 0 [.bool f.A.n, .slice f.A.A f.A.xs.length f.A.c, .bool f.A.m, .slice f.A.B f.A.ds.length f.A.d, .bool f.B.n, .slice f.B.A f.B.xs.length f.B.c, .bool f.B.m, .slice f.B.B f.B.ds.length f.B.d, .bool f.C.n, .slice f.C.A f.C.xs.length f.C.c, .bool f.C.m, .slice f.C.B f.C.ds.length f.C.d, .bool f.D.n, .slice f.D.A f.D.xs.length f.D.c, .bool f.D.m, .slice f.D.B f.D.ds.length f.D.d] := ⟨_, rfl⟩
 have e53 := hk54
 simp only [World.setCells, Nat.zero_add, Nat.reduceAdd] at e53
 have hk55 := Kept.overE hk54 K14 rfl (Nat.le_of_ble_eq_true rfl)
 replace K14 := K14.overE hk54 rfl
 replace L := L.kp hk55
 replace BW := Below.putE BW hk54 g18
 clear hk54 hk55
 replace K14 : Box V52 (w.heap.size + 1 + 1) (mcs f) := K14
 go_wp2_with fail
 clear c20 c21 c22 c23 c24 c25 c26 c27 c28 c29 c30 c31 c32 c33 c34 c35 c36 c37 c38 c39 c40 c41 c42 c43 c44 c45 c46 c47 c48 c49 c50 c51
 rw [← e53]
 clear e53
 exact bodyPost_ret (v := mv f) (res_L Tryz.results98 (by rfl) K14 rfl) rfl ⟨f, rfl, L, BW⟩
set_option maxHeartbeats 8000000 in
set_option maxRecDepth 20000 in
theorem b_clo3 {p q : Rat} {a b : Fv} {C : Nat} {w : World} (La : Fq w p a C) (Lb : Fq w q b C) (hq : q.num ≠ 0) (hC : 2 * C + 2 ≤ 1759218604390) :
    Calls Tryz.prog 100 #[fv a, fv b] w (GMx w (Mq.space (p / q)) (2 * C + 2)) := by
 have BW : Below w.heap.size w w := Below.refl _ _
 obtain ⟨V2, e3, hb4, K5, -, z1⟩ := alloc_new w [.bool a.n, .slice a.A a.xs.length a.c, .bool a.m, .slice a.B a.ds.length a.d] 74
 replace La := La.kp (Kept.of hb4)
 replace Lb := Lb.kp (Kept.of hb4)
 replace BW := BW.trans (hb4.mono BW.size)
 clear hb4
 obtain ⟨V7, e8, hb9, K10, -, z6⟩ := alloc_new V2 [.bool b.n, .slice b.A b.xs.length b.c, .bool b.m, .slice b.B b.ds.length b.d] 74
 rw [z1] at K10 z6
 replace K5 := K5.on hb9
 replace La := La.kp (Kept.of hb9)
 replace Lb := Lb.kp (Kept.of hb9)
 replace BW := BW.trans (hb9.mono BW.size)
 clear hb9
 obtain ⟨V11, e12, hb13, K14, Z15, -⟩ := alloc_new V7 [.bool false, .slice none 0 0, .bool false, .slice none 0 0, .bool false, .slice none 0 0, .bool false, .slice none 0 0, .bool false, .slice none 0 0, .bool false, .slice none 0 0, .bool false, .slice none 0 0, .bool false, .slice none 0 0] 76
 rw [z6] at K14 Z15
 replace K14 : Box V11 (w.heap.size + 1 + 1) (zcs16) := K14
 have n16 : w.heap.size ≠ w.heap.size + 1 + 1 := Nat.ne_of_lt (z6 ▸ K5.lt)
 have n17 : w.heap.size + 1 ≠ w.heap.size + 1 + 1 := Nat.ne_of_lt (z6 ▸ K10.lt)
 have g18 : w.heap.size ≤ w.heap.size + 1 + 1 := z6 ▸ BW.size
 replace La := La.kp (Kept.of hb13)
 replace Lb := Lb.kp (Kept.of hb13)
 replace BW := BW.trans (hb13.mono BW.size)
 clear hb13
 clear z1 z6
 go_enter Tryz.func100, Tryz.ntmps100
 go_wp2_with fail
 rw [← e3, ← e8, ← e12]
 clear e3 e8 e12
 refine (q_quo La Lb hq (by omega)).mono ?_
 rintro _ w19 ⟨f1, rfl, L1, hb⟩
 replace K14 := K14.on hb
 replace Z15 := Z15.on hb
 replace BW := BW.trans (hb.mono BW.size)
 clear hb
 go_wp2_with fail
 refine (b_space L1 (by omega)).mono ?_
 rintro _ w20 ⟨f, rfl, L, hb⟩
 replace K14 := K14.on hb
 replace Z15 := Z15.on hb
 replace BW := BW.trans (hb.mono BW.size)
 clear hb
 obtain ⟨c21, c22, c23, c24, c25, c26, c27, c28, c29, c30, c31, c32, c33, c34, c35, c36⟩ := K14.c16
 obtain ⟨c37, c38, c39, c40, c41, c42, c43, c44, c45, c46, c47, c48, c49, c50, c51, c52⟩ := Z15.f16
 obtain ⟨V53, hk55⟩ : ∃ V53, V53 = w20.setCells (w.heap.size + 1 + 1) 0 [.bool f.A.n, .slice f.A.A f.A.xs.length f.A.c, .bool f.A.m, .slice f.A.B f.A.ds.length f.A.d, .bool f.B.n, .slice f.B.A f.B.xs.length f.B.c, .bool f.B.m, .slice f.B.B f.B.ds.length f.B.d, .bool f.C.n, .slice f.C.A f.C.xs.length f.C.c, .bool f.C.m, .slice f.C.B f.C.ds.length f.C.d, .bool f.D.n, .slice f.D.A f.D.xs.length f.D.c, .bool f.D.m, .slice f.D.B f.D.ds.length f.D.d] := ⟨_, rfl⟩
 have e54 := hk55
 simp only [World.setCells, Nat.zero_add, Nat.reduceAdd] at e54
 have hk56 := Kept.overE hk55 K14 rfl (Nat.le_of_ble_eq_true rfl)
 replace K14 := K14.overE hk55 rfl
 replace L := L.kp hk56
 replace BW := Below.putE BW hk55 g18
 clear hk55 hk56
 replace K14 : Box V53 (w.heap.size + 1 + 1) (mcs f) := K14
 go_wp2_with fail
 clear c21 c22 c23 c24 c25 c26 c27 c28 c29 c30 c31 c32 c33 c34 c35 c36 c37 c38 c39 c40 c41 c42 c43 c44 c45 c46 c47 c48 c49 c50 c51 c52
 rw [← e54]
 clear e54
 exact bodyPost_ret (v := mv f) (res_L Tryz.results100 (by rfl) K14 rfl) rfl ⟨f, rfl, L, BW⟩
set_option maxHeartbeats 8000000 in
set_option maxRecDepth 20000 in
theorem b_clo4 {p q : Rat} {a b : Fv} {C : Nat} {w : World} (La : Fq w p a C) (Lb : Fq w q b C) (hC : 2 * C + 2 ≤ 1759218604390) :
    Calls Tryz.prog 102 #[fv a, fv b] w (GMx w (Mq.lens (p * q)) (2 * C + 2)) := by
 have BW : Below w.heap.size w w := Below.refl _ _
 obtain ⟨V2, e3, hb4, K5, -, z1⟩ := alloc_new w [.bool a.n, .slice a.A a.xs.length a.c, .bool a.m, .slice a.B a.ds.length a.d] 74
 replace La := La.kp (Kept.of hb4)
 replace Lb := Lb.kp (Kept.of hb4)
 replace BW := BW.trans (hb4.mono BW.size)
 clear hb4
 obtain ⟨V7, e8, hb9, K10, -, z6⟩ := alloc_new V2 [.bool b.n, .slice b.A b.xs.length b.c, .bool b.m, .slice b.B b.ds.length b.d] 74
 rw [z1] at K10 z6
 replace K5 := K5.on hb9
 replace La := La.kp (Kept.of hb9)
 replace Lb := Lb.kp (Kept.of hb9)
 replace BW := BW.trans (hb9.mono BW.size)
 clear hb9
 obtain ⟨V11, e12, hb13, K14, Z15, -⟩ := alloc_new V7 [.bool false, .slice none 0 0, .bool false, .slice none 0 0, .bool false, .slice none 0 0, .bool false, .slice none 0 0, .bool false, .slice none 0 0, .bool false, .slice none 0 0, .bool false, .slice none 0 0, .bool false, .slice none 0 0] 76
 rw [z6] at K14 Z15
 replace K14 : Box V11 (w.heap.size + 1 + 1) (zcs16) := K14
 have n16 : w.heap.size ≠ w.heap.size + 1 + 1 := Nat.ne_of_lt (z6 ▸ K5.lt)
 have n17 : w.heap.size + 1 ≠ w.heap.size + 1 + 1 := Nat.ne_of_lt (z6 ▸ K10.lt)
 have g18 : w.heap.size ≤ w.heap.size + 1 + 1 := z6 ▸ BW.size
 replace La := La.kp (Kept.of hb13)
 replace Lb := Lb.kp (Kept.of hb13)
 replace BW := BW.trans (hb13.mono BW.size)
 clear hb13
 clear z1 z6
 go_enter Tryz.func102, Tryz.ntmps102
 go_wp2_with fail
 rw [← e3, ← e8, ← e12]
 clear e3 e8 e12
 refine (q_mul La Lb (by omega)).mono ?_
 rintro _ w19 ⟨f1, rfl, L1, hb⟩
 replace K14 := K14.on hb
 replace Z15 := Z15.on hb
 replace BW := BW.trans (hb.mono BW.size)
 clear hb
 go_wp2_with fail
 refine (b_lens L1 (by omega) hC).mono ?_
 rintro _ w20 ⟨f, rfl, L, hb⟩
 replace K14 := K14.on hb
 replace Z15 := Z15.on hb
 replace BW := BW.trans (hb.mono BW.size)
 clear hb
 obtain ⟨c21, c22, c23, c24, c25, c26, c27, c28, c29, c30, c31, c32, c33, c34, c35, c36⟩ := K14.c16
 obtain ⟨c37, c38, c39, c40, c41, c42, c43, c44, c45, c46, c47, c48, c49, c50, c51, c52⟩ := Z15.f16
 obtain ⟨V53, hk55⟩ : ∃ V53, V53 = w20.setCells (w.heap.size + 1 + 1) 0 [.bool f.A.n, .slice f.A.A f.A.xs.length f.A.c, .bool f.A.m, .slice f.A.B f.A.ds.length f.A.d, .bool f.B.n, .slice f.B.A f.B.xs.length f.B.c, .bool f.B.m, .slice f.B.B f.B.ds.length f.B.d, .bool f.C.n, .slice f.C.A f.C.xs.length f.C.c, .bool f.C.m, .slice f.C.B f.C.ds.length f.C.d, .bool f.D.n, .slice f.D.A f.D.xs.length f.D.c, .bool f.D.m, .slice f.D.B f.D.ds.length f.D.d] := ⟨_, rfl⟩
 have e54 := hk55
 simp only [World.setCells, Nat.zero_add, Nat.reduceAdd] at e54
 have hk56 := Kept.overE hk55 K14 rfl (Nat.le_of_ble_eq_true rfl)
 replace K14 := K14.overE hk55 rfl
 replace L := L.kp hk56
 replace BW := Below.putE BW hk55 g18
 clear hk55 hk56
 replace K14 : Box V53 (w.heap.size + 1 + 1) (mcs f) := K14
 go_wp2_with fail
 clear c21 c22 c23 c24 c25 c26 c27 c28 c29 c30 c31 c32 c33 c34 c35 c36 c37 c38 c39 c40 c41 c42 c43 c44 c45 c46 c47 c48 c49 c50 c51 c52
 rw [← e54]
 clear e54
 exact bodyPost_ret (v := mv f) (res_L Tryz.results102 (by rfl) K14 rfl) rfl ⟨f, rfl, L, BW⟩
theorem lens_zero : Mq.lens 0 = Mq.one := Mq.ext4 rfl rfl (by decide +kernel) rfl
set_option maxHeartbeats 8000000 in
set_option maxRecDepth 20000 in
theorem b_one {w : World} :
    Calls Tryz.prog 75 #[] w (GMx w ((Mq.lens 0)) (2)) := by
 have BW : Below w.heap.size w w := Below.refl _ _
 obtain ⟨V1, e2, hb3, K4, Z5, -⟩ := alloc_new w [.bool false, .slice none 0 0, .bool false, .slice none 0 0, .bool false, .slice none 0 0, .bool false, .slice none 0 0, .bool false, .slice none 0 0, .bool false, .slice none 0 0, .bool false, .slice none 0 0, .bool false, .slice none 0 0] 76
 replace K4 : Box V1 (w.heap.size) (zcs16) := K4
 have g6 : w.heap.size ≤ w.heap.size := BW.size
 replace BW := BW.trans (hb3.mono BW.size)
 clear hb3
 go_enter Tryz.func75, Tryz.ntmps75
 go_wp2_with fail
 rw [← e2]
 clear e2
 refine (b_of (n := 0) (by decide) (by decide)).mono ?_
 rintro _ w7 ⟨f1, rfl, L1, hb⟩
 replace K4 := K4.on hb
 replace Z5 := Z5.on hb
 replace BW := BW.trans (hb.mono BW.size)
 clear hb
 go_wp2_with fail
 refine (b_lens L1 (by decide) (by decide)).mono ?_
 rintro _ w8 ⟨f, rfl, L, hb⟩
 replace K4 := K4.on hb
 replace Z5 := Z5.on hb
 replace BW := BW.trans (hb.mono BW.size)
 clear hb
 obtain ⟨c9, c10, c11, c12, c13, c14, c15, c16, c17, c18, c19, c20, c21, c22, c23, c24⟩ := K4.c16
 obtain ⟨c25, c26, c27, c28, c29, c30, c31, c32, c33, c34, c35, c36, c37, c38, c39, c40⟩ := Z5.f16
 obtain ⟨V41, hk43⟩ : ∃ V41, V41 = w8.setCells (w.heap.size) 0 [.bool f.A.n, .slice f.A.A f.A.xs.length f.A.c, .bool f.A.m, .slice f.A.B f.A.ds.length f.A.d, .bool f.B.n, .slice f.B.A f.B.xs.length f.B.c, .bool f.B.m, .slice f.B.B f.B.ds.length f.B.d, .bool f.C.n, .slice f.C.A f.C.xs.length f.C.c, .bool f.C.m, .slice f.C.B f.C.ds.length f.C.d, .bool f.D.n, .slice f.D.A f.D.xs.length f.D.c, .bool f.D.m, .slice f.D.B f.D.ds.length f.D.d] := ⟨_, rfl⟩
 have e42 := hk43
 simp only [World.setCells, Nat.zero_add, Nat.reduceAdd] at e42
 have hk44 := Kept.overE hk43 K4 rfl (Nat.le_of_ble_eq_true rfl)
 replace K4 := K4.overE hk43 rfl
 replace L := L.kp hk44
 replace BW := Below.putE BW hk43 g6
 clear hk43 hk44
 replace K4 : Box V41 (w.heap.size) (mcs f) := K4
 go_wp2_with fail
 clear c9 c10 c11 c12 c13 c14 c15 c16 c17 c18 c19 c20 c21 c22 c23 c24 c25 c26 c27 c28 c29 c30 c31 c32 c33 c34 c35 c36 c37 c38 c39 c40
 rw [← e42]
 clear e42
 exact bodyPost_ret (v := mv f) (res_L Tryz.results75 (by rfl) K4 rfl) rfl ⟨f, rfl, L, BW⟩
set_option maxHeartbeats 8000000 in
set_option maxRecDepth 20000 in
theorem b_clo5 {p q : Rat} {a b : Fv} {C : Nat} {w : World} (_La : Fq w p a C) (_Lb : Fq w q b C) (hC : 2 * C + 2 ≤ 1759218604390) :
    Calls Tryz.prog 103 #[fv a, fv b] w (GMx w ((Mq.lens 0).neg) (2 * C + 2)) := by
 have BW : Below w.heap.size w w := Below.refl _ _
 obtain ⟨V2, e3, hb4, K5, -, z1⟩ := alloc_new w [.bool a.n, .slice a.A a.xs.length a.c, .bool a.m, .slice a.B a.ds.length a.d] 74
 replace BW := BW.trans (hb4.mono BW.size)
 clear hb4
 obtain ⟨V7, e8, hb9, K10, -, z6⟩ := alloc_new V2 [.bool b.n, .slice b.A b.xs.length b.c, .bool b.m, .slice b.B b.ds.length b.d] 74
 rw [z1] at K10 z6
 replace K5 := K5.on hb9
 replace BW := BW.trans (hb9.mono BW.size)
 clear hb9
 obtain ⟨V11, e12, hb13, K14, Z15, -⟩ := alloc_new V7 [.bool false, .slice none 0 0, .bool false, .slice none 0 0, .bool false, .slice none 0 0, .bool false, .slice none 0 0, .bool false, .slice none 0 0, .bool false, .slice none 0 0, .bool false, .slice none 0 0, .bool false, .slice none 0 0] 76
 rw [z6] at K14 Z15
 replace K14 : Box V11 (w.heap.size + 1 + 1) (zcs16) := K14
 have n16 : w.heap.size ≠ w.heap.size + 1 + 1 := Nat.ne_of_lt (z6 ▸ K5.lt)
 have n17 : w.heap.size + 1 ≠ w.heap.size + 1 + 1 := Nat.ne_of_lt (z6 ▸ K10.lt)
 have g18 : w.heap.size ≤ w.heap.size + 1 + 1 := z6 ▸ BW.size
 replace BW := BW.trans (hb13.mono BW.size)
 clear hb13
 clear z1 z6
 go_enter Tryz.func103, Tryz.ntmps103
 go_wp2_with fail
 rw [← e3, ← e8, ← e12]
 clear e3 e8 e12
 refine (b_one).mono ?_
 rintro _ w19 ⟨f2, rfl, L2, hb⟩
 replace K14 := K14.on hb
 replace Z15 := Z15.on hb
 replace BW := BW.trans (hb.mono BW.size)
 clear hb
 go_wp2_with fail
 refine (b_neg (L2.mono (show 2 ≤ 2 * C + 2 by omega)) hC).mono ?_
 rintro _ w20 ⟨f, rfl, L, hb⟩
 replace K14 := K14.on hb
 replace Z15 := Z15.on hb
 replace BW := BW.trans (hb.mono BW.size)
 clear hb
 obtain ⟨c21, c22, c23, c24, c25, c26, c27, c28, c29, c30, c31, c32, c33, c34, c35, c36⟩ := K14.c16
 obtain ⟨c37, c38, c39, c40, c41, c42, c43, c44, c45, c46, c47, c48, c49, c50, c51, c52⟩ := Z15.f16
 obtain ⟨V53, hk55⟩ : ∃ V53, V53 = w20.setCells (w.heap.size + 1 + 1) 0 [.bool f.A.n, .slice f.A.A f.A.xs.length f.A.c, .bool f.A.m, .slice f.A.B f.A.ds.length f.A.d, .bool f.B.n, .slice f.B.A f.B.xs.length f.B.c, .bool f.B.m, .slice f.B.B f.B.ds.length f.B.d, .bool f.C.n, .slice f.C.A f.C.xs.length f.C.c, .bool f.C.m, .slice f.C.B f.C.ds.length f.C.d, .bool f.D.n, .slice f.D.A f.D.xs.length f.D.c, .bool f.D.m, .slice f.D.B f.D.ds.length f.D.d] := ⟨_, rfl⟩
 have e54 := hk55
 simp only [World.setCells, Nat.zero_add, Nat.reduceAdd] at e54
 have hk56 := Kept.overE hk55 K14 rfl (Nat.le_of_ble_eq_true rfl)
 replace K14 := K14.overE hk55 rfl
 replace L := L.kp hk56
 replace BW := Below.putE BW hk55 g18
 clear hk55 hk56
 replace K14 : Box V53 (w.heap.size + 1 + 1) (mcs f) := K14
 go_wp2_with fail
 clear c21 c22 c23 c24 c25 c26 c27 c28 c29 c30 c31 c32 c33 c34 c35 c36 c37 c38 c39 c40 c41 c42 c43 c44 c45 c46 c47 c48 c49 c50 c51 c52
 rw [← e54]
 clear e54
 exact bodyPost_ret (v := mv f) (res_L Tryz.results103 (by rfl) K14 rfl) rfl ⟨f, rfl, L, BW⟩
end Go.Proofs.YtjamfkafgfpobaaGreat
