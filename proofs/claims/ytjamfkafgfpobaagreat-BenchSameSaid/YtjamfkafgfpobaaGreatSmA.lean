/-
  A matrix that is refused is nought. Conditions: as each theorem states.
-/
import Derived.Test.YtjamfkafgfpobaaGreatBm7
import Derived.Deep.RegionHeld3
import Derived.Deep.DeepCutAuto
import Derived.BigRegion
namespace Go.Proofs.YtjamfkafgfpobaaGreat
open Go.RowKit Nb
set_option maxHeartbeats 16000000 in
set_option maxRecDepth 100000 in
theorem b_FitZ {q : Mq} {m : Mv} {C : Nat} {w : World} (G : Gm w q m C) (hC : C ≤ 1759218604390) :
    Calls Tryz.prog 36 #[mv m] w (fun e w' => ∃ (f : Mv) (e1 : Int), e = .returned (.tuple #[mv f, .int .i64 e1]) ∧ MIs w' q f e1 ∧ Hid (e1 = 0 ∨ f = mv0) ∧ Below w.heap.size w w') := by
 have BW : Below w.heap.size w w := Below.refl _ _
 obtain ⟨V2, e3, hb4, K5, Z6, z1⟩ := alloc_new w [.bool m.A.n, .slice m.A.A m.A.xs.length m.A.c, .bool m.A.m, .slice m.A.B m.A.ds.length m.A.d, .bool m.B.n, .slice m.B.A m.B.xs.length m.B.c, .bool m.B.m, .slice m.B.B m.B.ds.length m.B.d, .bool m.C.n, .slice m.C.A m.C.xs.length m.C.c, .bool m.C.m, .slice m.C.B m.C.ds.length m.C.d, .bool m.D.n, .slice m.D.A m.D.xs.length m.D.c, .bool m.D.m, .slice m.D.B m.D.ds.length m.D.d] 76
 replace K5 : Box V2 (w.heap.size) (mcs m) := K5
 have g7 : w.heap.size ≤ w.heap.size := BW.size
 replace G := G.kp (Kept.of hb4)
 replace BW := BW.trans (hb4.mono BW.size)
 clear hb4
 obtain ⟨V9, e10, hb11, K12, Z13, z8⟩ := alloc_new V2 [.bool false, .slice none 0 0, .bool false, .slice none 0 0, .bool false, .slice none 0 0, .bool false, .slice none 0 0, .bool false, .slice none 0 0, .bool false, .slice none 0 0, .bool false, .slice none 0 0, .bool false, .slice none 0 0] 31
 rw [z1] at K12 Z13 z8
 replace K12 : Box V9 (w.heap.size + 1) (zcs16) := K12
 have n14 : w.heap.size ≠ w.heap.size + 1 := Nat.ne_of_lt (z1 ▸ K5.lt)
 have g15 : w.heap.size ≤ w.heap.size + 1 := z1 ▸ BW.size
 replace K5 := K5.on hb11
 replace G := G.kp (Kept.of hb11)
 replace BW := BW.trans (hb11.mono BW.size)
 clear hb11
 obtain ⟨V16, e17, hb18, K19, Z20, -⟩ := alloc_new V9 [.bool m.A.n, .slice m.A.A m.A.xs.length m.A.c, .bool m.A.m, .slice m.A.B m.A.ds.length m.A.d, .bool m.B.n, .slice m.B.A m.B.xs.length m.B.c, .bool m.B.m, .slice m.B.B m.B.ds.length m.B.d, .bool m.C.n, .slice m.C.A m.C.xs.length m.C.c, .bool m.C.m, .slice m.C.B m.C.ds.length m.C.d, .bool m.D.n, .slice m.D.A m.D.xs.length m.D.c, .bool m.D.m, .slice m.D.B m.D.ds.length m.D.d] 74
 rw [z8] at K19 Z20
 replace K19 : Box V16 (w.heap.size + 1 + 1) (mcs m) := K19
 have n21 : w.heap.size ≠ w.heap.size + 1 + 1 := Nat.ne_of_lt (z8 ▸ K5.lt)
 have n22 : w.heap.size + 1 ≠ w.heap.size + 1 + 1 := Nat.ne_of_lt (z8 ▸ K12.lt)
 have g23 : w.heap.size ≤ w.heap.size + 1 + 1 := z8 ▸ BW.size
 replace K12 := K12.on hb18
 replace Z13 := Z13.on hb18
 replace G := G.kp (Kept.of hb18)
 replace BW := BW.trans (hb18.mono BW.size)
 clear hb18
 clear z1 z8
 go_enter Tryz.func36, Tryz.ntmps36
 go_wp2_with fail
 rw [← e3, ← e10, ← e17]
 clear e3 e10 e17
 have hl0 := K12.lt
 refine (b_fit4 G K19 hC).mono ?_
 rintro _ w24 ⟨v, er, rfl, hv, hb⟩
 replace K12 := K12.on hb
 replace Z13 := Z13.on hb
 replace BW := BW.trans (hb.mono BW.size)
 clear hb
 rcases hv with ⟨rfl, hF, f, h, rfl, L, Kh, hge⟩ | ⟨rfl, hN, rfl⟩
 · go_wp2_with fail
   have gz : w.heap.size ≤ w.heap.size + 1 := by omega
   have nh : h ≠ w.heap.size + 1 := by omega
   refine wp_region_noPanic ?_
   have hb : Below w24.heap.size w24 w24.drew := (Below.refl _ _).drew
   replace K12 := K12.on hb
   replace Kh := Kh.on hb
   replace Z13 := Z13.on hb
   replace L := L.kp (Kept.of hb)
   replace BW := BW.trans (hb.mono BW.size)
   clear hb
   refine wp_region_held_drew (S := (fun wx => Cs wx (h) 0 [.bool f.A.n, .slice f.A.A f.A.xs.length f.A.c, .bool f.A.m, .slice f.A.B f.A.ds.length f.A.d, .bool f.B.n, .slice f.B.A f.B.xs.length f.B.c, .bool f.B.m, .slice f.B.B f.B.ds.length f.B.d, .bool f.C.n, .slice f.C.A f.C.xs.length f.C.c, .bool f.C.m, .slice f.C.B f.C.ds.length f.C.d, .bool f.D.n, .slice f.D.A f.D.xs.length f.D.c, .bool f.D.m, .slice f.D.B f.D.ds.length f.D.d])) (by kernel_rfl) (by exact Kh.cs) (fun hHeld => ?_)
   generalize w24.drew = Vd25 at *
   refine pT 0 ?_
   (try simp only [p0, p1, p2, p3])
   refine pT 1 ?_
   (try simp only [p0, p1, p2, p3])
   refine pT 2 ?_
   (try simp only [p0, p1, p2, p3])
   refine pT 3 ?_
   (try simp only [p0, p1, p2, p3])
   refine pT 4 ?_
   (try simp only [p0, p1, p2, p3])
   refine pT 5 ?_
   (try simp only [p0, p1, p2, p3])
   refine pT 6 ?_
   (try simp only [p0, p1, p2, p3])
   refine pT 7 ?_
   (try simp only [p0, p1, p2, p3])
   refine pT 8 ?_
   (try simp only [p0, p1, p2, p3])
   refine pT 9 ?_
   (try simp only [p0, p1, p2, p3])
   refine pT 10 ?_
   (try simp only [p0, p1, p2, p3])
   refine pT 11 ?_
   (try simp only [p0, p1, p2, p3])
   refine pT 12 ?_
   (try simp only [p0, p1, p2, p3])
   refine pR1 13 (fun K hK => ?_)
   refine ite_yes (by rfl) (wp_stM rfl rfl rfl K12 Z13 rfl rfl rfl ?_)
   obtain ⟨V26, hk28⟩ : ∃ V26, V26 = Vd25.setCells (w.heap.size + 1) 0 [.bool f.A.n, .slice f.A.A f.A.xs.length f.A.c, .bool f.A.m, .slice f.A.B f.A.ds.length f.A.d, .bool f.B.n, .slice f.B.A f.B.xs.length f.B.c, .bool f.B.m, .slice f.B.B f.B.ds.length f.B.d, .bool f.C.n, .slice f.C.A f.C.xs.length f.C.c, .bool f.C.m, .slice f.C.B f.C.ds.length f.C.d, .bool f.D.n, .slice f.D.A f.D.xs.length f.D.c, .bool f.D.m, .slice f.D.B f.D.ds.length f.D.d] := ⟨_, rfl⟩
   have e27 := hk28
   have hk29 := Kept.overE hk28 K12 rfl (Nat.le_of_ble_eq_true rfl)
   replace K12 := K12.overE hk28 rfl
   replace Kh := Kh.awayE hk28 nh
   replace Z13 := Z13.putE hk28
   replace L := L.kp hk29
   replace BW := Below.putE BW hk28 gz
   clear hk28 hk29
   replace K12 : Box V26 (w.heap.size + 1) (mcs f) := K12
   rw [← e27]
   clear e27
   clear hHeld
   refine hK.out _ _ (by exact Kh.cs) (fun hHeld => ?_)
   clear hK
   (try simp only [p0])
   refine pT 14 ?_
   (try simp only [p0, p1, p2, p3])
   refine wpAnyH_done (by kernel_rfl) (NoPanic.normal ?_) _
   go_wp2
   exact bodyPost_ret (v := .tuple #[mv f, .int .i64 0]) (res_M2 Tryz.results36 (by rfl) (by rfl) K12 rfl) rfl ⟨f, 0, rfl, .inl ⟨rfl, hF, L⟩, Lib.hid (.inl rfl), BW⟩
 · obtain ⟨c25, c26, c27, c28, c29, c30, c31, c32, c33, c34, c35, c36, c37, c38, c39, c40⟩ := K12.c16
   obtain ⟨c41, c42, c43, c44, c45, c46, c47, c48, c49, c50, c51, c52, c53, c54, c55, c56⟩ := Z13.f16
   obtain ⟨V57, hk59⟩ : ∃ V57, V57 = w24.setCells (w.heap.size + 1) 0 [.bool false, .slice none 0 0, .bool false, .slice none 0 0, .bool false, .slice none 0 0, .bool false, .slice none 0 0, .bool false, .slice none 0 0, .bool false, .slice none 0 0, .bool false, .slice none 0 0, .bool false, .slice none 0 0] := ⟨_, rfl⟩
   have e58 := hk59
   simp only [World.setCells, Nat.zero_add, Nat.reduceAdd] at e58
   have hk60 := Kept.overE hk59 K12 rfl (Nat.le_of_ble_eq_true rfl)
   replace K12 := K12.overE hk59 rfl
   replace BW := Below.putE BW hk59 g15
   clear hk59 hk60
   replace K12 : Box V57 (w.heap.size + 1) (zcs16) := K12
   go_wp2_with fail
   clear c25 c26 c27 c28 c29 c30 c31 c32 c33 c34 c35 c36 c37 c38 c39 c40 c41 c42 c43 c44 c45 c46 c47 c48 c49 c50 c51 c52 c53 c54 c55 c56
   rw [← e58]
   clear e58
   exact bodyPost_ret (v := .tuple #[mv mv0, .int .i64 4]) (res_M2 Tryz.results36 (by rfl) (by rfl) K12 rfl) rfl ⟨mv0, 4, rfl, .inr ⟨rfl, hN⟩, Lib.hid (.inr rfl), BW⟩
set_option maxHeartbeats 16000000 in
set_option maxRecDepth 100000 in
theorem b_MatrixZ {a : Option Addr} {c : Nat} {es : List Ev} {zs : List Eq} {w : World} (S : Sle w a c es) (hF : Fes w zs es) (hn : es.length ≤ 4096) :
    Calls Tryz.prog 10 #[.slice a es.length c] w (fun e w' => ∃ (f : Mv) (e1 : Int), e = .returned (.tuple #[mv f, .int .i64 e1]) ∧ MIs w' (benchM zs) f e1 ∧ Hid (e1 = 0 ∨ f = mv0) ∧ Below w.heap.size w w') := by
 have HS := Lib.hid S
 have HF := Lib.hid hF
 have hn2 : (es.length : Int) ≤ 4096 := by omega
 have HN := Lib.hid hn
 clear S hF hn
 have BW : Below w.heap.size w w := Below.refl _ _
 obtain ⟨V1, e2, hb3, K4, Z5, -⟩ := alloc_new w [.bool false, .slice none 0 0, .bool false, .slice none 0 0, .bool false, .slice none 0 0, .bool false, .slice none 0 0, .bool false, .slice none 0 0, .bool false, .slice none 0 0, .bool false, .slice none 0 0, .bool false, .slice none 0 0] 31
 replace K4 : Box V1 (w.heap.size) (zcs16) := K4
 have g6 : w.heap.size ≤ w.heap.size := BW.size
 replace BW := BW.trans (hb3.mono BW.size)
 clear hb3
 go_enter Tryz.func10, Tryz.ntmps10
 go_upto_region 1 with fail
 rw [← e2]
 clear e2
 go_wp2_with fail
 have BW0 := Lib.hid BW
 refine (b_check (HS.out.on BW)).mono ?_
 rintro _ w7 ⟨r, rfl, hr, hb⟩
 replace K4 := K4.on hb
 replace Z5 := Z5.on hb
 replace BW := BW.trans (hb.mono BW.size)
 clear hb
 obtain rfl : r = 0 := hr.yes (by omega) (HF.out.kp (Kept.of BW0.out)).may
 clear hr
 go_wp2_with fail
 refine (b_Bench (HS.out.on BW) (HF.out.kp (Kept.of BW)) HN.out).mono ?_
 rintro _ w8 ⟨f3, rfl, L3, hb⟩
 replace K4 := K4.on hb
 replace Z5 := Z5.on hb
 replace BW := BW.trans (hb.mono BW.size)
 clear hb
 go_wp2_with fail
 refine (b_FitZ L3 (by decide)).mono ?_
 rintro _ w9 ⟨f4, e4, rfl, h4, hz4, hb⟩
 replace K4 := K4.on hb
 replace Z5 := Z5.on hb
 replace BW := BW.trans (hb.mono BW.size)
 clear hb
 obtain ⟨c10, c11, c12, c13, c14, c15, c16, c17, c18, c19, c20, c21, c22, c23, c24, c25⟩ := K4.c16
 obtain ⟨c26, c27, c28, c29, c30, c31, c32, c33, c34, c35, c36, c37, c38, c39, c40, c41⟩ := Z5.f16
 obtain ⟨V42, hk44⟩ : ∃ V42, V42 = w9.setCells (w.heap.size) 0 [.bool f4.A.n, .slice f4.A.A f4.A.xs.length f4.A.c, .bool f4.A.m, .slice f4.A.B f4.A.ds.length f4.A.d, .bool f4.B.n, .slice f4.B.A f4.B.xs.length f4.B.c, .bool f4.B.m, .slice f4.B.B f4.B.ds.length f4.B.d, .bool f4.C.n, .slice f4.C.A f4.C.xs.length f4.C.c, .bool f4.C.m, .slice f4.C.B f4.C.ds.length f4.C.d, .bool f4.D.n, .slice f4.D.A f4.D.xs.length f4.D.c, .bool f4.D.m, .slice f4.D.B f4.D.ds.length f4.D.d] := ⟨_, rfl⟩
 have e43 := hk44
 simp only [World.setCells, Nat.zero_add, Nat.reduceAdd] at e43
 have hk45 := Kept.overE hk44 K4 rfl (Nat.le_of_ble_eq_true rfl)
 replace K4 := K4.overE hk44 rfl
 replace h4 := h4.kp hk45
 replace BW := Below.putE BW hk44 g6
 clear hk44 hk45
 replace K4 : Box V42 (w.heap.size) (mcs f4) := K4
 go_wp2_with fail
 clear c10 c11 c12 c13 c14 c15 c16 c17 c18 c19 c20 c21 c22 c23 c24 c25 c26 c27 c28 c29 c30 c31 c32 c33 c34 c35 c36 c37 c38 c39 c40 c41
 rw [← e43]
 clear e43
 exact bodyPost_ret (v := .tuple #[mv f4, .int .i64 e4]) (res_M2 Tryz.results10 (by rfl) (by rfl) K4 rfl) rfl ⟨f4, e4, rfl, h4, hz4, BW⟩
end Go.Proofs.YtjamfkafgfpobaaGreat
