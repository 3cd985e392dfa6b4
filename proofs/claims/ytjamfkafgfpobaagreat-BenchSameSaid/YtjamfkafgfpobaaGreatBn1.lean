/-
 One matrix behind another, of any size. Conditions: that they are no longer than memory.
-/
import Derived.Test.YtjamfkafgfpobaaGreatBm1
import Derived.Deep.RegionHeld3
import Derived.Deep.DeepCutAuto
import Derived.BigRegion
namespace Go.Proofs.YtjamfkafgfpobaaGreat
open Go.RowKit Nb

theorem nameH {P : Program} {ops : Array Oper} {Q : Exit → Act → World → Prop} {S : World → Prop} {fuel : Nat} {listed : Array Bool} {a : Act} {w : World}
    (h : ∀ (ops' : Array Oper) (Q' : Exit → Act → World → Prop) (a' : Act), ops' = ops → Q' = Q → a' = a → wpAnyH P .any ops' Q' S fuel listed a' w) : wpAnyH P .any ops Q S fuel listed a w := h _ _ _ rfl rfl rfl
theorem castL {P : Program} {md : Region.Mode} {ops : Array Oper} {Q : Exit → Act → World → Prop} {S : World → Prop} {fuel : Nat} {l l' : Array Bool} {a : Act} {w : World} (e : l' = l) (h : wpAnyH P md ops Q S fuel l a w) : wpAnyH P md ops Q S fuel l' a w := e ▸ h
set_option maxHeartbeats 16000000 in
set_option maxRecDepth 100000 in
theorem b_mul {q r : Mq} {m n : Mv} {C : Nat} {w : World} (G : Gm w q m C) (H : Gm w r n C) (hC : 2 * C + 2 ≤ 1759218604390) :
    Calls Tryz.prog 77 #[mv m, mv n] w (GMx w (q.mul r) (4 * C + 8)) := by
 have BW : Below w.heap.size w w := Below.refl _ _
 obtain ⟨V2, e3, hb4, K5, -, z1⟩ := alloc_new w [.bool m.A.n, .slice m.A.A m.A.xs.length m.A.c, .bool m.A.m, .slice m.A.B m.A.ds.length m.A.d, .bool m.B.n, .slice m.B.A m.B.xs.length m.B.c, .bool m.B.m, .slice m.B.B m.B.ds.length m.B.d, .bool m.C.n, .slice m.C.A m.C.xs.length m.C.c, .bool m.C.m, .slice m.C.B m.C.ds.length m.C.d, .bool m.D.n, .slice m.D.A m.D.xs.length m.D.c, .bool m.D.m, .slice m.D.B m.D.ds.length m.D.d] 76
 replace K5 : Box V2 (w.heap.size) (mcs m) := K5
 replace G := G.kp (Kept.of hb4)
 replace H := H.kp (Kept.of hb4)
 replace BW := BW.trans (hb4.mono BW.size)
 clear hb4
 obtain ⟨V7, e8, hb9, K10, -, z6⟩ := alloc_new V2 [.bool n.A.n, .slice n.A.A n.A.xs.length n.A.c, .bool n.A.m, .slice n.A.B n.A.ds.length n.A.d, .bool n.B.n, .slice n.B.A n.B.xs.length n.B.c, .bool n.B.m, .slice n.B.B n.B.ds.length n.B.d, .bool n.C.n, .slice n.C.A n.C.xs.length n.C.c, .bool n.C.m, .slice n.C.B n.C.ds.length n.C.d, .bool n.D.n, .slice n.D.A n.D.xs.length n.D.c, .bool n.D.m, .slice n.D.B n.D.ds.length n.D.d] 76
 rw [z1] at K10 z6
 replace K10 : Box V7 (w.heap.size + 1) (mcs n) := K10
 replace K5 := K5.on hb9
 replace G := G.kp (Kept.of hb9)
 replace H := H.kp (Kept.of hb9)
 replace BW := BW.trans (hb9.mono BW.size)
 clear hb9
 obtain ⟨V11, e12, hb13, K14, Z15, -⟩ := alloc_new V7 [.bool false, .slice none 0 0, .bool false, .slice none 0 0, .bool false, .slice none 0 0, .bool false, .slice none 0 0, .bool false, .slice none 0 0, .bool false, .slice none 0 0, .bool false, .slice none 0 0, .bool false, .slice none 0 0] 76
 rw [z6] at K14 Z15
 replace K14 : Box V11 (w.heap.size + 1 + 1) (zcs16) := K14
 have n16 : w.heap.size ≠ w.heap.size + 1 + 1 := Nat.ne_of_lt (z6 ▸ K5.lt)
 have n17 : w.heap.size + 1 ≠ w.heap.size + 1 + 1 := Nat.ne_of_lt (z6 ▸ K10.lt)
 have g18 : w.heap.size ≤ w.heap.size + 1 + 1 := z6 ▸ BW.size
 replace K5 := K5.on hb13
 replace K10 := K10.on hb13
 replace G := G.kp (Kept.of hb13)
 replace H := H.kp (Kept.of hb13)
 replace BW := BW.trans (hb13.mono BW.size)
 clear hb13
 clear z1 z6
 go_enter Tryz.func77, Tryz.ntmps77
 go_wp2_with fail
 rw [← e3, ← e8, ← e12]
 clear e3 e8 e12
 have gz : w.heap.size ≤ w.heap.size + 1 + 1 := by omega
 go_cut [5, 6] (fun sv0 sv1 wx => ∃ (pka_0 pka_1 : Nat) (y1 : Yv) (y2 : Yv), sv0 = .pointer (some ⟨pka_0, 0, none⟩) ∧ sv1 = .pointer (some ⟨pka_1, 0, none⟩) ∧ Below w.heap.size w wx ∧ Box wx (w.heap.size + 1 + 1) (zcs16) ∧ Fz wx (w.heap.size + 1 + 1) ∧ Box wx pka_0 (ycs y1) ∧ Box wx pka_1 (ycs y2) ∧ pka_0 ≠ w.heap.size + 1 + 1 ∧ pka_1 ≠ w.heap.size + 1 + 1 ∧ Gy wx (q.thr ⟨r.a, r.c⟩) y1 (4 * C + 8) ∧ Gy wx (q.thr ⟨r.b, r.d⟩) y2 (4 * C + 8))
 case first =>
  refine wp_region_noPanic ?_
  have hb : Below V11.heap.size V11 V11.drew := (Below.refl _ _).drew
  replace K5 := K5.on hb
  replace K10 := K10.on hb
  replace K14 := K14.on hb
  replace Z15 := Z15.on hb
  replace G := G.kp (Kept.of hb)
  replace H := H.kp (Kept.of hb)
  replace BW := BW.trans (hb.mono BW.size)
  clear hb
  refine wp_region_held_drew (S := (fun wx => Box wx (w.heap.size) [.bool m.A.n, .slice m.A.A m.A.xs.length m.A.c, .bool m.A.m, .slice m.A.B m.A.ds.length m.A.d, .bool m.B.n, .slice m.B.A m.B.xs.length m.B.c, .bool m.B.m, .slice m.B.B m.B.ds.length m.B.d, .bool m.C.n, .slice m.C.A m.C.xs.length m.C.c, .bool m.C.m, .slice m.C.B m.C.ds.length m.C.d, .bool m.D.n, .slice m.D.A m.D.xs.length m.D.c, .bool m.D.m, .slice m.D.B m.D.ds.length m.D.d] ∧ Cs wx (w.heap.size + 1) 0 [.bool n.A.n, .slice n.A.A n.A.xs.length n.A.c, .bool n.A.m, .slice n.A.B n.A.ds.length n.A.d, .bool n.B.n, .slice n.B.A n.B.xs.length n.B.c, .bool n.B.m, .slice n.B.B n.B.ds.length n.B.d, .bool n.C.n, .slice n.C.A n.C.xs.length n.C.c, .bool n.C.m, .slice n.C.B n.C.ds.length n.C.d, .bool n.D.n, .slice n.D.A n.D.xs.length n.D.c, .bool n.D.m, .slice n.D.B n.D.ds.length n.D.d])) (by kernel_rfl) (by exact ⟨K5, K10.cs⟩) (fun hHeld => ?_)
  generalize V11.drew = Vd19 at *
  refine pT 0 ?_ (hy := fun wt hSw => ldL rfl rfl hSw.1)
  (try simp only [p0, p1, p2, p3])
  refine pT 1 ?_
  (try simp only [p0, p1, p2, p3])
  refine pT 2 ?_
  (try simp only [p0, p1, p2, p3])
  refine pT 3 ?_
  (try simp only [p0, p1, p2, p3])
  refine pT 4 ?_
  (try simp only [p0, p1, p2, p3])
  refine pT 5 ?_
  (try simp only [p0, p1, p2, p3])
  refine pT 7 ?_ (hy := fun wt hSw => ldL rfl rfl hSw.1)
  (try simp only [p0, p1, p2, p3])
  refine pT 8 ?_
  (try simp only [p0, p1, p2, p3])
  refine pT 9 ?_
  (try simp only [p0, p1, p2, p3])
  refine pT 10 ?_
  (try simp only [p0, p1, p2, p3])
  refine pT 11 ?_
  (try simp only [p0, p1, p2, p3])
  refine pT 12 ?_
  (try simp only [p0, p1, p2, p3])
  clear hHeld
  refine nameH (fun OP QQ AA hOP hQQ hAA => ?_)
  have kya_2_3 : ∀ (y1 : Yv) (y2 : Yv) (q0 : Nat) (q1 : Nat) (W : World) (hw : Below Vd19.heap.size Vd19 W) (L1 : Gy W (q.thr ⟨r.a, r.c⟩) y1 (4 * C + 8)) (L2 : Gy W (q.thr ⟨r.b, r.d⟩) y2 (4 * C + 8)) (b0 : Box W q0 zcs8) (z0 : Fz W q0) (g0 : Vd19.heap.size ≤ q0) (b1 : Box W q1 zcs8) (z1 : Fz W q1) (g1 : Vd19.heap.size ≤ q1) (n01 : q0 ≠ q1), wpAnyH Tryz.prog .any OP QQ (fun wx => Box wx (w.heap.size) [.bool m.A.n, .slice m.A.A m.A.xs.length m.A.c, .bool m.A.m, .slice m.A.B m.A.ds.length m.A.d, .bool m.B.n, .slice m.B.A m.B.xs.length m.B.c, .bool m.B.m, .slice m.B.B m.B.ds.length m.B.d, .bool m.C.n, .slice m.C.A m.C.xs.length m.C.c, .bool m.C.m, .slice m.C.B m.C.ds.length m.C.d, .bool m.D.n, .slice m.D.A m.D.xs.length m.D.c, .bool m.D.m, .slice m.D.B m.D.ds.length m.D.d] ∧ Cs wx (w.heap.size + 1) 0 [.bool n.A.n, .slice n.A.A n.A.xs.length n.A.c, .bool n.A.m, .slice n.A.B n.A.ds.length n.A.d, .bool n.B.n, .slice n.B.A n.B.xs.length n.B.c, .bool n.B.m, .slice n.B.B n.B.ds.length n.B.d, .bool n.C.n, .slice n.C.A n.C.xs.length n.C.c, .bool n.C.m, .slice n.C.B n.C.ds.length n.C.d, .bool n.D.n, .slice n.D.A n.D.xs.length n.D.c, .bool n.D.m, .slice n.D.B n.D.ds.length n.D.d]) 2 #[true, true, true, true, true, true, true, true, true, true, true, true, true, true, true, true, false, false] ((((AA.put (some 13) (.agg #[.bool y1.Y.n, .slice y1.Y.A y1.Y.xs.length y1.Y.c, .bool y1.Y.m, .slice y1.Y.B y1.Y.ds.length y1.Y.d, .bool y1.U.n, .slice y1.U.A y1.U.xs.length y1.U.c, .bool y1.U.m, .slice y1.U.B y1.U.ds.length y1.U.d])).put (some 20) (.agg #[.bool y2.Y.n, .slice y2.Y.A y2.Y.xs.length y2.Y.c, .bool y2.Y.m, .slice y2.Y.B y2.Y.ds.length y2.Y.d, .bool y2.U.n, .slice y2.U.A y2.U.xs.length y2.U.c, .bool y2.U.m, .slice y2.U.B y2.U.ds.length y2.U.d])).put (some 5) (.pointer (some ⟨q0, 0, none⟩))).put (some 6) (.pointer (some ⟨q1, 0, none⟩))) W := by
   intro y1 y2 q0 q1 W hw L1 L2 b0 z0 g0 b1 z1 g1 n01
   subst hOP
   subst hQQ
   subst hAA
   (try simp only [p0, p1, p2, p3])
   have gw0 : w.heap.size ≤ q0 := Nat.le_trans BW.size g0
   have xK50 : w.heap.size ≠ q0 := Nat.ne_of_lt (Nat.lt_of_lt_of_le K5.lt g0)
   have xK100 : w.heap.size + 1 ≠ q0 := Nat.ne_of_lt (Nat.lt_of_lt_of_le K10.lt g0)
   have xK140 : w.heap.size + 1 + 1 ≠ q0 := Nat.ne_of_lt (Nat.lt_of_lt_of_le K14.lt g0)
   have gw1 : w.heap.size ≤ q1 := Nat.le_trans BW.size g1
   have xK51 : w.heap.size ≠ q1 := Nat.ne_of_lt (Nat.lt_of_lt_of_le K5.lt g1)
   have xK101 : w.heap.size + 1 ≠ q1 := Nat.ne_of_lt (Nat.lt_of_lt_of_le K10.lt g1)
   have xK141 : w.heap.size + 1 + 1 ≠ q1 := Nat.ne_of_lt (Nat.lt_of_lt_of_le K14.lt g1)
   replace K5 := K5.on hw
   replace K10 := K10.on hw
   replace K14 := K14.on hw
   replace Z15 := Z15.on hw
   replace G := G.kp (Kept.of hw)
   replace H := H.kp (Kept.of hw)
   replace BW := BW.trans (hw.mono BW.size)
   refine pR1 16 (fun K hK => ?_)
   obtain ⟨c20, c21, c22, c23, c24, c25, c26, c27⟩ := b0.c8
   obtain ⟨c28, c29, c30, c31, c32, c33, c34, c35⟩ := z0.f8
   go_simp
   clear c20 c21 c22 c23 c24 c25 c26 c27 c28 c29 c30 c31 c32 c33 c34 c35
   obtain ⟨V36, hk38⟩ : ∃ V36, V36 = W.setCells (q0) 0 [.bool y1.Y.n, .slice y1.Y.A y1.Y.xs.length y1.Y.c, .bool y1.Y.m, .slice y1.Y.B y1.Y.ds.length y1.Y.d, .bool y1.U.n, .slice y1.U.A y1.U.xs.length y1.U.c, .bool y1.U.m, .slice y1.U.B y1.U.ds.length y1.U.d] := ⟨_, rfl⟩
   have e37 := hk38
   simp only [World.setCells, Nat.zero_add, Nat.reduceAdd] at e37
   have hk39 := Kept.overE hk38 b0 rfl (Nat.le_of_ble_eq_true rfl)
   replace K5 := K5.awayE hk38 xK50
   replace K10 := K10.awayE hk38 xK100
   replace K14 := K14.awayE hk38 xK140
   replace b0 := b0.overE hk38 rfl
   replace b1 := b1.awayE hk38 n01.symm
   replace Z15 := Z15.putE hk38
   replace z0 := z0.putE hk38
   replace z1 := z1.putE hk38
   replace G := G.kp hk39
   replace H := H.kp hk39
   replace L1 := L1.kp hk39
   replace L2 := L2.kp hk39
   replace BW := Below.putE BW hk38 gw0
   clear hk38 hk39
   replace b0 : Box V36 (q0) (ycs y1) := b0
   rw [← e37]
   clear e37
   refine hK.out _ _ (by exact ⟨K5, K10.cs⟩) (fun hHeld => ?_)
   clear hK
   (try simp only [p1, p2, p3])
   clear hHeld
   refine pR1 17 (fun K hK => ?_)
   obtain ⟨c40, c41, c42, c43, c44, c45, c46, c47⟩ := b1.c8
   obtain ⟨c48, c49, c50, c51, c52, c53, c54, c55⟩ := z1.f8
   go_simp
   clear c40 c41 c42 c43 c44 c45 c46 c47 c48 c49 c50 c51 c52 c53 c54 c55
   obtain ⟨V56, hk58⟩ : ∃ V56, V56 = V36.setCells (q1) 0 [.bool y2.Y.n, .slice y2.Y.A y2.Y.xs.length y2.Y.c, .bool y2.Y.m, .slice y2.Y.B y2.Y.ds.length y2.Y.d, .bool y2.U.n, .slice y2.U.A y2.U.xs.length y2.U.c, .bool y2.U.m, .slice y2.U.B y2.U.ds.length y2.U.d] := ⟨_, rfl⟩
   have e57 := hk58
   simp only [World.setCells, Nat.zero_add, Nat.reduceAdd] at e57
   have hk59 := Kept.overE hk58 b1 rfl (Nat.le_of_ble_eq_true rfl)
   replace K5 := K5.awayE hk58 xK51
   replace K10 := K10.awayE hk58 xK101
   replace K14 := K14.awayE hk58 xK141
   replace b0 := b0.awayE hk58 n01
   replace b1 := b1.overE hk58 rfl
   replace Z15 := Z15.putE hk58
   replace z0 := z0.putE hk58
   replace z1 := z1.putE hk58
   replace G := G.kp hk59
   replace H := H.kp hk59
   replace L1 := L1.kp hk59
   replace L2 := L2.kp hk59
   replace BW := Below.putE BW hk58 gw1
   clear hk58 hk59
   replace b1 : Box V56 (q1) (ycs y2) := b1
   rw [← e57]
   clear e57
   refine hK.out _ _ (by exact ⟨K5, K10.cs⟩) (fun hHeld => ?_)
   clear hK
   (try simp only [p1, p2, p3])
   clear hHeld
   refine wpAnyH_done (by kernel_rfl) (NoPanic.normal ?_) _
   go_wp2
   go_meet
   exact ⟨q0, q1, y1, y2, rfl, rfl, BW, K14, Z15, b0, b1, xK140.symm, xK141.symm, L1, L2⟩
  have kya_1_3 : ∀ (y1 : Yv) (q0 : Nat) (q1 : Nat) (W : World) (hw : Below Vd19.heap.size Vd19 W) (L1 : Gy W (q.thr ⟨r.a, r.c⟩) y1 (4 * C + 8)) (b0 : Box W q0 zcs8) (z0 : Fz W q0) (g0 : Vd19.heap.size ≤ q0) (b1 : Box W q1 zcs8) (z1 : Fz W q1) (g1 : Vd19.heap.size ≤ q1) (n01 : q0 ≠ q1), wpAnyH Tryz.prog .any OP QQ (fun wx => Box wx (w.heap.size) [.bool m.A.n, .slice m.A.A m.A.xs.length m.A.c, .bool m.A.m, .slice m.A.B m.A.ds.length m.A.d, .bool m.B.n, .slice m.B.A m.B.xs.length m.B.c, .bool m.B.m, .slice m.B.B m.B.ds.length m.B.d, .bool m.C.n, .slice m.C.A m.C.xs.length m.C.c, .bool m.C.m, .slice m.C.B m.C.ds.length m.C.d, .bool m.D.n, .slice m.D.A m.D.xs.length m.D.c, .bool m.D.m, .slice m.D.B m.D.ds.length m.D.d] ∧ Cs wx (w.heap.size + 1) 0 [.bool n.A.n, .slice n.A.A n.A.xs.length n.A.c, .bool n.A.m, .slice n.A.B n.A.ds.length n.A.d, .bool n.B.n, .slice n.B.A n.B.xs.length n.B.c, .bool n.B.m, .slice n.B.B n.B.ds.length n.B.d, .bool n.C.n, .slice n.C.A n.C.xs.length n.C.c, .bool n.C.m, .slice n.C.B n.C.ds.length n.C.d, .bool n.D.n, .slice n.D.A n.D.xs.length n.D.c, .bool n.D.m, .slice n.D.B n.D.ds.length n.D.d]) 3 #[true, true, true, true, true, true, true, true, true, true, true, true, true, false, true, true, false, false] (((AA.put (some 13) (.agg #[.bool y1.Y.n, .slice y1.Y.A y1.Y.xs.length y1.Y.c, .bool y1.Y.m, .slice y1.Y.B y1.Y.ds.length y1.Y.d, .bool y1.U.n, .slice y1.U.A y1.U.xs.length y1.U.c, .bool y1.U.m, .slice y1.U.B y1.U.ds.length y1.U.d])).put (some 5) (.pointer (some ⟨q0, 0, none⟩))).put (some 6) (.pointer (some ⟨q1, 0, none⟩))) W := by
   intro y1 q0 q1 W hw L1 b0 z0 g0 b1 z1 g1 n01
   subst hOP
   subst hQQ
   subst hAA
   (try simp only [p0, p1, p2, p3])
   refine pR1 13 (fun K hK => ?_)
   replace G := G.kp (Kept.of hw)
   replace H := H.kp (Kept.of hw)
   replace K5 := K5.on hw
   replace K10 := K10.on hw
   go_simp
   (go_at_call 62; with_reducible refine (b_thr G H.col2 hC).mono ?_)
   rintro _ W2 ⟨y2, rfl, L2, hb⟩
   (try go_wp2_with fail)
   have hw2 := hw.trans (hb.mono hw.size)
   refine hK.out _ _ (by exact ⟨K5.on hb, (K10.on hb).cs⟩) (fun hHeld => ?_)
   clear hK
   (try simp only [p1, p2, p3])
   have ky := kya_2_3 y1 y2 q0 q1 W2 hw2 (L1.kp (Kept.of hb)) L2 (b0.on hb) (z0.on hb) g0 (b1.on hb) (z1.on hb) g1 n01
   (try simp only [p0, p1, p2, p3] at ky)
   exact castL (by kernel_rfl) ky
  have kya_2_1 : ∀ (y1 : Yv) (y2 : Yv) (q0 : Nat) (W : World) (hw : Below Vd19.heap.size Vd19 W) (L1 : Gy W (q.thr ⟨r.a, r.c⟩) y1 (4 * C + 8)) (L2 : Gy W (q.thr ⟨r.b, r.d⟩) y2 (4 * C + 8)) (b0 : Box W q0 zcs8) (z0 : Fz W q0) (g0 : Vd19.heap.size ≤ q0) , wpAnyH Tryz.prog .any OP QQ (fun wx => Box wx (w.heap.size) [.bool m.A.n, .slice m.A.A m.A.xs.length m.A.c, .bool m.A.m, .slice m.A.B m.A.ds.length m.A.d, .bool m.B.n, .slice m.B.A m.B.xs.length m.B.c, .bool m.B.m, .slice m.B.B m.B.ds.length m.B.d, .bool m.C.n, .slice m.C.A m.C.xs.length m.C.c, .bool m.C.m, .slice m.C.B m.C.ds.length m.C.d, .bool m.D.n, .slice m.D.A m.D.xs.length m.D.c, .bool m.D.m, .slice m.D.B m.D.ds.length m.D.d] ∧ Cs wx (w.heap.size + 1) 0 [.bool n.A.n, .slice n.A.A n.A.xs.length n.A.c, .bool n.A.m, .slice n.A.B n.A.ds.length n.A.d, .bool n.B.n, .slice n.B.A n.B.xs.length n.B.c, .bool n.B.m, .slice n.B.B n.B.ds.length n.B.d, .bool n.C.n, .slice n.C.A n.C.xs.length n.C.c, .bool n.C.m, .slice n.C.B n.C.ds.length n.C.d, .bool n.D.n, .slice n.D.A n.D.xs.length n.D.c, .bool n.D.m, .slice n.D.B n.D.ds.length n.D.d]) 3 #[true, true, true, true, true, true, true, true, true, true, true, true, true, true, true, false, false, false] (((AA.put (some 13) (.agg #[.bool y1.Y.n, .slice y1.Y.A y1.Y.xs.length y1.Y.c, .bool y1.Y.m, .slice y1.Y.B y1.Y.ds.length y1.Y.d, .bool y1.U.n, .slice y1.U.A y1.U.xs.length y1.U.c, .bool y1.U.m, .slice y1.U.B y1.U.ds.length y1.U.d])).put (some 20) (.agg #[.bool y2.Y.n, .slice y2.Y.A y2.Y.xs.length y2.Y.c, .bool y2.Y.m, .slice y2.Y.B y2.Y.ds.length y2.Y.d, .bool y2.U.n, .slice y2.U.A y2.U.xs.length y2.U.c, .bool y2.U.m, .slice y2.U.B y2.U.ds.length y2.U.d])).put (some 5) (.pointer (some ⟨q0, 0, none⟩))) W := by
   intro y1 y2 q0 W hw L1 L2 b0 z0 g0
   subst hOP
   subst hQQ
   subst hAA
   (try simp only [p0, p1, p2, p3])
   refine pR1 15 (fun K hK => ?_)
   replace K5 := K5.on hw
   replace K10 := K10.on hw
   go_simp
   obtain ⟨V2, e2, hb, K2, Z2, -⟩ := alloc_new W [.bool false, .slice none 0 0, .bool false, .slice none 0 0, .bool false, .slice none 0 0, .bool false, .slice none 0 0] 105
   rw [← e2]
   clear e2
   have hw2 := hw.trans (hb.mono hw.size)
   refine hK.out _ _ (by exact ⟨K5.on hb, (K10.on hb).cs⟩) (fun hHeld => ?_)
   clear hK
   (try simp only [p1, p2, p3])
   have ky := kya_2_3 y1 y2 q0 W.heap.size V2 hw2 (L1.kp (Kept.of hb)) (L2.kp (Kept.of hb)) (b0.on hb) (z0.on hb) g0 K2 Z2 hw.size (Nat.ne_of_lt b0.lt)
   (try simp only [p0, p1, p2, p3] at ky)
   exact castL (by kernel_rfl) ky
  have kya_2_2 : ∀ (y1 : Yv) (y2 : Yv) (q1 : Nat) (W : World) (hw : Below Vd19.heap.size Vd19 W) (L1 : Gy W (q.thr ⟨r.a, r.c⟩) y1 (4 * C + 8)) (L2 : Gy W (q.thr ⟨r.b, r.d⟩) y2 (4 * C + 8)) (b1 : Box W q1 zcs8) (z1 : Fz W q1) (g1 : Vd19.heap.size ≤ q1) , wpAnyH Tryz.prog .any OP QQ (fun wx => Box wx (w.heap.size) [.bool m.A.n, .slice m.A.A m.A.xs.length m.A.c, .bool m.A.m, .slice m.A.B m.A.ds.length m.A.d, .bool m.B.n, .slice m.B.A m.B.xs.length m.B.c, .bool m.B.m, .slice m.B.B m.B.ds.length m.B.d, .bool m.C.n, .slice m.C.A m.C.xs.length m.C.c, .bool m.C.m, .slice m.C.B m.C.ds.length m.C.d, .bool m.D.n, .slice m.D.A m.D.xs.length m.D.c, .bool m.D.m, .slice m.D.B m.D.ds.length m.D.d] ∧ Cs wx (w.heap.size + 1) 0 [.bool n.A.n, .slice n.A.A n.A.xs.length n.A.c, .bool n.A.m, .slice n.A.B n.A.ds.length n.A.d, .bool n.B.n, .slice n.B.A n.B.xs.length n.B.c, .bool n.B.m, .slice n.B.B n.B.ds.length n.B.d, .bool n.C.n, .slice n.C.A n.C.xs.length n.C.c, .bool n.C.m, .slice n.C.B n.C.ds.length n.C.d, .bool n.D.n, .slice n.D.A n.D.xs.length n.D.c, .bool n.D.m, .slice n.D.B n.D.ds.length n.D.d]) 3 #[true, true, true, true, true, true, true, true, true, true, true, true, true, true, false, true, false, false] (((AA.put (some 13) (.agg #[.bool y1.Y.n, .slice y1.Y.A y1.Y.xs.length y1.Y.c, .bool y1.Y.m, .slice y1.Y.B y1.Y.ds.length y1.Y.d, .bool y1.U.n, .slice y1.U.A y1.U.xs.length y1.U.c, .bool y1.U.m, .slice y1.U.B y1.U.ds.length y1.U.d])).put (some 20) (.agg #[.bool y2.Y.n, .slice y2.Y.A y2.Y.xs.length y2.Y.c, .bool y2.Y.m, .slice y2.Y.B y2.Y.ds.length y2.Y.d, .bool y2.U.n, .slice y2.U.A y2.U.xs.length y2.U.c, .bool y2.U.m, .slice y2.U.B y2.U.ds.length y2.U.d])).put (some 6) (.pointer (some ⟨q1, 0, none⟩))) W := by
   intro y1 y2 q1 W hw L1 L2 b1 z1 g1
   subst hOP
   subst hQQ
   subst hAA
   (try simp only [p0, p1, p2, p3])
   refine pR1 14 (fun K hK => ?_)
   replace K5 := K5.on hw
   replace K10 := K10.on hw
   go_simp
   obtain ⟨V2, e2, hb, K2, Z2, -⟩ := alloc_new W [.bool false, .slice none 0 0, .bool false, .slice none 0 0, .bool false, .slice none 0 0, .bool false, .slice none 0 0] 105
   rw [← e2]
   clear e2
   have hw2 := hw.trans (hb.mono hw.size)
   refine hK.out _ _ (by exact ⟨K5.on hb, (K10.on hb).cs⟩) (fun hHeld => ?_)
   clear hK
   (try simp only [p1, p2, p3])
   have ky := kya_2_3 y1 y2 W.heap.size q1 V2 hw2 (L1.kp (Kept.of hb)) (L2.kp (Kept.of hb)) K2 Z2 hw.size (b1.on hb) (z1.on hb) g1 (Nat.ne_of_lt b1.lt).symm
   (try simp only [p0, p1, p2, p3] at ky)
   exact castL (by kernel_rfl) ky
  have kya_0_3 : ∀  (q0 : Nat) (q1 : Nat) (W : World) (hw : Below Vd19.heap.size Vd19 W)  (b0 : Box W q0 zcs8) (z0 : Fz W q0) (g0 : Vd19.heap.size ≤ q0) (b1 : Box W q1 zcs8) (z1 : Fz W q1) (g1 : Vd19.heap.size ≤ q1) (n01 : q0 ≠ q1), wpAnyH Tryz.prog .any OP QQ (fun wx => Box wx (w.heap.size) [.bool m.A.n, .slice m.A.A m.A.xs.length m.A.c, .bool m.A.m, .slice m.A.B m.A.ds.length m.A.d, .bool m.B.n, .slice m.B.A m.B.xs.length m.B.c, .bool m.B.m, .slice m.B.B m.B.ds.length m.B.d, .bool m.C.n, .slice m.C.A m.C.xs.length m.C.c, .bool m.C.m, .slice m.C.B m.C.ds.length m.C.d, .bool m.D.n, .slice m.D.A m.D.xs.length m.D.c, .bool m.D.m, .slice m.D.B m.D.ds.length m.D.d] ∧ Cs wx (w.heap.size + 1) 0 [.bool n.A.n, .slice n.A.A n.A.xs.length n.A.c, .bool n.A.m, .slice n.A.B n.A.ds.length n.A.d, .bool n.B.n, .slice n.B.A n.B.xs.length n.B.c, .bool n.B.m, .slice n.B.B n.B.ds.length n.B.d, .bool n.C.n, .slice n.C.A n.C.xs.length n.C.c, .bool n.C.m, .slice n.C.B n.C.ds.length n.C.d, .bool n.D.n, .slice n.D.A n.D.xs.length n.D.c, .bool n.D.m, .slice n.D.B n.D.ds.length n.D.d]) 4 #[true, true, true, true, true, true, false, true, true, true, true, true, true, false, true, true, false, false] ((AA.put (some 5) (.pointer (some ⟨q0, 0, none⟩))).put (some 6) (.pointer (some ⟨q1, 0, none⟩))) W := by
   intro q0 q1 W hw b0 z0 g0 b1 z1 g1 n01
   subst hOP
   subst hQQ
   subst hAA
   (try simp only [p0, p1, p2, p3])
   refine pR1 6 (fun K hK => ?_)
   replace G := G.kp (Kept.of hw)
   replace H := H.kp (Kept.of hw)
   replace K5 := K5.on hw
   replace K10 := K10.on hw
   go_simp
   (go_at_call 62; with_reducible refine (b_thr G H.col1 hC).mono ?_)
   rintro _ W2 ⟨y1, rfl, L1, hb⟩
   (try go_wp2_with fail)
   have hw2 := hw.trans (hb.mono hw.size)
   refine hK.out _ _ (by exact ⟨K5.on hb, (K10.on hb).cs⟩) (fun hHeld => ?_)
   clear hK
   (try simp only [p1, p2, p3])
   have ky := kya_1_3 y1 q0 q1 W2 hw2 L1 (b0.on hb) (z0.on hb) g0 (b1.on hb) (z1.on hb) g1 n01
   (try simp only [p0, p1, p2, p3] at ky)
   exact castL (by kernel_rfl) ky
  have kya_1_1 : ∀ (y1 : Yv) (q0 : Nat) (W : World) (hw : Below Vd19.heap.size Vd19 W) (L1 : Gy W (q.thr ⟨r.a, r.c⟩) y1 (4 * C + 8)) (b0 : Box W q0 zcs8) (z0 : Fz W q0) (g0 : Vd19.heap.size ≤ q0) , wpAnyH Tryz.prog .any OP QQ (fun wx => Box wx (w.heap.size) [.bool m.A.n, .slice m.A.A m.A.xs.length m.A.c, .bool m.A.m, .slice m.A.B m.A.ds.length m.A.d, .bool m.B.n, .slice m.B.A m.B.xs.length m.B.c, .bool m.B.m, .slice m.B.B m.B.ds.length m.B.d, .bool m.C.n, .slice m.C.A m.C.xs.length m.C.c, .bool m.C.m, .slice m.C.B m.C.ds.length m.C.d, .bool m.D.n, .slice m.D.A m.D.xs.length m.D.c, .bool m.D.m, .slice m.D.B m.D.ds.length m.D.d] ∧ Cs wx (w.heap.size + 1) 0 [.bool n.A.n, .slice n.A.A n.A.xs.length n.A.c, .bool n.A.m, .slice n.A.B n.A.ds.length n.A.d, .bool n.B.n, .slice n.B.A n.B.xs.length n.B.c, .bool n.B.m, .slice n.B.B n.B.ds.length n.B.d, .bool n.C.n, .slice n.C.A n.C.xs.length n.C.c, .bool n.C.m, .slice n.C.B n.C.ds.length n.C.d, .bool n.D.n, .slice n.D.A n.D.xs.length n.D.c, .bool n.D.m, .slice n.D.B n.D.ds.length n.D.d]) 4 #[true, true, true, true, true, true, true, true, true, true, true, true, true, false, true, false, false, false] ((AA.put (some 13) (.agg #[.bool y1.Y.n, .slice y1.Y.A y1.Y.xs.length y1.Y.c, .bool y1.Y.m, .slice y1.Y.B y1.Y.ds.length y1.Y.d, .bool y1.U.n, .slice y1.U.A y1.U.xs.length y1.U.c, .bool y1.U.m, .slice y1.U.B y1.U.ds.length y1.U.d])).put (some 5) (.pointer (some ⟨q0, 0, none⟩))) W := by
   intro y1 q0 W hw L1 b0 z0 g0
   subst hOP
   subst hQQ
   subst hAA
   (try simp only [p0, p1, p2, p3])
   refine pR2 13 15 (fun K hK => ?_) (fun K hK => ?_)
   ·replace G := G.kp (Kept.of hw)
    replace H := H.kp (Kept.of hw)
    replace K5 := K5.on hw
    replace K10 := K10.on hw
    go_simp
    (go_at_call 62; with_reducible refine (b_thr G H.col2 hC).mono ?_)
    rintro _ W2 ⟨y2, rfl, L2, hb⟩
    (try go_wp2_with fail)
    have hw2 := hw.trans (hb.mono hw.size)
    refine hK.out _ _ (by exact ⟨K5.on hb, (K10.on hb).cs⟩) (fun hHeld => ?_)
    clear hK
    (try simp only [p1, p2, p3])
    have ky := kya_2_1 y1 y2 q0 W2 hw2 (L1.kp (Kept.of hb)) L2 (b0.on hb) (z0.on hb) g0 
    (try simp only [p0, p1, p2, p3] at ky)
    exact castL (by kernel_rfl) ky
   ·replace K5 := K5.on hw
    replace K10 := K10.on hw
    go_simp
    obtain ⟨V2, e2, hb, K2, Z2, -⟩ := alloc_new W [.bool false, .slice none 0 0, .bool false, .slice none 0 0, .bool false, .slice none 0 0, .bool false, .slice none 0 0] 105
    rw [← e2]
    clear e2
    have hw2 := hw.trans (hb.mono hw.size)
    refine hK.out _ _ (by exact ⟨K5.on hb, (K10.on hb).cs⟩) (fun hHeld => ?_)
    clear hK
    (try simp only [p1, p2, p3])
    have ky := kya_1_3 y1 q0 W.heap.size V2 hw2 (L1.kp (Kept.of hb)) (b0.on hb) (z0.on hb) g0 K2 Z2 hw.size (Nat.ne_of_lt b0.lt)
    (try simp only [p0, p1, p2, p3] at ky)
    exact castL (by kernel_rfl) ky
  have kya_1_2 : ∀ (y1 : Yv) (q1 : Nat) (W : World) (hw : Below Vd19.heap.size Vd19 W) (L1 : Gy W (q.thr ⟨r.a, r.c⟩) y1 (4 * C + 8)) (b1 : Box W q1 zcs8) (z1 : Fz W q1) (g1 : Vd19.heap.size ≤ q1) , wpAnyH Tryz.prog .any OP QQ (fun wx => Box wx (w.heap.size) [.bool m.A.n, .slice m.A.A m.A.xs.length m.A.c, .bool m.A.m, .slice m.A.B m.A.ds.length m.A.d, .bool m.B.n, .slice m.B.A m.B.xs.length m.B.c, .bool m.B.m, .slice m.B.B m.B.ds.length m.B.d, .bool m.C.n, .slice m.C.A m.C.xs.length m.C.c, .bool m.C.m, .slice m.C.B m.C.ds.length m.C.d, .bool m.D.n, .slice m.D.A m.D.xs.length m.D.c, .bool m.D.m, .slice m.D.B m.D.ds.length m.D.d] ∧ Cs wx (w.heap.size + 1) 0 [.bool n.A.n, .slice n.A.A n.A.xs.length n.A.c, .bool n.A.m, .slice n.A.B n.A.ds.length n.A.d, .bool n.B.n, .slice n.B.A n.B.xs.length n.B.c, .bool n.B.m, .slice n.B.B n.B.ds.length n.B.d, .bool n.C.n, .slice n.C.A n.C.xs.length n.C.c, .bool n.C.m, .slice n.C.B n.C.ds.length n.C.d, .bool n.D.n, .slice n.D.A n.D.xs.length n.D.c, .bool n.D.m, .slice n.D.B n.D.ds.length n.D.d]) 4 #[true, true, true, true, true, true, true, true, true, true, true, true, true, false, false, true, false, false] ((AA.put (some 13) (.agg #[.bool y1.Y.n, .slice y1.Y.A y1.Y.xs.length y1.Y.c, .bool y1.Y.m, .slice y1.Y.B y1.Y.ds.length y1.Y.d, .bool y1.U.n, .slice y1.U.A y1.U.xs.length y1.U.c, .bool y1.U.m, .slice y1.U.B y1.U.ds.length y1.U.d])).put (some 6) (.pointer (some ⟨q1, 0, none⟩))) W := by
   intro y1 q1 W hw L1 b1 z1 g1
   subst hOP
   subst hQQ
   subst hAA
   (try simp only [p0, p1, p2, p3])
   refine pR2 13 14 (fun K hK => ?_) (fun K hK => ?_)
   ·replace G := G.kp (Kept.of hw)
    replace H := H.kp (Kept.of hw)
    replace K5 := K5.on hw
    replace K10 := K10.on hw
    go_simp
    (go_at_call 62; with_reducible refine (b_thr G H.col2 hC).mono ?_)
    rintro _ W2 ⟨y2, rfl, L2, hb⟩
    (try go_wp2_with fail)
    have hw2 := hw.trans (hb.mono hw.size)
    refine hK.out _ _ (by exact ⟨K5.on hb, (K10.on hb).cs⟩) (fun hHeld => ?_)
    clear hK
    (try simp only [p1, p2, p3])
    have ky := kya_2_2 y1 y2 q1 W2 hw2 (L1.kp (Kept.of hb)) L2 (b1.on hb) (z1.on hb) g1 
    (try simp only [p0, p1, p2, p3] at ky)
    exact castL (by kernel_rfl) ky
   ·replace K5 := K5.on hw
    replace K10 := K10.on hw
    go_simp
    obtain ⟨V2, e2, hb, K2, Z2, -⟩ := alloc_new W [.bool false, .slice none 0 0, .bool false, .slice none 0 0, .bool false, .slice none 0 0, .bool false, .slice none 0 0] 105
    rw [← e2]
    clear e2
    have hw2 := hw.trans (hb.mono hw.size)
    refine hK.out _ _ (by exact ⟨K5.on hb, (K10.on hb).cs⟩) (fun hHeld => ?_)
    clear hK
    (try simp only [p1, p2, p3])
    have ky := kya_1_3 y1 W.heap.size q1 V2 hw2 (L1.kp (Kept.of hb)) K2 Z2 hw.size (b1.on hb) (z1.on hb) g1 (Nat.ne_of_lt b1.lt).symm
    (try simp only [p0, p1, p2, p3] at ky)
    exact castL (by kernel_rfl) ky
  have kya_2_0 : ∀ (y1 : Yv) (y2 : Yv)  (W : World) (hw : Below Vd19.heap.size Vd19 W) (L1 : Gy W (q.thr ⟨r.a, r.c⟩) y1 (4 * C + 8)) (L2 : Gy W (q.thr ⟨r.b, r.d⟩) y2 (4 * C + 8))  , wpAnyH Tryz.prog .any OP QQ (fun wx => Box wx (w.heap.size) [.bool m.A.n, .slice m.A.A m.A.xs.length m.A.c, .bool m.A.m, .slice m.A.B m.A.ds.length m.A.d, .bool m.B.n, .slice m.B.A m.B.xs.length m.B.c, .bool m.B.m, .slice m.B.B m.B.ds.length m.B.d, .bool m.C.n, .slice m.C.A m.C.xs.length m.C.c, .bool m.C.m, .slice m.C.B m.C.ds.length m.C.d, .bool m.D.n, .slice m.D.A m.D.xs.length m.D.c, .bool m.D.m, .slice m.D.B m.D.ds.length m.D.d] ∧ Cs wx (w.heap.size + 1) 0 [.bool n.A.n, .slice n.A.A n.A.xs.length n.A.c, .bool n.A.m, .slice n.A.B n.A.ds.length n.A.d, .bool n.B.n, .slice n.B.A n.B.xs.length n.B.c, .bool n.B.m, .slice n.B.B n.B.ds.length n.B.d, .bool n.C.n, .slice n.C.A n.C.xs.length n.C.c, .bool n.C.m, .slice n.C.B n.C.ds.length n.C.d, .bool n.D.n, .slice n.D.A n.D.xs.length n.D.c, .bool n.D.m, .slice n.D.B n.D.ds.length n.D.d]) 4 #[true, true, true, true, true, true, true, true, true, true, true, true, true, true, false, false, false, false] ((AA.put (some 13) (.agg #[.bool y1.Y.n, .slice y1.Y.A y1.Y.xs.length y1.Y.c, .bool y1.Y.m, .slice y1.Y.B y1.Y.ds.length y1.Y.d, .bool y1.U.n, .slice y1.U.A y1.U.xs.length y1.U.c, .bool y1.U.m, .slice y1.U.B y1.U.ds.length y1.U.d])).put (some 20) (.agg #[.bool y2.Y.n, .slice y2.Y.A y2.Y.xs.length y2.Y.c, .bool y2.Y.m, .slice y2.Y.B y2.Y.ds.length y2.Y.d, .bool y2.U.n, .slice y2.U.A y2.U.xs.length y2.U.c, .bool y2.U.m, .slice y2.U.B y2.U.ds.length y2.U.d])) W := by
   intro y1 y2 W hw L1 L2
   subst hOP
   subst hQQ
   subst hAA
   (try simp only [p0, p1, p2, p3])
   refine pR2 14 15 (fun K hK => ?_) (fun K hK => ?_)
   ·replace K5 := K5.on hw
    replace K10 := K10.on hw
    go_simp
    obtain ⟨V2, e2, hb, K2, Z2, -⟩ := alloc_new W [.bool false, .slice none 0 0, .bool false, .slice none 0 0, .bool false, .slice none 0 0, .bool false, .slice none 0 0] 105
    rw [← e2]
    clear e2
    have hw2 := hw.trans (hb.mono hw.size)
    refine hK.out _ _ (by exact ⟨K5.on hb, (K10.on hb).cs⟩) (fun hHeld => ?_)
    clear hK
    (try simp only [p1, p2, p3])
    have ky := kya_2_1 y1 y2 W.heap.size V2 hw2 (L1.kp (Kept.of hb)) (L2.kp (Kept.of hb)) K2 Z2 hw.size 
    (try simp only [p0, p1, p2, p3] at ky)
    exact castL (by kernel_rfl) ky
   ·replace K5 := K5.on hw
    replace K10 := K10.on hw
    go_simp
    obtain ⟨V2, e2, hb, K2, Z2, -⟩ := alloc_new W [.bool false, .slice none 0 0, .bool false, .slice none 0 0, .bool false, .slice none 0 0, .bool false, .slice none 0 0] 105
    rw [← e2]
    clear e2
    have hw2 := hw.trans (hb.mono hw.size)
    refine hK.out _ _ (by exact ⟨K5.on hb, (K10.on hb).cs⟩) (fun hHeld => ?_)
    clear hK
    (try simp only [p1, p2, p3])
    have ky := kya_2_2 y1 y2 W.heap.size V2 hw2 (L1.kp (Kept.of hb)) (L2.kp (Kept.of hb)) K2 Z2 hw.size 
    (try simp only [p0, p1, p2, p3] at ky)
    exact castL (by kernel_rfl) ky
  have kya_0_1 : ∀  (q0 : Nat) (W : World) (hw : Below Vd19.heap.size Vd19 W)  (b0 : Box W q0 zcs8) (z0 : Fz W q0) (g0 : Vd19.heap.size ≤ q0) , wpAnyH Tryz.prog .any OP QQ (fun wx => Box wx (w.heap.size) [.bool m.A.n, .slice m.A.A m.A.xs.length m.A.c, .bool m.A.m, .slice m.A.B m.A.ds.length m.A.d, .bool m.B.n, .slice m.B.A m.B.xs.length m.B.c, .bool m.B.m, .slice m.B.B m.B.ds.length m.B.d, .bool m.C.n, .slice m.C.A m.C.xs.length m.C.c, .bool m.C.m, .slice m.C.B m.C.ds.length m.C.d, .bool m.D.n, .slice m.D.A m.D.xs.length m.D.c, .bool m.D.m, .slice m.D.B m.D.ds.length m.D.d] ∧ Cs wx (w.heap.size + 1) 0 [.bool n.A.n, .slice n.A.A n.A.xs.length n.A.c, .bool n.A.m, .slice n.A.B n.A.ds.length n.A.d, .bool n.B.n, .slice n.B.A n.B.xs.length n.B.c, .bool n.B.m, .slice n.B.B n.B.ds.length n.B.d, .bool n.C.n, .slice n.C.A n.C.xs.length n.C.c, .bool n.C.m, .slice n.C.B n.C.ds.length n.C.d, .bool n.D.n, .slice n.D.A n.D.xs.length n.D.c, .bool n.D.m, .slice n.D.B n.D.ds.length n.D.d]) 5 #[true, true, true, true, true, true, false, true, true, true, true, true, true, false, true, false, false, false] (AA.put (some 5) (.pointer (some ⟨q0, 0, none⟩))) W := by
   intro q0 W hw b0 z0 g0
   subst hOP
   subst hQQ
   subst hAA
   (try simp only [p0, p1, p2, p3])
   refine pR2 6 15 (fun K hK => ?_) (fun K hK => ?_)
   ·replace G := G.kp (Kept.of hw)
    replace H := H.kp (Kept.of hw)
    replace K5 := K5.on hw
    replace K10 := K10.on hw
    go_simp
    (go_at_call 62; with_reducible refine (b_thr G H.col1 hC).mono ?_)
    rintro _ W2 ⟨y1, rfl, L1, hb⟩
    (try go_wp2_with fail)
    have hw2 := hw.trans (hb.mono hw.size)
    refine hK.out _ _ (by exact ⟨K5.on hb, (K10.on hb).cs⟩) (fun hHeld => ?_)
    clear hK
    (try simp only [p1, p2, p3])
    have ky := kya_1_1 y1 q0 W2 hw2 L1 (b0.on hb) (z0.on hb) g0 
    (try simp only [p0, p1, p2, p3] at ky)
    exact castL (by kernel_rfl) ky
   ·replace K5 := K5.on hw
    replace K10 := K10.on hw
    go_simp
    obtain ⟨V2, e2, hb, K2, Z2, -⟩ := alloc_new W [.bool false, .slice none 0 0, .bool false, .slice none 0 0, .bool false, .slice none 0 0, .bool false, .slice none 0 0] 105
    rw [← e2]
    clear e2
    have hw2 := hw.trans (hb.mono hw.size)
    refine hK.out _ _ (by exact ⟨K5.on hb, (K10.on hb).cs⟩) (fun hHeld => ?_)
    clear hK
    (try simp only [p1, p2, p3])
    have ky := kya_0_3  q0 W.heap.size V2 hw2  (b0.on hb) (z0.on hb) g0 K2 Z2 hw.size (Nat.ne_of_lt b0.lt)
    (try simp only [p0, p1, p2, p3] at ky)
    exact castL (by kernel_rfl) ky
  have kya_0_2 : ∀  (q1 : Nat) (W : World) (hw : Below Vd19.heap.size Vd19 W)  (b1 : Box W q1 zcs8) (z1 : Fz W q1) (g1 : Vd19.heap.size ≤ q1) , wpAnyH Tryz.prog .any OP QQ (fun wx => Box wx (w.heap.size) [.bool m.A.n, .slice m.A.A m.A.xs.length m.A.c, .bool m.A.m, .slice m.A.B m.A.ds.length m.A.d, .bool m.B.n, .slice m.B.A m.B.xs.length m.B.c, .bool m.B.m, .slice m.B.B m.B.ds.length m.B.d, .bool m.C.n, .slice m.C.A m.C.xs.length m.C.c, .bool m.C.m, .slice m.C.B m.C.ds.length m.C.d, .bool m.D.n, .slice m.D.A m.D.xs.length m.D.c, .bool m.D.m, .slice m.D.B m.D.ds.length m.D.d] ∧ Cs wx (w.heap.size + 1) 0 [.bool n.A.n, .slice n.A.A n.A.xs.length n.A.c, .bool n.A.m, .slice n.A.B n.A.ds.length n.A.d, .bool n.B.n, .slice n.B.A n.B.xs.length n.B.c, .bool n.B.m, .slice n.B.B n.B.ds.length n.B.d, .bool n.C.n, .slice n.C.A n.C.xs.length n.C.c, .bool n.C.m, .slice n.C.B n.C.ds.length n.C.d, .bool n.D.n, .slice n.D.A n.D.xs.length n.D.c, .bool n.D.m, .slice n.D.B n.D.ds.length n.D.d]) 5 #[true, true, true, true, true, true, false, true, true, true, true, true, true, false, false, true, false, false] (AA.put (some 6) (.pointer (some ⟨q1, 0, none⟩))) W := by
   intro q1 W hw b1 z1 g1
   subst hOP
   subst hQQ
   subst hAA
   (try simp only [p0, p1, p2, p3])
   refine pR2 6 14 (fun K hK => ?_) (fun K hK => ?_)
   ·replace G := G.kp (Kept.of hw)
    replace H := H.kp (Kept.of hw)
    replace K5 := K5.on hw
    replace K10 := K10.on hw
    go_simp
    (go_at_call 62; with_reducible refine (b_thr G H.col1 hC).mono ?_)
    rintro _ W2 ⟨y1, rfl, L1, hb⟩
    (try go_wp2_with fail)
    have hw2 := hw.trans (hb.mono hw.size)
    refine hK.out _ _ (by exact ⟨K5.on hb, (K10.on hb).cs⟩) (fun hHeld => ?_)
    clear hK
    (try simp only [p1, p2, p3])
    have ky := kya_1_2 y1 q1 W2 hw2 L1 (b1.on hb) (z1.on hb) g1 
    (try simp only [p0, p1, p2, p3] at ky)
    exact castL (by kernel_rfl) ky
   ·replace K5 := K5.on hw
    replace K10 := K10.on hw
    go_simp
    obtain ⟨V2, e2, hb, K2, Z2, -⟩ := alloc_new W [.bool false, .slice none 0 0, .bool false, .slice none 0 0, .bool false, .slice none 0 0, .bool false, .slice none 0 0] 105
    rw [← e2]
    clear e2
    have hw2 := hw.trans (hb.mono hw.size)
    refine hK.out _ _ (by exact ⟨K5.on hb, (K10.on hb).cs⟩) (fun hHeld => ?_)
    clear hK
    (try simp only [p1, p2, p3])
    have ky := kya_0_3  W.heap.size q1 V2 hw2  K2 Z2 hw.size (b1.on hb) (z1.on hb) g1 (Nat.ne_of_lt b1.lt).symm
    (try simp only [p0, p1, p2, p3] at ky)
    exact castL (by kernel_rfl) ky
  have kya_1_0 : ∀ (y1 : Yv)  (W : World) (hw : Below Vd19.heap.size Vd19 W) (L1 : Gy W (q.thr ⟨r.a, r.c⟩) y1 (4 * C + 8))  , wpAnyH Tryz.prog .any OP QQ (fun wx => Box wx (w.heap.size) [.bool m.A.n, .slice m.A.A m.A.xs.length m.A.c, .bool m.A.m, .slice m.A.B m.A.ds.length m.A.d, .bool m.B.n, .slice m.B.A m.B.xs.length m.B.c, .bool m.B.m, .slice m.B.B m.B.ds.length m.B.d, .bool m.C.n, .slice m.C.A m.C.xs.length m.C.c, .bool m.C.m, .slice m.C.B m.C.ds.length m.C.d, .bool m.D.n, .slice m.D.A m.D.xs.length m.D.c, .bool m.D.m, .slice m.D.B m.D.ds.length m.D.d] ∧ Cs wx (w.heap.size + 1) 0 [.bool n.A.n, .slice n.A.A n.A.xs.length n.A.c, .bool n.A.m, .slice n.A.B n.A.ds.length n.A.d, .bool n.B.n, .slice n.B.A n.B.xs.length n.B.c, .bool n.B.m, .slice n.B.B n.B.ds.length n.B.d, .bool n.C.n, .slice n.C.A n.C.xs.length n.C.c, .bool n.C.m, .slice n.C.B n.C.ds.length n.C.d, .bool n.D.n, .slice n.D.A n.D.xs.length n.D.c, .bool n.D.m, .slice n.D.B n.D.ds.length n.D.d]) 5 #[true, true, true, true, true, true, true, true, true, true, true, true, true, false, false, false, false, false] (AA.put (some 13) (.agg #[.bool y1.Y.n, .slice y1.Y.A y1.Y.xs.length y1.Y.c, .bool y1.Y.m, .slice y1.Y.B y1.Y.ds.length y1.Y.d, .bool y1.U.n, .slice y1.U.A y1.U.xs.length y1.U.c, .bool y1.U.m, .slice y1.U.B y1.U.ds.length y1.U.d])) W := by
   intro y1 W hw L1
   subst hOP
   subst hQQ
   subst hAA
   (try simp only [p0, p1, p2, p3])
   refine pR3 13 14 15 (fun K hK => ?_) (fun K hK => ?_) (fun K hK => ?_)
   ·replace G := G.kp (Kept.of hw)
    replace H := H.kp (Kept.of hw)
    replace K5 := K5.on hw
    replace K10 := K10.on hw
    go_simp
    (go_at_call 62; with_reducible refine (b_thr G H.col2 hC).mono ?_)
    rintro _ W2 ⟨y2, rfl, L2, hb⟩
    (try go_wp2_with fail)
    have hw2 := hw.trans (hb.mono hw.size)
    refine hK.out _ _ (by exact ⟨K5.on hb, (K10.on hb).cs⟩) (fun hHeld => ?_)
    clear hK
    (try simp only [p1, p2, p3])
    have ky := kya_2_0 y1 y2  W2 hw2 (L1.kp (Kept.of hb)) L2  
    (try simp only [p0, p1, p2, p3] at ky)
    exact castL (by kernel_rfl) ky
   ·replace K5 := K5.on hw
    replace K10 := K10.on hw
    go_simp
    obtain ⟨V2, e2, hb, K2, Z2, -⟩ := alloc_new W [.bool false, .slice none 0 0, .bool false, .slice none 0 0, .bool false, .slice none 0 0, .bool false, .slice none 0 0] 105
    rw [← e2]
    clear e2
    have hw2 := hw.trans (hb.mono hw.size)
    refine hK.out _ _ (by exact ⟨K5.on hb, (K10.on hb).cs⟩) (fun hHeld => ?_)
    clear hK
    (try simp only [p1, p2, p3])
    have ky := kya_1_1 y1 W.heap.size V2 hw2 (L1.kp (Kept.of hb)) K2 Z2 hw.size 
    (try simp only [p0, p1, p2, p3] at ky)
    exact castL (by kernel_rfl) ky
   ·replace K5 := K5.on hw
    replace K10 := K10.on hw
    go_simp
    obtain ⟨V2, e2, hb, K2, Z2, -⟩ := alloc_new W [.bool false, .slice none 0 0, .bool false, .slice none 0 0, .bool false, .slice none 0 0, .bool false, .slice none 0 0] 105
    rw [← e2]
    clear e2
    have hw2 := hw.trans (hb.mono hw.size)
    refine hK.out _ _ (by exact ⟨K5.on hb, (K10.on hb).cs⟩) (fun hHeld => ?_)
    clear hK
    (try simp only [p1, p2, p3])
    have ky := kya_1_2 y1 W.heap.size V2 hw2 (L1.kp (Kept.of hb)) K2 Z2 hw.size 
    (try simp only [p0, p1, p2, p3] at ky)
    exact castL (by kernel_rfl) ky
  have kya_0_0 : ∀   (W : World) (hw : Below Vd19.heap.size Vd19 W)   , wpAnyH Tryz.prog .any OP QQ (fun wx => Box wx (w.heap.size) [.bool m.A.n, .slice m.A.A m.A.xs.length m.A.c, .bool m.A.m, .slice m.A.B m.A.ds.length m.A.d, .bool m.B.n, .slice m.B.A m.B.xs.length m.B.c, .bool m.B.m, .slice m.B.B m.B.ds.length m.B.d, .bool m.C.n, .slice m.C.A m.C.xs.length m.C.c, .bool m.C.m, .slice m.C.B m.C.ds.length m.C.d, .bool m.D.n, .slice m.D.A m.D.xs.length m.D.c, .bool m.D.m, .slice m.D.B m.D.ds.length m.D.d] ∧ Cs wx (w.heap.size + 1) 0 [.bool n.A.n, .slice n.A.A n.A.xs.length n.A.c, .bool n.A.m, .slice n.A.B n.A.ds.length n.A.d, .bool n.B.n, .slice n.B.A n.B.xs.length n.B.c, .bool n.B.m, .slice n.B.B n.B.ds.length n.B.d, .bool n.C.n, .slice n.C.A n.C.xs.length n.C.c, .bool n.C.m, .slice n.C.B n.C.ds.length n.C.d, .bool n.D.n, .slice n.D.A n.D.xs.length n.D.c, .bool n.D.m, .slice n.D.B n.D.ds.length n.D.d]) 6 #[true, true, true, true, true, true, false, true, true, true, true, true, true, false, false, false, false, false] AA W := by
   intro W hw
   subst hOP
   subst hQQ
   subst hAA
   (try simp only [p0, p1, p2, p3])
   refine pR3 6 14 15 (fun K hK => ?_) (fun K hK => ?_) (fun K hK => ?_)
   ·replace G := G.kp (Kept.of hw)
    replace H := H.kp (Kept.of hw)
    replace K5 := K5.on hw
    replace K10 := K10.on hw
    go_simp
    (go_at_call 62; with_reducible refine (b_thr G H.col1 hC).mono ?_)
    rintro _ W2 ⟨y1, rfl, L1, hb⟩
    (try go_wp2_with fail)
    have hw2 := hw.trans (hb.mono hw.size)
    refine hK.out _ _ (by exact ⟨K5.on hb, (K10.on hb).cs⟩) (fun hHeld => ?_)
    clear hK
    (try simp only [p1, p2, p3])
    have ky := kya_1_0 y1  W2 hw2 L1  
    (try simp only [p0, p1, p2, p3] at ky)
    exact castL (by kernel_rfl) ky
   ·replace K5 := K5.on hw
    replace K10 := K10.on hw
    go_simp
    obtain ⟨V2, e2, hb, K2, Z2, -⟩ := alloc_new W [.bool false, .slice none 0 0, .bool false, .slice none 0 0, .bool false, .slice none 0 0, .bool false, .slice none 0 0] 105
    rw [← e2]
    clear e2
    have hw2 := hw.trans (hb.mono hw.size)
    refine hK.out _ _ (by exact ⟨K5.on hb, (K10.on hb).cs⟩) (fun hHeld => ?_)
    clear hK
    (try simp only [p1, p2, p3])
    have ky := kya_0_1  W.heap.size V2 hw2  K2 Z2 hw.size 
    (try simp only [p0, p1, p2, p3] at ky)
    exact castL (by kernel_rfl) ky
   ·replace K5 := K5.on hw
    replace K10 := K10.on hw
    go_simp
    obtain ⟨V2, e2, hb, K2, Z2, -⟩ := alloc_new W [.bool false, .slice none 0 0, .bool false, .slice none 0 0, .bool false, .slice none 0 0, .bool false, .slice none 0 0] 105
    rw [← e2]
    clear e2
    have hw2 := hw.trans (hb.mono hw.size)
    refine hK.out _ _ (by exact ⟨K5.on hb, (K10.on hb).cs⟩) (fun hHeld => ?_)
    clear hK
    (try simp only [p1, p2, p3])
    have ky := kya_0_2  W.heap.size V2 hw2  K2 Z2 hw.size 
    (try simp only [p0, p1, p2, p3] at ky)
    exact castL (by kernel_rfl) ky
  exact castL (by kernel_rfl) (kya_0_0 Vd19 (Below.refl _ _))
 case rest =>
  obtain ⟨pka_0, pka_1, y1, y2, rfl, rfl, BW, K14, Z15, KNa_0, KNa_1, nn19, nn20, L1, L2⟩ := hcut
  obtain ⟨c21, c22, c23, c24, c25, c26, c27, c28, c29, c30, c31, c32, c33, c34, c35, c36⟩ := K14.c16
  obtain ⟨c37, c38, c39, c40, c41, c42, c43, c44, c45, c46, c47, c48, c49, c50, c51, c52⟩ := Z15.f16
  obtain ⟨c53, c54, c55, c56, c57, c58, c59, c60⟩ := KNa_0.c8
  obtain ⟨c61, c62, c63, c64, c65, c66, c67, c68⟩ := KNa_1.c8
  obtain ⟨V69, hk71⟩ : ∃ V69, V69 = wc.setCells (w.heap.size + 1 + 1) 0 [.bool y1.Y.n, .slice y1.Y.A y1.Y.xs.length y1.Y.c, .bool y1.Y.m, .slice y1.Y.B y1.Y.ds.length y1.Y.d, .bool y2.Y.n, .slice y2.Y.A y2.Y.xs.length y2.Y.c, .bool y2.Y.m, .slice y2.Y.B y2.Y.ds.length y2.Y.d, .bool y1.U.n, .slice y1.U.A y1.U.xs.length y1.U.c, .bool y1.U.m, .slice y1.U.B y1.U.ds.length y1.U.d, .bool y2.U.n, .slice y2.U.A y2.U.xs.length y2.U.c, .bool y2.U.m, .slice y2.U.B y2.U.ds.length y2.U.d] := ⟨_, rfl⟩
  have e70 := hk71
  simp only [World.setCells, Nat.zero_add, Nat.reduceAdd] at e70
  have hk72 := Kept.overE hk71 K14 rfl (Nat.le_of_ble_eq_true rfl)
  replace K14 := K14.overE hk71 rfl
  replace L1 := L1.kp hk72
  replace L2 := L2.kp hk72
  replace BW := Below.putE BW hk71 gz
  clear hk71 hk72
  go_wp2_with fail
  clear c21 c22 c23 c24 c25 c26 c27 c28 c29 c30 c31 c32 c33 c34 c35 c36 c37 c38 c39 c40 c41 c42 c43 c44 c45 c46 c47 c48 c49 c50 c51 c52 c53 c54 c55 c56 c57 c58 c59 c60 c61 c62 c63 c64 c65 c66 c67 c68
  rw [← e70]
  clear e70
  exact bodyPost_ret (v := .agg #[.bool y1.Y.n, .slice y1.Y.A y1.Y.xs.length y1.Y.c, .bool y1.Y.m, .slice y1.Y.B y1.Y.ds.length y1.Y.d, .bool y2.Y.n, .slice y2.Y.A y2.Y.xs.length y2.Y.c, .bool y2.Y.m, .slice y2.Y.B y2.Y.ds.length y2.Y.d, .bool y1.U.n, .slice y1.U.A y1.U.xs.length y1.U.c, .bool y1.U.m, .slice y1.U.B y1.U.ds.length y1.U.d, .bool y2.U.n, .slice y2.U.A y2.U.xs.length y2.U.c, .bool y2.U.m, .slice y2.U.B y2.U.ds.length y2.U.d]) (res_L Tryz.results77 (by rfl) K14 rfl) rfl ⟨⟨y1.Y, y2.Y, y1.U, y2.U⟩, rfl, ⟨L1.gY, L2.gY, L1.gU, L2.gU⟩, BW⟩
set_option maxHeartbeats 8000000 in
set_option maxRecDepth 20000 in
theorem b_both {q r : Mq} {m n : Mv} {C : Nat} {w : World} (G : Gm w q m C) (H : Gm w r n C) (hC : 2 * C + 2 ≤ 1759218604390) :
  Calls Tryz.prog 76 #[mv m, mv n] w (GMx w (r.mul q) (4 * C + 8)) := by
 have BW : Below w.heap.size w w := Below.refl _ _
 obtain ⟨V2, e3, hb4, K5, -, z1⟩ := alloc_new w [.bool m.A.n, .slice m.A.A m.A.xs.length m.A.c, .bool m.A.m, .slice m.A.B m.A.ds.length m.A.d, .bool m.B.n, .slice m.B.A m.B.xs.length m.B.c, .bool m.B.m, .slice m.B.B m.B.ds.length m.B.d, .bool m.C.n, .slice m.C.A m.C.xs.length m.C.c, .bool m.C.m, .slice m.C.B m.C.ds.length m.C.d, .bool m.D.n, .slice m.D.A m.D.xs.length m.D.c, .bool m.D.m, .slice m.D.B m.D.ds.length m.D.d] 76
 replace K5 : Box V2 (w.heap.size) (mcs m) := K5
 replace G := G.kp (Kept.of hb4)
 replace H := H.kp (Kept.of hb4)
 replace BW := BW.trans (hb4.mono BW.size)
 clear hb4
 obtain ⟨V7, e8, hb9, K10, -, z6⟩ := alloc_new V2 [.bool n.A.n, .slice n.A.A n.A.xs.length n.A.c, .bool n.A.m, .slice n.A.B n.A.ds.length n.A.d, .bool n.B.n, .slice n.B.A n.B.xs.length n.B.c, .bool n.B.m, .slice n.B.B n.B.ds.length n.B.d, .bool n.C.n, .slice n.C.A n.C.xs.length n.C.c, .bool n.C.m, .slice n.C.B n.C.ds.length n.C.d, .bool n.D.n, .slice n.D.A n.D.xs.length n.D.c, .bool n.D.m, .slice n.D.B n.D.ds.length n.D.d] 76
 rw [z1] at K10 z6
 replace K10 : Box V7 (w.heap.size + 1) (mcs n) := K10
 replace K5 := K5.on hb9
 replace G := G.kp (Kept.of hb9)
 replace H := H.kp (Kept.of hb9)
 replace BW := BW.trans (hb9.mono BW.size)
 clear hb9
 obtain ⟨V11, e12, hb13, K14, Z15, -⟩ := alloc_new V7 [.bool false, .slice none 0 0, .bool false, .slice none 0 0, .bool false, .slice none 0 0, .bool false, .slice none 0 0, .bool false, .slice none 0 0, .bool false, .slice none 0 0, .bool false, .slice none 0 0, .bool false, .slice none 0 0] 76
 rw [z6] at K14 Z15
 replace K14 : Box V11 (w.heap.size + 1 + 1) (zcs16) := K14
 have n16 : w.heap.size ≠ w.heap.size + 1 + 1 := Nat.ne_of_lt (z6 ▸ K5.lt)
 have n17 : w.heap.size + 1 ≠ w.heap.size + 1 + 1 := Nat.ne_of_lt (z6 ▸ K10.lt)
 have g18 : w.heap.size ≤ w.heap.size + 1 + 1 := z6 ▸ BW.size
 replace K5 := K5.on hb13
 replace K10 := K10.on hb13
 replace G := G.kp (Kept.of hb13)
 replace H := H.kp (Kept.of hb13)
 replace BW := BW.trans (hb13.mono BW.size)
 clear hb13
 clear z1 z6
 go_enter Tryz.func76, Tryz.ntmps76
 go_upto_region 1 with fail
 rw [← e3, ← e8, ← e12]
 clear e3 e8 e12
 have c19 : Box V11 (w.heap.size + 1) [.bool n.A.n, .slice n.A.A n.A.xs.length n.A.c, .bool n.A.m, .slice n.A.B n.A.ds.length n.A.d, .bool n.B.n, .slice n.B.A n.B.xs.length n.B.c, .bool n.B.m, .slice n.B.B n.B.ds.length n.B.d, .bool n.C.n, .slice n.C.A n.C.xs.length n.C.c, .bool n.C.m, .slice n.C.B n.C.ds.length n.C.d, .bool n.D.n, .slice n.D.A n.D.xs.length n.D.c, .bool n.D.m, .slice n.D.B n.D.ds.length n.D.d] := K10
 have c20 : Box V11 (w.heap.size) [.bool m.A.n, .slice m.A.A m.A.xs.length m.A.c, .bool m.A.m, .slice m.A.B m.A.ds.length m.A.d, .bool m.B.n, .slice m.B.A m.B.xs.length m.B.c, .bool m.B.m, .slice m.B.B m.B.ds.length m.B.d, .bool m.C.n, .slice m.C.A m.C.xs.length m.C.c, .bool m.C.m, .slice m.C.B m.C.ds.length m.C.d, .bool m.D.n, .slice m.D.A m.D.xs.length m.D.c, .bool m.D.m, .slice m.D.B m.D.ds.length m.D.d] := K5
 go_wp2_with (first | (refine wpList_ldL (by rfl) (by rfl) (by rfl) c19 (by rfl) ?_) | (refine wpList_ldL (by rfl) (by rfl) (by rfl) c20 (by rfl) ?_))
 clear c19 c20
 refine (b_mul H G hC).mono ?_
 rintro _ w21 ⟨f, rfl, L, hb⟩
 replace K14 := K14.on hb
 replace Z15 := Z15.on hb
 replace BW := BW.trans (hb.mono BW.size)
 clear hb
 obtain ⟨c22, c23, c24, c25, c26, c27, c28, c29, c30, c31, c32, c33, c34, c35, c36, c37⟩ := K14.c16
 obtain ⟨c38, c39, c40, c41, c42, c43, c44, c45, c46, c47, c48, c49, c50, c51, c52, c53⟩ := Z15.f16
 obtain ⟨V54, hk56⟩ : ∃ V54, V54 = w21.setCells (w.heap.size + 1 + 1) 0 [.bool f.A.n, .slice f.A.A f.A.xs.length f.A.c, .bool f.A.m, .slice f.A.B f.A.ds.length f.A.d, .bool f.B.n, .slice f.B.A f.B.xs.length f.B.c, .bool f.B.m, .slice f.B.B f.B.ds.length f.B.d, .bool f.C.n, .slice f.C.A f.C.xs.length f.C.c, .bool f.C.m, .slice f.C.B f.C.ds.length f.C.d, .bool f.D.n, .slice f.D.A f.D.xs.length f.D.c, .bool f.D.m, .slice f.D.B f.D.ds.length f.D.d] := ⟨_, rfl⟩
 have e55 := hk56
 simp only [World.setCells, Nat.zero_add, Nat.reduceAdd] at e55
 have hk57 := Kept.overE hk56 K14 rfl (Nat.le_of_ble_eq_true rfl)
 replace K14 := K14.overE hk56 rfl
 replace L := L.kp hk57
 replace BW := Below.putE BW hk56 g18
 clear hk56 hk57
 replace K14 : Box V54 (w.heap.size + 1 + 1) (mcs f) := K14
 go_wp2_with fail
 clear c22 c23 c24 c25 c26 c27 c28 c29 c30 c31 c32 c33 c34 c35 c36 c37 c38 c39 c40 c41 c42 c43 c44 c45 c46 c47 c48 c49 c50 c51 c52 c53
 rw [← e55]
 clear e55
 exact bodyPost_ret (v := mv f) (res_L Tryz.results76 (by rfl) K14 rfl) rfl ⟨f, rfl, L, BW⟩
end Go.Proofs.YtjamfkafgfpobaaGreat
