/-
 One matrix behind another, of any size. Conditions: that they are no longer than memory.
-/
import Derived.Test.YtplgheabhekedaaGreatBm1
import Derived.Deep.RegionHeld3
import Derived.Deep.DeepCutAuto
import Derived.BigRegion
namespace Go.Proofs.YtplgheabhekedaaGreat
open Go.RowKit Nb
set_option maxHeartbeats 16000000 in
set_option maxRecDepth 20000 in
theorem b_mul {q r : Mq} {m n : Mv} {C : Nat} {w : World} (G : Gm w q m C) (H : Gm w r n C) (hC : 2 * C + 2 ≤ 1759218604390) :
  Calls Tryz.prog 56 #[mv m, mv n] w (GMx w (q.mul r) (4 * C + 8)) := by
 have BW : Below w.heap.size w w := Below.refl _ _
 obtain ⟨V2, e3, hb4, K5, -, z1⟩ := alloc_new w [.bool m.A.n, .slice m.A.A m.A.xs.length m.A.c, .bool m.A.m, .slice m.A.B m.A.ds.length m.A.d, .bool m.B.n, .slice m.B.A m.B.xs.length m.B.c, .bool m.B.m, .slice m.B.B m.B.ds.length m.B.d, .bool m.C.n, .slice m.C.A m.C.xs.length m.C.c, .bool m.C.m, .slice m.C.B m.C.ds.length m.C.d, .bool m.D.n, .slice m.D.A m.D.xs.length m.D.c, .bool m.D.m, .slice m.D.B m.D.ds.length m.D.d] 90
 replace K5 : Box V2 (w.heap.size) (mcs m) := K5
 replace G := G.kp (Kept.of hb4)
 replace H := H.kp (Kept.of hb4)
 replace BW := BW.trans (hb4.mono BW.size)
 clear hb4
 obtain ⟨V7, e8, hb9, K10, -, z6⟩ := alloc_new V2 [.bool n.A.n, .slice n.A.A n.A.xs.length n.A.c, .bool n.A.m, .slice n.A.B n.A.ds.length n.A.d, .bool n.B.n, .slice n.B.A n.B.xs.length n.B.c, .bool n.B.m, .slice n.B.B n.B.ds.length n.B.d, .bool n.C.n, .slice n.C.A n.C.xs.length n.C.c, .bool n.C.m, .slice n.C.B n.C.ds.length n.C.d, .bool n.D.n, .slice n.D.A n.D.xs.length n.D.c, .bool n.D.m, .slice n.D.B n.D.ds.length n.D.d] 90
 rw [z1] at K10 z6
 replace K10 : Box V7 (w.heap.size + 1) (mcs n) := K10
 replace K5 := K5.on hb9
 replace G := G.kp (Kept.of hb9)
 replace H := H.kp (Kept.of hb9)
 replace BW := BW.trans (hb9.mono BW.size)
 clear hb9
 obtain ⟨V11, e12, hb13, K14, Z15, -⟩ := alloc_new V7 [.bool false, .slice none 0 0, .bool false, .slice none 0 0, .bool false, .slice none 0 0, .bool false, .slice none 0 0, .bool false, .slice none 0 0, .bool false, .slice none 0 0, .bool false, .slice none 0 0, .bool false, .slice none 0 0] 90
 rw [z6] at K14 Z15
 replace K14 : Box V11 (w.heap.size + 1 + 1) (zcs16) := K14
 have n16 : w.heap.size ≠ w.heap.size + 1 + 1 := Nat.ne_of_lt (z6 ▸ K5.lt)
 have n17 : w.heap.size + 1 ≠ w.heap.size + 1 + 1 := Nat.ne_of_lt (z6 ▸ K10.lt)
 have g18 : w.heap.size ≤ w.heap.size + 1 + 1 := z6 ▸ BW.size
 replace K5 := K5.on hb13
 replace K10 := K10.on hb13
 replace G := G.kp (Kept.of hb13)
 replace H := H.kp (Kept.of hb13)
 replace BW := BW.trans (hb13.mono BW.size)
 clear hb13
 clear z1 z6
 go_enter Tryz.func56, Tryz.ntmps56
 go_wp2_with fail
 rw [← e3, ← e8, ← e12]
 clear e3 e8 e12
 have gz : w.heap.size ≤ w.heap.size + 1 + 1 := by omega
 go_cut [5, 6] (fun sv0 sv1 wx => ∃ (pka_0 pka_1 : Nat) (y1 : Yv) (y2 : Yv), sv0 = .pointer (some ⟨pka_0, 0, none⟩) ∧ sv1 = .pointer (some ⟨pka_1, 0, none⟩) ∧ Below w.heap.size w wx ∧ Box wx (w.heap.size) (mcs m) ∧ Box wx (w.heap.size + 1) (mcs n) ∧ Box wx (w.heap.size + 1 + 1) (zcs16) ∧ Fz wx (w.heap.size + 1 + 1) ∧ Gm wx q m C ∧ Gm wx r n C ∧ Box wx pka_0 (ycs y1) ∧ Box wx pka_1 (ycs y2) ∧ pka_0 ≠ w.heap.size + 1 + 1 ∧ pka_1 ≠ w.heap.size + 1 + 1 ∧ Gy wx (q.thr ⟨r.a, r.c⟩) y1 (4 * C + 8) ∧ Gy wx (q.thr ⟨r.b, r.d⟩) y2 (4 * C + 8))
 case first =>
  refine wp_region_noPanic ?_
  have hb : Below V11.heap.size V11 V11.drew := (Below.refl _ _).drew
  replace K5 := K5.on hb
  replace K10 := K10.on hb
  replace K14 := K14.on hb
  replace Z15 := Z15.on hb
  replace G := G.kp (Kept.of hb)
  replace H := H.kp (Kept.of hb)
  replace BW := BW.trans (hb.mono BW.size)
  clear hb
  refine wp_region_held_drew (S := (fun wx => Box wx (w.heap.size) [.bool m.A.n, .slice m.A.A m.A.xs.length m.A.c, .bool m.A.m, .slice m.A.B m.A.ds.length m.A.d, .bool m.B.n, .slice m.B.A m.B.xs.length m.B.c, .bool m.B.m, .slice m.B.B m.B.ds.length m.B.d, .bool m.C.n, .slice m.C.A m.C.xs.length m.C.c, .bool m.C.m, .slice m.C.B m.C.ds.length m.C.d, .bool m.D.n, .slice m.D.A m.D.xs.length m.D.c, .bool m.D.m, .slice m.D.B m.D.ds.length m.D.d] ∧ Cs wx (w.heap.size + 1) 0 [.bool n.A.n, .slice n.A.A n.A.xs.length n.A.c, .bool n.A.m, .slice n.A.B n.A.ds.length n.A.d, .bool n.B.n, .slice n.B.A n.B.xs.length n.B.c, .bool n.B.m, .slice n.B.B n.B.ds.length n.B.d, .bool n.C.n, .slice n.C.A n.C.xs.length n.C.c, .bool n.C.m, .slice n.C.B n.C.ds.length n.C.d, .bool n.D.n, .slice n.D.A n.D.xs.length n.D.c, .bool n.D.m, .slice n.D.B n.D.ds.length n.D.d])) (by kernel_rfl) (by exact ⟨K5, K10.cs⟩) (fun hHeld => ?_)
  generalize V11.drew = Vd19 at *
  refine pT 0 ?_ (hy := fun wt hSw => ldL rfl rfl hSw.1)
  (try simp only [p0, p1, p2, p3])
  refine pT 1 ?_
  (try simp only [p0, p1, p2, p3])
  refine pT 2 ?_
  (try simp only [p0, p1, p2, p3])
  refine pT 3 ?_
  (try simp only [p0, p1, p2, p3])
  refine pT 4 ?_
  (try simp only [p0, p1, p2, p3])
  refine pT 5 ?_
  (try simp only [p0, p1, p2, p3])
  refine pT 7 ?_ (hy := fun wt hSw => ldL rfl rfl hSw.1)
  (try simp only [p0, p1, p2, p3])
  refine pT 8 ?_
  (try simp only [p0, p1, p2, p3])
  refine pT 9 ?_
  (try simp only [p0, p1, p2, p3])
  refine pT 10 ?_
  (try simp only [p0, p1, p2, p3])
  refine pT 11 ?_
  (try simp only [p0, p1, p2, p3])
  refine pT 12 ?_
  (try simp only [p0, p1, p2, p3])
  refine pR3 6 14 15 (fun K hK => ?_) (fun K hK => ?_) (fun K hK => ?_)
  ·go_simp
   (go_at_call 81; with_reducible refine (b_thr G H.col1 hC).mono ?_)
   rintro _ w20 ⟨y1, rfl, L1, hb⟩
   (try go_wp2_with fail)
   replace K5 := K5.on hb
   replace K10 := K10.on hb
   replace K14 := K14.on hb
   replace Z15 := Z15.on hb
   replace G := G.kp (Kept.of hb)
   replace H := H.kp (Kept.of hb)
   replace BW := BW.trans (hb.mono BW.size)
   clear hb
   clear hHeld
   refine hK.out _ _ (by exact ⟨K5, K10.cs⟩) (fun hHeld => ?_)
   clear hK
   (try simp only [p0, p1, p2, p3])
   refine pR3 13 14 15 (fun K hK => ?_) (fun K hK => ?_) (fun K hK => ?_)
   ·go_simp
    (go_at_call 81; with_reducible refine (b_thr G H.col2 hC).mono ?_)
    rintro _ w21 ⟨y2, rfl, L2, hb⟩
    (try go_wp2_with fail)
    replace K5 := K5.on hb
    replace K10 := K10.on hb
    replace K14 := K14.on hb
    replace Z15 := Z15.on hb
    replace G := G.kp (Kept.of hb)
    replace H := H.kp (Kept.of hb)
    replace L1 := L1.kp (Kept.of hb)
    replace BW := BW.trans (hb.mono BW.size)
    clear hb
    clear hHeld
    refine hK.out _ _ (by exact ⟨K5, K10.cs⟩) (fun hHeld => ?_)
    clear hK
    (try simp only [p0, p1, p2, p3])
    refine pR2 14 15 (fun K hK => ?_) (fun K hK => ?_)
    ·go_simp
     obtain ⟨V22, e23, hb24, K25, Z26, -⟩ := alloc_new w21 [.bool false, .slice none 0 0, .bool false, .slice none 0 0, .bool false, .slice none 0 0, .bool false, .slice none 0 0] 122
     replace K25 : Box V22 (w21.heap.size) (zcs8) := K25
     have n27 : w.heap.size ≠ w21.heap.size := Nat.ne_of_lt (K5.lt)
     have n28 : w.heap.size + 1 ≠ w21.heap.size := Nat.ne_of_lt (K10.lt)
     have n29 : w.heap.size + 1 + 1 ≠ w21.heap.size := Nat.ne_of_lt (K14.lt)
     have g30 : w.heap.size ≤ w21.heap.size := BW.size
     replace K5 := K5.on hb24
     replace K10 := K10.on hb24
     replace K14 := K14.on hb24
     replace Z15 := Z15.on hb24
     replace G := G.kp (Kept.of hb24)
     replace H := H.kp (Kept.of hb24)
     replace L1 := L1.kp (Kept.of hb24)
     replace L2 := L2.kp (Kept.of hb24)
     replace BW := BW.trans (hb24.mono BW.size)
     clear hb24
     rw [← e23]
     clear e23
     generalize w21.heap.size = b31 at *
     clear hHeld
     refine hK.out _ _ (by exact ⟨K5, K10.cs⟩) (fun hHeld => ?_)
     clear hK
     (try simp only [p0, p1, p2, p3])
     refine pR1 15 (fun K hK => ?_)
     go_simp
     obtain ⟨V32, e33, hb34, K35, Z36, -⟩ := alloc_new V22 [.bool false, .slice none 0 0, .bool false, .slice none 0 0, .bool false, .slice none 0 0, .bool false, .slice none 0 0] 122
     replace K35 : Box V32 (V22.heap.size) (zcs8) := K35
     have n37 : w.heap.size ≠ V22.heap.size := Nat.ne_of_lt (K5.lt)
     have n38 : w.heap.size + 1 ≠ V22.heap.size := Nat.ne_of_lt (K10.lt)
     have n39 : w.heap.size + 1 + 1 ≠ V22.heap.size := Nat.ne_of_lt (K14.lt)
     have n40 : b31 ≠ V22.heap.size := Nat.ne_of_lt (K25.lt)
     have g41 : w.heap.size ≤ V22.heap.size := BW.size
     replace K5 := K5.on hb34
     replace K10 := K10.on hb34
     replace K14 := K14.on hb34
     replace K25 := K25.on hb34
     replace Z15 := Z15.on hb34
     replace Z26 := Z26.on hb34
     replace G := G.kp (Kept.of hb34)
     replace H := H.kp (Kept.of hb34)
     replace L1 := L1.kp (Kept.of hb34)
     replace L2 := L2.kp (Kept.of hb34)
     replace BW := BW.trans (hb34.mono BW.size)
     clear hb34
     rw [← e33]
     clear e33
     generalize V22.heap.size = b42 at *
     clear hHeld
     refine hK.out _ _ (by exact ⟨K5, K10.cs⟩) (fun hHeld => ?_)
     clear hK
     (try simp only [p0, p1, p2, p3])
     refine pR1 16 (fun K hK => ?_)
     obtain ⟨c43, c44, c45, c46, c47, c48, c49, c50⟩ := K25.c8
     obtain ⟨c51, c52, c53, c54, c55, c56, c57, c58⟩ := Z26.f8
     go_simp
     clear c43 c44 c45 c46 c47 c48 c49 c50 c51 c52 c53 c54 c55 c56 c57 c58
     obtain ⟨V59, hk61⟩ : ∃ V59, V59 = V32.setCells (b31) 0 [.bool y1.Y.n, .slice y1.Y.A y1.Y.xs.length y1.Y.c, .bool y1.Y.m, .slice y1.Y.B y1.Y.ds.length y1.Y.d, .bool y1.U.n, .slice y1.U.A y1.U.xs.length y1.U.c, .bool y1.U.m, .slice y1.U.B y1.U.ds.length y1.U.d] := ⟨_, rfl⟩
     have e60 := hk61
     simp only [World.setCells, Nat.zero_add, Nat.reduceAdd] at e60
     have hk62 := Kept.overE hk61 K25 rfl (Nat.le_of_ble_eq_true rfl)
     replace K5 := K5.awayE hk61 n27
     replace K10 := K10.awayE hk61 n28
     replace K14 := K14.awayE hk61 n29
     replace K25 := K25.overE hk61 rfl
     replace K35 := K35.awayE hk61 n40.symm
     replace Z15 := Z15.putE hk61
     replace Z26 := Z26.putE hk61
     replace Z36 := Z36.putE hk61
     replace G := G.kp hk62
     replace H := H.kp hk62
     replace L1 := L1.kp hk62
     replace L2 := L2.kp hk62
     replace BW := Below.putE BW hk61 g30
     clear hk61 hk62
     replace K25 : Box V59 (b31) (ycs y1) := K25
     rw [← e60]
     clear e60
     clear hHeld
     refine hK.out _ _ (by exact ⟨K5, K10.cs⟩) (fun hHeld => ?_)
     clear hK
     (try simp only [p0, p1, p2, p3])
     refine pR1 17 (fun K hK => ?_)
     obtain ⟨c63, c64, c65, c66, c67, c68, c69, c70⟩ := K35.c8
     obtain ⟨c71, c72, c73, c74, c75, c76, c77, c78⟩ := Z36.f8
     go_simp
     clear c63 c64 c65 c66 c67 c68 c69 c70 c71 c72 c73 c74 c75 c76 c77 c78
     obtain ⟨V79, hk81⟩ : ∃ V79, V79 = V59.setCells (b42) 0 [.bool y2.Y.n, .slice y2.Y.A y2.Y.xs.length y2.Y.c, .bool y2.Y.m, .slice y2.Y.B y2.Y.ds.length y2.Y.d, .bool y2.U.n, .slice y2.U.A y2.U.xs.length y2.U.c, .bool y2.U.m, .slice y2.U.B y2.U.ds.length y2.U.d] := ⟨_, rfl⟩
     have e80 := hk81
     simp only [World.setCells, Nat.zero_add, Nat.reduceAdd] at e80
     have hk82 := Kept.overE hk81 K35 rfl (Nat.le_of_ble_eq_true rfl)
     replace K5 := K5.awayE hk81 n37
     replace K10 := K10.awayE hk81 n38
     replace K14 := K14.awayE hk81 n39
     replace K25 := K25.awayE hk81 n40
     replace K35 := K35.overE hk81 rfl
     replace Z15 := Z15.putE hk81
     replace Z26 := Z26.putE hk81
     replace Z36 := Z36.putE hk81
     replace G := G.kp hk82
     replace H := H.kp hk82
     replace L1 := L1.kp hk82
     replace L2 := L2.kp hk82
     replace BW := Below.putE BW hk81 g41
     clear hk81 hk82
     replace K35 : Box V79 (b42) (ycs y2) := K35
     rw [← e80]
     clear e80
     clear hHeld
     refine hK.out _ _ (by exact ⟨K5, K10.cs⟩) (fun hHeld => ?_)
     clear hK
     (try simp only [p0, p1, p2, p3])
     refine wpAnyH_done (by kernel_rfl) (NoPanic.normal ?_) _
     go_wp2
     go_meet
     exact ⟨b31, b42, y1, y2, rfl, rfl, BW, K5, K10, K14, Z15, G, H, K25, K35, n29.symm, n39.symm, L1, L2⟩
    ·go_simp
     obtain ⟨V22, e23, hb24, K25, Z26, -⟩ := alloc_new w21 [.bool false, .slice none 0 0, .bool false, .slice none 0 0, .bool false, .slice none 0 0, .bool false, .slice none 0 0] 122
     replace K25 : Box V22 (w21.heap.size) (zcs8) := K25
     have n27 : w.heap.size ≠ w21.heap.size := Nat.ne_of_lt (K5.lt)
     have n28 : w.heap.size + 1 ≠ w21.heap.size := Nat.ne_of_lt (K10.lt)
     have n29 : w.heap.size + 1 + 1 ≠ w21.heap.size := Nat.ne_of_lt (K14.lt)
     have g30 : w.heap.size ≤ w21.heap.size := BW.size
     replace K5 := K5.on hb24
     replace K10 := K10.on hb24
     replace K14 := K14.on hb24
     replace Z15 := Z15.on hb24
     replace G := G.kp (Kept.of hb24)
     replace H := H.kp (Kept.of hb24)
     replace L1 := L1.kp (Kept.of hb24)
     replace L2 := L2.kp (Kept.of hb24)
     replace BW := BW.trans (hb24.mono BW.size)
     clear hb24
     rw [← e23]
     clear e23
     generalize w21.heap.size = b31 at *
     clear hHeld
     refine hK.out _ _ (by exact ⟨K5, K10.cs⟩) (fun hHeld => ?_)
     clear hK
     (try simp only [p0, p1, p2, p3])
     refine pR1 14 (fun K hK => ?_)
     go_simp
     obtain ⟨V32, e33, hb34, K35, Z36, -⟩ := alloc_new V22 [.bool false, .slice none 0 0, .bool false, .slice none 0 0, .bool false, .slice none 0 0, .bool false, .slice none 0 0] 122
     replace K35 : Box V32 (V22.heap.size) (zcs8) := K35
     have n37 : w.heap.size ≠ V22.heap.size := Nat.ne_of_lt (K5.lt)
     have n38 : w.heap.size + 1 ≠ V22.heap.size := Nat.ne_of_lt (K10.lt)
     have n39 : w.heap.size + 1 + 1 ≠ V22.heap.size := Nat.ne_of_lt (K14.lt)
     have n40 : b31 ≠ V22.heap.size := Nat.ne_of_lt (K25.lt)
     have g41 : w.heap.size ≤ V22.heap.size := BW.size
     replace K5 := K5.on hb34
     replace K10 := K10.on hb34
     replace K14 := K14.on hb34
     replace K25 := K25.on hb34
     replace Z15 := Z15.on hb34
     replace Z26 := Z26.on hb34
     replace G := G.kp (Kept.of hb34)
     replace H := H.kp (Kept.of hb34)
     replace L1 := L1.kp (Kept.of hb34)
     replace L2 := L2.kp (Kept.of hb34)
     replace BW := BW.trans (hb34.mono BW.size)
     clear hb34
     rw [← e33]
     clear e33
     generalize V22.heap.size = b42 at *
     clear hHeld
     refine hK.out _ _ (by exact ⟨K5, K10.cs⟩) (fun hHeld => ?_)
     clear hK
     (try simp only [p0, p1, p2, p3])
     refine pR1 16 (fun K hK => ?_)
     obtain ⟨c43, c44, c45, c46, c47, c48, c49, c50⟩ := K35.c8
     obtain ⟨c51, c52, c53, c54, c55, c56, c57, c58⟩ := Z36.f8
     go_simp
     clear c43 c44 c45 c46 c47 c48 c49 c50 c51 c52 c53 c54 c55 c56 c57 c58
     obtain ⟨V59, hk61⟩ : ∃ V59, V59 = V32.setCells (b42) 0 [.bool y1.Y.n, .slice y1.Y.A y1.Y.xs.length y1.Y.c, .bool y1.Y.m, .slice y1.Y.B y1.Y.ds.length y1.Y.d, .bool y1.U.n, .slice y1.U.A y1.U.xs.length y1.U.c, .bool y1.U.m, .slice y1.U.B y1.U.ds.length y1.U.d] := ⟨_, rfl⟩
     have e60 := hk61
     simp only [World.setCells, Nat.zero_add, Nat.reduceAdd] at e60
     have hk62 := Kept.overE hk61 K35 rfl (Nat.le_of_ble_eq_true rfl)
     replace K5 := K5.awayE hk61 n37
     replace K10 := K10.awayE hk61 n38
     replace K14 := K14.awayE hk61 n39
     replace K25 := K25.awayE hk61 n40
     replace K35 := K35.overE hk61 rfl
     replace Z15 := Z15.putE hk61
     replace Z26 := Z26.putE hk61
     replace Z36 := Z36.putE hk61
     replace G := G.kp hk62
     replace H := H.kp hk62
     replace L1 := L1.kp hk62
     replace L2 := L2.kp hk62
     replace BW := Below.putE BW hk61 g41
     clear hk61 hk62
     replace K35 : Box V59 (b42) (ycs y1) := K35
     rw [← e60]
     clear e60
     clear hHeld
     refine hK.out _ _ (by exact ⟨K5, K10.cs⟩) (fun hHeld => ?_)
     clear hK
     (try simp only [p0, p1, p2, p3])
     refine pR1 17 (fun K hK => ?_)
     obtain ⟨c63, c64, c65, c66, c67, c68, c69, c70⟩ := K25.c8
     obtain ⟨c71, c72, c73, c74, c75, c76, c77, c78⟩ := Z26.f8
     go_simp
     clear c63 c64 c65 c66 c67 c68 c69 c70 c71 c72 c73 c74 c75 c76 c77 c78
     obtain ⟨V79, hk81⟩ : ∃ V79, V79 = V59.setCells (b31) 0 [.bool y2.Y.n, .slice y2.Y.A y2.Y.xs.length y2.Y.c, .bool y2.Y.m, .slice y2.Y.B y2.Y.ds.length y2.Y.d, .bool y2.U.n, .slice y2.U.A y2.U.xs.length y2.U.c, .bool y2.U.m, .slice y2.U.B y2.U.ds.length y2.U.d] := ⟨_, rfl⟩
     have e80 := hk81
     simp only [World.setCells, Nat.zero_add, Nat.reduceAdd] at e80
     have hk82 := Kept.overE hk81 K25 rfl (Nat.le_of_ble_eq_true rfl)
     replace K5 := K5.awayE hk81 n27
     replace K10 := K10.awayE hk81 n28
     replace K14 := K14.awayE hk81 n29
     replace K25 := K25.overE hk81 rfl
     replace K35 := K35.awayE hk81 n40.symm
     replace Z15 := Z15.putE hk81
     replace Z36 := Z36.putE hk81
     replace G := G.kp hk82
     replace H := H.kp hk82
     replace L1 := L1.kp hk82
     replace L2 := L2.kp hk82
     replace BW := Below.putE BW hk81 g30
     clear hk81 hk82
     replace K25 : Box V79 (b31) (ycs y2) := K25
     rw [← e80]
     clear e80
     clear hHeld
     refine hK.out _ _ (by exact ⟨K5, K10.cs⟩) (fun hHeld => ?_)
     clear hK
     (try simp only [p0, p1, p2, p3])
     refine wpAnyH_done (by kernel_rfl) (NoPanic.normal ?_) _
     go_wp2
     go_meet
     exact ⟨b42, b31, y1, y2, rfl, rfl, BW, K5, K10, K14, Z15, G, H, K35, K25, n39.symm, n29.symm, L1, L2⟩
   ·go_simp
    obtain ⟨V21, e22, hb23, K24, Z25, -⟩ := alloc_new w20 [.bool false, .slice none 0 0, .bool false, .slice none 0 0, .bool false, .slice none 0 0, .bool false, .slice none 0 0] 122
    replace K24 : Box V21 (w20.heap.size) (zcs8) := K24
    have n26 : w.heap.size ≠ w20.heap.size := Nat.ne_of_lt (K5.lt)
    have n27 : w.heap.size + 1 ≠ w20.heap.size := Nat.ne_of_lt (K10.lt)
    have n28 : w.heap.size + 1 + 1 ≠ w20.heap.size := Nat.ne_of_lt (K14.lt)
    have g29 : w.heap.size ≤ w20.heap.size := BW.size
    replace K5 := K5.on hb23
    replace K10 := K10.on hb23
    replace K14 := K14.on hb23
    replace Z15 := Z15.on hb23
    replace G := G.kp (Kept.of hb23)
    replace H := H.kp (Kept.of hb23)
    replace L1 := L1.kp (Kept.of hb23)
    replace BW := BW.trans (hb23.mono BW.size)
    clear hb23
    rw [← e22]
    clear e22
    generalize w20.heap.size = b30 at *
    clear hHeld
    refine hK.out _ _ (by exact ⟨K5, K10.cs⟩) (fun hHeld => ?_)
    clear hK
    (try simp only [p0, p1, p2, p3])
    refine pR2 13 15 (fun K hK => ?_) (fun K hK => ?_)
    ·go_simp
     (go_at_call 81; with_reducible refine (b_thr G H.col2 hC).mono ?_)
     rintro _ w31 ⟨y2, rfl, L2, hb⟩
     (try go_wp2_with fail)
     replace K5 := K5.on hb
     replace K10 := K10.on hb
     replace K14 := K14.on hb
     replace K24 := K24.on hb
     replace Z15 := Z15.on hb
     replace Z25 := Z25.on hb
     replace G := G.kp (Kept.of hb)
     replace H := H.kp (Kept.of hb)
     replace L1 := L1.kp (Kept.of hb)
     replace BW := BW.trans (hb.mono BW.size)
     clear hb
     clear hHeld
     refine hK.out _ _ (by exact ⟨K5, K10.cs⟩) (fun hHeld => ?_)
     clear hK
     (try simp only [p0, p1, p2, p3])
     refine pR1 15 (fun K hK => ?_)
     go_simp
     obtain ⟨V32, e33, hb34, K35, Z36, -⟩ := alloc_new w31 [.bool false, .slice none 0 0, .bool false, .slice none 0 0, .bool false, .slice none 0 0, .bool false, .slice none 0 0] 122
     replace K35 : Box V32 (w31.heap.size) (zcs8) := K35
     have n37 : w.heap.size ≠ w31.heap.size := Nat.ne_of_lt (K5.lt)
     have n38 : w.heap.size + 1 ≠ w31.heap.size := Nat.ne_of_lt (K10.lt)
     have n39 : w.heap.size + 1 + 1 ≠ w31.heap.size := Nat.ne_of_lt (K14.lt)
     have n40 : b30 ≠ w31.heap.size := Nat.ne_of_lt (K24.lt)
     have g41 : w.heap.size ≤ w31.heap.size := BW.size
     replace K5 := K5.on hb34
     replace K10 := K10.on hb34
     replace K14 := K14.on hb34
     replace K24 := K24.on hb34
     replace Z15 := Z15.on hb34
     replace Z25 := Z25.on hb34
     replace G := G.kp (Kept.of hb34)
     replace H := H.kp (Kept.of hb34)
     replace L1 := L1.kp (Kept.of hb34)
     replace L2 := L2.kp (Kept.of hb34)
     replace BW := BW.trans (hb34.mono BW.size)
     clear hb34
     rw [← e33]
     clear e33
     generalize w31.heap.size = b42 at *
     clear hHeld
     refine hK.out _ _ (by exact ⟨K5, K10.cs⟩) (fun hHeld => ?_)
     clear hK
     (try simp only [p0, p1, p2, p3])
     refine pR1 16 (fun K hK => ?_)
     obtain ⟨c43, c44, c45, c46, c47, c48, c49, c50⟩ := K24.c8
     obtain ⟨c51, c52, c53, c54, c55, c56, c57, c58⟩ := Z25.f8
     go_simp
     clear c43 c44 c45 c46 c47 c48 c49 c50 c51 c52 c53 c54 c55 c56 c57 c58
     obtain ⟨V59, hk61⟩ : ∃ V59, V59 = V32.setCells (b30) 0 [.bool y1.Y.n, .slice y1.Y.A y1.Y.xs.length y1.Y.c, .bool y1.Y.m, .slice y1.Y.B y1.Y.ds.length y1.Y.d, .bool y1.U.n, .slice y1.U.A y1.U.xs.length y1.U.c, .bool y1.U.m, .slice y1.U.B y1.U.ds.length y1.U.d] := ⟨_, rfl⟩
     have e60 := hk61
     simp only [World.setCells, Nat.zero_add, Nat.reduceAdd] at e60
     have hk62 := Kept.overE hk61 K24 rfl (Nat.le_of_ble_eq_true rfl)
     replace K5 := K5.awayE hk61 n26
     replace K10 := K10.awayE hk61 n27
     replace K14 := K14.awayE hk61 n28
     replace K24 := K24.overE hk61 rfl
     replace K35 := K35.awayE hk61 n40.symm
     replace Z15 := Z15.putE hk61
     replace Z25 := Z25.putE hk61
     replace Z36 := Z36.putE hk61
     replace G := G.kp hk62
     replace H := H.kp hk62
     replace L1 := L1.kp hk62
     replace L2 := L2.kp hk62
     replace BW := Below.putE BW hk61 g29
     clear hk61 hk62
     replace K24 : Box V59 (b30) (ycs y1) := K24
     rw [← e60]
     clear e60
     clear hHeld
     refine hK.out _ _ (by exact ⟨K5, K10.cs⟩) (fun hHeld => ?_)
     clear hK
     (try simp only [p0, p1, p2, p3])
     refine pR1 17 (fun K hK => ?_)
     obtain ⟨c63, c64, c65, c66, c67, c68, c69, c70⟩ := K35.c8
     obtain ⟨c71, c72, c73, c74, c75, c76, c77, c78⟩ := Z36.f8
     go_simp
     clear c63 c64 c65 c66 c67 c68 c69 c70 c71 c72 c73 c74 c75 c76 c77 c78
     obtain ⟨V79, hk81⟩ : ∃ V79, V79 = V59.setCells (b42) 0 [.bool y2.Y.n, .slice y2.Y.A y2.Y.xs.length y2.Y.c, .bool y2.Y.m, .slice y2.Y.B y2.Y.ds.length y2.Y.d, .bool y2.U.n, .slice y2.U.A y2.U.xs.length y2.U.c, .bool y2.U.m, .slice y2.U.B y2.U.ds.length y2.U.d] := ⟨_, rfl⟩
     have e80 := hk81
     simp only [World.setCells, Nat.zero_add, Nat.reduceAdd] at e80
     have hk82 := Kept.overE hk81 K35 rfl (Nat.le_of_ble_eq_true rfl)
     replace K5 := K5.awayE hk81 n37
     replace K10 := K10.awayE hk81 n38
     replace K14 := K14.awayE hk81 n39
     replace K24 := K24.awayE hk81 n40
     replace K35 := K35.overE hk81 rfl
     replace Z15 := Z15.putE hk81
     replace Z25 := Z25.putE hk81
     replace Z36 := Z36.putE hk81
     replace G := G.kp hk82
     replace H := H.kp hk82
     replace L1 := L1.kp hk82
     replace L2 := L2.kp hk82
     replace BW := Below.putE BW hk81 g41
     clear hk81 hk82
     replace K35 : Box V79 (b42) (ycs y2) := K35
     rw [← e80]
     clear e80
     clear hHeld
     refine hK.out _ _ (by exact ⟨K5, K10.cs⟩) (fun hHeld => ?_)
     clear hK
     (try simp only [p0, p1, p2, p3])
     refine wpAnyH_done (by kernel_rfl) (NoPanic.normal ?_) _
     go_wp2
     go_meet
     exact ⟨b30, b42, y1, y2, rfl, rfl, BW, K5, K10, K14, Z15, G, H, K24, K35, n28.symm, n39.symm, L1, L2⟩
    ·go_simp
     obtain ⟨V31, e32, hb33, K34, Z35, -⟩ := alloc_new V21 [.bool false, .slice none 0 0, .bool false, .slice none 0 0, .bool false, .slice none 0 0, .bool false, .slice none 0 0] 122
     replace K34 : Box V31 (V21.heap.size) (zcs8) := K34
     have n36 : w.heap.size ≠ V21.heap.size := Nat.ne_of_lt (K5.lt)
     have n37 : w.heap.size + 1 ≠ V21.heap.size := Nat.ne_of_lt (K10.lt)
     have n38 : w.heap.size + 1 + 1 ≠ V21.heap.size := Nat.ne_of_lt (K14.lt)
     have n39 : b30 ≠ V21.heap.size := Nat.ne_of_lt (K24.lt)
     have g40 : w.heap.size ≤ V21.heap.size := BW.size
     replace K5 := K5.on hb33
     replace K10 := K10.on hb33
     replace K14 := K14.on hb33
     replace K24 := K24.on hb33
     replace Z15 := Z15.on hb33
     replace Z25 := Z25.on hb33
     replace G := G.kp (Kept.of hb33)
     replace H := H.kp (Kept.of hb33)
     replace L1 := L1.kp (Kept.of hb33)
     replace BW := BW.trans (hb33.mono BW.size)
     clear hb33
     rw [← e32]
     clear e32
     generalize V21.heap.size = b41 at *
     clear hHeld
     refine hK.out _ _ (by exact ⟨K5, K10.cs⟩) (fun hHeld => ?_)
     clear hK
     (try simp only [p0, p1, p2, p3])
     refine pR1 13 (fun K hK => ?_)
     go_simp
     (go_at_call 81; with_reducible refine (b_thr G H.col2 hC).mono ?_)
     rintro _ w42 ⟨y2, rfl, L2, hb⟩
     (try go_wp2_with fail)
     replace K5 := K5.on hb
     replace K10 := K10.on hb
     replace K14 := K14.on hb
     replace K24 := K24.on hb
     replace K34 := K34.on hb
     replace Z15 := Z15.on hb
     replace Z25 := Z25.on hb
     replace Z35 := Z35.on hb
     replace G := G.kp (Kept.of hb)
     replace H := H.kp (Kept.of hb)
     replace L1 := L1.kp (Kept.of hb)
     replace BW := BW.trans (hb.mono BW.size)
     clear hb
     clear hHeld
     refine hK.out _ _ (by exact ⟨K5, K10.cs⟩) (fun hHeld => ?_)
     clear hK
     (try simp only [p0, p1, p2, p3])
     refine pR1 16 (fun K hK => ?_)
     obtain ⟨c43, c44, c45, c46, c47, c48, c49, c50⟩ := K24.c8
     obtain ⟨c51, c52, c53, c54, c55, c56, c57, c58⟩ := Z25.f8
     go_simp
     clear c43 c44 c45 c46 c47 c48 c49 c50 c51 c52 c53 c54 c55 c56 c57 c58
     obtain ⟨V59, hk61⟩ : ∃ V59, V59 = w42.setCells (b30) 0 [.bool y1.Y.n, .slice y1.Y.A y1.Y.xs.length y1.Y.c, .bool y1.Y.m, .slice y1.Y.B y1.Y.ds.length y1.Y.d, .bool y1.U.n, .slice y1.U.A y1.U.xs.length y1.U.c, .bool y1.U.m, .slice y1.U.B y1.U.ds.length y1.U.d] := ⟨_, rfl⟩
     have e60 := hk61
     simp only [World.setCells, Nat.zero_add, Nat.reduceAdd] at e60
     have hk62 := Kept.overE hk61 K24 rfl (Nat.le_of_ble_eq_true rfl)
     replace K5 := K5.awayE hk61 n26
     replace K10 := K10.awayE hk61 n27
     replace K14 := K14.awayE hk61 n28
     replace K24 := K24.overE hk61 rfl
     replace K34 := K34.awayE hk61 n39.symm
     replace Z15 := Z15.putE hk61
     replace Z25 := Z25.putE hk61
     replace Z35 := Z35.putE hk61
     replace G := G.kp hk62
     replace H := H.kp hk62
     replace L1 := L1.kp hk62
     replace L2 := L2.kp hk62
     replace BW := Below.putE BW hk61 g29
     clear hk61 hk62
     replace K24 : Box V59 (b30) (ycs y1) := K24
     rw [← e60]
     clear e60
     clear hHeld
     refine hK.out _ _ (by exact ⟨K5, K10.cs⟩) (fun hHeld => ?_)
     clear hK
     (try simp only [p0, p1, p2, p3])
     refine pR1 17 (fun K hK => ?_)
     obtain ⟨c63, c64, c65, c66, c67, c68, c69, c70⟩ := K34.c8
     obtain ⟨c71, c72, c73, c74, c75, c76, c77, c78⟩ := Z35.f8
     go_simp
     clear c63 c64 c65 c66 c67 c68 c69 c70 c71 c72 c73 c74 c75 c76 c77 c78
     obtain ⟨V79, hk81⟩ : ∃ V79, V79 = V59.setCells (b41) 0 [.bool y2.Y.n, .slice y2.Y.A y2.Y.xs.length y2.Y.c, .bool y2.Y.m, .slice y2.Y.B y2.Y.ds.length y2.Y.d, .bool y2.U.n, .slice y2.U.A y2.U.xs.length y2.U.c, .bool y2.U.m, .slice y2.U.B y2.U.ds.length y2.U.d] := ⟨_, rfl⟩
     have e80 := hk81
     simp only [World.setCells, Nat.zero_add, Nat.reduceAdd] at e80
     have hk82 := Kept.overE hk81 K34 rfl (Nat.le_of_ble_eq_true rfl)
     replace K5 := K5.awayE hk81 n36
     replace K10 := K10.awayE hk81 n37
     replace K14 := K14.awayE hk81 n38
     replace K24 := K24.awayE hk81 n39
     replace K34 := K34.overE hk81 rfl
     replace Z15 := Z15.putE hk81
     replace Z25 := Z25.putE hk81
     replace Z35 := Z35.putE hk81
     replace G := G.kp hk82
     replace H := H.kp hk82
     replace L1 := L1.kp hk82
     replace L2 := L2.kp hk82
     replace BW := Below.putE BW hk81 g40
     clear hk81 hk82
     replace K34 : Box V79 (b41) (ycs y2) := K34
     rw [← e80]
     clear e80
     clear hHeld
     refine hK.out _ _ (by exact ⟨K5, K10.cs⟩) (fun hHeld => ?_)
     clear hK
     (try simp only [p0, p1, p2, p3])
     refine wpAnyH_done (by kernel_rfl) (NoPanic.normal ?_) _
     go_wp2
     go_meet
     exact ⟨b30, b41, y1, y2, rfl, rfl, BW, K5, K10, K14, Z15, G, H, K24, K34, n28.symm, n38.symm, L1, L2⟩
   ·go_simp
    obtain ⟨V21, e22, hb23, K24, Z25, -⟩ := alloc_new w20 [.bool false, .slice none 0 0, .bool false, .slice none 0 0, .bool false, .slice none 0 0, .bool false, .slice none 0 0] 122
    replace K24 : Box V21 (w20.heap.size) (zcs8) := K24
    have n26 : w.heap.size ≠ w20.heap.size := Nat.ne_of_lt (K5.lt)
    have n27 : w.heap.size + 1 ≠ w20.heap.size := Nat.ne_of_lt (K10.lt)
    have n28 : w.heap.size + 1 + 1 ≠ w20.heap.size := Nat.ne_of_lt (K14.lt)
    have g29 : w.heap.size ≤ w20.heap.size := BW.size
    replace K5 := K5.on hb23
    replace K10 := K10.on hb23
    replace K14 := K14.on hb23
    replace Z15 := Z15.on hb23
    replace G := G.kp (Kept.of hb23)
    replace H := H.kp (Kept.of hb23)
    replace L1 := L1.kp (Kept.of hb23)
    replace BW := BW.trans (hb23.mono BW.size)
    clear hb23
    rw [← e22]
    clear e22
    generalize w20.heap.size = b30 at *
    clear hHeld
    refine hK.out _ _ (by exact ⟨K5, K10.cs⟩) (fun hHeld => ?_)
    clear hK
    (try simp only [p0, p1, p2, p3])
    refine pR2 13 14 (fun K hK => ?_) (fun K hK => ?_)
    ·go_simp
     (go_at_call 81; with_reducible refine (b_thr G H.col2 hC).mono ?_)
     rintro _ w31 ⟨y2, rfl, L2, hb⟩
     (try go_wp2_with fail)
     replace K5 := K5.on hb
     replace K10 := K10.on hb
     replace K14 := K14.on hb
     replace K24 := K24.on hb
     replace Z15 := Z15.on hb
     replace Z25 := Z25.on hb
     replace G := G.kp (Kept.of hb)
     replace H := H.kp (Kept.of hb)
     replace L1 := L1.kp (Kept.of hb)
     replace BW := BW.trans (hb.mono BW.size)
     clear hb
     clear hHeld
     refine hK.out _ _ (by exact ⟨K5, K10.cs⟩) (fun hHeld => ?_)
     clear hK
     (try simp only [p0, p1, p2, p3])
     refine pR1 14 (fun K hK => ?_)
     go_simp
     obtain ⟨V32, e33, hb34, K35, Z36, -⟩ := alloc_new w31 [.bool false, .slice none 0 0, .bool false, .slice none 0 0, .bool false, .slice none 0 0, .bool false, .slice none 0 0] 122
     replace K35 : Box V32 (w31.heap.size) (zcs8) := K35
     have n37 : w.heap.size ≠ w31.heap.size := Nat.ne_of_lt (K5.lt)
     have n38 : w.heap.size + 1 ≠ w31.heap.size := Nat.ne_of_lt (K10.lt)
     have n39 : w.heap.size + 1 + 1 ≠ w31.heap.size := Nat.ne_of_lt (K14.lt)
     have n40 : b30 ≠ w31.heap.size := Nat.ne_of_lt (K24.lt)
     have g41 : w.heap.size ≤ w31.heap.size := BW.size
     replace K5 := K5.on hb34
     replace K10 := K10.on hb34
     replace K14 := K14.on hb34
     replace K24 := K24.on hb34
     replace Z15 := Z15.on hb34
     replace Z25 := Z25.on hb34
     replace G := G.kp (Kept.of hb34)
     replace H := H.kp (Kept.of hb34)
     replace L1 := L1.kp (Kept.of hb34)
     replace L2 := L2.kp (Kept.of hb34)
     replace BW := BW.trans (hb34.mono BW.size)
     clear hb34
     rw [← e33]
     clear e33
     generalize w31.heap.size = b42 at *
     clear hHeld
     refine hK.out _ _ (by exact ⟨K5, K10.cs⟩) (fun hHeld => ?_)
     clear hK
     (try simp only [p0, p1, p2, p3])
     refine pR1 16 (fun K hK => ?_)
     obtain ⟨c43, c44, c45, c46, c47, c48, c49, c50⟩ := K35.c8
     obtain ⟨c51, c52, c53, c54, c55, c56, c57, c58⟩ := Z36.f8
     go_simp
     clear c43 c44 c45 c46 c47 c48 c49 c50 c51 c52 c53 c54 c55 c56 c57 c58
     obtain ⟨V59, hk61⟩ : ∃ V59, V59 = V32.setCells (b42) 0 [.bool y1.Y.n, .slice y1.Y.A y1.Y.xs.length y1.Y.c, .bool y1.Y.m, .slice y1.Y.B y1.Y.ds.length y1.Y.d, .bool y1.U.n, .slice y1.U.A y1.U.xs.length y1.U.c, .bool y1.U.m, .slice y1.U.B y1.U.ds.length y1.U.d] := ⟨_, rfl⟩
     have e60 := hk61
     simp only [World.setCells, Nat.zero_add, Nat.reduceAdd] at e60
     have hk62 := Kept.overE hk61 K35 rfl (Nat.le_of_ble_eq_true rfl)
     replace K5 := K5.awayE hk61 n37
     replace K10 := K10.awayE hk61 n38
     replace K14 := K14.awayE hk61 n39
     replace K24 := K24.awayE hk61 n40
     replace K35 := K35.overE hk61 rfl
     replace Z15 := Z15.putE hk61
     replace Z25 := Z25.putE hk61
     replace Z36 := Z36.putE hk61
     replace G := G.kp hk62
     replace H := H.kp hk62
     replace L1 := L1.kp hk62
     replace L2 := L2.kp hk62
     replace BW := Below.putE BW hk61 g41
     clear hk61 hk62
     replace K35 : Box V59 (b42) (ycs y1) := K35
     rw [← e60]
     clear e60
     clear hHeld
     refine hK.out _ _ (by exact ⟨K5, K10.cs⟩) (fun hHeld => ?_)
     clear hK
     (try simp only [p0, p1, p2, p3])
     refine pR1 17 (fun K hK => ?_)
     obtain ⟨c63, c64, c65, c66, c67, c68, c69, c70⟩ := K24.c8
     obtain ⟨c71, c72, c73, c74, c75, c76, c77, c78⟩ := Z25.f8
     go_simp
     clear c63 c64 c65 c66 c67 c68 c69 c70 c71 c72 c73 c74 c75 c76 c77 c78
     obtain ⟨V79, hk81⟩ : ∃ V79, V79 = V59.setCells (b30) 0 [.bool y2.Y.n, .slice y2.Y.A y2.Y.xs.length y2.Y.c, .bool y2.Y.m, .slice y2.Y.B y2.Y.ds.length y2.Y.d, .bool y2.U.n, .slice y2.U.A y2.U.xs.length y2.U.c, .bool y2.U.m, .slice y2.U.B y2.U.ds.length y2.U.d] := ⟨_, rfl⟩
     have e80 := hk81
     simp only [World.setCells, Nat.zero_add, Nat.reduceAdd] at e80
     have hk82 := Kept.overE hk81 K24 rfl (Nat.le_of_ble_eq_true rfl)
     replace K5 := K5.awayE hk81 n26
     replace K10 := K10.awayE hk81 n27
     replace K14 := K14.awayE hk81 n28
     replace K24 := K24.overE hk81 rfl
     replace K35 := K35.awayE hk81 n40.symm
     replace Z15 := Z15.putE hk81
     replace Z25 := Z25.putE hk81
     replace Z36 := Z36.putE hk81
     replace G := G.kp hk82
     replace H := H.kp hk82
     replace L1 := L1.kp hk82
     replace L2 := L2.kp hk82
     replace BW := Below.putE BW hk81 g29
     clear hk81 hk82
     replace K24 : Box V79 (b30) (ycs y2) := K24
     rw [← e80]
     clear e80
     clear hHeld
     refine hK.out _ _ (by exact ⟨K5, K10.cs⟩) (fun hHeld => ?_)
     clear hK
     (try simp only [p0, p1, p2, p3])
     refine wpAnyH_done (by kernel_rfl) (NoPanic.normal ?_) _
     go_wp2
     go_meet
     exact ⟨b42, b30, y1, y2, rfl, rfl, BW, K5, K10, K14, Z15, G, H, K35, K24, n39.symm, n28.symm, L1, L2⟩
    ·go_simp
     obtain ⟨V31, e32, hb33, K34, Z35, -⟩ := alloc_new V21 [.bool false, .slice none 0 0, .bool false, .slice none 0 0, .bool false, .slice none 0 0, .bool false, .slice none 0 0] 122
     replace K34 : Box V31 (V21.heap.size) (zcs8) := K34
     have n36 : w.heap.size ≠ V21.heap.size := Nat.ne_of_lt (K5.lt)
     have n37 : w.heap.size + 1 ≠ V21.heap.size := Nat.ne_of_lt (K10.lt)
     have n38 : w.heap.size + 1 + 1 ≠ V21.heap.size := Nat.ne_of_lt (K14.lt)
     have n39 : b30 ≠ V21.heap.size := Nat.ne_of_lt (K24.lt)
     have g40 : w.heap.size ≤ V21.heap.size := BW.size
     replace K5 := K5.on hb33
     replace K10 := K10.on hb33
     replace K14 := K14.on hb33
     replace K24 := K24.on hb33
     replace Z15 := Z15.on hb33
     replace Z25 := Z25.on hb33
     replace G := G.kp (Kept.of hb33)
     replace H := H.kp (Kept.of hb33)
     replace L1 := L1.kp (Kept.of hb33)
     replace BW := BW.trans (hb33.mono BW.size)
     clear hb33
     rw [← e32]
     clear e32
     generalize V21.heap.size = b41 at *
     clear hHeld
     refine hK.out _ _ (by exact ⟨K5, K10.cs⟩) (fun hHeld => ?_)
     clear hK
     (try simp only [p0, p1, p2, p3])
     refine pR1 13 (fun K hK => ?_)
     go_simp
     (go_at_call 81; with_reducible refine (b_thr G H.col2 hC).mono ?_)
     rintro _ w42 ⟨y2, rfl, L2, hb⟩
     (try go_wp2_with fail)
     replace K5 := K5.on hb
     replace K10 := K10.on hb
     replace K14 := K14.on hb
     replace K24 := K24.on hb
     replace K34 := K34.on hb
     replace Z15 := Z15.on hb
     replace Z25 := Z25.on hb
     replace Z35 := Z35.on hb
     replace G := G.kp (Kept.of hb)
     replace H := H.kp (Kept.of hb)
     replace L1 := L1.kp (Kept.of hb)
     replace BW := BW.trans (hb.mono BW.size)
     clear hb
     clear hHeld
     refine hK.out _ _ (by exact ⟨K5, K10.cs⟩) (fun hHeld => ?_)
     clear hK
     (try simp only [p0, p1, p2, p3])
     refine pR1 16 (fun K hK => ?_)
     obtain ⟨c43, c44, c45, c46, c47, c48, c49, c50⟩ := K34.c8
     obtain ⟨c51, c52, c53, c54, c55, c56, c57, c58⟩ := Z35.f8
     go_simp
     clear c43 c44 c45 c46 c47 c48 c49 c50 c51 c52 c53 c54 c55 c56 c57 c58
     obtain ⟨V59, hk61⟩ : ∃ V59, V59 = w42.setCells (b41) 0 [.bool y1.Y.n, .slice y1.Y.A y1.Y.xs.length y1.Y.c, .bool y1.Y.m, .slice y1.Y.B y1.Y.ds.length y1.Y.d, .bool y1.U.n, .slice y1.U.A y1.U.xs.length y1.U.c, .bool y1.U.m, .slice y1.U.B y1.U.ds.length y1.U.d] := ⟨_, rfl⟩
     have e60 := hk61
     simp only [World.setCells, Nat.zero_add, Nat.reduceAdd] at e60
     have hk62 := Kept.overE hk61 K34 rfl (Nat.le_of_ble_eq_true rfl)
     replace K5 := K5.awayE hk61 n36
     replace K10 := K10.awayE hk61 n37
     replace K14 := K14.awayE hk61 n38
     replace K24 := K24.awayE hk61 n39
     replace K34 := K34.overE hk61 rfl
     replace Z15 := Z15.putE hk61
     replace Z25 := Z25.putE hk61
     replace Z35 := Z35.putE hk61
     replace G := G.kp hk62
     replace H := H.kp hk62
     replace L1 := L1.kp hk62
     replace L2 := L2.kp hk62
     replace BW := Below.putE BW hk61 g40
     clear hk61 hk62
     replace K34 : Box V59 (b41) (ycs y1) := K34
     rw [← e60]
     clear e60
     clear hHeld
     refine hK.out _ _ (by exact ⟨K5, K10.cs⟩) (fun hHeld => ?_)
     clear hK
     (try simp only [p0, p1, p2, p3])
     refine pR1 17 (fun K hK => ?_)
     obtain ⟨c63, c64, c65, c66, c67, c68, c69, c70⟩ := K24.c8
     obtain ⟨c71, c72, c73, c74, c75, c76, c77, c78⟩ := Z25.f8
     go_simp
     clear c63 c64 c65 c66 c67 c68 c69 c70 c71 c72 c73 c74 c75 c76 c77 c78
     obtain ⟨V79, hk81⟩ : ∃ V79, V79 = V59.setCells (b30) 0 [.bool y2.Y.n, .slice y2.Y.A y2.Y.xs.length y2.Y.c, .bool y2.Y.m, .slice y2.Y.B y2.Y.ds.length y2.Y.d, .bool y2.U.n, .slice y2.U.A y2.U.xs.length y2.U.c, .bool y2.U.m, .slice y2.U.B y2.U.ds.length y2.U.d] := ⟨_, rfl⟩
     have e80 := hk81
     simp only [World.setCells, Nat.zero_add, Nat.reduceAdd] at e80
     have hk82 := Kept.overE hk81 K24 rfl (Nat.le_of_ble_eq_true rfl)
     replace K5 := K5.awayE hk81 n26
     replace K10 := K10.awayE hk81 n27
     replace K14 := K14.awayE hk81 n28
     replace K24 := K24.overE hk81 rfl
     replace K34 := K34.awayE hk81 n39.symm
     replace Z15 := Z15.putE hk81
     replace Z35 := Z35.putE hk81
     replace G := G.kp hk82
     replace H := H.kp hk82
     replace L1 := L1.kp hk82
     replace L2 := L2.kp hk82
     replace BW := Below.putE BW hk81 g29
     clear hk81 hk82
     replace K24 : Box V79 (b30) (ycs y2) := K24
     rw [← e80]
     clear e80
     clear hHeld
     refine hK.out _ _ (by exact ⟨K5, K10.cs⟩) (fun hHeld => ?_)
     clear hK
     (try simp only [p0, p1, p2, p3])
     refine wpAnyH_done (by kernel_rfl) (NoPanic.normal ?_) _
     go_wp2
     go_meet
     exact ⟨b41, b30, y1, y2, rfl, rfl, BW, K5, K10, K14, Z15, G, H, K34, K24, n38.symm, n28.symm, L1, L2⟩
  ·go_simp
   obtain ⟨V20, e21, hb22, K23, Z24, -⟩ := alloc_new Vd19 [.bool false, .slice none 0 0, .bool false, .slice none 0 0, .bool false, .slice none 0 0, .bool false, .slice none 0 0] 122
   replace K23 : Box V20 (Vd19.heap.size) (zcs8) := K23
   have n25 : w.heap.size ≠ Vd19.heap.size := Nat.ne_of_lt (K5.lt)
   have n26 : w.heap.size + 1 ≠ Vd19.heap.size := Nat.ne_of_lt (K10.lt)
   have n27 : w.heap.size + 1 + 1 ≠ Vd19.heap.size := Nat.ne_of_lt (K14.lt)
   have g28 : w.heap.size ≤ Vd19.heap.size := BW.size
   replace K5 := K5.on hb22
   replace K10 := K10.on hb22
   replace K14 := K14.on hb22
   replace Z15 := Z15.on hb22
   replace G := G.kp (Kept.of hb22)
   replace H := H.kp (Kept.of hb22)
   replace BW := BW.trans (hb22.mono BW.size)
   clear hb22
   rw [← e21]
   clear e21
   generalize Vd19.heap.size = b29 at *
   clear hHeld
   refine hK.out _ _ (by exact ⟨K5, K10.cs⟩) (fun hHeld => ?_)
   clear hK
   (try simp only [p0, p1, p2, p3])
   refine pR2 6 15 (fun K hK => ?_) (fun K hK => ?_)
   ·go_simp
    (go_at_call 81; with_reducible refine (b_thr G H.col1 hC).mono ?_)
    rintro _ w30 ⟨y1, rfl, L1, hb⟩
    (try go_wp2_with fail)
    replace K5 := K5.on hb
    replace K10 := K10.on hb
    replace K14 := K14.on hb
    replace K23 := K23.on hb
    replace Z15 := Z15.on hb
    replace Z24 := Z24.on hb
    replace G := G.kp (Kept.of hb)
    replace H := H.kp (Kept.of hb)
    replace BW := BW.trans (hb.mono BW.size)
    clear hb
    clear hHeld
    refine hK.out _ _ (by exact ⟨K5, K10.cs⟩) (fun hHeld => ?_)
    clear hK
    (try simp only [p0, p1, p2, p3])
    refine pR2 13 15 (fun K hK => ?_) (fun K hK => ?_)
    ·go_simp
     (go_at_call 81; with_reducible refine (b_thr G H.col2 hC).mono ?_)
     rintro _ w31 ⟨y2, rfl, L2, hb⟩
     (try go_wp2_with fail)
     replace K5 := K5.on hb
     replace K10 := K10.on hb
     replace K14 := K14.on hb
     replace K23 := K23.on hb
     replace Z15 := Z15.on hb
     replace Z24 := Z24.on hb
     replace G := G.kp (Kept.of hb)
     replace H := H.kp (Kept.of hb)
     replace L1 := L1.kp (Kept.of hb)
     replace BW := BW.trans (hb.mono BW.size)
     clear hb
     clear hHeld
     refine hK.out _ _ (by exact ⟨K5, K10.cs⟩) (fun hHeld => ?_)
     clear hK
     (try simp only [p0, p1, p2, p3])
     refine pR1 15 (fun K hK => ?_)
     go_simp
     obtain ⟨V32, e33, hb34, K35, Z36, -⟩ := alloc_new w31 [.bool false, .slice none 0 0, .bool false, .slice none 0 0, .bool false, .slice none 0 0, .bool false, .slice none 0 0] 122
     replace K35 : Box V32 (w31.heap.size) (zcs8) := K35
     have n37 : w.heap.size ≠ w31.heap.size := Nat.ne_of_lt (K5.lt)
     have n38 : w.heap.size + 1 ≠ w31.heap.size := Nat.ne_of_lt (K10.lt)
     have n39 : w.heap.size + 1 + 1 ≠ w31.heap.size := Nat.ne_of_lt (K14.lt)
     have n40 : b29 ≠ w31.heap.size := Nat.ne_of_lt (K23.lt)
     have g41 : w.heap.size ≤ w31.heap.size := BW.size
     replace K5 := K5.on hb34
     replace K10 := K10.on hb34
     replace K14 := K14.on hb34
     replace K23 := K23.on hb34
     replace Z15 := Z15.on hb34
     replace Z24 := Z24.on hb34
     replace G := G.kp (Kept.of hb34)
     replace H := H.kp (Kept.of hb34)
     replace L1 := L1.kp (Kept.of hb34)
     replace L2 := L2.kp (Kept.of hb34)
     replace BW := BW.trans (hb34.mono BW.size)
     clear hb34
     rw [← e33]
     clear e33
     generalize w31.heap.size = b42 at *
     clear hHeld
     refine hK.out _ _ (by exact ⟨K5, K10.cs⟩) (fun hHeld => ?_)
     clear hK
     (try simp only [p0, p1, p2, p3])
     refine pR1 16 (fun K hK => ?_)
     obtain ⟨c43, c44, c45, c46, c47, c48, c49, c50⟩ := K23.c8
     obtain ⟨c51, c52, c53, c54, c55, c56, c57, c58⟩ := Z24.f8
     go_simp
     clear c43 c44 c45 c46 c47 c48 c49 c50 c51 c52 c53 c54 c55 c56 c57 c58
     obtain ⟨V59, hk61⟩ : ∃ V59, V59 = V32.setCells (b29) 0 [.bool y1.Y.n, .slice y1.Y.A y1.Y.xs.length y1.Y.c, .bool y1.Y.m, .slice y1.Y.B y1.Y.ds.length y1.Y.d, .bool y1.U.n, .slice y1.U.A y1.U.xs.length y1.U.c, .bool y1.U.m, .slice y1.U.B y1.U.ds.length y1.U.d] := ⟨_, rfl⟩
     have e60 := hk61
     simp only [World.setCells, Nat.zero_add, Nat.reduceAdd] at e60
     have hk62 := Kept.overE hk61 K23 rfl (Nat.le_of_ble_eq_true rfl)
     replace K5 := K5.awayE hk61 n25
     replace K10 := K10.awayE hk61 n26
     replace K14 := K14.awayE hk61 n27
     replace K23 := K23.overE hk61 rfl
     replace K35 := K35.awayE hk61 n40.symm
     replace Z15 := Z15.putE hk61
     replace Z24 := Z24.putE hk61
     replace Z36 := Z36.putE hk61
     replace G := G.kp hk62
     replace H := H.kp hk62
     replace L1 := L1.kp hk62
     replace L2 := L2.kp hk62
     replace BW := Below.putE BW hk61 g28
     clear hk61 hk62
     replace K23 : Box V59 (b29) (ycs y1) := K23
     rw [← e60]
     clear e60
     clear hHeld
     refine hK.out _ _ (by exact ⟨K5, K10.cs⟩) (fun hHeld => ?_)
     clear hK
     (try simp only [p0, p1, p2, p3])
     refine pR1 17 (fun K hK => ?_)
     obtain ⟨c63, c64, c65, c66, c67, c68, c69, c70⟩ := K35.c8
     obtain ⟨c71, c72, c73, c74, c75, c76, c77, c78⟩ := Z36.f8
     go_simp
     clear c63 c64 c65 c66 c67 c68 c69 c70 c71 c72 c73 c74 c75 c76 c77 c78
     obtain ⟨V79, hk81⟩ : ∃ V79, V79 = V59.setCells (b42) 0 [.bool y2.Y.n, .slice y2.Y.A y2.Y.xs.length y2.Y.c, .bool y2.Y.m, .slice y2.Y.B y2.Y.ds.length y2.Y.d, .bool y2.U.n, .slice y2.U.A y2.U.xs.length y2.U.c, .bool y2.U.m, .slice y2.U.B y2.U.ds.length y2.U.d] := ⟨_, rfl⟩
     have e80 := hk81
     simp only [World.setCells, Nat.zero_add, Nat.reduceAdd] at e80
     have hk82 := Kept.overE hk81 K35 rfl (Nat.le_of_ble_eq_true rfl)
     replace K5 := K5.awayE hk81 n37
     replace K10 := K10.awayE hk81 n38
     replace K14 := K14.awayE hk81 n39
     replace K23 := K23.awayE hk81 n40
     replace K35 := K35.overE hk81 rfl
     replace Z15 := Z15.putE hk81
     replace Z24 := Z24.putE hk81
     replace Z36 := Z36.putE hk81
     replace G := G.kp hk82
     replace H := H.kp hk82
     replace L1 := L1.kp hk82
     replace L2 := L2.kp hk82
     replace BW := Below.putE BW hk81 g41
     clear hk81 hk82
     replace K35 : Box V79 (b42) (ycs y2) := K35
     rw [← e80]
     clear e80
     clear hHeld
     refine hK.out _ _ (by exact ⟨K5, K10.cs⟩) (fun hHeld => ?_)
     clear hK
     (try simp only [p0, p1, p2, p3])
     refine wpAnyH_done (by kernel_rfl) (NoPanic.normal ?_) _
     go_wp2
     go_meet
     exact ⟨b29, b42, y1, y2, rfl, rfl, BW, K5, K10, K14, Z15, G, H, K23, K35, n27.symm, n39.symm, L1, L2⟩
    ·go_simp
     obtain ⟨V31, e32, hb33, K34, Z35, -⟩ := alloc_new w30 [.bool false, .slice none 0 0, .bool false, .slice none 0 0, .bool false, .slice none 0 0, .bool false, .slice none 0 0] 122
     replace K34 : Box V31 (w30.heap.size) (zcs8) := K34
     have n36 : w.heap.size ≠ w30.heap.size := Nat.ne_of_lt (K5.lt)
     have n37 : w.heap.size + 1 ≠ w30.heap.size := Nat.ne_of_lt (K10.lt)
     have n38 : w.heap.size + 1 + 1 ≠ w30.heap.size := Nat.ne_of_lt (K14.lt)
     have n39 : b29 ≠ w30.heap.size := Nat.ne_of_lt (K23.lt)
     have g40 : w.heap.size ≤ w30.heap.size := BW.size
     replace K5 := K5.on hb33
     replace K10 := K10.on hb33
     replace K14 := K14.on hb33
     replace K23 := K23.on hb33
     replace Z15 := Z15.on hb33
     replace Z24 := Z24.on hb33
     replace G := G.kp (Kept.of hb33)
     replace H := H.kp (Kept.of hb33)
     replace L1 := L1.kp (Kept.of hb33)
     replace BW := BW.trans (hb33.mono BW.size)
     clear hb33
     rw [← e32]
     clear e32
     generalize w30.heap.size = b41 at *
     clear hHeld
     refine hK.out _ _ (by exact ⟨K5, K10.cs⟩) (fun hHeld => ?_)
     clear hK
     (try simp only [p0, p1, p2, p3])
     refine pR1 13 (fun K hK => ?_)
     go_simp
     (go_at_call 81; with_reducible refine (b_thr G H.col2 hC).mono ?_)
     rintro _ w42 ⟨y2, rfl, L2, hb⟩
     (try go_wp2_with fail)
     replace K5 := K5.on hb
     replace K10 := K10.on hb
     replace K14 := K14.on hb
     replace K23 := K23.on hb
     replace K34 := K34.on hb
     replace Z15 := Z15.on hb
     replace Z24 := Z24.on hb
     replace Z35 := Z35.on hb
     replace G := G.kp (Kept.of hb)
     replace H := H.kp (Kept.of hb)
     replace L1 := L1.kp (Kept.of hb)
     replace BW := BW.trans (hb.mono BW.size)
     clear hb
     clear hHeld
     refine hK.out _ _ (by exact ⟨K5, K10.cs⟩) (fun hHeld => ?_)
     clear hK
     (try simp only [p0, p1, p2, p3])
     refine pR1 16 (fun K hK => ?_)
     obtain ⟨c43, c44, c45, c46, c47, c48, c49, c50⟩ := K23.c8
     obtain ⟨c51, c52, c53, c54, c55, c56, c57, c58⟩ := Z24.f8
     go_simp
     clear c43 c44 c45 c46 c47 c48 c49 c50 c51 c52 c53 c54 c55 c56 c57 c58
     obtain ⟨V59, hk61⟩ : ∃ V59, V59 = w42.setCells (b29) 0 [.bool y1.Y.n, .slice y1.Y.A y1.Y.xs.length y1.Y.c, .bool y1.Y.m, .slice y1.Y.B y1.Y.ds.length y1.Y.d, .bool y1.U.n, .slice y1.U.A y1.U.xs.length y1.U.c, .bool y1.U.m, .slice y1.U.B y1.U.ds.length y1.U.d] := ⟨_, rfl⟩
     have e60 := hk61
     simp only [World.setCells, Nat.zero_add, Nat.reduceAdd] at e60
     have hk62 := Kept.overE hk61 K23 rfl (Nat.le_of_ble_eq_true rfl)
     replace K5 := K5.awayE hk61 n25
     replace K10 := K10.awayE hk61 n26
     replace K14 := K14.awayE hk61 n27
     replace K23 := K23.overE hk61 rfl
     replace K34 := K34.awayE hk61 n39.symm
     replace Z15 := Z15.putE hk61
     replace Z24 := Z24.putE hk61
     replace Z35 := Z35.putE hk61
     replace G := G.kp hk62
     replace H := H.kp hk62
     replace L1 := L1.kp hk62
     replace L2 := L2.kp hk62
     replace BW := Below.putE BW hk61 g28
     clear hk61 hk62
     replace K23 : Box V59 (b29) (ycs y1) := K23
     rw [← e60]
     clear e60
     clear hHeld
     refine hK.out _ _ (by exact ⟨K5, K10.cs⟩) (fun hHeld => ?_)
     clear hK
     (try simp only [p0, p1, p2, p3])
     refine pR1 17 (fun K hK => ?_)
     obtain ⟨c63, c64, c65, c66, c67, c68, c69, c70⟩ := K34.c8
     obtain ⟨c71, c72, c73, c74, c75, c76, c77, c78⟩ := Z35.f8
     go_simp
     clear c63 c64 c65 c66 c67 c68 c69 c70 c71 c72 c73 c74 c75 c76 c77 c78
     obtain ⟨V79, hk81⟩ : ∃ V79, V79 = V59.setCells (b41) 0 [.bool y2.Y.n, .slice y2.Y.A y2.Y.xs.length y2.Y.c, .bool y2.Y.m, .slice y2.Y.B y2.Y.ds.length y2.Y.d, .bool y2.U.n, .slice y2.U.A y2.U.xs.length y2.U.c, .bool y2.U.m, .slice y2.U.B y2.U.ds.length y2.U.d] := ⟨_, rfl⟩
     have e80 := hk81
     simp only [World.setCells, Nat.zero_add, Nat.reduceAdd] at e80
     have hk82 := Kept.overE hk81 K34 rfl (Nat.le_of_ble_eq_true rfl)
     replace K5 := K5.awayE hk81 n36
     replace K10 := K10.awayE hk81 n37
     replace K14 := K14.awayE hk81 n38
     replace K23 := K23.awayE hk81 n39
     replace K34 := K34.overE hk81 rfl
     replace Z15 := Z15.putE hk81
     replace Z24 := Z24.putE hk81
     replace Z35 := Z35.putE hk81
     replace G := G.kp hk82
     replace H := H.kp hk82
     replace L1 := L1.kp hk82
     replace L2 := L2.kp hk82
     replace BW := Below.putE BW hk81 g40
     clear hk81 hk82
     replace K34 : Box V79 (b41) (ycs y2) := K34
     rw [← e80]
     clear e80
     clear hHeld
     refine hK.out _ _ (by exact ⟨K5, K10.cs⟩) (fun hHeld => ?_)
     clear hK
     (try simp only [p0, p1, p2, p3])
     refine wpAnyH_done (by kernel_rfl) (NoPanic.normal ?_) _
     go_wp2
     go_meet
     exact ⟨b29, b41, y1, y2, rfl, rfl, BW, K5, K10, K14, Z15, G, H, K23, K34, n27.symm, n38.symm, L1, L2⟩
   ·go_simp
    obtain ⟨V30, e31, hb32, K33, Z34, -⟩ := alloc_new V20 [.bool false, .slice none 0 0, .bool false, .slice none 0 0, .bool false, .slice none 0 0, .bool false, .slice none 0 0] 122
    replace K33 : Box V30 (V20.heap.size) (zcs8) := K33
    have n35 : w.heap.size ≠ V20.heap.size := Nat.ne_of_lt (K5.lt)
    have n36 : w.heap.size + 1 ≠ V20.heap.size := Nat.ne_of_lt (K10.lt)
    have n37 : w.heap.size + 1 + 1 ≠ V20.heap.size := Nat.ne_of_lt (K14.lt)
    have n38 : b29 ≠ V20.heap.size := Nat.ne_of_lt (K23.lt)
    have g39 : w.heap.size ≤ V20.heap.size := BW.size
    replace K5 := K5.on hb32
    replace K10 := K10.on hb32
    replace K14 := K14.on hb32
    replace K23 := K23.on hb32
    replace Z15 := Z15.on hb32
    replace Z24 := Z24.on hb32
    replace G := G.kp (Kept.of hb32)
    replace H := H.kp (Kept.of hb32)
    replace BW := BW.trans (hb32.mono BW.size)
    clear hb32
    rw [← e31]
    clear e31
    generalize V20.heap.size = b40 at *
    clear hHeld
    refine hK.out _ _ (by exact ⟨K5, K10.cs⟩) (fun hHeld => ?_)
    clear hK
    (try simp only [p0, p1, p2, p3])
    refine pR1 6 (fun K hK => ?_)
    go_simp
    (go_at_call 81; with_reducible refine (b_thr G H.col1 hC).mono ?_)
    rintro _ w41 ⟨y1, rfl, L1, hb⟩
    (try go_wp2_with fail)
    replace K5 := K5.on hb
    replace K10 := K10.on hb
    replace K14 := K14.on hb
    replace K23 := K23.on hb
    replace K33 := K33.on hb
    replace Z15 := Z15.on hb
    replace Z24 := Z24.on hb
    replace Z34 := Z34.on hb
    replace G := G.kp (Kept.of hb)
    replace H := H.kp (Kept.of hb)
    replace BW := BW.trans (hb.mono BW.size)
    clear hb
    clear hHeld
    refine hK.out _ _ (by exact ⟨K5, K10.cs⟩) (fun hHeld => ?_)
    clear hK
    (try simp only [p0, p1, p2, p3])
    refine pR1 13 (fun K hK => ?_)
    go_simp
    (go_at_call 81; with_reducible refine (b_thr G H.col2 hC).mono ?_)
    rintro _ w42 ⟨y2, rfl, L2, hb⟩
    (try go_wp2_with fail)
    replace K5 := K5.on hb
    replace K10 := K10.on hb
    replace K14 := K14.on hb
    replace K23 := K23.on hb
    replace K33 := K33.on hb
    replace Z15 := Z15.on hb
    replace Z24 := Z24.on hb
    replace Z34 := Z34.on hb
    replace G := G.kp (Kept.of hb)
    replace H := H.kp (Kept.of hb)
    replace L1 := L1.kp (Kept.of hb)
    replace BW := BW.trans (hb.mono BW.size)
    clear hb
    clear hHeld
    refine hK.out _ _ (by exact ⟨K5, K10.cs⟩) (fun hHeld => ?_)
    clear hK
    (try simp only [p0, p1, p2, p3])
    refine pR1 16 (fun K hK => ?_)
    obtain ⟨c43, c44, c45, c46, c47, c48, c49, c50⟩ := K23.c8
    obtain ⟨c51, c52, c53, c54, c55, c56, c57, c58⟩ := Z24.f8
    go_simp
    clear c43 c44 c45 c46 c47 c48 c49 c50 c51 c52 c53 c54 c55 c56 c57 c58
    obtain ⟨V59, hk61⟩ : ∃ V59, V59 = w42.setCells (b29) 0 [.bool y1.Y.n, .slice y1.Y.A y1.Y.xs.length y1.Y.c, .bool y1.Y.m, .slice y1.Y.B y1.Y.ds.length y1.Y.d, .bool y1.U.n, .slice y1.U.A y1.U.xs.length y1.U.c, .bool y1.U.m, .slice y1.U.B y1.U.ds.length y1.U.d] := ⟨_, rfl⟩
    have e60 := hk61
    simp only [World.setCells, Nat.zero_add, Nat.reduceAdd] at e60
    have hk62 := Kept.overE hk61 K23 rfl (Nat.le_of_ble_eq_true rfl)
    replace K5 := K5.awayE hk61 n25
    replace K10 := K10.awayE hk61 n26
    replace K14 := K14.awayE hk61 n27
    replace K23 := K23.overE hk61 rfl
    replace K33 := K33.awayE hk61 n38.symm
    replace Z15 := Z15.putE hk61
    replace Z24 := Z24.putE hk61
    replace Z34 := Z34.putE hk61
    replace G := G.kp hk62
    replace H := H.kp hk62
    replace L1 := L1.kp hk62
    replace L2 := L2.kp hk62
    replace BW := Below.putE BW hk61 g28
    clear hk61 hk62
    replace K23 : Box V59 (b29) (ycs y1) := K23
    rw [← e60]
    clear e60
    clear hHeld
    refine hK.out _ _ (by exact ⟨K5, K10.cs⟩) (fun hHeld => ?_)
    clear hK
    (try simp only [p0, p1, p2, p3])
    refine pR1 17 (fun K hK => ?_)
    obtain ⟨c63, c64, c65, c66, c67, c68, c69, c70⟩ := K33.c8
    obtain ⟨c71, c72, c73, c74, c75, c76, c77, c78⟩ := Z34.f8
    go_simp
    clear c63 c64 c65 c66 c67 c68 c69 c70 c71 c72 c73 c74 c75 c76 c77 c78
    obtain ⟨V79, hk81⟩ : ∃ V79, V79 = V59.setCells (b40) 0 [.bool y2.Y.n, .slice y2.Y.A y2.Y.xs.length y2.Y.c, .bool y2.Y.m, .slice y2.Y.B y2.Y.ds.length y2.Y.d, .bool y2.U.n, .slice y2.U.A y2.U.xs.length y2.U.c, .bool y2.U.m, .slice y2.U.B y2.U.ds.length y2.U.d] := ⟨_, rfl⟩
    have e80 := hk81
    simp only [World.setCells, Nat.zero_add, Nat.reduceAdd] at e80
    have hk82 := Kept.overE hk81 K33 rfl (Nat.le_of_ble_eq_true rfl)
    replace K5 := K5.awayE hk81 n35
    replace K10 := K10.awayE hk81 n36
    replace K14 := K14.awayE hk81 n37
    replace K23 := K23.awayE hk81 n38
    replace K33 := K33.overE hk81 rfl
    replace Z15 := Z15.putE hk81
    replace Z24 := Z24.putE hk81
    replace Z34 := Z34.putE hk81
    replace G := G.kp hk82
    replace H := H.kp hk82
    replace L1 := L1.kp hk82
    replace L2 := L2.kp hk82
    replace BW := Below.putE BW hk81 g39
    clear hk81 hk82
    replace K33 : Box V79 (b40) (ycs y2) := K33
    rw [← e80]
    clear e80
    clear hHeld
    refine hK.out _ _ (by exact ⟨K5, K10.cs⟩) (fun hHeld => ?_)
    clear hK
    (try simp only [p0, p1, p2, p3])
    refine wpAnyH_done (by kernel_rfl) (NoPanic.normal ?_) _
    go_wp2
    go_meet
    exact ⟨b29, b40, y1, y2, rfl, rfl, BW, K5, K10, K14, Z15, G, H, K23, K33, n27.symm, n37.symm, L1, L2⟩
  ·go_simp
   obtain ⟨V20, e21, hb22, K23, Z24, -⟩ := alloc_new Vd19 [.bool false, .slice none 0 0, .bool false, .slice none 0 0, .bool false, .slice none 0 0, .bool false, .slice none 0 0] 122
   replace K23 : Box V20 (Vd19.heap.size) (zcs8) := K23
   have n25 : w.heap.size ≠ Vd19.heap.size := Nat.ne_of_lt (K5.lt)
   have n26 : w.heap.size + 1 ≠ Vd19.heap.size := Nat.ne_of_lt (K10.lt)
   have n27 : w.heap.size + 1 + 1 ≠ Vd19.heap.size := Nat.ne_of_lt (K14.lt)
   have g28 : w.heap.size ≤ Vd19.heap.size := BW.size
   replace K5 := K5.on hb22
   replace K10 := K10.on hb22
   replace K14 := K14.on hb22
   replace Z15 := Z15.on hb22
   replace G := G.kp (Kept.of hb22)
   replace H := H.kp (Kept.of hb22)
   replace BW := BW.trans (hb22.mono BW.size)
   clear hb22
   rw [← e21]
   clear e21
   generalize Vd19.heap.size = b29 at *
   clear hHeld
   refine hK.out _ _ (by exact ⟨K5, K10.cs⟩) (fun hHeld => ?_)
   clear hK
   (try simp only [p0, p1, p2, p3])
   refine pR2 6 14 (fun K hK => ?_) (fun K hK => ?_)
   ·go_simp
    (go_at_call 81; with_reducible refine (b_thr G H.col1 hC).mono ?_)
    rintro _ w30 ⟨y1, rfl, L1, hb⟩
    (try go_wp2_with fail)
    replace K5 := K5.on hb
    replace K10 := K10.on hb
    replace K14 := K14.on hb
    replace K23 := K23.on hb
    replace Z15 := Z15.on hb
    replace Z24 := Z24.on hb
    replace G := G.kp (Kept.of hb)
    replace H := H.kp (Kept.of hb)
    replace BW := BW.trans (hb.mono BW.size)
    clear hb
    clear hHeld
    refine hK.out _ _ (by exact ⟨K5, K10.cs⟩) (fun hHeld => ?_)
    clear hK
    (try simp only [p0, p1, p2, p3])
    refine pR2 13 14 (fun K hK => ?_) (fun K hK => ?_)
    ·go_simp
     (go_at_call 81; with_reducible refine (b_thr G H.col2 hC).mono ?_)
     rintro _ w31 ⟨y2, rfl, L2, hb⟩
     (try go_wp2_with fail)
     replace K5 := K5.on hb
     replace K10 := K10.on hb
     replace K14 := K14.on hb
     replace K23 := K23.on hb
     replace Z15 := Z15.on hb
     replace Z24 := Z24.on hb
     replace G := G.kp (Kept.of hb)
     replace H := H.kp (Kept.of hb)
     replace L1 := L1.kp (Kept.of hb)
     replace BW := BW.trans (hb.mono BW.size)
     clear hb
     clear hHeld
     refine hK.out _ _ (by exact ⟨K5, K10.cs⟩) (fun hHeld => ?_)
     clear hK
     (try simp only [p0, p1, p2, p3])
     refine pR1 14 (fun K hK => ?_)
     go_simp
     obtain ⟨V32, e33, hb34, K35, Z36, -⟩ := alloc_new w31 [.bool false, .slice none 0 0, .bool false, .slice none 0 0, .bool false, .slice none 0 0, .bool false, .slice none 0 0] 122
     replace K35 : Box V32 (w31.heap.size) (zcs8) := K35
     have n37 : w.heap.size ≠ w31.heap.size := Nat.ne_of_lt (K5.lt)
     have n38 : w.heap.size + 1 ≠ w31.heap.size := Nat.ne_of_lt (K10.lt)
     have n39 : w.heap.size + 1 + 1 ≠ w31.heap.size := Nat.ne_of_lt (K14.lt)
     have n40 : b29 ≠ w31.heap.size := Nat.ne_of_lt (K23.lt)
     have g41 : w.heap.size ≤ w31.heap.size := BW.size
     replace K5 := K5.on hb34
     replace K10 := K10.on hb34
     replace K14 := K14.on hb34
     replace K23 := K23.on hb34
     replace Z15 := Z15.on hb34
     replace Z24 := Z24.on hb34
     replace G := G.kp (Kept.of hb34)
     replace H := H.kp (Kept.of hb34)
     replace L1 := L1.kp (Kept.of hb34)
     replace L2 := L2.kp (Kept.of hb34)
     replace BW := BW.trans (hb34.mono BW.size)
     clear hb34
     rw [← e33]
     clear e33
     generalize w31.heap.size = b42 at *
     clear hHeld
     refine hK.out _ _ (by exact ⟨K5, K10.cs⟩) (fun hHeld => ?_)
     clear hK
     (try simp only [p0, p1, p2, p3])
     refine pR1 16 (fun K hK => ?_)
     obtain ⟨c43, c44, c45, c46, c47, c48, c49, c50⟩ := K35.c8
     obtain ⟨c51, c52, c53, c54, c55, c56, c57, c58⟩ := Z36.f8
     go_simp
     clear c43 c44 c45 c46 c47 c48 c49 c50 c51 c52 c53 c54 c55 c56 c57 c58
     obtain ⟨V59, hk61⟩ : ∃ V59, V59 = V32.setCells (b42) 0 [.bool y1.Y.n, .slice y1.Y.A y1.Y.xs.length y1.Y.c, .bool y1.Y.m, .slice y1.Y.B y1.Y.ds.length y1.Y.d, .bool y1.U.n, .slice y1.U.A y1.U.xs.length y1.U.c, .bool y1.U.m, .slice y1.U.B y1.U.ds.length y1.U.d] := ⟨_, rfl⟩
     have e60 := hk61
     simp only [World.setCells, Nat.zero_add, Nat.reduceAdd] at e60
     have hk62 := Kept.overE hk61 K35 rfl (Nat.le_of_ble_eq_true rfl)
     replace K5 := K5.awayE hk61 n37
     replace K10 := K10.awayE hk61 n38
     replace K14 := K14.awayE hk61 n39
     replace K23 := K23.awayE hk61 n40
     replace K35 := K35.overE hk61 rfl
     replace Z15 := Z15.putE hk61
     replace Z24 := Z24.putE hk61
     replace G := G.kp hk62
     replace H := H.kp hk62
     replace L1 := L1.kp hk62
     replace L2 := L2.kp hk62
     replace BW := Below.putE BW hk61 g41
     clear hk61 hk62
     replace K35 : Box V59 (b42) (ycs y1) := K35
     rw [← e60]
     clear e60
     clear hHeld
     refine hK.out _ _ (by exact ⟨K5, K10.cs⟩) (fun hHeld => ?_)
     clear hK
     (try simp only [p0, p1, p2, p3])
     refine pR1 17 (fun K hK => ?_)
     obtain ⟨c63, c64, c65, c66, c67, c68, c69, c70⟩ := K23.c8
     obtain ⟨c71, c72, c73, c74, c75, c76, c77, c78⟩ := Z24.f8
     go_simp
     clear c63 c64 c65 c66 c67 c68 c69 c70 c71 c72 c73 c74 c75 c76 c77 c78
     obtain ⟨V79, hk81⟩ : ∃ V79, V79 = V59.setCells (b29) 0 [.bool y2.Y.n, .slice y2.Y.A y2.Y.xs.length y2.Y.c, .bool y2.Y.m, .slice y2.Y.B y2.Y.ds.length y2.Y.d, .bool y2.U.n, .slice y2.U.A y2.U.xs.length y2.U.c, .bool y2.U.m, .slice y2.U.B y2.U.ds.length y2.U.d] := ⟨_, rfl⟩
     have e80 := hk81
     simp only [World.setCells, Nat.zero_add, Nat.reduceAdd] at e80
     have hk82 := Kept.overE hk81 K23 rfl (Nat.le_of_ble_eq_true rfl)
     replace K5 := K5.awayE hk81 n25
     replace K10 := K10.awayE hk81 n26
     replace K14 := K14.awayE hk81 n27
     replace K23 := K23.overE hk81 rfl
     replace K35 := K35.awayE hk81 n40.symm
     replace Z15 := Z15.putE hk81
     replace Z24 := Z24.putE hk81
     replace G := G.kp hk82
     replace H := H.kp hk82
     replace L1 := L1.kp hk82
     replace L2 := L2.kp hk82
     replace BW := Below.putE BW hk81 g28
     clear hk81 hk82
     replace K23 : Box V79 (b29) (ycs y2) := K23
     rw [← e80]
     clear e80
     clear hHeld
     refine hK.out _ _ (by exact ⟨K5, K10.cs⟩) (fun hHeld => ?_)
     clear hK
     (try simp only [p0, p1, p2, p3])
     refine wpAnyH_done (by kernel_rfl) (NoPanic.normal ?_) _
     go_wp2
     go_meet
     exact ⟨b42, b29, y1, y2, rfl, rfl, BW, K5, K10, K14, Z15, G, H, K35, K23, n39.symm, n27.symm, L1, L2⟩
    ·go_simp
     obtain ⟨V31, e32, hb33, K34, Z35, -⟩ := alloc_new w30 [.bool false, .slice none 0 0, .bool false, .slice none 0 0, .bool false, .slice none 0 0, .bool false, .slice none 0 0] 122
     replace K34 : Box V31 (w30.heap.size) (zcs8) := K34
     have n36 : w.heap.size ≠ w30.heap.size := Nat.ne_of_lt (K5.lt)
     have n37 : w.heap.size + 1 ≠ w30.heap.size := Nat.ne_of_lt (K10.lt)
     have n38 : w.heap.size + 1 + 1 ≠ w30.heap.size := Nat.ne_of_lt (K14.lt)
     have n39 : b29 ≠ w30.heap.size := Nat.ne_of_lt (K23.lt)
     have g40 : w.heap.size ≤ w30.heap.size := BW.size
     replace K5 := K5.on hb33
     replace K10 := K10.on hb33
     replace K14 := K14.on hb33
     replace K23 := K23.on hb33
     replace Z15 := Z15.on hb33
     replace Z24 := Z24.on hb33
     replace G := G.kp (Kept.of hb33)
     replace H := H.kp (Kept.of hb33)
     replace L1 := L1.kp (Kept.of hb33)
     replace BW := BW.trans (hb33.mono BW.size)
     clear hb33
     rw [← e32]
     clear e32
     generalize w30.heap.size = b41 at *
     clear hHeld
     refine hK.out _ _ (by exact ⟨K5, K10.cs⟩) (fun hHeld => ?_)
     clear hK
     (try simp only [p0, p1, p2, p3])
     refine pR1 13 (fun K hK => ?_)
     go_simp
     (go_at_call 81; with_reducible refine (b_thr G H.col2 hC).mono ?_)
     rintro _ w42 ⟨y2, rfl, L2, hb⟩
     (try go_wp2_with fail)
     replace K5 := K5.on hb
     replace K10 := K10.on hb
     replace K14 := K14.on hb
     replace K23 := K23.on hb
     replace K34 := K34.on hb
     replace Z15 := Z15.on hb
     replace Z24 := Z24.on hb
     replace Z35 := Z35.on hb
     replace G := G.kp (Kept.of hb)
     replace H := H.kp (Kept.of hb)
     replace L1 := L1.kp (Kept.of hb)
     replace BW := BW.trans (hb.mono BW.size)
     clear hb
     clear hHeld
     refine hK.out _ _ (by exact ⟨K5, K10.cs⟩) (fun hHeld => ?_)
     clear hK
     (try simp only [p0, p1, p2, p3])
     refine pR1 16 (fun K hK => ?_)
     obtain ⟨c43, c44, c45, c46, c47, c48, c49, c50⟩ := K34.c8
     obtain ⟨c51, c52, c53, c54, c55, c56, c57, c58⟩ := Z35.f8
     go_simp
     clear c43 c44 c45 c46 c47 c48 c49 c50 c51 c52 c53 c54 c55 c56 c57 c58
     obtain ⟨V59, hk61⟩ : ∃ V59, V59 = w42.setCells (b41) 0 [.bool y1.Y.n, .slice y1.Y.A y1.Y.xs.length y1.Y.c, .bool y1.Y.m, .slice y1.Y.B y1.Y.ds.length y1.Y.d, .bool y1.U.n, .slice y1.U.A y1.U.xs.length y1.U.c, .bool y1.U.m, .slice y1.U.B y1.U.ds.length y1.U.d] := ⟨_, rfl⟩
     have e60 := hk61
     simp only [World.setCells, Nat.zero_add, Nat.reduceAdd] at e60
     have hk62 := Kept.overE hk61 K34 rfl (Nat.le_of_ble_eq_true rfl)
     replace K5 := K5.awayE hk61 n36
     replace K10 := K10.awayE hk61 n37
     replace K14 := K14.awayE hk61 n38
     replace K23 := K23.awayE hk61 n39
     replace K34 := K34.overE hk61 rfl
     replace Z15 := Z15.putE hk61
     replace Z24 := Z24.putE hk61
     replace G := G.kp hk62
     replace H := H.kp hk62
     replace L1 := L1.kp hk62
     replace L2 := L2.kp hk62
     replace BW := Below.putE BW hk61 g40
     clear hk61 hk62
     replace K34 : Box V59 (b41) (ycs y1) := K34
     rw [← e60]
     clear e60
     clear hHeld
     refine hK.out _ _ (by exact ⟨K5, K10.cs⟩) (fun hHeld => ?_)
     clear hK
     (try simp only [p0, p1, p2, p3])
     refine pR1 17 (fun K hK => ?_)
     obtain ⟨c63, c64, c65, c66, c67, c68, c69, c70⟩ := K23.c8
     obtain ⟨c71, c72, c73, c74, c75, c76, c77, c78⟩ := Z24.f8
     go_simp
     clear c63 c64 c65 c66 c67 c68 c69 c70 c71 c72 c73 c74 c75 c76 c77 c78
     obtain ⟨V79, hk81⟩ : ∃ V79, V79 = V59.setCells (b29) 0 [.bool y2.Y.n, .slice y2.Y.A y2.Y.xs.length y2.Y.c, .bool y2.Y.m, .slice y2.Y.B y2.Y.ds.length y2.Y.d, .bool y2.U.n, .slice y2.U.A y2.U.xs.length y2.U.c, .bool y2.U.m, .slice y2.U.B y2.U.ds.length y2.U.d] := ⟨_, rfl⟩
     have e80 := hk81
     simp only [World.setCells, Nat.zero_add, Nat.reduceAdd] at e80
     have hk82 := Kept.overE hk81 K23 rfl (Nat.le_of_ble_eq_true rfl)
     replace K5 := K5.awayE hk81 n25
     replace K10 := K10.awayE hk81 n26
     replace K14 := K14.awayE hk81 n27
     replace K23 := K23.overE hk81 rfl
     replace K34 := K34.awayE hk81 n39.symm
     replace Z15 := Z15.putE hk81
     replace Z24 := Z24.putE hk81
     replace G := G.kp hk82
     replace H := H.kp hk82
     replace L1 := L1.kp hk82
     replace L2 := L2.kp hk82
     replace BW := Below.putE BW hk81 g28
     clear hk81 hk82
     replace K23 : Box V79 (b29) (ycs y2) := K23
     rw [← e80]
     clear e80
     clear hHeld
     refine hK.out _ _ (by exact ⟨K5, K10.cs⟩) (fun hHeld => ?_)
     clear hK
     (try simp only [p0, p1, p2, p3])
     refine wpAnyH_done (by kernel_rfl) (NoPanic.normal ?_) _
     go_wp2
     go_meet
     exact ⟨b41, b29, y1, y2, rfl, rfl, BW, K5, K10, K14, Z15, G, H, K34, K23, n38.symm, n27.symm, L1, L2⟩
   ·go_simp
    obtain ⟨V30, e31, hb32, K33, Z34, -⟩ := alloc_new V20 [.bool false, .slice none 0 0, .bool false, .slice none 0 0, .bool false, .slice none 0 0, .bool false, .slice none 0 0] 122
    replace K33 : Box V30 (V20.heap.size) (zcs8) := K33
    have n35 : w.heap.size ≠ V20.heap.size := Nat.ne_of_lt (K5.lt)
    have n36 : w.heap.size + 1 ≠ V20.heap.size := Nat.ne_of_lt (K10.lt)
    have n37 : w.heap.size + 1 + 1 ≠ V20.heap.size := Nat.ne_of_lt (K14.lt)
    have n38 : b29 ≠ V20.heap.size := Nat.ne_of_lt (K23.lt)
    have g39 : w.heap.size ≤ V20.heap.size := BW.size
    replace K5 := K5.on hb32
    replace K10 := K10.on hb32
    replace K14 := K14.on hb32
    replace K23 := K23.on hb32
    replace Z15 := Z15.on hb32
    replace Z24 := Z24.on hb32
    replace G := G.kp (Kept.of hb32)
    replace H := H.kp (Kept.of hb32)
    replace BW := BW.trans (hb32.mono BW.size)
    clear hb32
    rw [← e31]
    clear e31
    generalize V20.heap.size = b40 at *
    clear hHeld
    refine hK.out _ _ (by exact ⟨K5, K10.cs⟩) (fun hHeld => ?_)
    clear hK
    (try simp only [p0, p1, p2, p3])
    refine pR1 6 (fun K hK => ?_)
    go_simp
    (go_at_call 81; with_reducible refine (b_thr G H.col1 hC).mono ?_)
    rintro _ w41 ⟨y1, rfl, L1, hb⟩
    (try go_wp2_with fail)
    replace K5 := K5.on hb
    replace K10 := K10.on hb
    replace K14 := K14.on hb
    replace K23 := K23.on hb
    replace K33 := K33.on hb
    replace Z15 := Z15.on hb
    replace Z24 := Z24.on hb
    replace Z34 := Z34.on hb
    replace G := G.kp (Kept.of hb)
    replace H := H.kp (Kept.of hb)
    replace BW := BW.trans (hb.mono BW.size)
    clear hb
    clear hHeld
    refine hK.out _ _ (by exact ⟨K5, K10.cs⟩) (fun hHeld => ?_)
    clear hK
    (try simp only [p0, p1, p2, p3])
    refine pR1 13 (fun K hK => ?_)
    go_simp
    (go_at_call 81; with_reducible refine (b_thr G H.col2 hC).mono ?_)
    rintro _ w42 ⟨y2, rfl, L2, hb⟩
    (try go_wp2_with fail)
    replace K5 := K5.on hb
    replace K10 := K10.on hb
    replace K14 := K14.on hb
    replace K23 := K23.on hb
    replace K33 := K33.on hb
    replace Z15 := Z15.on hb
    replace Z24 := Z24.on hb
    replace Z34 := Z34.on hb
    replace G := G.kp (Kept.of hb)
    replace H := H.kp (Kept.of hb)
    replace L1 := L1.kp (Kept.of hb)
    replace BW := BW.trans (hb.mono BW.size)
    clear hb
    clear hHeld
    refine hK.out _ _ (by exact ⟨K5, K10.cs⟩) (fun hHeld => ?_)
    clear hK
    (try simp only [p0, p1, p2, p3])
    refine pR1 16 (fun K hK => ?_)
    obtain ⟨c43, c44, c45, c46, c47, c48, c49, c50⟩ := K33.c8
    obtain ⟨c51, c52, c53, c54, c55, c56, c57, c58⟩ := Z34.f8
    go_simp
    clear c43 c44 c45 c46 c47 c48 c49 c50 c51 c52 c53 c54 c55 c56 c57 c58
    obtain ⟨V59, hk61⟩ : ∃ V59, V59 = w42.setCells (b40) 0 [.bool y1.Y.n, .slice y1.Y.A y1.Y.xs.length y1.Y.c, .bool y1.Y.m, .slice y1.Y.B y1.Y.ds.length y1.Y.d, .bool y1.U.n, .slice y1.U.A y1.U.xs.length y1.U.c, .bool y1.U.m, .slice y1.U.B y1.U.ds.length y1.U.d] := ⟨_, rfl⟩
    have e60 := hk61
    simp only [World.setCells, Nat.zero_add, Nat.reduceAdd] at e60
    have hk62 := Kept.overE hk61 K33 rfl (Nat.le_of_ble_eq_true rfl)
    replace K5 := K5.awayE hk61 n35
    replace K10 := K10.awayE hk61 n36
    replace K14 := K14.awayE hk61 n37
    replace K23 := K23.awayE hk61 n38
    replace K33 := K33.overE hk61 rfl
    replace Z15 := Z15.putE hk61
    replace Z24 := Z24.putE hk61
    replace G := G.kp hk62
    replace H := H.kp hk62
    replace L1 := L1.kp hk62
    replace L2 := L2.kp hk62
    replace BW := Below.putE BW hk61 g39
    clear hk61 hk62
    replace K33 : Box V59 (b40) (ycs y1) := K33
    rw [← e60]
    clear e60
    clear hHeld
    refine hK.out _ _ (by exact ⟨K5, K10.cs⟩) (fun hHeld => ?_)
    clear hK
    (try simp only [p0, p1, p2, p3])
    refine pR1 17 (fun K hK => ?_)
    obtain ⟨c63, c64, c65, c66, c67, c68, c69, c70⟩ := K23.c8
    obtain ⟨c71, c72, c73, c74, c75, c76, c77, c78⟩ := Z24.f8
    go_simp
    clear c63 c64 c65 c66 c67 c68 c69 c70 c71 c72 c73 c74 c75 c76 c77 c78
    obtain ⟨V79, hk81⟩ : ∃ V79, V79 = V59.setCells (b29) 0 [.bool y2.Y.n, .slice y2.Y.A y2.Y.xs.length y2.Y.c, .bool y2.Y.m, .slice y2.Y.B y2.Y.ds.length y2.Y.d, .bool y2.U.n, .slice y2.U.A y2.U.xs.length y2.U.c, .bool y2.U.m, .slice y2.U.B y2.U.ds.length y2.U.d] := ⟨_, rfl⟩
    have e80 := hk81
    simp only [World.setCells, Nat.zero_add, Nat.reduceAdd] at e80
    have hk82 := Kept.overE hk81 K23 rfl (Nat.le_of_ble_eq_true rfl)
    replace K5 := K5.awayE hk81 n25
    replace K10 := K10.awayE hk81 n26
    replace K14 := K14.awayE hk81 n27
    replace K23 := K23.overE hk81 rfl
    replace K33 := K33.awayE hk81 n38.symm
    replace Z15 := Z15.putE hk81
    replace G := G.kp hk82
    replace H := H.kp hk82
    replace L1 := L1.kp hk82
    replace L2 := L2.kp hk82
    replace BW := Below.putE BW hk81 g28
    clear hk81 hk82
    replace K23 : Box V79 (b29) (ycs y2) := K23
    rw [← e80]
    clear e80
    clear hHeld
    refine hK.out _ _ (by exact ⟨K5, K10.cs⟩) (fun hHeld => ?_)
    clear hK
    (try simp only [p0, p1, p2, p3])
    refine wpAnyH_done (by kernel_rfl) (NoPanic.normal ?_) _
    go_wp2
    go_meet
    exact ⟨b40, b29, y1, y2, rfl, rfl, BW, K5, K10, K14, Z15, G, H, K33, K23, n37.symm, n27.symm, L1, L2⟩
 case rest =>
  obtain ⟨pka_0, pka_1, y1, y2, rfl, rfl, BW, K5, K10, K14, Z15, G, H, KNa_0, KNa_1, nn19, nn20, L1, L2⟩ := hcut
  obtain ⟨c21, c22, c23, c24, c25, c26, c27, c28, c29, c30, c31, c32, c33, c34, c35, c36⟩ := K14.c16
  obtain ⟨c37, c38, c39, c40, c41, c42, c43, c44, c45, c46, c47, c48, c49, c50, c51, c52⟩ := Z15.f16
  obtain ⟨c53, c54, c55, c56, c57, c58, c59, c60⟩ := KNa_0.c8
  obtain ⟨c61, c62, c63, c64, c65, c66, c67, c68⟩ := KNa_1.c8
  obtain ⟨V69, hk71⟩ : ∃ V69, V69 = wc.setCells (w.heap.size + 1 + 1) 0 [.bool y1.Y.n, .slice y1.Y.A y1.Y.xs.length y1.Y.c, .bool y1.Y.m, .slice y1.Y.B y1.Y.ds.length y1.Y.d, .bool y2.Y.n, .slice y2.Y.A y2.Y.xs.length y2.Y.c, .bool y2.Y.m, .slice y2.Y.B y2.Y.ds.length y2.Y.d, .bool y1.U.n, .slice y1.U.A y1.U.xs.length y1.U.c, .bool y1.U.m, .slice y1.U.B y1.U.ds.length y1.U.d, .bool y2.U.n, .slice y2.U.A y2.U.xs.length y2.U.c, .bool y2.U.m, .slice y2.U.B y2.U.ds.length y2.U.d] := ⟨_, rfl⟩
  have e70 := hk71
  simp only [World.setCells, Nat.zero_add, Nat.reduceAdd] at e70
  have hk72 := Kept.overE hk71 K14 rfl (Nat.le_of_ble_eq_true rfl)
  replace K14 := K14.overE hk71 rfl
  replace L1 := L1.kp hk72
  replace L2 := L2.kp hk72
  replace BW := Below.putE BW hk71 gz
  clear hk71 hk72
  go_wp2_with fail
  clear c21 c22 c23 c24 c25 c26 c27 c28 c29 c30 c31 c32 c33 c34 c35 c36 c37 c38 c39 c40 c41 c42 c43 c44 c45 c46 c47 c48 c49 c50 c51 c52 c53 c54 c55 c56 c57 c58 c59 c60 c61 c62 c63 c64 c65 c66 c67 c68
  rw [← e70]
  clear e70
  exact bodyPost_ret (v := .agg #[.bool y1.Y.n, .slice y1.Y.A y1.Y.xs.length y1.Y.c, .bool y1.Y.m, .slice y1.Y.B y1.Y.ds.length y1.Y.d, .bool y2.Y.n, .slice y2.Y.A y2.Y.xs.length y2.Y.c, .bool y2.Y.m, .slice y2.Y.B y2.Y.ds.length y2.Y.d, .bool y1.U.n, .slice y1.U.A y1.U.xs.length y1.U.c, .bool y1.U.m, .slice y1.U.B y1.U.ds.length y1.U.d, .bool y2.U.n, .slice y2.U.A y2.U.xs.length y2.U.c, .bool y2.U.m, .slice y2.U.B y2.U.ds.length y2.U.d]) (res_L Tryz.results56 (by rfl) K14 rfl) rfl ⟨⟨y1.Y, y2.Y, y1.U, y2.U⟩, rfl, ⟨L1.gY, L2.gY, L1.gU, L2.gU⟩, BW⟩
set_option maxHeartbeats 8000000 in
set_option maxRecDepth 20000 in
theorem b_both {q r : Mq} {m n : Mv} {C : Nat} {w : World} (G : Gm w q m C) (H : Gm w r n C) (hC : 2 * C + 2 ≤ 1759218604390) :
  Calls Tryz.prog 55 #[mv m, mv n] w (GMx w (r.mul q) (4 * C + 8)) := by
 have BW : Below w.heap.size w w := Below.refl _ _
 obtain ⟨V2, e3, hb4, K5, -, z1⟩ := alloc_new w [.bool m.A.n, .slice m.A.A m.A.xs.length m.A.c, .bool m.A.m, .slice m.A.B m.A.ds.length m.A.d, .bool m.B.n, .slice m.B.A m.B.xs.length m.B.c, .bool m.B.m, .slice m.B.B m.B.ds.length m.B.d, .bool m.C.n, .slice m.C.A m.C.xs.length m.C.c, .bool m.C.m, .slice m.C.B m.C.ds.length m.C.d, .bool m.D.n, .slice m.D.A m.D.xs.length m.D.c, .bool m.D.m, .slice m.D.B m.D.ds.length m.D.d] 90
 replace K5 : Box V2 (w.heap.size) (mcs m) := K5
 replace G := G.kp (Kept.of hb4)
 replace H := H.kp (Kept.of hb4)
 replace BW := BW.trans (hb4.mono BW.size)
 clear hb4
 obtain ⟨V7, e8, hb9, K10, -, z6⟩ := alloc_new V2 [.bool n.A.n, .slice n.A.A n.A.xs.length n.A.c, .bool n.A.m, .slice n.A.B n.A.ds.length n.A.d, .bool n.B.n, .slice n.B.A n.B.xs.length n.B.c, .bool n.B.m, .slice n.B.B n.B.ds.length n.B.d, .bool n.C.n, .slice n.C.A n.C.xs.length n.C.c, .bool n.C.m, .slice n.C.B n.C.ds.length n.C.d, .bool n.D.n, .slice n.D.A n.D.xs.length n.D.c, .bool n.D.m, .slice n.D.B n.D.ds.length n.D.d] 90
 rw [z1] at K10 z6
 replace K10 : Box V7 (w.heap.size + 1) (mcs n) := K10
 replace K5 := K5.on hb9
 replace G := G.kp (Kept.of hb9)
 replace H := H.kp (Kept.of hb9)
 replace BW := BW.trans (hb9.mono BW.size)
 clear hb9
 obtain ⟨V11, e12, hb13, K14, Z15, -⟩ := alloc_new V7 [.bool false, .slice none 0 0, .bool false, .slice none 0 0, .bool false, .slice none 0 0, .bool false, .slice none 0 0, .bool false, .slice none 0 0, .bool false, .slice none 0 0, .bool false, .slice none 0 0, .bool false, .slice none 0 0] 90
 rw [z6] at K14 Z15
 replace K14 : Box V11 (w.heap.size + 1 + 1) (zcs16) := K14
 have n16 : w.heap.size ≠ w.heap.size + 1 + 1 := Nat.ne_of_lt (z6 ▸ K5.lt)
 have n17 : w.heap.size + 1 ≠ w.heap.size + 1 + 1 := Nat.ne_of_lt (z6 ▸ K10.lt)
 have g18 : w.heap.size ≤ w.heap.size + 1 + 1 := z6 ▸ BW.size
 replace K5 := K5.on hb13
 replace K10 := K10.on hb13
 replace G := G.kp (Kept.of hb13)
 replace H := H.kp (Kept.of hb13)
 replace BW := BW.trans (hb13.mono BW.size)
 clear hb13
 clear z1 z6
 go_enter Tryz.func55, Tryz.ntmps55
 go_upto_region 1 with fail
 rw [← e3, ← e8, ← e12]
 clear e3 e8 e12
 have c19 : Box V11 (w.heap.size + 1) [.bool n.A.n, .slice n.A.A n.A.xs.length n.A.c, .bool n.A.m, .slice n.A.B n.A.ds.length n.A.d, .bool n.B.n, .slice n.B.A n.B.xs.length n.B.c, .bool n.B.m, .slice n.B.B n.B.ds.length n.B.d, .bool n.C.n, .slice n.C.A n.C.xs.length n.C.c, .bool n.C.m, .slice n.C.B n.C.ds.length n.C.d, .bool n.D.n, .slice n.D.A n.D.xs.length n.D.c, .bool n.D.m, .slice n.D.B n.D.ds.length n.D.d] := K10
 have c20 : Box V11 (w.heap.size) [.bool m.A.n, .slice m.A.A m.A.xs.length m.A.c, .bool m.A.m, .slice m.A.B m.A.ds.length m.A.d, .bool m.B.n, .slice m.B.A m.B.xs.length m.B.c, .bool m.B.m, .slice m.B.B m.B.ds.length m.B.d, .bool m.C.n, .slice m.C.A m.C.xs.length m.C.c, .bool m.C.m, .slice m.C.B m.C.ds.length m.C.d, .bool m.D.n, .slice m.D.A m.D.xs.length m.D.c, .bool m.D.m, .slice m.D.B m.D.ds.length m.D.d] := K5
 go_wp2_with (first | (refine wpList_ldL (by rfl) (by rfl) (by rfl) c19 (by rfl) ?_) | (refine wpList_ldL (by rfl) (by rfl) (by rfl) c20 (by rfl) ?_))
 clear c19 c20
 refine (b_mul H G hC).mono ?_
 rintro _ w21 ⟨f, rfl, L, hb⟩
 replace K14 := K14.on hb
 replace Z15 := Z15.on hb
 replace BW := BW.trans (hb.mono BW.size)
 clear hb
 obtain ⟨c22, c23, c24, c25, c26, c27, c28, c29, c30, c31, c32, c33, c34, c35, c36, c37⟩ := K14.c16
 obtain ⟨c38, c39, c40, c41, c42, c43, c44, c45, c46, c47, c48, c49, c50, c51, c52, c53⟩ := Z15.f16
 obtain ⟨V54, hk56⟩ : ∃ V54, V54 = w21.setCells (w.heap.size + 1 + 1) 0 [.bool f.A.n, .slice f.A.A f.A.xs.length f.A.c, .bool f.A.m, .slice f.A.B f.A.ds.length f.A.d, .bool f.B.n, .slice f.B.A f.B.xs.length f.B.c, .bool f.B.m, .slice f.B.B f.B.ds.length f.B.d, .bool f.C.n, .slice f.C.A f.C.xs.length f.C.c, .bool f.C.m, .slice f.C.B f.C.ds.length f.C.d, .bool f.D.n, .slice f.D.A f.D.xs.length f.D.c, .bool f.D.m, .slice f.D.B f.D.ds.length f.D.d] := ⟨_, rfl⟩
 have e55 := hk56
 simp only [World.setCells, Nat.zero_add, Nat.reduceAdd] at e55
 have hk57 := Kept.overE hk56 K14 rfl (Nat.le_of_ble_eq_true rfl)
 replace K14 := K14.overE hk56 rfl
 replace L := L.kp hk57
 replace BW := Below.putE BW hk56 g18
 clear hk56 hk57
 replace K14 : Box V54 (w.heap.size + 1 + 1) (mcs f) := K14
 go_wp2_with fail
 clear c22 c23 c24 c25 c26 c27 c28 c29 c30 c31 c32 c33 c34 c35 c36 c37 c38 c39 c40 c41 c42 c43 c44 c45 c46 c47 c48 c49 c50 c51 c52 c53
 rw [← e55]
 clear e55
 exact bodyPost_ret (v := mv f) (res_L Tryz.results55 (by rfl) K14 rfl) rfl ⟨f, rfl, L, BW⟩
end Go.Proofs.YtplgheabhekedaaGreat
