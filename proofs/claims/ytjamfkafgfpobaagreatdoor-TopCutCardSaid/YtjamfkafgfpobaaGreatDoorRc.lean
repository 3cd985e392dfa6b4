/-
  What ray makes of matrices and rays by its sums of two products. Conditions: that they may be.
-/
import Derived.Test.YtjamfkafgfpobaaGreatDoorXta
import Derived.Test.YtjamfkafgfpobaaGreatDoorRc0
import Derived.Deep.RegionHeld3
import Derived.Deep.DeepCutAuto
import Derived.BigRegion
namespace Go.Proofs.YtjamfkafgfpobaaGreatDoor
open Go.RowKit Nb
theorem Box.csT {W : World} {p : Nat} {us : List Value} (K : Box W p us) (o n : Nat) : Cs W p o ((us.drop o).take n) := Cs.of fun i v e => by
 rw [List.getElem?_take] at e
 split at e
 ·rw [List.getElem?_drop] at e
  exact K.c _ _ e
 ·cases e
theorem wr1 : IntKind.i64.wrap 1 = 1 := by decide
theorem wr2 : IntKind.i64.wrap 2 = 2 := by decide
theorem wr3 : IntKind.i64.wrap 3 = 3 := by decide
set_option maxHeartbeats 64000000 in
set_option maxRecDepth 20000 in
theorem y_doMul {q r : Mq} {m n : Mv} {g p1 p2 : Nat} {w : World} (Fm1 : Fm w q m) (Fn1 : Fm w r n) (K1 : Box w p1 (mcs m)) (K2 : Box w p2 (mcs n)) (_n1 : p1 ≠ g) (_n2 : p2 ≠ g) (Kg : Box w g [.int .i64 0]) (Zg : Fz w g) :
    Calls Tryz.prog 55 #[.func (.func 80) #[] #[.pointer (some ⟨g, 0, none⟩)], .pointer (some ⟨p1, 0, none⟩), .pointer (some ⟨p2, 0, none⟩)] w (fun e w' => ∃ (f : Mv) (e1 : Int), e = .returned (mv f) ∧ MIs w' (q.mul r) f e1 ∧ Box w' g [.int .i64 e1] ∧ Fz w' g ∧ But g w w') := by
 replace K1 : Box w p1 [.bool m.A.n, .slice m.A.A m.A.xs.length m.A.c, .bool m.A.m, .slice m.A.B m.A.ds.length m.A.d, .bool m.B.n, .slice m.B.A m.B.xs.length m.B.c, .bool m.B.m, .slice m.B.B m.B.ds.length m.B.d, .bool m.C.n, .slice m.C.A m.C.xs.length m.C.c, .bool m.C.m, .slice m.C.B m.C.ds.length m.C.d, .bool m.D.n, .slice m.D.A m.D.xs.length m.D.c, .bool m.D.m, .slice m.D.B m.D.ds.length m.D.d] := K1
 replace K2 : Box w p2 [.bool n.A.n, .slice n.A.A n.A.xs.length n.A.c, .bool n.A.m, .slice n.A.B n.A.ds.length n.A.d, .bool n.B.n, .slice n.B.A n.B.xs.length n.B.c, .bool n.B.m, .slice n.B.B n.B.ds.length n.B.d, .bool n.C.n, .slice n.C.A n.C.xs.length n.C.c, .bool n.C.m, .slice n.C.B n.C.ds.length n.C.d, .bool n.D.n, .slice n.D.A n.D.xs.length n.D.c, .bool n.D.m, .slice n.D.B n.D.ds.length n.D.d] := K2
 have hg0 := Kg.lt
 have BW : But g w w := But.refl _ _
 obtain ⟨V1, e2, hb3, K4, Z5, -⟩ := alloc_new w [.bool false, .slice none 0 0, .bool false, .slice none 0 0, .bool false, .slice none 0 0, .bool false, .slice none 0 0, .bool false, .slice none 0 0, .bool false, .slice none 0 0, .bool false, .slice none 0 0, .bool false, .slice none 0 0] 37
 have n6 : g ≠ w.heap.size := Nat.ne_of_lt (Kg.lt)
 have n7 : p1 ≠ w.heap.size := Nat.ne_of_lt (K1.lt)
 have n8 : p2 ≠ w.heap.size := Nat.ne_of_lt (K2.lt)
 have g9 : w.heap.size ≤ w.heap.size := BW.size
 replace Kg := Kg.on hb3
 replace K1 := K1.on hb3
 replace K2 := K2.on hb3
 replace Zg := Zg.on hb3
 replace Fm1 := Fm1.kp (Kept.of hb3)
 replace Fn1 := Fn1.kp (Kept.of hb3)
 replace BW := BW.go hg0 hb3
 clear hb3
 go_enter Tryz.func55, Tryz.ntmps55
 go_wp2_with fail
 rw [← e2]
 clear e2
 go_cut [5, 6] (fun sv0 sv1 wx => ∃ (pka_0 pka_1 : Nat), sv0 = .pointer (some ⟨pka_0, 0, none⟩) ∧ sv1 = .pointer (some ⟨pka_1, 0, none⟩) ∧ But g w wx ∧ Box wx (g) [.int .i64 0] ∧ Box wx (p1) [.bool m.A.n, .slice m.A.A m.A.xs.length m.A.c, .bool m.A.m, .slice m.A.B m.A.ds.length m.A.d, .bool m.B.n, .slice m.B.A m.B.xs.length m.B.c, .bool m.B.m, .slice m.B.B m.B.ds.length m.B.d, .bool m.C.n, .slice m.C.A m.C.xs.length m.C.c, .bool m.C.m, .slice m.C.B m.C.ds.length m.C.d, .bool m.D.n, .slice m.D.A m.D.xs.length m.D.c, .bool m.D.m, .slice m.D.B m.D.ds.length m.D.d] ∧ Box wx (p2) [.bool n.A.n, .slice n.A.A n.A.xs.length n.A.c, .bool n.A.m, .slice n.A.B n.A.ds.length n.A.d, .bool n.B.n, .slice n.B.A n.B.xs.length n.B.c, .bool n.B.m, .slice n.B.B n.B.ds.length n.B.d, .bool n.C.n, .slice n.C.A n.C.xs.length n.C.c, .bool n.C.m, .slice n.C.B n.C.ds.length n.C.d, .bool n.D.n, .slice n.D.A n.D.xs.length n.D.c, .bool n.D.m, .slice n.D.B n.D.ds.length n.D.d] ∧ Box wx (w.heap.size) [.bool false, .slice none 0 0, .bool false, .slice none 0 0, .bool false, .slice none 0 0, .bool false, .slice none 0 0, .bool false, .slice none 0 0, .bool false, .slice none 0 0, .bool false, .slice none 0 0, .bool false, .slice none 0 0] ∧ Fz wx (g) ∧ Fz wx (w.heap.size) ∧ Fm wx q m ∧ Fm wx r n ∧ Box wx pka_0 [.bool m.A.n, .slice m.A.A m.A.xs.length m.A.c, .bool m.A.m, .slice m.A.B m.A.ds.length m.A.d, .bool m.B.n, .slice m.B.A m.B.xs.length m.B.c, .bool m.B.m, .slice m.B.B m.B.ds.length m.B.d, .bool m.C.n, .slice m.C.A m.C.xs.length m.C.c, .bool m.C.m, .slice m.C.B m.C.ds.length m.C.d, .bool m.D.n, .slice m.D.A m.D.xs.length m.D.c, .bool m.D.m, .slice m.D.B m.D.ds.length m.D.d] ∧ Box wx pka_1 [.bool n.A.n, .slice n.A.A n.A.xs.length n.A.c, .bool n.A.m, .slice n.A.B n.A.ds.length n.A.d, .bool n.B.n, .slice n.B.A n.B.xs.length n.B.c, .bool n.B.m, .slice n.B.B n.B.ds.length n.B.d, .bool n.C.n, .slice n.C.A n.C.xs.length n.C.c, .bool n.C.m, .slice n.C.B n.C.ds.length n.C.d, .bool n.D.n, .slice n.D.A n.D.xs.length n.D.c, .bool n.D.m, .slice n.D.B n.D.ds.length n.D.d] ∧ pka_0 ≠ g ∧ pka_0 ≠ w.heap.size ∧ pka_1 ≠ g ∧ pka_1 ≠ w.heap.size)
 case first =>
  refine wp_region_noPanic ?_
  have hb : Below V1.heap.size V1 V1.drew := (Below.refl _ _).drew
  replace Kg := Kg.on hb
  replace K1 := K1.on hb
  replace K2 := K2.on hb
  replace K4 := K4.on hb
  replace Zg := Zg.on hb
  replace Z5 := Z5.on hb
  replace Fm1 := Fm1.kp (Kept.of hb)
  replace Fn1 := Fn1.kp (Kept.of hb)
  replace BW := BW.go hg0 hb
  clear hb
  refine wp_region_held_drew (S := (fun wx => Box wx (p1) [.bool m.A.n, .slice m.A.A m.A.xs.length m.A.c, .bool m.A.m, .slice m.A.B m.A.ds.length m.A.d, .bool m.B.n, .slice m.B.A m.B.xs.length m.B.c, .bool m.B.m, .slice m.B.B m.B.ds.length m.B.d, .bool m.C.n, .slice m.C.A m.C.xs.length m.C.c, .bool m.C.m, .slice m.C.B m.C.ds.length m.C.d, .bool m.D.n, .slice m.D.A m.D.xs.length m.D.c, .bool m.D.m, .slice m.D.B m.D.ds.length m.D.d] ∧ Box wx (p2) [.bool n.A.n, .slice n.A.A n.A.xs.length n.A.c, .bool n.A.m, .slice n.A.B n.A.ds.length n.A.d, .bool n.B.n, .slice n.B.A n.B.xs.length n.B.c, .bool n.B.m, .slice n.B.B n.B.ds.length n.B.d, .bool n.C.n, .slice n.C.A n.C.xs.length n.C.c, .bool n.C.m, .slice n.C.B n.C.ds.length n.C.d, .bool n.D.n, .slice n.D.A n.D.xs.length n.D.c, .bool n.D.m, .slice n.D.B n.D.ds.length n.D.d])) (by kernel_rfl) (by exact ⟨K1, K2⟩) (fun hHeld => ?_)
  generalize V1.drew = Vd10 at *
  refine pT 0 ?_ (hy := fun wt hSw => ldM rfl rfl hSw.1)
  (try simp only [p0, p1, p2, p3])
  refine pT 2 ?_ (hy := fun wt hSw => ldM rfl rfl hSw.2)
  (try simp only [p0, p1, p2, p3])
  refine pR3 1 4 5 (fun K hK => ?_) (fun K hK => ?_) (fun K hK => ?_)
  ·go_simp
   (go_at_call 32; with_reducible refine (y_apart).mono ?_)
   rintro _ w11 ⟨rfl, hb⟩
   (try go_wp2_with fail)
   replace Kg := Kg.on hb
   replace K1 := K1.on hb
   replace K2 := K2.on hb
   replace K4 := K4.on hb
   replace Zg := Zg.on hb
   replace Z5 := Z5.on hb
   replace Fm1 := Fm1.kp (Kept.of hb)
   replace Fn1 := Fn1.kp (Kept.of hb)
   replace BW := BW.go hg0 hb
   clear hb
   clear hHeld
   refine hK.out _ _ (by exact ⟨K1, K2⟩) (fun hHeld => ?_)
   clear hK
   (try simp only [p0, p1, p2, p3])
   refine pR3 3 4 5 (fun K hK => ?_) (fun K hK => ?_) (fun K hK => ?_)
   ·go_simp
    (go_at_call 32; with_reducible refine (y_apart).mono ?_)
    rintro _ w12 ⟨rfl, hb⟩
    (try go_wp2_with fail)
    replace Kg := Kg.on hb
    replace K1 := K1.on hb
    replace K2 := K2.on hb
    replace K4 := K4.on hb
    replace Zg := Zg.on hb
    replace Z5 := Z5.on hb
    replace Fm1 := Fm1.kp (Kept.of hb)
    replace Fn1 := Fn1.kp (Kept.of hb)
    replace BW := BW.go hg0 hb
    clear hb
    clear hHeld
    refine hK.out _ _ (by exact ⟨K1, K2⟩) (fun hHeld => ?_)
    clear hK
    (try simp only [p0, p1, p2, p3])
    refine pR2 4 5 (fun K hK => ?_) (fun K hK => ?_)
    ·go_simp
     obtain ⟨V13, e14, hb15, K16, Z17, -⟩ := alloc_new w12 [.bool false, .slice none 0 0, .bool false, .slice none 0 0, .bool false, .slice none 0 0, .bool false, .slice none 0 0, .bool false, .slice none 0 0, .bool false, .slice none 0 0, .bool false, .slice none 0 0, .bool false, .slice none 0 0] 81
     have n18 : g ≠ w12.heap.size := Nat.ne_of_lt (Kg.lt)
     have n19 : p1 ≠ w12.heap.size := Nat.ne_of_lt (K1.lt)
     have n20 : p2 ≠ w12.heap.size := Nat.ne_of_lt (K2.lt)
     have n21 : w.heap.size ≠ w12.heap.size := Nat.ne_of_lt (K4.lt)
     have g22 : w.heap.size ≤ w12.heap.size := BW.size
     replace Kg := Kg.on hb15
     replace K1 := K1.on hb15
     replace K2 := K2.on hb15
     replace K4 := K4.on hb15
     replace Zg := Zg.on hb15
     replace Z5 := Z5.on hb15
     replace Fm1 := Fm1.kp (Kept.of hb15)
     replace Fn1 := Fn1.kp (Kept.of hb15)
     replace BW := BW.go hg0 hb15
     clear hb15
     rw [← e14]
     clear e14
     generalize w12.heap.size = b23 at *
     clear hHeld
     refine hK.out _ _ (by exact ⟨K1, K2⟩) (fun hHeld => ?_)
     clear hK
     (try simp only [p0, p1, p2, p3])
     refine pR1 5 (fun K hK => ?_)
     go_simp
     obtain ⟨V24, e25, hb26, K27, Z28, -⟩ := alloc_new V13 [.bool false, .slice none 0 0, .bool false, .slice none 0 0, .bool false, .slice none 0 0, .bool false, .slice none 0 0, .bool false, .slice none 0 0, .bool false, .slice none 0 0, .bool false, .slice none 0 0, .bool false, .slice none 0 0] 81
     have n29 : g ≠ V13.heap.size := Nat.ne_of_lt (Kg.lt)
     have n30 : p1 ≠ V13.heap.size := Nat.ne_of_lt (K1.lt)
     have n31 : p2 ≠ V13.heap.size := Nat.ne_of_lt (K2.lt)
     have n32 : w.heap.size ≠ V13.heap.size := Nat.ne_of_lt (K4.lt)
     have n33 : b23 ≠ V13.heap.size := Nat.ne_of_lt (K16.lt)
     have g34 : w.heap.size ≤ V13.heap.size := BW.size
     replace Kg := Kg.on hb26
     replace K1 := K1.on hb26
     replace K2 := K2.on hb26
     replace K4 := K4.on hb26
     replace K16 := K16.on hb26
     replace Zg := Zg.on hb26
     replace Z5 := Z5.on hb26
     replace Z17 := Z17.on hb26
     replace Fm1 := Fm1.kp (Kept.of hb26)
     replace Fn1 := Fn1.kp (Kept.of hb26)
     replace BW := BW.go hg0 hb26
     clear hb26
     rw [← e25]
     clear e25
     generalize V13.heap.size = b35 at *
     clear hHeld
     refine hK.out _ _ (by exact ⟨K1, K2⟩) (fun hHeld => ?_)
     clear hK
     (try simp only [p0, p1, p2, p3])
     refine pR1 6 (fun K hK => ?_)
     refine ite_yes (by rfl) (wp_stF rfl rfl rfl K16 Z17 rfl rfl rfl ?_)
     obtain ⟨V36, hk38⟩ : ∃ V36, V36 = V24.setCells (b23) 0 [.bool m.A.n, .slice m.A.A m.A.xs.length m.A.c, .bool m.A.m, .slice m.A.B m.A.ds.length m.A.d, .bool m.B.n, .slice m.B.A m.B.xs.length m.B.c, .bool m.B.m, .slice m.B.B m.B.ds.length m.B.d, .bool m.C.n, .slice m.C.A m.C.xs.length m.C.c, .bool m.C.m, .slice m.C.B m.C.ds.length m.C.d, .bool m.D.n, .slice m.D.A m.D.xs.length m.D.c, .bool m.D.m, .slice m.D.B m.D.ds.length m.D.d] := ⟨_, rfl⟩
     have e37 := hk38
     have hk39 := Kept.overE hk38 K16 rfl (Nat.le_of_ble_eq_true rfl)
     replace Kg := Kg.awayE hk38 n18
     replace K1 := K1.awayE hk38 n19
     replace K2 := K2.awayE hk38 n20
     replace K4 := K4.awayE hk38 n21
     replace K16 := K16.overE hk38 rfl
     replace K27 := K27.awayE hk38 n33.symm
     replace Zg := Zg.putE hk38
     replace Z5 := Z5.putE hk38
     replace Z28 := Z28.putE hk38
     replace Fm1 := Fm1.kp hk39
     replace Fn1 := Fn1.kp hk39
     replace BW := BW.put hk38 hk39 g22 hg0
     clear hk38 hk39
     rw [← e37]
     clear e37
     clear hHeld
     refine hK.out _ _ (by exact ⟨K1, K2⟩) (fun hHeld => ?_)
     clear hK
     (try simp only [p0, p1, p2, p3])
     refine pR1 7 (fun K hK => ?_)
     refine ite_yes (by rfl) (wp_stF rfl rfl rfl K27 Z28 rfl rfl rfl ?_)
     obtain ⟨V40, hk42⟩ : ∃ V40, V40 = V36.setCells (b35) 0 [.bool n.A.n, .slice n.A.A n.A.xs.length n.A.c, .bool n.A.m, .slice n.A.B n.A.ds.length n.A.d, .bool n.B.n, .slice n.B.A n.B.xs.length n.B.c, .bool n.B.m, .slice n.B.B n.B.ds.length n.B.d, .bool n.C.n, .slice n.C.A n.C.xs.length n.C.c, .bool n.C.m, .slice n.C.B n.C.ds.length n.C.d, .bool n.D.n, .slice n.D.A n.D.xs.length n.D.c, .bool n.D.m, .slice n.D.B n.D.ds.length n.D.d] := ⟨_, rfl⟩
     have e41 := hk42
     have hk43 := Kept.overE hk42 K27 rfl (Nat.le_of_ble_eq_true rfl)
     replace Kg := Kg.awayE hk42 n29
     replace K1 := K1.awayE hk42 n30
     replace K2 := K2.awayE hk42 n31
     replace K4 := K4.awayE hk42 n32
     replace K16 := K16.awayE hk42 n33
     replace K27 := K27.overE hk42 rfl
     replace Zg := Zg.putE hk42
     replace Z5 := Z5.putE hk42
     replace Fm1 := Fm1.kp hk43
     replace Fn1 := Fn1.kp hk43
     replace BW := BW.put hk42 hk43 g34 hg0
     clear hk42 hk43
     rw [← e41]
     clear e41
     clear hHeld
     refine hK.out _ _ (by exact ⟨K1, K2⟩) (fun hHeld => ?_)
     clear hK
     (try simp only [p0, p1, p2, p3])
     refine wpAnyH_done (by kernel_rfl) (NoPanic.normal ?_) _
     go_wp2
     go_meet
     exact ⟨b23, b35, rfl, rfl, BW, Kg, K1, K2, K4, Zg, Z5, Fm1, Fn1, K16, K27, n18.symm, n21.symm, n29.symm, n32.symm⟩
    ·go_simp
     obtain ⟨V13, e14, hb15, K16, Z17, -⟩ := alloc_new w12 [.bool false, .slice none 0 0, .bool false, .slice none 0 0, .bool false, .slice none 0 0, .bool false, .slice none 0 0, .bool false, .slice none 0 0, .bool false, .slice none 0 0, .bool false, .slice none 0 0, .bool false, .slice none 0 0] 81
     have n18 : g ≠ w12.heap.size := Nat.ne_of_lt (Kg.lt)
     have n19 : p1 ≠ w12.heap.size := Nat.ne_of_lt (K1.lt)
     have n20 : p2 ≠ w12.heap.size := Nat.ne_of_lt (K2.lt)
     have n21 : w.heap.size ≠ w12.heap.size := Nat.ne_of_lt (K4.lt)
     have g22 : w.heap.size ≤ w12.heap.size := BW.size
     replace Kg := Kg.on hb15
     replace K1 := K1.on hb15
     replace K2 := K2.on hb15
     replace K4 := K4.on hb15
     replace Zg := Zg.on hb15
     replace Z5 := Z5.on hb15
     replace Fm1 := Fm1.kp (Kept.of hb15)
     replace Fn1 := Fn1.kp (Kept.of hb15)
     replace BW := BW.go hg0 hb15
     clear hb15
     rw [← e14]
     clear e14
     generalize w12.heap.size = b23 at *
     clear hHeld
     refine hK.out _ _ (by exact ⟨K1, K2⟩) (fun hHeld => ?_)
     clear hK
     (try simp only [p0, p1, p2, p3])
     refine pR1 4 (fun K hK => ?_)
     go_simp
     obtain ⟨V24, e25, hb26, K27, Z28, -⟩ := alloc_new V13 [.bool false, .slice none 0 0, .bool false, .slice none 0 0, .bool false, .slice none 0 0, .bool false, .slice none 0 0, .bool false, .slice none 0 0, .bool false, .slice none 0 0, .bool false, .slice none 0 0, .bool false, .slice none 0 0] 81
     have n29 : g ≠ V13.heap.size := Nat.ne_of_lt (Kg.lt)
     have n30 : p1 ≠ V13.heap.size := Nat.ne_of_lt (K1.lt)
     have n31 : p2 ≠ V13.heap.size := Nat.ne_of_lt (K2.lt)
     have n32 : w.heap.size ≠ V13.heap.size := Nat.ne_of_lt (K4.lt)
     have n33 : b23 ≠ V13.heap.size := Nat.ne_of_lt (K16.lt)
     have g34 : w.heap.size ≤ V13.heap.size := BW.size
     replace Kg := Kg.on hb26
     replace K1 := K1.on hb26
     replace K2 := K2.on hb26
     replace K4 := K4.on hb26
     replace K16 := K16.on hb26
     replace Zg := Zg.on hb26
     replace Z5 := Z5.on hb26
     replace Z17 := Z17.on hb26
     replace Fm1 := Fm1.kp (Kept.of hb26)
     replace Fn1 := Fn1.kp (Kept.of hb26)
     replace BW := BW.go hg0 hb26
     clear hb26
     rw [← e25]
     clear e25
     generalize V13.heap.size = b35 at *
     clear hHeld
     refine hK.out _ _ (by exact ⟨K1, K2⟩) (fun hHeld => ?_)
     clear hK
     (try simp only [p0, p1, p2, p3])
     refine pR1 6 (fun K hK => ?_)
     refine ite_yes (by rfl) (wp_stF rfl rfl rfl K27 Z28 rfl rfl rfl ?_)
     obtain ⟨V36, hk38⟩ : ∃ V36, V36 = V24.setCells (b35) 0 [.bool m.A.n, .slice m.A.A m.A.xs.length m.A.c, .bool m.A.m, .slice m.A.B m.A.ds.length m.A.d, .bool m.B.n, .slice m.B.A m.B.xs.length m.B.c, .bool m.B.m, .slice m.B.B m.B.ds.length m.B.d, .bool m.C.n, .slice m.C.A m.C.xs.length m.C.c, .bool m.C.m, .slice m.C.B m.C.ds.length m.C.d, .bool m.D.n, .slice m.D.A m.D.xs.length m.D.c, .bool m.D.m, .slice m.D.B m.D.ds.length m.D.d] := ⟨_, rfl⟩
     have e37 := hk38
     have hk39 := Kept.overE hk38 K27 rfl (Nat.le_of_ble_eq_true rfl)
     replace Kg := Kg.awayE hk38 n29
     replace K1 := K1.awayE hk38 n30
     replace K2 := K2.awayE hk38 n31
     replace K4 := K4.awayE hk38 n32
     replace K16 := K16.awayE hk38 n33
     replace K27 := K27.overE hk38 rfl
     replace Zg := Zg.putE hk38
     replace Z5 := Z5.putE hk38
     replace Z17 := Z17.putE hk38
     replace Fm1 := Fm1.kp hk39
     replace Fn1 := Fn1.kp hk39
     replace BW := BW.put hk38 hk39 g34 hg0
     clear hk38 hk39
     rw [← e37]
     clear e37
     clear hHeld
     refine hK.out _ _ (by exact ⟨K1, K2⟩) (fun hHeld => ?_)
     clear hK
     (try simp only [p0, p1, p2, p3])
     refine pR1 7 (fun K hK => ?_)
     refine ite_yes (by rfl) (wp_stF rfl rfl rfl K16 Z17 rfl rfl rfl ?_)
     obtain ⟨V40, hk42⟩ : ∃ V40, V40 = V36.setCells (b23) 0 [.bool n.A.n, .slice n.A.A n.A.xs.length n.A.c, .bool n.A.m, .slice n.A.B n.A.ds.length n.A.d, .bool n.B.n, .slice n.B.A n.B.xs.length n.B.c, .bool n.B.m, .slice n.B.B n.B.ds.length n.B.d, .bool n.C.n, .slice n.C.A n.C.xs.length n.C.c, .bool n.C.m, .slice n.C.B n.C.ds.length n.C.d, .bool n.D.n, .slice n.D.A n.D.xs.length n.D.c, .bool n.D.m, .slice n.D.B n.D.ds.length n.D.d] := ⟨_, rfl⟩
     have e41 := hk42
     have hk43 := Kept.overE hk42 K16 rfl (Nat.le_of_ble_eq_true rfl)
     replace Kg := Kg.awayE hk42 n18
     replace K1 := K1.awayE hk42 n19
     replace K2 := K2.awayE hk42 n20
     replace K4 := K4.awayE hk42 n21
     replace K16 := K16.overE hk42 rfl
     replace K27 := K27.awayE hk42 n33.symm
     replace Zg := Zg.putE hk42
     replace Z5 := Z5.putE hk42
     replace Fm1 := Fm1.kp hk43
     replace Fn1 := Fn1.kp hk43
     replace BW := BW.put hk42 hk43 g22 hg0
     clear hk42 hk43
     rw [← e41]
     clear e41
     clear hHeld
     refine hK.out _ _ (by exact ⟨K1, K2⟩) (fun hHeld => ?_)
     clear hK
     (try simp only [p0, p1, p2, p3])
     refine wpAnyH_done (by kernel_rfl) (NoPanic.normal ?_) _
     go_wp2
     go_meet
     exact ⟨b35, b23, rfl, rfl, BW, Kg, K1, K2, K4, Zg, Z5, Fm1, Fn1, K27, K16, n29.symm, n32.symm, n18.symm, n21.symm⟩
   ·go_simp
    obtain ⟨V12, e13, hb14, K15, Z16, -⟩ := alloc_new w11 [.bool false, .slice none 0 0, .bool false, .slice none 0 0, .bool false, .slice none 0 0, .bool false, .slice none 0 0, .bool false, .slice none 0 0, .bool false, .slice none 0 0, .bool false, .slice none 0 0, .bool false, .slice none 0 0] 81
    have n17 : g ≠ w11.heap.size := Nat.ne_of_lt (Kg.lt)
    have n18 : p1 ≠ w11.heap.size := Nat.ne_of_lt (K1.lt)
    have n19 : p2 ≠ w11.heap.size := Nat.ne_of_lt (K2.lt)
    have n20 : w.heap.size ≠ w11.heap.size := Nat.ne_of_lt (K4.lt)
    have g21 : w.heap.size ≤ w11.heap.size := BW.size
    replace Kg := Kg.on hb14
    replace K1 := K1.on hb14
    replace K2 := K2.on hb14
    replace K4 := K4.on hb14
    replace Zg := Zg.on hb14
    replace Z5 := Z5.on hb14
    replace Fm1 := Fm1.kp (Kept.of hb14)
    replace Fn1 := Fn1.kp (Kept.of hb14)
    replace BW := BW.go hg0 hb14
    clear hb14
    rw [← e13]
    clear e13
    generalize w11.heap.size = b22 at *
    clear hHeld
    refine hK.out _ _ (by exact ⟨K1, K2⟩) (fun hHeld => ?_)
    clear hK
    (try simp only [p0, p1, p2, p3])
    refine pR2 3 5 (fun K hK => ?_) (fun K hK => ?_)
    ·go_simp
     (go_at_call 32; with_reducible refine (y_apart).mono ?_)
     rintro _ w23 ⟨rfl, hb⟩
     (try go_wp2_with fail)
     replace Kg := Kg.on hb
     replace K1 := K1.on hb
     replace K2 := K2.on hb
     replace K4 := K4.on hb
     replace K15 := K15.on hb
     replace Zg := Zg.on hb
     replace Z5 := Z5.on hb
     replace Z16 := Z16.on hb
     replace Fm1 := Fm1.kp (Kept.of hb)
     replace Fn1 := Fn1.kp (Kept.of hb)
     replace BW := BW.go hg0 hb
     clear hb
     clear hHeld
     refine hK.out _ _ (by exact ⟨K1, K2⟩) (fun hHeld => ?_)
     clear hK
     (try simp only [p0, p1, p2, p3])
     refine pR1 5 (fun K hK => ?_)
     go_simp
     obtain ⟨V24, e25, hb26, K27, Z28, -⟩ := alloc_new w23 [.bool false, .slice none 0 0, .bool false, .slice none 0 0, .bool false, .slice none 0 0, .bool false, .slice none 0 0, .bool false, .slice none 0 0, .bool false, .slice none 0 0, .bool false, .slice none 0 0, .bool false, .slice none 0 0] 81
     have n29 : g ≠ w23.heap.size := Nat.ne_of_lt (Kg.lt)
     have n30 : p1 ≠ w23.heap.size := Nat.ne_of_lt (K1.lt)
     have n31 : p2 ≠ w23.heap.size := Nat.ne_of_lt (K2.lt)
     have n32 : w.heap.size ≠ w23.heap.size := Nat.ne_of_lt (K4.lt)
     have n33 : b22 ≠ w23.heap.size := Nat.ne_of_lt (K15.lt)
     have g34 : w.heap.size ≤ w23.heap.size := BW.size
     replace Kg := Kg.on hb26
     replace K1 := K1.on hb26
     replace K2 := K2.on hb26
     replace K4 := K4.on hb26
     replace K15 := K15.on hb26
     replace Zg := Zg.on hb26
     replace Z5 := Z5.on hb26
     replace Z16 := Z16.on hb26
     replace Fm1 := Fm1.kp (Kept.of hb26)
     replace Fn1 := Fn1.kp (Kept.of hb26)
     replace BW := BW.go hg0 hb26
     clear hb26
     rw [← e25]
     clear e25
     generalize w23.heap.size = b35 at *
     clear hHeld
     refine hK.out _ _ (by exact ⟨K1, K2⟩) (fun hHeld => ?_)
     clear hK
     (try simp only [p0, p1, p2, p3])
     refine pR1 6 (fun K hK => ?_)
     refine ite_yes (by rfl) (wp_stF rfl rfl rfl K15 Z16 rfl rfl rfl ?_)
     obtain ⟨V36, hk38⟩ : ∃ V36, V36 = V24.setCells (b22) 0 [.bool m.A.n, .slice m.A.A m.A.xs.length m.A.c, .bool m.A.m, .slice m.A.B m.A.ds.length m.A.d, .bool m.B.n, .slice m.B.A m.B.xs.length m.B.c, .bool m.B.m, .slice m.B.B m.B.ds.length m.B.d, .bool m.C.n, .slice m.C.A m.C.xs.length m.C.c, .bool m.C.m, .slice m.C.B m.C.ds.length m.C.d, .bool m.D.n, .slice m.D.A m.D.xs.length m.D.c, .bool m.D.m, .slice m.D.B m.D.ds.length m.D.d] := ⟨_, rfl⟩
     have e37 := hk38
     have hk39 := Kept.overE hk38 K15 rfl (Nat.le_of_ble_eq_true rfl)
     replace Kg := Kg.awayE hk38 n17
     replace K1 := K1.awayE hk38 n18
     replace K2 := K2.awayE hk38 n19
     replace K4 := K4.awayE hk38 n20
     replace K15 := K15.overE hk38 rfl
     replace K27 := K27.awayE hk38 n33.symm
     replace Zg := Zg.putE hk38
     replace Z5 := Z5.putE hk38
     replace Z28 := Z28.putE hk38
     replace Fm1 := Fm1.kp hk39
     replace Fn1 := Fn1.kp hk39
     replace BW := BW.put hk38 hk39 g21 hg0
     clear hk38 hk39
     rw [← e37]
     clear e37
     clear hHeld
     refine hK.out _ _ (by exact ⟨K1, K2⟩) (fun hHeld => ?_)
     clear hK
     (try simp only [p0, p1, p2, p3])
     refine pR1 7 (fun K hK => ?_)
     refine ite_yes (by rfl) (wp_stF rfl rfl rfl K27 Z28 rfl rfl rfl ?_)
     obtain ⟨V40, hk42⟩ : ∃ V40, V40 = V36.setCells (b35) 0 [.bool n.A.n, .slice n.A.A n.A.xs.length n.A.c, .bool n.A.m, .slice n.A.B n.A.ds.length n.A.d, .bool n.B.n, .slice n.B.A n.B.xs.length n.B.c, .bool n.B.m, .slice n.B.B n.B.ds.length n.B.d, .bool n.C.n, .slice n.C.A n.C.xs.length n.C.c, .bool n.C.m, .slice n.C.B n.C.ds.length n.C.d, .bool n.D.n, .slice n.D.A n.D.xs.length n.D.c, .bool n.D.m, .slice n.D.B n.D.ds.length n.D.d] := ⟨_, rfl⟩
     have e41 := hk42
     have hk43 := Kept.overE hk42 K27 rfl (Nat.le_of_ble_eq_true rfl)
     replace Kg := Kg.awayE hk42 n29
     replace K1 := K1.awayE hk42 n30
     replace K2 := K2.awayE hk42 n31
     replace K4 := K4.awayE hk42 n32
     replace K15 := K15.awayE hk42 n33
     replace K27 := K27.overE hk42 rfl
     replace Zg := Zg.putE hk42
     replace Z5 := Z5.putE hk42
     replace Fm1 := Fm1.kp hk43
     replace Fn1 := Fn1.kp hk43
     replace BW := BW.put hk42 hk43 g34 hg0
     clear hk42 hk43
     rw [← e41]
     clear e41
     clear hHeld
     refine hK.out _ _ (by exact ⟨K1, K2⟩) (fun hHeld => ?_)
     clear hK
     (try simp only [p0, p1, p2, p3])
     refine wpAnyH_done (by kernel_rfl) (NoPanic.normal ?_) _
     go_wp2
     go_meet
     exact ⟨b22, b35, rfl, rfl, BW, Kg, K1, K2, K4, Zg, Z5, Fm1, Fn1, K15, K27, n17.symm, n20.symm, n29.symm, n32.symm⟩
    ·go_simp
     obtain ⟨V23, e24, hb25, K26, Z27, -⟩ := alloc_new V12 [.bool false, .slice none 0 0, .bool false, .slice none 0 0, .bool false, .slice none 0 0, .bool false, .slice none 0 0, .bool false, .slice none 0 0, .bool false, .slice none 0 0, .bool false, .slice none 0 0, .bool false, .slice none 0 0] 81
     have n28 : g ≠ V12.heap.size := Nat.ne_of_lt (Kg.lt)
     have n29 : p1 ≠ V12.heap.size := Nat.ne_of_lt (K1.lt)
     have n30 : p2 ≠ V12.heap.size := Nat.ne_of_lt (K2.lt)
     have n31 : w.heap.size ≠ V12.heap.size := Nat.ne_of_lt (K4.lt)
     have n32 : b22 ≠ V12.heap.size := Nat.ne_of_lt (K15.lt)
     have g33 : w.heap.size ≤ V12.heap.size := BW.size
     replace Kg := Kg.on hb25
     replace K1 := K1.on hb25
     replace K2 := K2.on hb25
     replace K4 := K4.on hb25
     replace K15 := K15.on hb25
     replace Zg := Zg.on hb25
     replace Z5 := Z5.on hb25
     replace Z16 := Z16.on hb25
     replace Fm1 := Fm1.kp (Kept.of hb25)
     replace Fn1 := Fn1.kp (Kept.of hb25)
     replace BW := BW.go hg0 hb25
     clear hb25
     rw [← e24]
     clear e24
     generalize V12.heap.size = b34 at *
     clear hHeld
     refine hK.out _ _ (by exact ⟨K1, K2⟩) (fun hHeld => ?_)
     clear hK
     (try simp only [p0, p1, p2, p3])
     refine pR1 3 (fun K hK => ?_)
     go_simp
     (go_at_call 32; with_reducible refine (y_apart).mono ?_)
     rintro _ w35 ⟨rfl, hb⟩
     (try go_wp2_with fail)
     replace Kg := Kg.on hb
     replace K1 := K1.on hb
     replace K2 := K2.on hb
     replace K4 := K4.on hb
     replace K15 := K15.on hb
     replace K26 := K26.on hb
     replace Zg := Zg.on hb
     replace Z5 := Z5.on hb
     replace Z16 := Z16.on hb
     replace Z27 := Z27.on hb
     replace Fm1 := Fm1.kp (Kept.of hb)
     replace Fn1 := Fn1.kp (Kept.of hb)
     replace BW := BW.go hg0 hb
     clear hb
     clear hHeld
     refine hK.out _ _ (by exact ⟨K1, K2⟩) (fun hHeld => ?_)
     clear hK
     (try simp only [p0, p1, p2, p3])
     refine pR1 6 (fun K hK => ?_)
     refine ite_yes (by rfl) (wp_stF rfl rfl rfl K15 Z16 rfl rfl rfl ?_)
     obtain ⟨V36, hk38⟩ : ∃ V36, V36 = w35.setCells (b22) 0 [.bool m.A.n, .slice m.A.A m.A.xs.length m.A.c, .bool m.A.m, .slice m.A.B m.A.ds.length m.A.d, .bool m.B.n, .slice m.B.A m.B.xs.length m.B.c, .bool m.B.m, .slice m.B.B m.B.ds.length m.B.d, .bool m.C.n, .slice m.C.A m.C.xs.length m.C.c, .bool m.C.m, .slice m.C.B m.C.ds.length m.C.d, .bool m.D.n, .slice m.D.A m.D.xs.length m.D.c, .bool m.D.m, .slice m.D.B m.D.ds.length m.D.d] := ⟨_, rfl⟩
     have e37 := hk38
     have hk39 := Kept.overE hk38 K15 rfl (Nat.le_of_ble_eq_true rfl)
     replace Kg := Kg.awayE hk38 n17
     replace K1 := K1.awayE hk38 n18
     replace K2 := K2.awayE hk38 n19
     replace K4 := K4.awayE hk38 n20
     replace K15 := K15.overE hk38 rfl
     replace K26 := K26.awayE hk38 n32.symm
     replace Zg := Zg.putE hk38
     replace Z5 := Z5.putE hk38
     replace Z27 := Z27.putE hk38
     replace Fm1 := Fm1.kp hk39
     replace Fn1 := Fn1.kp hk39
     replace BW := BW.put hk38 hk39 g21 hg0
     clear hk38 hk39
     rw [← e37]
     clear e37
     clear hHeld
     refine hK.out _ _ (by exact ⟨K1, K2⟩) (fun hHeld => ?_)
     clear hK
     (try simp only [p0, p1, p2, p3])
     refine pR1 7 (fun K hK => ?_)
     refine ite_yes (by rfl) (wp_stF rfl rfl rfl K26 Z27 rfl rfl rfl ?_)
     obtain ⟨V40, hk42⟩ : ∃ V40, V40 = V36.setCells (b34) 0 [.bool n.A.n, .slice n.A.A n.A.xs.length n.A.c, .bool n.A.m, .slice n.A.B n.A.ds.length n.A.d, .bool n.B.n, .slice n.B.A n.B.xs.length n.B.c, .bool n.B.m, .slice n.B.B n.B.ds.length n.B.d, .bool n.C.n, .slice n.C.A n.C.xs.length n.C.c, .bool n.C.m, .slice n.C.B n.C.ds.length n.C.d, .bool n.D.n, .slice n.D.A n.D.xs.length n.D.c, .bool n.D.m, .slice n.D.B n.D.ds.length n.D.d] := ⟨_, rfl⟩
     have e41 := hk42
     have hk43 := Kept.overE hk42 K26 rfl (Nat.le_of_ble_eq_true rfl)
     replace Kg := Kg.awayE hk42 n28
     replace K1 := K1.awayE hk42 n29
     replace K2 := K2.awayE hk42 n30
     replace K4 := K4.awayE hk42 n31
     replace K15 := K15.awayE hk42 n32
     replace K26 := K26.overE hk42 rfl
     replace Zg := Zg.putE hk42
     replace Z5 := Z5.putE hk42
     replace Fm1 := Fm1.kp hk43
     replace Fn1 := Fn1.kp hk43
     replace BW := BW.put hk42 hk43 g33 hg0
     clear hk42 hk43
     rw [← e41]
     clear e41
     clear hHeld
     refine hK.out _ _ (by exact ⟨K1, K2⟩) (fun hHeld => ?_)
     clear hK
     (try simp only [p0, p1, p2, p3])
     refine wpAnyH_done (by kernel_rfl) (NoPanic.normal ?_) _
     go_wp2
     go_meet
     exact ⟨b22, b34, rfl, rfl, BW, Kg, K1, K2, K4, Zg, Z5, Fm1, Fn1, K15, K26, n17.symm, n20.symm, n28.symm, n31.symm⟩
   ·go_simp
    obtain ⟨V12, e13, hb14, K15, Z16, -⟩ := alloc_new w11 [.bool false, .slice none 0 0, .bool false, .slice none 0 0, .bool false, .slice none 0 0, .bool false, .slice none 0 0, .bool false, .slice none 0 0, .bool false, .slice none 0 0, .bool false, .slice none 0 0, .bool false, .slice none 0 0] 81
    have n17 : g ≠ w11.heap.size := Nat.ne_of_lt (Kg.lt)
    have n18 : p1 ≠ w11.heap.size := Nat.ne_of_lt (K1.lt)
    have n19 : p2 ≠ w11.heap.size := Nat.ne_of_lt (K2.lt)
    have n20 : w.heap.size ≠ w11.heap.size := Nat.ne_of_lt (K4.lt)
    have g21 : w.heap.size ≤ w11.heap.size := BW.size
    replace Kg := Kg.on hb14
    replace K1 := K1.on hb14
    replace K2 := K2.on hb14
    replace K4 := K4.on hb14
    replace Zg := Zg.on hb14
    replace Z5 := Z5.on hb14
    replace Fm1 := Fm1.kp (Kept.of hb14)
    replace Fn1 := Fn1.kp (Kept.of hb14)
    replace BW := BW.go hg0 hb14
    clear hb14
    rw [← e13]
    clear e13
    generalize w11.heap.size = b22 at *
    clear hHeld
    refine hK.out _ _ (by exact ⟨K1, K2⟩) (fun hHeld => ?_)
    clear hK
    (try simp only [p0, p1, p2, p3])
    refine pR2 3 4 (fun K hK => ?_) (fun K hK => ?_)
    ·go_simp
     (go_at_call 32; with_reducible refine (y_apart).mono ?_)
     rintro _ w23 ⟨rfl, hb⟩
     (try go_wp2_with fail)
     replace Kg := Kg.on hb
     replace K1 := K1.on hb
     replace K2 := K2.on hb
     replace K4 := K4.on hb
     replace K15 := K15.on hb
     replace Zg := Zg.on hb
     replace Z5 := Z5.on hb
     replace Z16 := Z16.on hb
     replace Fm1 := Fm1.kp (Kept.of hb)
     replace Fn1 := Fn1.kp (Kept.of hb)
     replace BW := BW.go hg0 hb
     clear hb
     clear hHeld
     refine hK.out _ _ (by exact ⟨K1, K2⟩) (fun hHeld => ?_)
     clear hK
     (try simp only [p0, p1, p2, p3])
     refine pR1 4 (fun K hK => ?_)
     go_simp
     obtain ⟨V24, e25, hb26, K27, Z28, -⟩ := alloc_new w23 [.bool false, .slice none 0 0, .bool false, .slice none 0 0, .bool false, .slice none 0 0, .bool false, .slice none 0 0, .bool false, .slice none 0 0, .bool false, .slice none 0 0, .bool false, .slice none 0 0, .bool false, .slice none 0 0] 81
     have n29 : g ≠ w23.heap.size := Nat.ne_of_lt (Kg.lt)
     have n30 : p1 ≠ w23.heap.size := Nat.ne_of_lt (K1.lt)
     have n31 : p2 ≠ w23.heap.size := Nat.ne_of_lt (K2.lt)
     have n32 : w.heap.size ≠ w23.heap.size := Nat.ne_of_lt (K4.lt)
     have n33 : b22 ≠ w23.heap.size := Nat.ne_of_lt (K15.lt)
     have g34 : w.heap.size ≤ w23.heap.size := BW.size
     replace Kg := Kg.on hb26
     replace K1 := K1.on hb26
     replace K2 := K2.on hb26
     replace K4 := K4.on hb26
     replace K15 := K15.on hb26
     replace Zg := Zg.on hb26
     replace Z5 := Z5.on hb26
     replace Z16 := Z16.on hb26
     replace Fm1 := Fm1.kp (Kept.of hb26)
     replace Fn1 := Fn1.kp (Kept.of hb26)
     replace BW := BW.go hg0 hb26
     clear hb26
     rw [← e25]
     clear e25
     generalize w23.heap.size = b35 at *
     clear hHeld
     refine hK.out _ _ (by exact ⟨K1, K2⟩) (fun hHeld => ?_)
     clear hK
     (try simp only [p0, p1, p2, p3])
     refine pR1 6 (fun K hK => ?_)
     refine ite_yes (by rfl) (wp_stF rfl rfl rfl K27 Z28 rfl rfl rfl ?_)
     obtain ⟨V36, hk38⟩ : ∃ V36, V36 = V24.setCells (b35) 0 [.bool m.A.n, .slice m.A.A m.A.xs.length m.A.c, .bool m.A.m, .slice m.A.B m.A.ds.length m.A.d, .bool m.B.n, .slice m.B.A m.B.xs.length m.B.c, .bool m.B.m, .slice m.B.B m.B.ds.length m.B.d, .bool m.C.n, .slice m.C.A m.C.xs.length m.C.c, .bool m.C.m, .slice m.C.B m.C.ds.length m.C.d, .bool m.D.n, .slice m.D.A m.D.xs.length m.D.c, .bool m.D.m, .slice m.D.B m.D.ds.length m.D.d] := ⟨_, rfl⟩
     have e37 := hk38
     have hk39 := Kept.overE hk38 K27 rfl (Nat.le_of_ble_eq_true rfl)
     replace Kg := Kg.awayE hk38 n29
     replace K1 := K1.awayE hk38 n30
     replace K2 := K2.awayE hk38 n31
     replace K4 := K4.awayE hk38 n32
     replace K15 := K15.awayE hk38 n33
     replace K27 := K27.overE hk38 rfl
     replace Zg := Zg.putE hk38
     replace Z5 := Z5.putE hk38
     replace Z16 := Z16.putE hk38
     replace Fm1 := Fm1.kp hk39
     replace Fn1 := Fn1.kp hk39
     replace BW := BW.put hk38 hk39 g34 hg0
     clear hk38 hk39
     rw [← e37]
     clear e37
     clear hHeld
     refine hK.out _ _ (by exact ⟨K1, K2⟩) (fun hHeld => ?_)
     clear hK
     (try simp only [p0, p1, p2, p3])
     refine pR1 7 (fun K hK => ?_)
     refine ite_yes (by rfl) (wp_stF rfl rfl rfl K15 Z16 rfl rfl rfl ?_)
     obtain ⟨V40, hk42⟩ : ∃ V40, V40 = V36.setCells (b22) 0 [.bool n.A.n, .slice n.A.A n.A.xs.length n.A.c, .bool n.A.m, .slice n.A.B n.A.ds.length n.A.d, .bool n.B.n, .slice n.B.A n.B.xs.length n.B.c, .bool n.B.m, .slice n.B.B n.B.ds.length n.B.d, .bool n.C.n, .slice n.C.A n.C.xs.length n.C.c, .bool n.C.m, .slice n.C.B n.C.ds.length n.C.d, .bool n.D.n, .slice n.D.A n.D.xs.length n.D.c, .bool n.D.m, .slice n.D.B n.D.ds.length n.D.d] := ⟨_, rfl⟩
     have e41 := hk42
     have hk43 := Kept.overE hk42 K15 rfl (Nat.le_of_ble_eq_true rfl)
     replace Kg := Kg.awayE hk42 n17
     replace K1 := K1.awayE hk42 n18
     replace K2 := K2.awayE hk42 n19
     replace K4 := K4.awayE hk42 n20
     replace K15 := K15.overE hk42 rfl
     replace K27 := K27.awayE hk42 n33.symm
     replace Zg := Zg.putE hk42
     replace Z5 := Z5.putE hk42
     replace Fm1 := Fm1.kp hk43
     replace Fn1 := Fn1.kp hk43
     replace BW := BW.put hk42 hk43 g21 hg0
     clear hk42 hk43
     rw [← e41]
     clear e41
     clear hHeld
     refine hK.out _ _ (by exact ⟨K1, K2⟩) (fun hHeld => ?_)
     clear hK
     (try simp only [p0, p1, p2, p3])
     refine wpAnyH_done (by kernel_rfl) (NoPanic.normal ?_) _
     go_wp2
     go_meet
     exact ⟨b35, b22, rfl, rfl, BW, Kg, K1, K2, K4, Zg, Z5, Fm1, Fn1, K27, K15, n29.symm, n32.symm, n17.symm, n20.symm⟩
    ·go_simp
     obtain ⟨V23, e24, hb25, K26, Z27, -⟩ := alloc_new V12 [.bool false, .slice none 0 0, .bool false, .slice none 0 0, .bool false, .slice none 0 0, .bool false, .slice none 0 0, .bool false, .slice none 0 0, .bool false, .slice none 0 0, .bool false, .slice none 0 0, .bool false, .slice none 0 0] 81
     have n28 : g ≠ V12.heap.size := Nat.ne_of_lt (Kg.lt)
     have n29 : p1 ≠ V12.heap.size := Nat.ne_of_lt (K1.lt)
     have n30 : p2 ≠ V12.heap.size := Nat.ne_of_lt (K2.lt)
     have n31 : w.heap.size ≠ V12.heap.size := Nat.ne_of_lt (K4.lt)
     have n32 : b22 ≠ V12.heap.size := Nat.ne_of_lt (K15.lt)
     have g33 : w.heap.size ≤ V12.heap.size := BW.size
     replace Kg := Kg.on hb25
     replace K1 := K1.on hb25
     replace K2 := K2.on hb25
     replace K4 := K4.on hb25
     replace K15 := K15.on hb25
     replace Zg := Zg.on hb25
     replace Z5 := Z5.on hb25
     replace Z16 := Z16.on hb25
     replace Fm1 := Fm1.kp (Kept.of hb25)
     replace Fn1 := Fn1.kp (Kept.of hb25)
     replace BW := BW.go hg0 hb25
     clear hb25
     rw [← e24]
     clear e24
     generalize V12.heap.size = b34 at *
     clear hHeld
     refine hK.out _ _ (by exact ⟨K1, K2⟩) (fun hHeld => ?_)
     clear hK
     (try simp only [p0, p1, p2, p3])
     refine pR1 3 (fun K hK => ?_)
     go_simp
     (go_at_call 32; with_reducible refine (y_apart).mono ?_)
     rintro _ w35 ⟨rfl, hb⟩
     (try go_wp2_with fail)
     replace Kg := Kg.on hb
     replace K1 := K1.on hb
     replace K2 := K2.on hb
     replace K4 := K4.on hb
     replace K15 := K15.on hb
     replace K26 := K26.on hb
     replace Zg := Zg.on hb
     replace Z5 := Z5.on hb
     replace Z16 := Z16.on hb
     replace Z27 := Z27.on hb
     replace Fm1 := Fm1.kp (Kept.of hb)
     replace Fn1 := Fn1.kp (Kept.of hb)
     replace BW := BW.go hg0 hb
     clear hb
     clear hHeld
     refine hK.out _ _ (by exact ⟨K1, K2⟩) (fun hHeld => ?_)
     clear hK
     (try simp only [p0, p1, p2, p3])
     refine pR1 6 (fun K hK => ?_)
     refine ite_yes (by rfl) (wp_stF rfl rfl rfl K26 Z27 rfl rfl rfl ?_)
     obtain ⟨V36, hk38⟩ : ∃ V36, V36 = w35.setCells (b34) 0 [.bool m.A.n, .slice m.A.A m.A.xs.length m.A.c, .bool m.A.m, .slice m.A.B m.A.ds.length m.A.d, .bool m.B.n, .slice m.B.A m.B.xs.length m.B.c, .bool m.B.m, .slice m.B.B m.B.ds.length m.B.d, .bool m.C.n, .slice m.C.A m.C.xs.length m.C.c, .bool m.C.m, .slice m.C.B m.C.ds.length m.C.d, .bool m.D.n, .slice m.D.A m.D.xs.length m.D.c, .bool m.D.m, .slice m.D.B m.D.ds.length m.D.d] := ⟨_, rfl⟩
     have e37 := hk38
     have hk39 := Kept.overE hk38 K26 rfl (Nat.le_of_ble_eq_true rfl)
     replace Kg := Kg.awayE hk38 n28
     replace K1 := K1.awayE hk38 n29
     replace K2 := K2.awayE hk38 n30
     replace K4 := K4.awayE hk38 n31
     replace K15 := K15.awayE hk38 n32
     replace K26 := K26.overE hk38 rfl
     replace Zg := Zg.putE hk38
     replace Z5 := Z5.putE hk38
     replace Z16 := Z16.putE hk38
     replace Fm1 := Fm1.kp hk39
     replace Fn1 := Fn1.kp hk39
     replace BW := BW.put hk38 hk39 g33 hg0
     clear hk38 hk39
     rw [← e37]
     clear e37
     clear hHeld
     refine hK.out _ _ (by exact ⟨K1, K2⟩) (fun hHeld => ?_)
     clear hK
     (try simp only [p0, p1, p2, p3])
     refine pR1 7 (fun K hK => ?_)
     refine ite_yes (by rfl) (wp_stF rfl rfl rfl K15 Z16 rfl rfl rfl ?_)
     obtain ⟨V40, hk42⟩ : ∃ V40, V40 = V36.setCells (b22) 0 [.bool n.A.n, .slice n.A.A n.A.xs.length n.A.c, .bool n.A.m, .slice n.A.B n.A.ds.length n.A.d, .bool n.B.n, .slice n.B.A n.B.xs.length n.B.c, .bool n.B.m, .slice n.B.B n.B.ds.length n.B.d, .bool n.C.n, .slice n.C.A n.C.xs.length n.C.c, .bool n.C.m, .slice n.C.B n.C.ds.length n.C.d, .bool n.D.n, .slice n.D.A n.D.xs.length n.D.c, .bool n.D.m, .slice n.D.B n.D.ds.length n.D.d] := ⟨_, rfl⟩
     have e41 := hk42
     have hk43 := Kept.overE hk42 K15 rfl (Nat.le_of_ble_eq_true rfl)
     replace Kg := Kg.awayE hk42 n17
     replace K1 := K1.awayE hk42 n18
     replace K2 := K2.awayE hk42 n19
     replace K4 := K4.awayE hk42 n20
     replace K15 := K15.overE hk42 rfl
     replace K26 := K26.awayE hk42 n32.symm
     replace Zg := Zg.putE hk42
     replace Z5 := Z5.putE hk42
     replace Fm1 := Fm1.kp hk43
     replace Fn1 := Fn1.kp hk43
     replace BW := BW.put hk42 hk43 g21 hg0
     clear hk42 hk43
     rw [← e41]
     clear e41
     clear hHeld
     refine hK.out _ _ (by exact ⟨K1, K2⟩) (fun hHeld => ?_)
     clear hK
     (try simp only [p0, p1, p2, p3])
     refine wpAnyH_done (by kernel_rfl) (NoPanic.normal ?_) _
     go_wp2
     go_meet
     exact ⟨b34, b22, rfl, rfl, BW, Kg, K1, K2, K4, Zg, Z5, Fm1, Fn1, K26, K15, n28.symm, n31.symm, n17.symm, n20.symm⟩
  ·go_simp
   obtain ⟨V11, e12, hb13, K14, Z15, -⟩ := alloc_new Vd10 [.bool false, .slice none 0 0, .bool false, .slice none 0 0, .bool false, .slice none 0 0, .bool false, .slice none 0 0, .bool false, .slice none 0 0, .bool false, .slice none 0 0, .bool false, .slice none 0 0, .bool false, .slice none 0 0] 81
   have n16 : g ≠ Vd10.heap.size := Nat.ne_of_lt (Kg.lt)
   have n17 : p1 ≠ Vd10.heap.size := Nat.ne_of_lt (K1.lt)
   have n18 : p2 ≠ Vd10.heap.size := Nat.ne_of_lt (K2.lt)
   have n19 : w.heap.size ≠ Vd10.heap.size := Nat.ne_of_lt (K4.lt)
   have g20 : w.heap.size ≤ Vd10.heap.size := BW.size
   replace Kg := Kg.on hb13
   replace K1 := K1.on hb13
   replace K2 := K2.on hb13
   replace K4 := K4.on hb13
   replace Zg := Zg.on hb13
   replace Z5 := Z5.on hb13
   replace Fm1 := Fm1.kp (Kept.of hb13)
   replace Fn1 := Fn1.kp (Kept.of hb13)
   replace BW := BW.go hg0 hb13
   clear hb13
   rw [← e12]
   clear e12
   generalize Vd10.heap.size = b21 at *
   clear hHeld
   refine hK.out _ _ (by exact ⟨K1, K2⟩) (fun hHeld => ?_)
   clear hK
   (try simp only [p0, p1, p2, p3])
   refine pR2 1 5 (fun K hK => ?_) (fun K hK => ?_)
   ·go_simp
    (go_at_call 32; with_reducible refine (y_apart).mono ?_)
    rintro _ w22 ⟨rfl, hb⟩
    (try go_wp2_with fail)
    replace Kg := Kg.on hb
    replace K1 := K1.on hb
    replace K2 := K2.on hb
    replace K4 := K4.on hb
    replace K14 := K14.on hb
    replace Zg := Zg.on hb
    replace Z5 := Z5.on hb
    replace Z15 := Z15.on hb
    replace Fm1 := Fm1.kp (Kept.of hb)
    replace Fn1 := Fn1.kp (Kept.of hb)
    replace BW := BW.go hg0 hb
    clear hb
    clear hHeld
    refine hK.out _ _ (by exact ⟨K1, K2⟩) (fun hHeld => ?_)
    clear hK
    (try simp only [p0, p1, p2, p3])
    refine pR2 3 5 (fun K hK => ?_) (fun K hK => ?_)
    ·go_simp
     (go_at_call 32; with_reducible refine (y_apart).mono ?_)
     rintro _ w23 ⟨rfl, hb⟩
     (try go_wp2_with fail)
     replace Kg := Kg.on hb
     replace K1 := K1.on hb
     replace K2 := K2.on hb
     replace K4 := K4.on hb
     replace K14 := K14.on hb
     replace Zg := Zg.on hb
     replace Z5 := Z5.on hb
     replace Z15 := Z15.on hb
     replace Fm1 := Fm1.kp (Kept.of hb)
     replace Fn1 := Fn1.kp (Kept.of hb)
     replace BW := BW.go hg0 hb
     clear hb
     clear hHeld
     refine hK.out _ _ (by exact ⟨K1, K2⟩) (fun hHeld => ?_)
     clear hK
     (try simp only [p0, p1, p2, p3])
     refine pR1 5 (fun K hK => ?_)
     go_simp
     obtain ⟨V24, e25, hb26, K27, Z28, -⟩ := alloc_new w23 [.bool false, .slice none 0 0, .bool false, .slice none 0 0, .bool false, .slice none 0 0, .bool false, .slice none 0 0, .bool false, .slice none 0 0, .bool false, .slice none 0 0, .bool false, .slice none 0 0, .bool false, .slice none 0 0] 81
     have n29 : g ≠ w23.heap.size := Nat.ne_of_lt (Kg.lt)
     have n30 : p1 ≠ w23.heap.size := Nat.ne_of_lt (K1.lt)
     have n31 : p2 ≠ w23.heap.size := Nat.ne_of_lt (K2.lt)
     have n32 : w.heap.size ≠ w23.heap.size := Nat.ne_of_lt (K4.lt)
     have n33 : b21 ≠ w23.heap.size := Nat.ne_of_lt (K14.lt)
     have g34 : w.heap.size ≤ w23.heap.size := BW.size
     replace Kg := Kg.on hb26
     replace K1 := K1.on hb26
     replace K2 := K2.on hb26
     replace K4 := K4.on hb26
     replace K14 := K14.on hb26
     replace Zg := Zg.on hb26
     replace Z5 := Z5.on hb26
     replace Z15 := Z15.on hb26
     replace Fm1 := Fm1.kp (Kept.of hb26)
     replace Fn1 := Fn1.kp (Kept.of hb26)
     replace BW := BW.go hg0 hb26
     clear hb26
     rw [← e25]
     clear e25
     generalize w23.heap.size = b35 at *
     clear hHeld
     refine hK.out _ _ (by exact ⟨K1, K2⟩) (fun hHeld => ?_)
     clear hK
     (try simp only [p0, p1, p2, p3])
     refine pR1 6 (fun K hK => ?_)
     refine ite_yes (by rfl) (wp_stF rfl rfl rfl K14 Z15 rfl rfl rfl ?_)
     obtain ⟨V36, hk38⟩ : ∃ V36, V36 = V24.setCells (b21) 0 [.bool m.A.n, .slice m.A.A m.A.xs.length m.A.c, .bool m.A.m, .slice m.A.B m.A.ds.length m.A.d, .bool m.B.n, .slice m.B.A m.B.xs.length m.B.c, .bool m.B.m, .slice m.B.B m.B.ds.length m.B.d, .bool m.C.n, .slice m.C.A m.C.xs.length m.C.c, .bool m.C.m, .slice m.C.B m.C.ds.length m.C.d, .bool m.D.n, .slice m.D.A m.D.xs.length m.D.c, .bool m.D.m, .slice m.D.B m.D.ds.length m.D.d] := ⟨_, rfl⟩
     have e37 := hk38
     have hk39 := Kept.overE hk38 K14 rfl (Nat.le_of_ble_eq_true rfl)
     replace Kg := Kg.awayE hk38 n16
     replace K1 := K1.awayE hk38 n17
     replace K2 := K2.awayE hk38 n18
     replace K4 := K4.awayE hk38 n19
     replace K14 := K14.overE hk38 rfl
     replace K27 := K27.awayE hk38 n33.symm
     replace Zg := Zg.putE hk38
     replace Z5 := Z5.putE hk38
     replace Z28 := Z28.putE hk38
     replace Fm1 := Fm1.kp hk39
     replace Fn1 := Fn1.kp hk39
     replace BW := BW.put hk38 hk39 g20 hg0
     clear hk38 hk39
     rw [← e37]
     clear e37
     clear hHeld
     refine hK.out _ _ (by exact ⟨K1, K2⟩) (fun hHeld => ?_)
     clear hK
     (try simp only [p0, p1, p2, p3])
     refine pR1 7 (fun K hK => ?_)
     refine ite_yes (by rfl) (wp_stF rfl rfl rfl K27 Z28 rfl rfl rfl ?_)
     obtain ⟨V40, hk42⟩ : ∃ V40, V40 = V36.setCells (b35) 0 [.bool n.A.n, .slice n.A.A n.A.xs.length n.A.c, .bool n.A.m, .slice n.A.B n.A.ds.length n.A.d, .bool n.B.n, .slice n.B.A n.B.xs.length n.B.c, .bool n.B.m, .slice n.B.B n.B.ds.length n.B.d, .bool n.C.n, .slice n.C.A n.C.xs.length n.C.c, .bool n.C.m, .slice n.C.B n.C.ds.length n.C.d, .bool n.D.n, .slice n.D.A n.D.xs.length n.D.c, .bool n.D.m, .slice n.D.B n.D.ds.length n.D.d] := ⟨_, rfl⟩
     have e41 := hk42
     have hk43 := Kept.overE hk42 K27 rfl (Nat.le_of_ble_eq_true rfl)
     replace Kg := Kg.awayE hk42 n29
     replace K1 := K1.awayE hk42 n30
     replace K2 := K2.awayE hk42 n31
     replace K4 := K4.awayE hk42 n32
     replace K14 := K14.awayE hk42 n33
     replace K27 := K27.overE hk42 rfl
     replace Zg := Zg.putE hk42
     replace Z5 := Z5.putE hk42
     replace Fm1 := Fm1.kp hk43
     replace Fn1 := Fn1.kp hk43
     replace BW := BW.put hk42 hk43 g34 hg0
     clear hk42 hk43
     rw [← e41]
     clear e41
     clear hHeld
     refine hK.out _ _ (by exact ⟨K1, K2⟩) (fun hHeld => ?_)
     clear hK
     (try simp only [p0, p1, p2, p3])
     refine wpAnyH_done (by kernel_rfl) (NoPanic.normal ?_) _
     go_wp2
     go_meet
     exact ⟨b21, b35, rfl, rfl, BW, Kg, K1, K2, K4, Zg, Z5, Fm1, Fn1, K14, K27, n16.symm, n19.symm, n29.symm, n32.symm⟩
    ·go_simp
     obtain ⟨V23, e24, hb25, K26, Z27, -⟩ := alloc_new w22 [.bool false, .slice none 0 0, .bool false, .slice none 0 0, .bool false, .slice none 0 0, .bool false, .slice none 0 0, .bool false, .slice none 0 0, .bool false, .slice none 0 0, .bool false, .slice none 0 0, .bool false, .slice none 0 0] 81
     have n28 : g ≠ w22.heap.size := Nat.ne_of_lt (Kg.lt)
     have n29 : p1 ≠ w22.heap.size := Nat.ne_of_lt (K1.lt)
     have n30 : p2 ≠ w22.heap.size := Nat.ne_of_lt (K2.lt)
     have n31 : w.heap.size ≠ w22.heap.size := Nat.ne_of_lt (K4.lt)
     have n32 : b21 ≠ w22.heap.size := Nat.ne_of_lt (K14.lt)
     have g33 : w.heap.size ≤ w22.heap.size := BW.size
     replace Kg := Kg.on hb25
     replace K1 := K1.on hb25
     replace K2 := K2.on hb25
     replace K4 := K4.on hb25
     replace K14 := K14.on hb25
     replace Zg := Zg.on hb25
     replace Z5 := Z5.on hb25
     replace Z15 := Z15.on hb25
     replace Fm1 := Fm1.kp (Kept.of hb25)
     replace Fn1 := Fn1.kp (Kept.of hb25)
     replace BW := BW.go hg0 hb25
     clear hb25
     rw [← e24]
     clear e24
     generalize w22.heap.size = b34 at *
     clear hHeld
     refine hK.out _ _ (by exact ⟨K1, K2⟩) (fun hHeld => ?_)
     clear hK
     (try simp only [p0, p1, p2, p3])
     refine pR1 3 (fun K hK => ?_)
     go_simp
     (go_at_call 32; with_reducible refine (y_apart).mono ?_)
     rintro _ w35 ⟨rfl, hb⟩
     (try go_wp2_with fail)
     replace Kg := Kg.on hb
     replace K1 := K1.on hb
     replace K2 := K2.on hb
     replace K4 := K4.on hb
     replace K14 := K14.on hb
     replace K26 := K26.on hb
     replace Zg := Zg.on hb
     replace Z5 := Z5.on hb
     replace Z15 := Z15.on hb
     replace Z27 := Z27.on hb
     replace Fm1 := Fm1.kp (Kept.of hb)
     replace Fn1 := Fn1.kp (Kept.of hb)
     replace BW := BW.go hg0 hb
     clear hb
     clear hHeld
     refine hK.out _ _ (by exact ⟨K1, K2⟩) (fun hHeld => ?_)
     clear hK
     (try simp only [p0, p1, p2, p3])
     refine pR1 6 (fun K hK => ?_)
     refine ite_yes (by rfl) (wp_stF rfl rfl rfl K14 Z15 rfl rfl rfl ?_)
     obtain ⟨V36, hk38⟩ : ∃ V36, V36 = w35.setCells (b21) 0 [.bool m.A.n, .slice m.A.A m.A.xs.length m.A.c, .bool m.A.m, .slice m.A.B m.A.ds.length m.A.d, .bool m.B.n, .slice m.B.A m.B.xs.length m.B.c, .bool m.B.m, .slice m.B.B m.B.ds.length m.B.d, .bool m.C.n, .slice m.C.A m.C.xs.length m.C.c, .bool m.C.m, .slice m.C.B m.C.ds.length m.C.d, .bool m.D.n, .slice m.D.A m.D.xs.length m.D.c, .bool m.D.m, .slice m.D.B m.D.ds.length m.D.d] := ⟨_, rfl⟩
     have e37 := hk38
     have hk39 := Kept.overE hk38 K14 rfl (Nat.le_of_ble_eq_true rfl)
     replace Kg := Kg.awayE hk38 n16
     replace K1 := K1.awayE hk38 n17
     replace K2 := K2.awayE hk38 n18
     replace K4 := K4.awayE hk38 n19
     replace K14 := K14.overE hk38 rfl
     replace K26 := K26.awayE hk38 n32.symm
     replace Zg := Zg.putE hk38
     replace Z5 := Z5.putE hk38
     replace Z27 := Z27.putE hk38
     replace Fm1 := Fm1.kp hk39
     replace Fn1 := Fn1.kp hk39
     replace BW := BW.put hk38 hk39 g20 hg0
     clear hk38 hk39
     rw [← e37]
     clear e37
     clear hHeld
     refine hK.out _ _ (by exact ⟨K1, K2⟩) (fun hHeld => ?_)
     clear hK
     (try simp only [p0, p1, p2, p3])
     refine pR1 7 (fun K hK => ?_)
     refine ite_yes (by rfl) (wp_stF rfl rfl rfl K26 Z27 rfl rfl rfl ?_)
     obtain ⟨V40, hk42⟩ : ∃ V40, V40 = V36.setCells (b34) 0 [.bool n.A.n, .slice n.A.A n.A.xs.length n.A.c, .bool n.A.m, .slice n.A.B n.A.ds.length n.A.d, .bool n.B.n, .slice n.B.A n.B.xs.length n.B.c, .bool n.B.m, .slice n.B.B n.B.ds.length n.B.d, .bool n.C.n, .slice n.C.A n.C.xs.length n.C.c, .bool n.C.m, .slice n.C.B n.C.ds.length n.C.d, .bool n.D.n, .slice n.D.A n.D.xs.length n.D.c, .bool n.D.m, .slice n.D.B n.D.ds.length n.D.d] := ⟨_, rfl⟩
     have e41 := hk42
     have hk43 := Kept.overE hk42 K26 rfl (Nat.le_of_ble_eq_true rfl)
     replace Kg := Kg.awayE hk42 n28
     replace K1 := K1.awayE hk42 n29
     replace K2 := K2.awayE hk42 n30
     replace K4 := K4.awayE hk42 n31
     replace K14 := K14.awayE hk42 n32
     replace K26 := K26.overE hk42 rfl
     replace Zg := Zg.putE hk42
     replace Z5 := Z5.putE hk42
     replace Fm1 := Fm1.kp hk43
     replace Fn1 := Fn1.kp hk43
     replace BW := BW.put hk42 hk43 g33 hg0
     clear hk42 hk43
     rw [← e41]
     clear e41
     clear hHeld
     refine hK.out _ _ (by exact ⟨K1, K2⟩) (fun hHeld => ?_)
     clear hK
     (try simp only [p0, p1, p2, p3])
     refine wpAnyH_done (by kernel_rfl) (NoPanic.normal ?_) _
     go_wp2
     go_meet
     exact ⟨b21, b34, rfl, rfl, BW, Kg, K1, K2, K4, Zg, Z5, Fm1, Fn1, K14, K26, n16.symm, n19.symm, n28.symm, n31.symm⟩
   ·go_simp
    obtain ⟨V22, e23, hb24, K25, Z26, -⟩ := alloc_new V11 [.bool false, .slice none 0 0, .bool false, .slice none 0 0, .bool false, .slice none 0 0, .bool false, .slice none 0 0, .bool false, .slice none 0 0, .bool false, .slice none 0 0, .bool false, .slice none 0 0, .bool false, .slice none 0 0] 81
    have n27 : g ≠ V11.heap.size := Nat.ne_of_lt (Kg.lt)
    have n28 : p1 ≠ V11.heap.size := Nat.ne_of_lt (K1.lt)
    have n29 : p2 ≠ V11.heap.size := Nat.ne_of_lt (K2.lt)
    have n30 : w.heap.size ≠ V11.heap.size := Nat.ne_of_lt (K4.lt)
    have n31 : b21 ≠ V11.heap.size := Nat.ne_of_lt (K14.lt)
    have g32 : w.heap.size ≤ V11.heap.size := BW.size
    replace Kg := Kg.on hb24
    replace K1 := K1.on hb24
    replace K2 := K2.on hb24
    replace K4 := K4.on hb24
    replace K14 := K14.on hb24
    replace Zg := Zg.on hb24
    replace Z5 := Z5.on hb24
    replace Z15 := Z15.on hb24
    replace Fm1 := Fm1.kp (Kept.of hb24)
    replace Fn1 := Fn1.kp (Kept.of hb24)
    replace BW := BW.go hg0 hb24
    clear hb24
    rw [← e23]
    clear e23
    generalize V11.heap.size = b33 at *
    clear hHeld
    refine hK.out _ _ (by exact ⟨K1, K2⟩) (fun hHeld => ?_)
    clear hK
    (try simp only [p0, p1, p2, p3])
    refine pR1 1 (fun K hK => ?_)
    go_simp
    (go_at_call 32; with_reducible refine (y_apart).mono ?_)
    rintro _ w34 ⟨rfl, hb⟩
    (try go_wp2_with fail)
    replace Kg := Kg.on hb
    replace K1 := K1.on hb
    replace K2 := K2.on hb
    replace K4 := K4.on hb
    replace K14 := K14.on hb
    replace K25 := K25.on hb
    replace Zg := Zg.on hb
    replace Z5 := Z5.on hb
    replace Z15 := Z15.on hb
    replace Z26 := Z26.on hb
    replace Fm1 := Fm1.kp (Kept.of hb)
    replace Fn1 := Fn1.kp (Kept.of hb)
    replace BW := BW.go hg0 hb
    clear hb
    clear hHeld
    refine hK.out _ _ (by exact ⟨K1, K2⟩) (fun hHeld => ?_)
    clear hK
    (try simp only [p0, p1, p2, p3])
    refine pR1 3 (fun K hK => ?_)
    go_simp
    (go_at_call 32; with_reducible refine (y_apart).mono ?_)
    rintro _ w35 ⟨rfl, hb⟩
    (try go_wp2_with fail)
    replace Kg := Kg.on hb
    replace K1 := K1.on hb
    replace K2 := K2.on hb
    replace K4 := K4.on hb
    replace K14 := K14.on hb
    replace K25 := K25.on hb
    replace Zg := Zg.on hb
    replace Z5 := Z5.on hb
    replace Z15 := Z15.on hb
    replace Z26 := Z26.on hb
    replace Fm1 := Fm1.kp (Kept.of hb)
    replace Fn1 := Fn1.kp (Kept.of hb)
    replace BW := BW.go hg0 hb
    clear hb
    clear hHeld
    refine hK.out _ _ (by exact ⟨K1, K2⟩) (fun hHeld => ?_)
    clear hK
    (try simp only [p0, p1, p2, p3])
    refine pR1 6 (fun K hK => ?_)
    refine ite_yes (by rfl) (wp_stF rfl rfl rfl K14 Z15 rfl rfl rfl ?_)
    obtain ⟨V36, hk38⟩ : ∃ V36, V36 = w35.setCells (b21) 0 [.bool m.A.n, .slice m.A.A m.A.xs.length m.A.c, .bool m.A.m, .slice m.A.B m.A.ds.length m.A.d, .bool m.B.n, .slice m.B.A m.B.xs.length m.B.c, .bool m.B.m, .slice m.B.B m.B.ds.length m.B.d, .bool m.C.n, .slice m.C.A m.C.xs.length m.C.c, .bool m.C.m, .slice m.C.B m.C.ds.length m.C.d, .bool m.D.n, .slice m.D.A m.D.xs.length m.D.c, .bool m.D.m, .slice m.D.B m.D.ds.length m.D.d] := ⟨_, rfl⟩
    have e37 := hk38
    have hk39 := Kept.overE hk38 K14 rfl (Nat.le_of_ble_eq_true rfl)
    replace Kg := Kg.awayE hk38 n16
    replace K1 := K1.awayE hk38 n17
    replace K2 := K2.awayE hk38 n18
    replace K4 := K4.awayE hk38 n19
    replace K14 := K14.overE hk38 rfl
    replace K25 := K25.awayE hk38 n31.symm
    replace Zg := Zg.putE hk38
    replace Z5 := Z5.putE hk38
    replace Z26 := Z26.putE hk38
    replace Fm1 := Fm1.kp hk39
    replace Fn1 := Fn1.kp hk39
    replace BW := BW.put hk38 hk39 g20 hg0
    clear hk38 hk39
    rw [← e37]
    clear e37
    clear hHeld
    refine hK.out _ _ (by exact ⟨K1, K2⟩) (fun hHeld => ?_)
    clear hK
    (try simp only [p0, p1, p2, p3])
    refine pR1 7 (fun K hK => ?_)
    refine ite_yes (by rfl) (wp_stF rfl rfl rfl K25 Z26 rfl rfl rfl ?_)
    obtain ⟨V40, hk42⟩ : ∃ V40, V40 = V36.setCells (b33) 0 [.bool n.A.n, .slice n.A.A n.A.xs.length n.A.c, .bool n.A.m, .slice n.A.B n.A.ds.length n.A.d, .bool n.B.n, .slice n.B.A n.B.xs.length n.B.c, .bool n.B.m, .slice n.B.B n.B.ds.length n.B.d, .bool n.C.n, .slice n.C.A n.C.xs.length n.C.c, .bool n.C.m, .slice n.C.B n.C.ds.length n.C.d, .bool n.D.n, .slice n.D.A n.D.xs.length n.D.c, .bool n.D.m, .slice n.D.B n.D.ds.length n.D.d] := ⟨_, rfl⟩
    have e41 := hk42
    have hk43 := Kept.overE hk42 K25 rfl (Nat.le_of_ble_eq_true rfl)
    replace Kg := Kg.awayE hk42 n27
    replace K1 := K1.awayE hk42 n28
    replace K2 := K2.awayE hk42 n29
    replace K4 := K4.awayE hk42 n30
    replace K14 := K14.awayE hk42 n31
    replace K25 := K25.overE hk42 rfl
    replace Zg := Zg.putE hk42
    replace Z5 := Z5.putE hk42
    replace Fm1 := Fm1.kp hk43
    replace Fn1 := Fn1.kp hk43
    replace BW := BW.put hk42 hk43 g32 hg0
    clear hk42 hk43
    rw [← e41]
    clear e41
    clear hHeld
    refine hK.out _ _ (by exact ⟨K1, K2⟩) (fun hHeld => ?_)
    clear hK
    (try simp only [p0, p1, p2, p3])
    refine wpAnyH_done (by kernel_rfl) (NoPanic.normal ?_) _
    go_wp2
    go_meet
    exact ⟨b21, b33, rfl, rfl, BW, Kg, K1, K2, K4, Zg, Z5, Fm1, Fn1, K14, K25, n16.symm, n19.symm, n27.symm, n30.symm⟩
  ·go_simp
   obtain ⟨V11, e12, hb13, K14, Z15, -⟩ := alloc_new Vd10 [.bool false, .slice none 0 0, .bool false, .slice none 0 0, .bool false, .slice none 0 0, .bool false, .slice none 0 0, .bool false, .slice none 0 0, .bool false, .slice none 0 0, .bool false, .slice none 0 0, .bool false, .slice none 0 0] 81
   have n16 : g ≠ Vd10.heap.size := Nat.ne_of_lt (Kg.lt)
   have n17 : p1 ≠ Vd10.heap.size := Nat.ne_of_lt (K1.lt)
   have n18 : p2 ≠ Vd10.heap.size := Nat.ne_of_lt (K2.lt)
   have n19 : w.heap.size ≠ Vd10.heap.size := Nat.ne_of_lt (K4.lt)
   have g20 : w.heap.size ≤ Vd10.heap.size := BW.size
   replace Kg := Kg.on hb13
   replace K1 := K1.on hb13
   replace K2 := K2.on hb13
   replace K4 := K4.on hb13
   replace Zg := Zg.on hb13
   replace Z5 := Z5.on hb13
   replace Fm1 := Fm1.kp (Kept.of hb13)
   replace Fn1 := Fn1.kp (Kept.of hb13)
   replace BW := BW.go hg0 hb13
   clear hb13
   rw [← e12]
   clear e12
   generalize Vd10.heap.size = b21 at *
   clear hHeld
   refine hK.out _ _ (by exact ⟨K1, K2⟩) (fun hHeld => ?_)
   clear hK
   (try simp only [p0, p1, p2, p3])
   refine pR2 1 4 (fun K hK => ?_) (fun K hK => ?_)
   ·go_simp
    (go_at_call 32; with_reducible refine (y_apart).mono ?_)
    rintro _ w22 ⟨rfl, hb⟩
    (try go_wp2_with fail)
    replace Kg := Kg.on hb
    replace K1 := K1.on hb
    replace K2 := K2.on hb
    replace K4 := K4.on hb
    replace K14 := K14.on hb
    replace Zg := Zg.on hb
    replace Z5 := Z5.on hb
    replace Z15 := Z15.on hb
    replace Fm1 := Fm1.kp (Kept.of hb)
    replace Fn1 := Fn1.kp (Kept.of hb)
    replace BW := BW.go hg0 hb
    clear hb
    clear hHeld
    refine hK.out _ _ (by exact ⟨K1, K2⟩) (fun hHeld => ?_)
    clear hK
    (try simp only [p0, p1, p2, p3])
    refine pR2 3 4 (fun K hK => ?_) (fun K hK => ?_)
    ·go_simp
     (go_at_call 32; with_reducible refine (y_apart).mono ?_)
     rintro _ w23 ⟨rfl, hb⟩
     (try go_wp2_with fail)
     replace Kg := Kg.on hb
     replace K1 := K1.on hb
     replace K2 := K2.on hb
     replace K4 := K4.on hb
     replace K14 := K14.on hb
     replace Zg := Zg.on hb
     replace Z5 := Z5.on hb
     replace Z15 := Z15.on hb
     replace Fm1 := Fm1.kp (Kept.of hb)
     replace Fn1 := Fn1.kp (Kept.of hb)
     replace BW := BW.go hg0 hb
     clear hb
     clear hHeld
     refine hK.out _ _ (by exact ⟨K1, K2⟩) (fun hHeld => ?_)
     clear hK
     (try simp only [p0, p1, p2, p3])
     refine pR1 4 (fun K hK => ?_)
     go_simp
     obtain ⟨V24, e25, hb26, K27, Z28, -⟩ := alloc_new w23 [.bool false, .slice none 0 0, .bool false, .slice none 0 0, .bool false, .slice none 0 0, .bool false, .slice none 0 0, .bool false, .slice none 0 0, .bool false, .slice none 0 0, .bool false, .slice none 0 0, .bool false, .slice none 0 0] 81
     have n29 : g ≠ w23.heap.size := Nat.ne_of_lt (Kg.lt)
     have n30 : p1 ≠ w23.heap.size := Nat.ne_of_lt (K1.lt)
     have n31 : p2 ≠ w23.heap.size := Nat.ne_of_lt (K2.lt)
     have n32 : w.heap.size ≠ w23.heap.size := Nat.ne_of_lt (K4.lt)
     have n33 : b21 ≠ w23.heap.size := Nat.ne_of_lt (K14.lt)
     have g34 : w.heap.size ≤ w23.heap.size := BW.size
     replace Kg := Kg.on hb26
     replace K1 := K1.on hb26
     replace K2 := K2.on hb26
     replace K4 := K4.on hb26
     replace K14 := K14.on hb26
     replace Zg := Zg.on hb26
     replace Z5 := Z5.on hb26
     replace Z15 := Z15.on hb26
     replace Fm1 := Fm1.kp (Kept.of hb26)
     replace Fn1 := Fn1.kp (Kept.of hb26)
     replace BW := BW.go hg0 hb26
     clear hb26
     rw [← e25]
     clear e25
     generalize w23.heap.size = b35 at *
     clear hHeld
     refine hK.out _ _ (by exact ⟨K1, K2⟩) (fun hHeld => ?_)
     clear hK
     (try simp only [p0, p1, p2, p3])
     refine pR1 6 (fun K hK => ?_)
     refine ite_yes (by rfl) (wp_stF rfl rfl rfl K27 Z28 rfl rfl rfl ?_)
     obtain ⟨V36, hk38⟩ : ∃ V36, V36 = V24.setCells (b35) 0 [.bool m.A.n, .slice m.A.A m.A.xs.length m.A.c, .bool m.A.m, .slice m.A.B m.A.ds.length m.A.d, .bool m.B.n, .slice m.B.A m.B.xs.length m.B.c, .bool m.B.m, .slice m.B.B m.B.ds.length m.B.d, .bool m.C.n, .slice m.C.A m.C.xs.length m.C.c, .bool m.C.m, .slice m.C.B m.C.ds.length m.C.d, .bool m.D.n, .slice m.D.A m.D.xs.length m.D.c, .bool m.D.m, .slice m.D.B m.D.ds.length m.D.d] := ⟨_, rfl⟩
     have e37 := hk38
     have hk39 := Kept.overE hk38 K27 rfl (Nat.le_of_ble_eq_true rfl)
     replace Kg := Kg.awayE hk38 n29
     replace K1 := K1.awayE hk38 n30
     replace K2 := K2.awayE hk38 n31
     replace K4 := K4.awayE hk38 n32
     replace K14 := K14.awayE hk38 n33
     replace K27 := K27.overE hk38 rfl
     replace Zg := Zg.putE hk38
     replace Z5 := Z5.putE hk38
     replace Z15 := Z15.putE hk38
     replace Fm1 := Fm1.kp hk39
     replace Fn1 := Fn1.kp hk39
     replace BW := BW.put hk38 hk39 g34 hg0
     clear hk38 hk39
     rw [← e37]
     clear e37
     clear hHeld
     refine hK.out _ _ (by exact ⟨K1, K2⟩) (fun hHeld => ?_)
     clear hK
     (try simp only [p0, p1, p2, p3])
     refine pR1 7 (fun K hK => ?_)
     refine ite_yes (by rfl) (wp_stF rfl rfl rfl K14 Z15 rfl rfl rfl ?_)
     obtain ⟨V40, hk42⟩ : ∃ V40, V40 = V36.setCells (b21) 0 [.bool n.A.n, .slice n.A.A n.A.xs.length n.A.c, .bool n.A.m, .slice n.A.B n.A.ds.length n.A.d, .bool n.B.n, .slice n.B.A n.B.xs.length n.B.c, .bool n.B.m, .slice n.B.B n.B.ds.length n.B.d, .bool n.C.n, .slice n.C.A n.C.xs.length n.C.c, .bool n.C.m, .slice n.C.B n.C.ds.length n.C.d, .bool n.D.n, .slice n.D.A n.D.xs.length n.D.c, .bool n.D.m, .slice n.D.B n.D.ds.length n.D.d] := ⟨_, rfl⟩
     have e41 := hk42
     have hk43 := Kept.overE hk42 K14 rfl (Nat.le_of_ble_eq_true rfl)
     replace Kg := Kg.awayE hk42 n16
     replace K1 := K1.awayE hk42 n17
     replace K2 := K2.awayE hk42 n18
     replace K4 := K4.awayE hk42 n19
     replace K14 := K14.overE hk42 rfl
     replace K27 := K27.awayE hk42 n33.symm
     replace Zg := Zg.putE hk42
     replace Z5 := Z5.putE hk42
     replace Fm1 := Fm1.kp hk43
     replace Fn1 := Fn1.kp hk43
     replace BW := BW.put hk42 hk43 g20 hg0
     clear hk42 hk43
     rw [← e41]
     clear e41
     clear hHeld
     refine hK.out _ _ (by exact ⟨K1, K2⟩) (fun hHeld => ?_)
     clear hK
     (try simp only [p0, p1, p2, p3])
     refine wpAnyH_done (by kernel_rfl) (NoPanic.normal ?_) _
     go_wp2
     go_meet
     exact ⟨b35, b21, rfl, rfl, BW, Kg, K1, K2, K4, Zg, Z5, Fm1, Fn1, K27, K14, n29.symm, n32.symm, n16.symm, n19.symm⟩
    ·go_simp
     obtain ⟨V23, e24, hb25, K26, Z27, -⟩ := alloc_new w22 [.bool false, .slice none 0 0, .bool false, .slice none 0 0, .bool false, .slice none 0 0, .bool false, .slice none 0 0, .bool false, .slice none 0 0, .bool false, .slice none 0 0, .bool false, .slice none 0 0, .bool false, .slice none 0 0] 81
     have n28 : g ≠ w22.heap.size := Nat.ne_of_lt (Kg.lt)
     have n29 : p1 ≠ w22.heap.size := Nat.ne_of_lt (K1.lt)
     have n30 : p2 ≠ w22.heap.size := Nat.ne_of_lt (K2.lt)
     have n31 : w.heap.size ≠ w22.heap.size := Nat.ne_of_lt (K4.lt)
     have n32 : b21 ≠ w22.heap.size := Nat.ne_of_lt (K14.lt)
     have g33 : w.heap.size ≤ w22.heap.size := BW.size
     replace Kg := Kg.on hb25
     replace K1 := K1.on hb25
     replace K2 := K2.on hb25
     replace K4 := K4.on hb25
     replace K14 := K14.on hb25
     replace Zg := Zg.on hb25
     replace Z5 := Z5.on hb25
     replace Z15 := Z15.on hb25
     replace Fm1 := Fm1.kp (Kept.of hb25)
     replace Fn1 := Fn1.kp (Kept.of hb25)
     replace BW := BW.go hg0 hb25
     clear hb25
     rw [← e24]
     clear e24
     generalize w22.heap.size = b34 at *
     clear hHeld
     refine hK.out _ _ (by exact ⟨K1, K2⟩) (fun hHeld => ?_)
     clear hK
     (try simp only [p0, p1, p2, p3])
     refine pR1 3 (fun K hK => ?_)
     go_simp
     (go_at_call 32; with_reducible refine (y_apart).mono ?_)
     rintro _ w35 ⟨rfl, hb⟩
     (try go_wp2_with fail)
     replace Kg := Kg.on hb
     replace K1 := K1.on hb
     replace K2 := K2.on hb
     replace K4 := K4.on hb
     replace K14 := K14.on hb
     replace K26 := K26.on hb
     replace Zg := Zg.on hb
     replace Z5 := Z5.on hb
     replace Z15 := Z15.on hb
     replace Z27 := Z27.on hb
     replace Fm1 := Fm1.kp (Kept.of hb)
     replace Fn1 := Fn1.kp (Kept.of hb)
     replace BW := BW.go hg0 hb
     clear hb
     clear hHeld
     refine hK.out _ _ (by exact ⟨K1, K2⟩) (fun hHeld => ?_)
     clear hK
     (try simp only [p0, p1, p2, p3])
     refine pR1 6 (fun K hK => ?_)
     refine ite_yes (by rfl) (wp_stF rfl rfl rfl K26 Z27 rfl rfl rfl ?_)
     obtain ⟨V36, hk38⟩ : ∃ V36, V36 = w35.setCells (b34) 0 [.bool m.A.n, .slice m.A.A m.A.xs.length m.A.c, .bool m.A.m, .slice m.A.B m.A.ds.length m.A.d, .bool m.B.n, .slice m.B.A m.B.xs.length m.B.c, .bool m.B.m, .slice m.B.B m.B.ds.length m.B.d, .bool m.C.n, .slice m.C.A m.C.xs.length m.C.c, .bool m.C.m, .slice m.C.B m.C.ds.length m.C.d, .bool m.D.n, .slice m.D.A m.D.xs.length m.D.c, .bool m.D.m, .slice m.D.B m.D.ds.length m.D.d] := ⟨_, rfl⟩
     have e37 := hk38
     have hk39 := Kept.overE hk38 K26 rfl (Nat.le_of_ble_eq_true rfl)
     replace Kg := Kg.awayE hk38 n28
     replace K1 := K1.awayE hk38 n29
     replace K2 := K2.awayE hk38 n30
     replace K4 := K4.awayE hk38 n31
     replace K14 := K14.awayE hk38 n32
     replace K26 := K26.overE hk38 rfl
     replace Zg := Zg.putE hk38
     replace Z5 := Z5.putE hk38
     replace Z15 := Z15.putE hk38
     replace Fm1 := Fm1.kp hk39
     replace Fn1 := Fn1.kp hk39
     replace BW := BW.put hk38 hk39 g33 hg0
     clear hk38 hk39
     rw [← e37]
     clear e37
     clear hHeld
     refine hK.out _ _ (by exact ⟨K1, K2⟩) (fun hHeld => ?_)
     clear hK
     (try simp only [p0, p1, p2, p3])
     refine pR1 7 (fun K hK => ?_)
     refine ite_yes (by rfl) (wp_stF rfl rfl rfl K14 Z15 rfl rfl rfl ?_)
     obtain ⟨V40, hk42⟩ : ∃ V40, V40 = V36.setCells (b21) 0 [.bool n.A.n, .slice n.A.A n.A.xs.length n.A.c, .bool n.A.m, .slice n.A.B n.A.ds.length n.A.d, .bool n.B.n, .slice n.B.A n.B.xs.length n.B.c, .bool n.B.m, .slice n.B.B n.B.ds.length n.B.d, .bool n.C.n, .slice n.C.A n.C.xs.length n.C.c, .bool n.C.m, .slice n.C.B n.C.ds.length n.C.d, .bool n.D.n, .slice n.D.A n.D.xs.length n.D.c, .bool n.D.m, .slice n.D.B n.D.ds.length n.D.d] := ⟨_, rfl⟩
     have e41 := hk42
     have hk43 := Kept.overE hk42 K14 rfl (Nat.le_of_ble_eq_true rfl)
     replace Kg := Kg.awayE hk42 n16
     replace K1 := K1.awayE hk42 n17
     replace K2 := K2.awayE hk42 n18
     replace K4 := K4.awayE hk42 n19
     replace K14 := K14.overE hk42 rfl
     replace K26 := K26.awayE hk42 n32.symm
     replace Zg := Zg.putE hk42
     replace Z5 := Z5.putE hk42
     replace Fm1 := Fm1.kp hk43
     replace Fn1 := Fn1.kp hk43
     replace BW := BW.put hk42 hk43 g20 hg0
     clear hk42 hk43
     rw [← e41]
     clear e41
     clear hHeld
     refine hK.out _ _ (by exact ⟨K1, K2⟩) (fun hHeld => ?_)
     clear hK
     (try simp only [p0, p1, p2, p3])
     refine wpAnyH_done (by kernel_rfl) (NoPanic.normal ?_) _
     go_wp2
     go_meet
     exact ⟨b34, b21, rfl, rfl, BW, Kg, K1, K2, K4, Zg, Z5, Fm1, Fn1, K26, K14, n28.symm, n31.symm, n16.symm, n19.symm⟩
   ·go_simp
    obtain ⟨V22, e23, hb24, K25, Z26, -⟩ := alloc_new V11 [.bool false, .slice none 0 0, .bool false, .slice none 0 0, .bool false, .slice none 0 0, .bool false, .slice none 0 0, .bool false, .slice none 0 0, .bool false, .slice none 0 0, .bool false, .slice none 0 0, .bool false, .slice none 0 0] 81
    have n27 : g ≠ V11.heap.size := Nat.ne_of_lt (Kg.lt)
    have n28 : p1 ≠ V11.heap.size := Nat.ne_of_lt (K1.lt)
    have n29 : p2 ≠ V11.heap.size := Nat.ne_of_lt (K2.lt)
    have n30 : w.heap.size ≠ V11.heap.size := Nat.ne_of_lt (K4.lt)
    have n31 : b21 ≠ V11.heap.size := Nat.ne_of_lt (K14.lt)
    have g32 : w.heap.size ≤ V11.heap.size := BW.size
    replace Kg := Kg.on hb24
    replace K1 := K1.on hb24
    replace K2 := K2.on hb24
    replace K4 := K4.on hb24
    replace K14 := K14.on hb24
    replace Zg := Zg.on hb24
    replace Z5 := Z5.on hb24
    replace Z15 := Z15.on hb24
    replace Fm1 := Fm1.kp (Kept.of hb24)
    replace Fn1 := Fn1.kp (Kept.of hb24)
    replace BW := BW.go hg0 hb24
    clear hb24
    rw [← e23]
    clear e23
    generalize V11.heap.size = b33 at *
    clear hHeld
    refine hK.out _ _ (by exact ⟨K1, K2⟩) (fun hHeld => ?_)
    clear hK
    (try simp only [p0, p1, p2, p3])
    refine pR1 1 (fun K hK => ?_)
    go_simp
    (go_at_call 32; with_reducible refine (y_apart).mono ?_)
    rintro _ w34 ⟨rfl, hb⟩
    (try go_wp2_with fail)
    replace Kg := Kg.on hb
    replace K1 := K1.on hb
    replace K2 := K2.on hb
    replace K4 := K4.on hb
    replace K14 := K14.on hb
    replace K25 := K25.on hb
    replace Zg := Zg.on hb
    replace Z5 := Z5.on hb
    replace Z15 := Z15.on hb
    replace Z26 := Z26.on hb
    replace Fm1 := Fm1.kp (Kept.of hb)
    replace Fn1 := Fn1.kp (Kept.of hb)
    replace BW := BW.go hg0 hb
    clear hb
    clear hHeld
    refine hK.out _ _ (by exact ⟨K1, K2⟩) (fun hHeld => ?_)
    clear hK
    (try simp only [p0, p1, p2, p3])
    refine pR1 3 (fun K hK => ?_)
    go_simp
    (go_at_call 32; with_reducible refine (y_apart).mono ?_)
    rintro _ w35 ⟨rfl, hb⟩
    (try go_wp2_with fail)
    replace Kg := Kg.on hb
    replace K1 := K1.on hb
    replace K2 := K2.on hb
    replace K4 := K4.on hb
    replace K14 := K14.on hb
    replace K25 := K25.on hb
    replace Zg := Zg.on hb
    replace Z5 := Z5.on hb
    replace Z15 := Z15.on hb
    replace Z26 := Z26.on hb
    replace Fm1 := Fm1.kp (Kept.of hb)
    replace Fn1 := Fn1.kp (Kept.of hb)
    replace BW := BW.go hg0 hb
    clear hb
    clear hHeld
    refine hK.out _ _ (by exact ⟨K1, K2⟩) (fun hHeld => ?_)
    clear hK
    (try simp only [p0, p1, p2, p3])
    refine pR1 6 (fun K hK => ?_)
    refine ite_yes (by rfl) (wp_stF rfl rfl rfl K25 Z26 rfl rfl rfl ?_)
    obtain ⟨V36, hk38⟩ : ∃ V36, V36 = w35.setCells (b33) 0 [.bool m.A.n, .slice m.A.A m.A.xs.length m.A.c, .bool m.A.m, .slice m.A.B m.A.ds.length m.A.d, .bool m.B.n, .slice m.B.A m.B.xs.length m.B.c, .bool m.B.m, .slice m.B.B m.B.ds.length m.B.d, .bool m.C.n, .slice m.C.A m.C.xs.length m.C.c, .bool m.C.m, .slice m.C.B m.C.ds.length m.C.d, .bool m.D.n, .slice m.D.A m.D.xs.length m.D.c, .bool m.D.m, .slice m.D.B m.D.ds.length m.D.d] := ⟨_, rfl⟩
    have e37 := hk38
    have hk39 := Kept.overE hk38 K25 rfl (Nat.le_of_ble_eq_true rfl)
    replace Kg := Kg.awayE hk38 n27
    replace K1 := K1.awayE hk38 n28
    replace K2 := K2.awayE hk38 n29
    replace K4 := K4.awayE hk38 n30
    replace K14 := K14.awayE hk38 n31
    replace K25 := K25.overE hk38 rfl
    replace Zg := Zg.putE hk38
    replace Z5 := Z5.putE hk38
    replace Z15 := Z15.putE hk38
    replace Fm1 := Fm1.kp hk39
    replace Fn1 := Fn1.kp hk39
    replace BW := BW.put hk38 hk39 g32 hg0
    clear hk38 hk39
    rw [← e37]
    clear e37
    clear hHeld
    refine hK.out _ _ (by exact ⟨K1, K2⟩) (fun hHeld => ?_)
    clear hK
    (try simp only [p0, p1, p2, p3])
    refine pR1 7 (fun K hK => ?_)
    refine ite_yes (by rfl) (wp_stF rfl rfl rfl K14 Z15 rfl rfl rfl ?_)
    obtain ⟨V40, hk42⟩ : ∃ V40, V40 = V36.setCells (b21) 0 [.bool n.A.n, .slice n.A.A n.A.xs.length n.A.c, .bool n.A.m, .slice n.A.B n.A.ds.length n.A.d, .bool n.B.n, .slice n.B.A n.B.xs.length n.B.c, .bool n.B.m, .slice n.B.B n.B.ds.length n.B.d, .bool n.C.n, .slice n.C.A n.C.xs.length n.C.c, .bool n.C.m, .slice n.C.B n.C.ds.length n.C.d, .bool n.D.n, .slice n.D.A n.D.xs.length n.D.c, .bool n.D.m, .slice n.D.B n.D.ds.length n.D.d] := ⟨_, rfl⟩
    have e41 := hk42
    have hk43 := Kept.overE hk42 K14 rfl (Nat.le_of_ble_eq_true rfl)
    replace Kg := Kg.awayE hk42 n16
    replace K1 := K1.awayE hk42 n17
    replace K2 := K2.awayE hk42 n18
    replace K4 := K4.awayE hk42 n19
    replace K14 := K14.overE hk42 rfl
    replace K25 := K25.awayE hk42 n31.symm
    replace Zg := Zg.putE hk42
    replace Z5 := Z5.putE hk42
    replace Fm1 := Fm1.kp hk43
    replace Fn1 := Fn1.kp hk43
    replace BW := BW.put hk42 hk43 g20 hg0
    clear hk42 hk43
    rw [← e41]
    clear e41
    clear hHeld
    refine hK.out _ _ (by exact ⟨K1, K2⟩) (fun hHeld => ?_)
    clear hK
    (try simp only [p0, p1, p2, p3])
    refine wpAnyH_done (by kernel_rfl) (NoPanic.normal ?_) _
    go_wp2
    go_meet
    exact ⟨b33, b21, rfl, rfl, BW, Kg, K1, K2, K4, Zg, Z5, Fm1, Fn1, K25, K14, n27.symm, n30.symm, n16.symm, n19.symm⟩
 case rest =>
  obtain ⟨pka_0, pka_1, rfl, rfl, BW, Kg, K1, K2, K4, Zg, Z5, Fm1, Fn1, KNa_0, KNa_1, nn10, nn11, nn12, nn13⟩ := hcut
  clear K1 K2
  obtain ⟨V14, e15, hb16, K17, Z18, -⟩ := alloc_new wc [.bool false, .slice none 0 0, .bool false, .slice none 0 0, .bool false, .slice none 0 0, .bool false, .slice none 0 0, .bool false, .slice none 0 0, .bool false, .slice none 0 0, .bool false, .slice none 0 0, .bool false, .slice none 0 0] 81
  have n19 : g ≠ wc.heap.size := Nat.ne_of_lt (Kg.lt)
  have n20 : w.heap.size ≠ wc.heap.size := Nat.ne_of_lt (K4.lt)
  have n21 : pka_0 ≠ wc.heap.size := Nat.ne_of_lt (KNa_0.lt)
  have n22 : pka_1 ≠ wc.heap.size := Nat.ne_of_lt (KNa_1.lt)
  have g23 : w.heap.size ≤ wc.heap.size := BW.size
  replace Kg := Kg.on hb16
  replace K4 := K4.on hb16
  replace KNa_0 := KNa_0.on hb16
  replace KNa_1 := KNa_1.on hb16
  replace Zg := Zg.on hb16
  replace Z5 := Z5.on hb16
  replace Fm1 := Fm1.kp (Kept.of hb16)
  replace Fn1 := Fn1.kp (Kept.of hb16)
  replace BW := BW.go hg0 hb16
  clear hb16
  go_wp2_with fail
  rw [← e15]
  clear e15
  generalize wc.heap.size = b24 at *
  refine wp_loop_rounds 5 ?_
  rw [rounds_succ]
  go_wp2_with fail
  refine wp_region_noPanic ?_
  have hb : Below V14.heap.size V14 V14.drew := (Below.refl _ _).drew
  replace Kg := Kg.on hb
  replace K4 := K4.on hb
  replace KNa_0 := KNa_0.on hb
  replace KNa_1 := KNa_1.on hb
  replace K17 := K17.on hb
  replace Zg := Zg.on hb
  replace Z5 := Z5.on hb
  replace Z18 := Z18.on hb
  replace Fm1 := Fm1.kp (Kept.of hb)
  replace Fn1 := Fn1.kp (Kept.of hb)
  replace BW := BW.go hg0 hb
  clear hb
  refine wp_region_held_drew (S := (fun wx => (Cs wx pka_0 0 [.bool m.A.n, .slice m.A.A m.A.xs.length m.A.c, .bool m.A.m, .slice m.A.B m.A.ds.length m.A.d, .bool m.B.n, .slice m.B.A m.B.xs.length m.B.c, .bool m.B.m, .slice m.B.B m.B.ds.length m.B.d]) ∧ (Cs wx pka_1 0 [.bool n.A.n, .slice n.A.A n.A.xs.length n.A.c, .bool n.A.m, .slice n.A.B n.A.ds.length n.A.d] ∧ Cs wx pka_1 8 [.bool n.C.n, .slice n.C.A n.C.xs.length n.C.c, .bool n.C.m, .slice n.C.B n.C.ds.length n.C.d]))) (by kernel_rfl) (by exact ⟨KNa_0.csT 0 8, ⟨KNa_1.csT 0 4, KNa_1.csT 8 4⟩⟩) (fun hHeld => ?_)
  generalize V14.drew = Vd25 at *
  refine pT 0 ?_
  (try simp only [p0, p1, p2, p3])
  refine pT 1 ?_
  (try simp only [p0, p1, p2, p3])
  refine pT 2 ?_
  (try simp only [p0, p1, p2, p3])
  refine pT 3 ?_
  (try simp only [p0, p1, p2, p3])
  refine pT 4 ?_
  (try simp only [p0, p1, p2, p3])
  refine pT 5 ?_
  (try simp only [p0, p1, p2, p3])
  refine pT 6 ?_
  (try simp only [p0, p1, p2, p3])
  refine pT 7 ?_
  (try simp only [p0, p1, p2, p3])
  refine pT 8 ?_
  (try simp only [p0, p1, p2, p3])
  refine pT 9 ?_
  (try simp only [p0, p1, p2, p3])
  (try simp only [wr1])
  refine pT 10 ?_
  (try simp only [p0, p1, p2, p3])
  refine pT 11 ?_
  (try simp only [p0, p1, p2, p3])
  refine pT 12 ?_
  (try simp only [p0, p1, p2, p3])
  refine pT 13 ?_
  (try simp only [p0, p1, p2, p3])
  (try simp only [wr2])
  refine pT 14 ?_
  (try simp only [p0, p1, p2, p3])
  refine pT 15 ?_
  (try simp only [p0, p1, p2, p3])
  refine pR1 16 (fun K hK => ?_)
  go_simp
  (go_at_call 80; with_reducible refine (y_putM Fm1.fA Fn1.fA Fm1.fB Fn1.fC Kg Zg).mono ?_)
  rintro _ w26 ⟨f1, e1, rfl, h1, Kg1, Zg1, hb⟩
  (try go_wp2_with fail)
  clear Kg Zg
  replace K4 := hb.box n6.symm K4
  replace Z5 := hb.fz n6.symm Z5
  replace KNa_0 := hb.box nn10 KNa_0
  replace KNa_1 := hb.box nn12 KNa_1
  replace K17 := hb.box n19.symm K17
  replace Z18 := hb.fz n19.symm Z18
  replace Fm1 := Fm1.kp hb.kept
  replace Fn1 := Fn1.kp hb.kept
  replace BW := BW.but hb
  clear hb
  clear hHeld
  refine hK.out _ _ (by exact ⟨KNa_0.csT 0 8, ⟨KNa_1.csT 0 4, KNa_1.csT 8 4⟩⟩) (fun hHeld => ?_)
  clear hK
  (try simp only [p0, p1, p2, p3])
  refine pT 17 ?_
  (try simp only [p0, p1, p2, p3])
  refine pR1 18 (fun K hK => ?_)
  obtain ⟨c27, c28, c29, c30, c31, c32, c33, c34, c35, c36, c37, c38, c39, c40, c41, c42⟩ := K17.c16
  obtain ⟨c43, c44, c45, c46, c47, c48, c49, c50, c51, c52, c53, c54, c55, c56, c57, c58⟩ := Z18.f16
  go_simp
  clear c27 c28 c29 c30 c31 c32 c33 c34 c35 c36 c37 c38 c39 c40 c41 c42 c43 c44 c45 c46 c47 c48 c49 c50 c51 c52 c53 c54 c55 c56 c57 c58
  obtain ⟨V59, hk61⟩ : ∃ V59, V59 = w26.setCells (b24) 0 [.bool f1.n, .slice f1.A f1.xs.length f1.c, .bool f1.m, .slice f1.B f1.ds.length f1.d] := ⟨_, rfl⟩
  have e60 := hk61
  simp only [World.setCells, Nat.zero_add, Nat.reduceAdd] at e60
  have hk62 := Kept.overE hk61 K17 rfl (Nat.le_of_ble_eq_true rfl)
  replace Kg1 := Kg1.awayE hk61 n19
  replace K4 := K4.awayE hk61 n20
  replace KNa_0 := KNa_0.awayE hk61 n21
  replace KNa_1 := KNa_1.awayE hk61 n22
  replace K17 := K17.part (us' := [.bool f1.n, .slice f1.A f1.xs.length f1.c, .bool f1.m, .slice f1.B f1.ds.length f1.d, .bool false, .slice none 0 0, .bool false, .slice none 0 0, .bool false, .slice none 0 0, .bool false, .slice none 0 0, .bool false, .slice none 0 0, .bool false, .slice none 0 0]) hk61 rfl (Nat.le_of_ble_eq_true rfl)
  replace Zg1 := Zg1.putE hk61
  replace Z5 := Z5.putE hk61
  replace Z18 := Z18.putE hk61
  replace Fm1 := Fm1.kp hk62
  replace Fn1 := Fn1.kp hk62
  replace h1 := h1.kp hk62
  replace BW := BW.put hk61 hk62 g23 hg0
  clear hk61 hk62
  rw [← e60]
  clear e60
  clear hHeld
  refine hK.out _ _ (by exact ⟨KNa_0.csT 0 8, ⟨KNa_1.csT 0 4, KNa_1.csT 8 4⟩⟩) (fun hHeld => ?_)
  clear hK
  (try simp only [p0, p1, p2, p3])
  refine wpAnyH_done (by kernel_rfl) (NoPanic.normal ?_) _
  go_wp2_with fail
  rw [rounds_succ]
  go_wp2_with fail
  refine wp_region_noPanic ?_
  have hb : Below V59.heap.size V59 V59.drew := (Below.refl _ _).drew
  replace Kg1 := Kg1.on hb
  replace K4 := K4.on hb
  replace KNa_0 := KNa_0.on hb
  replace KNa_1 := KNa_1.on hb
  replace K17 := K17.on hb
  replace Zg1 := Zg1.on hb
  replace Z5 := Z5.on hb
  replace Z18 := Z18.on hb
  replace Fm1 := Fm1.kp (Kept.of hb)
  replace Fn1 := Fn1.kp (Kept.of hb)
  replace h1 := h1.kp (Kept.of hb)
  replace BW := BW.go hg0 hb
  clear hb
  refine wp_region_held_drew (S := (fun wx => (Cs wx pka_0 0 [.bool m.A.n, .slice m.A.A m.A.xs.length m.A.c, .bool m.A.m, .slice m.A.B m.A.ds.length m.A.d, .bool m.B.n, .slice m.B.A m.B.xs.length m.B.c, .bool m.B.m, .slice m.B.B m.B.ds.length m.B.d]) ∧ (Cs wx pka_1 4 [.bool n.B.n, .slice n.B.A n.B.xs.length n.B.c, .bool n.B.m, .slice n.B.B n.B.ds.length n.B.d] ∧ Cs wx pka_1 12 [.bool n.D.n, .slice n.D.A n.D.xs.length n.D.c, .bool n.D.m, .slice n.D.B n.D.ds.length n.D.d]))) (by kernel_rfl) (by exact ⟨KNa_0.csT 0 8, ⟨KNa_1.csT 4 4, KNa_1.csT 12 4⟩⟩) (fun hHeld => ?_)
  generalize V59.drew = Vd63 at *
  refine pT 0 ?_
  (try simp only [p0, p1, p2, p3])
  refine pT 1 ?_
  (try simp only [p0, p1, p2, p3])
  refine pT 2 ?_
  (try simp only [p0, p1, p2, p3])
  refine pT 3 ?_
  (try simp only [p0, p1, p2, p3])
  refine pT 4 ?_
  (try simp only [p0, p1, p2, p3])
  refine pT 5 ?_
  (try simp only [p0, p1, p2, p3])
  refine pT 6 ?_
  (try simp only [p0, p1, p2, p3])
  refine pT 7 ?_
  (try simp only [p0, p1, p2, p3])
  refine pT 8 ?_
  (try simp only [p0, p1, p2, p3])
  refine pT 9 ?_
  (try simp only [p0, p1, p2, p3])
  (try simp only [wr1])
  refine pT 10 ?_
  (try simp only [p0, p1, p2, p3])
  refine pT 11 ?_
  (try simp only [p0, p1, p2, p3])
  refine pT 12 ?_
  (try simp only [p0, p1, p2, p3])
  refine pT 13 ?_
  (try simp only [p0, p1, p2, p3])
  (try simp only [wr3])
  refine pT 14 ?_
  (try simp only [p0, p1, p2, p3])
  refine pT 15 ?_
  (try simp only [p0, p1, p2, p3])
  refine pR1 16 (fun K hK => ?_)
  go_simp
  (go_at_call 80; with_reducible refine (y_putM Fm1.fA Fn1.fB Fm1.fB Fn1.fD Kg1 Zg1).mono ?_)
  rintro _ w64 ⟨f2, e2, rfl, h2, Kg2, Zg2, hb⟩
  (try go_wp2_with fail)
  clear Kg1 Zg1
  replace K4 := hb.box n6.symm K4
  replace Z5 := hb.fz n6.symm Z5
  replace KNa_0 := hb.box nn10 KNa_0
  replace KNa_1 := hb.box nn12 KNa_1
  replace K17 := hb.box n19.symm K17
  replace Z18 := hb.fz n19.symm Z18
  replace Fm1 := Fm1.kp hb.kept
  replace Fn1 := Fn1.kp hb.kept
  replace h1 := h1.kp hb.kept
  replace BW := BW.but hb
  clear hb
  clear hHeld
  refine hK.out _ _ (by exact ⟨KNa_0.csT 0 8, ⟨KNa_1.csT 4 4, KNa_1.csT 12 4⟩⟩) (fun hHeld => ?_)
  clear hK
  (try simp only [p0, p1, p2, p3])
  refine pT 17 ?_
  (try simp only [p0, p1, p2, p3])
  refine pR1 18 (fun K hK => ?_)
  obtain ⟨c65, c66, c67, c68, c69, c70, c71, c72, c73, c74, c75, c76, c77, c78, c79, c80⟩ := K17.c16
  obtain ⟨c81, c82, c83, c84, c85, c86, c87, c88, c89, c90, c91, c92, c93, c94, c95, c96⟩ := Z18.f16
  go_simp
  clear c65 c66 c67 c68 c69 c70 c71 c72 c73 c74 c75 c76 c77 c78 c79 c80 c81 c82 c83 c84 c85 c86 c87 c88 c89 c90 c91 c92 c93 c94 c95 c96
  obtain ⟨V97, hk99⟩ : ∃ V97, V97 = w64.setCells (b24) 4 [.bool f2.n, .slice f2.A f2.xs.length f2.c, .bool f2.m, .slice f2.B f2.ds.length f2.d] := ⟨_, rfl⟩
  have e98 := hk99
  simp only [World.setCells, Nat.reduceAdd] at e98
  have hk100 := Kept.overE hk99 K17 rfl (Nat.le_of_ble_eq_true rfl)
  replace Kg2 := Kg2.awayE hk99 n19
  replace K4 := K4.awayE hk99 n20
  replace KNa_0 := KNa_0.awayE hk99 n21
  replace KNa_1 := KNa_1.awayE hk99 n22
  replace K17 := K17.part (us' := [.bool f1.n, .slice f1.A f1.xs.length f1.c, .bool f1.m, .slice f1.B f1.ds.length f1.d, .bool f2.n, .slice f2.A f2.xs.length f2.c, .bool f2.m, .slice f2.B f2.ds.length f2.d, .bool false, .slice none 0 0, .bool false, .slice none 0 0, .bool false, .slice none 0 0, .bool false, .slice none 0 0]) hk99 rfl (Nat.le_of_ble_eq_true rfl)
  replace Zg2 := Zg2.putE hk99
  replace Z5 := Z5.putE hk99
  replace Z18 := Z18.putE hk99
  replace Fm1 := Fm1.kp hk100
  replace Fn1 := Fn1.kp hk100
  replace h1 := h1.kp hk100
  replace h2 := h2.kp hk100
  replace BW := BW.put hk99 hk100 g23 hg0
  clear hk99 hk100
  rw [← e98]
  clear e98
  clear hHeld
  refine hK.out _ _ (by exact ⟨KNa_0.csT 0 8, ⟨KNa_1.csT 4 4, KNa_1.csT 12 4⟩⟩) (fun hHeld => ?_)
  clear hK
  (try simp only [p0, p1, p2, p3])
  refine wpAnyH_done (by kernel_rfl) (NoPanic.normal ?_) _
  go_wp2_with fail
  rw [rounds_succ]
  go_wp2_with fail
  refine wp_region_noPanic ?_
  have hb : Below V97.heap.size V97 V97.drew := (Below.refl _ _).drew
  replace Kg2 := Kg2.on hb
  replace K4 := K4.on hb
  replace KNa_0 := KNa_0.on hb
  replace KNa_1 := KNa_1.on hb
  replace K17 := K17.on hb
  replace Zg2 := Zg2.on hb
  replace Z5 := Z5.on hb
  replace Z18 := Z18.on hb
  replace Fm1 := Fm1.kp (Kept.of hb)
  replace Fn1 := Fn1.kp (Kept.of hb)
  replace h1 := h1.kp (Kept.of hb)
  replace h2 := h2.kp (Kept.of hb)
  replace BW := BW.go hg0 hb
  clear hb
  refine wp_region_held_drew (S := (fun wx => (Cs wx pka_0 8 [.bool m.C.n, .slice m.C.A m.C.xs.length m.C.c, .bool m.C.m, .slice m.C.B m.C.ds.length m.C.d, .bool m.D.n, .slice m.D.A m.D.xs.length m.D.c, .bool m.D.m, .slice m.D.B m.D.ds.length m.D.d]) ∧ (Cs wx pka_1 0 [.bool n.A.n, .slice n.A.A n.A.xs.length n.A.c, .bool n.A.m, .slice n.A.B n.A.ds.length n.A.d] ∧ Cs wx pka_1 8 [.bool n.C.n, .slice n.C.A n.C.xs.length n.C.c, .bool n.C.m, .slice n.C.B n.C.ds.length n.C.d]))) (by kernel_rfl) (by exact ⟨KNa_0.csT 8 8, ⟨KNa_1.csT 0 4, KNa_1.csT 8 4⟩⟩) (fun hHeld => ?_)
  generalize V97.drew = Vd101 at *
  refine pT 0 ?_
  (try simp only [p0, p1, p2, p3])
  refine pT 1 ?_
  (try simp only [p0, p1, p2, p3])
  refine pT 2 ?_
  (try simp only [p0, p1, p2, p3])
  refine pT 3 ?_
  (try simp only [p0, p1, p2, p3])
  refine pT 4 ?_
  (try simp only [p0, p1, p2, p3])
  refine pT 5 ?_
  (try simp only [p0, p1, p2, p3])
  refine pT 6 ?_
  (try simp only [p0, p1, p2, p3])
  refine pT 7 ?_
  (try simp only [p0, p1, p2, p3])
  refine pT 8 ?_
  (try simp only [p0, p1, p2, p3])
  refine pT 9 ?_
  (try simp only [p0, p1, p2, p3])
  (try simp only [wr3])
  refine pT 10 ?_
  (try simp only [p0, p1, p2, p3])
  refine pT 11 ?_
  (try simp only [p0, p1, p2, p3])
  refine pT 12 ?_
  (try simp only [p0, p1, p2, p3])
  refine pT 13 ?_
  (try simp only [p0, p1, p2, p3])
  (try simp only [wr2])
  refine pT 14 ?_
  (try simp only [p0, p1, p2, p3])
  refine pT 15 ?_
  (try simp only [p0, p1, p2, p3])
  refine pR1 16 (fun K hK => ?_)
  go_simp
  (go_at_call 80; with_reducible refine (y_putM Fm1.fC Fn1.fA Fm1.fD Fn1.fC Kg2 Zg2).mono ?_)
  rintro _ w102 ⟨f3, e3, rfl, h3, Kg3, Zg3, hb⟩
  (try go_wp2_with fail)
  clear Kg2 Zg2
  replace K4 := hb.box n6.symm K4
  replace Z5 := hb.fz n6.symm Z5
  replace KNa_0 := hb.box nn10 KNa_0
  replace KNa_1 := hb.box nn12 KNa_1
  replace K17 := hb.box n19.symm K17
  replace Z18 := hb.fz n19.symm Z18
  replace Fm1 := Fm1.kp hb.kept
  replace Fn1 := Fn1.kp hb.kept
  replace h1 := h1.kp hb.kept
  replace h2 := h2.kp hb.kept
  replace BW := BW.but hb
  clear hb
  clear hHeld
  refine hK.out _ _ (by exact ⟨KNa_0.csT 8 8, ⟨KNa_1.csT 0 4, KNa_1.csT 8 4⟩⟩) (fun hHeld => ?_)
  clear hK
  (try simp only [p0, p1, p2, p3])
  refine pT 17 ?_
  (try simp only [p0, p1, p2, p3])
  refine pR1 18 (fun K hK => ?_)
  obtain ⟨c103, c104, c105, c106, c107, c108, c109, c110, c111, c112, c113, c114, c115, c116, c117, c118⟩ := K17.c16
  obtain ⟨c119, c120, c121, c122, c123, c124, c125, c126, c127, c128, c129, c130, c131, c132, c133, c134⟩ := Z18.f16
  go_simp
  clear c103 c104 c105 c106 c107 c108 c109 c110 c111 c112 c113 c114 c115 c116 c117 c118 c119 c120 c121 c122 c123 c124 c125 c126 c127 c128 c129 c130 c131 c132 c133 c134
  obtain ⟨V135, hk137⟩ : ∃ V135, V135 = w102.setCells (b24) 8 [.bool f3.n, .slice f3.A f3.xs.length f3.c, .bool f3.m, .slice f3.B f3.ds.length f3.d] := ⟨_, rfl⟩
  have e136 := hk137
  simp only [World.setCells, Nat.reduceAdd] at e136
  have hk138 := Kept.overE hk137 K17 rfl (Nat.le_of_ble_eq_true rfl)
  replace Kg3 := Kg3.awayE hk137 n19
  replace K4 := K4.awayE hk137 n20
  replace KNa_0 := KNa_0.awayE hk137 n21
  replace KNa_1 := KNa_1.awayE hk137 n22
  replace K17 := K17.part (us' := [.bool f1.n, .slice f1.A f1.xs.length f1.c, .bool f1.m, .slice f1.B f1.ds.length f1.d, .bool f2.n, .slice f2.A f2.xs.length f2.c, .bool f2.m, .slice f2.B f2.ds.length f2.d, .bool f3.n, .slice f3.A f3.xs.length f3.c, .bool f3.m, .slice f3.B f3.ds.length f3.d, .bool false, .slice none 0 0, .bool false, .slice none 0 0]) hk137 rfl (Nat.le_of_ble_eq_true rfl)
  replace Zg3 := Zg3.putE hk137
  replace Z5 := Z5.putE hk137
  replace Z18 := Z18.putE hk137
  replace Fm1 := Fm1.kp hk138
  replace Fn1 := Fn1.kp hk138
  replace h1 := h1.kp hk138
  replace h2 := h2.kp hk138
  replace h3 := h3.kp hk138
  replace BW := BW.put hk137 hk138 g23 hg0
  clear hk137 hk138
  rw [← e136]
  clear e136
  clear hHeld
  refine hK.out _ _ (by exact ⟨KNa_0.csT 8 8, ⟨KNa_1.csT 0 4, KNa_1.csT 8 4⟩⟩) (fun hHeld => ?_)
  clear hK
  (try simp only [p0, p1, p2, p3])
  refine wpAnyH_done (by kernel_rfl) (NoPanic.normal ?_) _
  go_wp2_with fail
  rw [rounds_succ]
  go_wp2_with fail
  refine wp_region_noPanic ?_
  have hb : Below V135.heap.size V135 V135.drew := (Below.refl _ _).drew
  replace Kg3 := Kg3.on hb
  replace K4 := K4.on hb
  replace KNa_0 := KNa_0.on hb
  replace KNa_1 := KNa_1.on hb
  replace K17 := K17.on hb
  replace Zg3 := Zg3.on hb
  replace Z5 := Z5.on hb
  replace Z18 := Z18.on hb
  replace Fm1 := Fm1.kp (Kept.of hb)
  replace Fn1 := Fn1.kp (Kept.of hb)
  replace h1 := h1.kp (Kept.of hb)
  replace h2 := h2.kp (Kept.of hb)
  replace h3 := h3.kp (Kept.of hb)
  replace BW := BW.go hg0 hb
  clear hb
  refine wp_region_held_drew (S := (fun wx => (Cs wx pka_0 8 [.bool m.C.n, .slice m.C.A m.C.xs.length m.C.c, .bool m.C.m, .slice m.C.B m.C.ds.length m.C.d, .bool m.D.n, .slice m.D.A m.D.xs.length m.D.c, .bool m.D.m, .slice m.D.B m.D.ds.length m.D.d]) ∧ (Cs wx pka_1 4 [.bool n.B.n, .slice n.B.A n.B.xs.length n.B.c, .bool n.B.m, .slice n.B.B n.B.ds.length n.B.d] ∧ Cs wx pka_1 12 [.bool n.D.n, .slice n.D.A n.D.xs.length n.D.c, .bool n.D.m, .slice n.D.B n.D.ds.length n.D.d]))) (by kernel_rfl) (by exact ⟨KNa_0.csT 8 8, ⟨KNa_1.csT 4 4, KNa_1.csT 12 4⟩⟩) (fun hHeld => ?_)
  generalize V135.drew = Vd139 at *
  refine pT 0 ?_
  (try simp only [p0, p1, p2, p3])
  refine pT 1 ?_
  (try simp only [p0, p1, p2, p3])
  refine pT 2 ?_
  (try simp only [p0, p1, p2, p3])
  refine pT 3 ?_
  (try simp only [p0, p1, p2, p3])
  refine pT 4 ?_
  (try simp only [p0, p1, p2, p3])
  refine pT 5 ?_
  (try simp only [p0, p1, p2, p3])
  refine pT 6 ?_
  (try simp only [p0, p1, p2, p3])
  refine pT 7 ?_
  (try simp only [p0, p1, p2, p3])
  refine pT 8 ?_
  (try simp only [p0, p1, p2, p3])
  refine pT 9 ?_
  (try simp only [p0, p1, p2, p3])
  (try simp only [wr3])
  refine pT 10 ?_
  (try simp only [p0, p1, p2, p3])
  refine pT 11 ?_
  (try simp only [p0, p1, p2, p3])
  refine pT 12 ?_
  (try simp only [p0, p1, p2, p3])
  refine pT 13 ?_
  (try simp only [p0, p1, p2, p3])
  (try simp only [wr3])
  refine pT 14 ?_
  (try simp only [p0, p1, p2, p3])
  refine pT 15 ?_
  (try simp only [p0, p1, p2, p3])
  refine pR1 16 (fun K hK => ?_)
  go_simp
  (go_at_call 80; with_reducible refine (y_putM Fm1.fC Fn1.fB Fm1.fD Fn1.fD Kg3 Zg3).mono ?_)
  rintro _ w140 ⟨f4, e4, rfl, h4, Kg4, Zg4, hb⟩
  (try go_wp2_with fail)
  clear Kg3 Zg3
  replace K4 := hb.box n6.symm K4
  replace Z5 := hb.fz n6.symm Z5
  replace KNa_0 := hb.box nn10 KNa_0
  replace KNa_1 := hb.box nn12 KNa_1
  replace K17 := hb.box n19.symm K17
  replace Z18 := hb.fz n19.symm Z18
  replace h1 := h1.kp hb.kept
  replace h2 := h2.kp hb.kept
  replace h3 := h3.kp hb.kept
  replace BW := BW.but hb
  clear hb
  clear hHeld
  refine hK.out _ _ (by exact ⟨KNa_0.csT 8 8, ⟨KNa_1.csT 4 4, KNa_1.csT 12 4⟩⟩) (fun hHeld => ?_)
  clear hK
  (try simp only [p0, p1, p2, p3])
  refine pT 17 ?_
  (try simp only [p0, p1, p2, p3])
  refine pR1 18 (fun K hK => ?_)
  obtain ⟨c141, c142, c143, c144, c145, c146, c147, c148, c149, c150, c151, c152, c153, c154, c155, c156⟩ := K17.c16
  obtain ⟨c157, c158, c159, c160, c161, c162, c163, c164, c165, c166, c167, c168, c169, c170, c171, c172⟩ := Z18.f16
  go_simp
  clear c141 c142 c143 c144 c145 c146 c147 c148 c149 c150 c151 c152 c153 c154 c155 c156 c157 c158 c159 c160 c161 c162 c163 c164 c165 c166 c167 c168 c169 c170 c171 c172
  obtain ⟨V173, hk175⟩ : ∃ V173, V173 = w140.setCells (b24) 12 [.bool f4.n, .slice f4.A f4.xs.length f4.c, .bool f4.m, .slice f4.B f4.ds.length f4.d] := ⟨_, rfl⟩
  have e174 := hk175
  simp only [World.setCells, Nat.reduceAdd] at e174
  have hk176 := Kept.overE hk175 K17 rfl (Nat.le_of_ble_eq_true rfl)
  replace Kg4 := Kg4.awayE hk175 n19
  replace K4 := K4.awayE hk175 n20
  replace KNa_0 := KNa_0.awayE hk175 n21
  replace KNa_1 := KNa_1.awayE hk175 n22
  replace K17 := K17.part (us' := [.bool f1.n, .slice f1.A f1.xs.length f1.c, .bool f1.m, .slice f1.B f1.ds.length f1.d, .bool f2.n, .slice f2.A f2.xs.length f2.c, .bool f2.m, .slice f2.B f2.ds.length f2.d, .bool f3.n, .slice f3.A f3.xs.length f3.c, .bool f3.m, .slice f3.B f3.ds.length f3.d, .bool f4.n, .slice f4.A f4.xs.length f4.c, .bool f4.m, .slice f4.B f4.ds.length f4.d]) hk175 rfl (Nat.le_of_ble_eq_true rfl)
  replace Zg4 := Zg4.putE hk175
  replace Z5 := Z5.putE hk175
  replace h1 := h1.kp hk176
  replace h2 := h2.kp hk176
  replace h3 := h3.kp hk176
  replace h4 := h4.kp hk176
  replace BW := BW.put hk175 hk176 g23 hg0
  clear hk175 hk176
  rw [← e174]
  clear e174
  clear hHeld
  refine hK.out _ _ (by exact ⟨KNa_0.csT 8 8, ⟨KNa_1.csT 4 4, KNa_1.csT 12 4⟩⟩) (fun hHeld => ?_)
  clear hK
  (try simp only [p0, p1, p2, p3])
  refine wpAnyH_done (by kernel_rfl) (NoPanic.normal ?_) _
  go_wp2_with fail
  rw [rounds_succ]
  obtain ⟨c177, c178, c179, c180, c181, c182, c183, c184, c185, c186, c187, c188, c189, c190, c191, c192⟩ := K4.c16
  obtain ⟨c193, c194, c195, c196, c197, c198, c199, c200, c201, c202, c203, c204, c205, c206, c207, c208⟩ := Z5.f16
  obtain ⟨c209, c210, c211, c212, c213, c214, c215, c216, c217, c218, c219, c220, c221, c222, c223, c224⟩ := K17.c16
  obtain ⟨V225, hk227⟩ : ∃ V225, V225 = V173.setCells (w.heap.size) 0 [.bool f1.n, .slice f1.A f1.xs.length f1.c, .bool f1.m, .slice f1.B f1.ds.length f1.d, .bool f2.n, .slice f2.A f2.xs.length f2.c, .bool f2.m, .slice f2.B f2.ds.length f2.d, .bool f3.n, .slice f3.A f3.xs.length f3.c, .bool f3.m, .slice f3.B f3.ds.length f3.d, .bool f4.n, .slice f4.A f4.xs.length f4.c, .bool f4.m, .slice f4.B f4.ds.length f4.d] := ⟨_, rfl⟩
  have e226 := hk227
  simp only [World.setCells, Nat.zero_add, Nat.reduceAdd] at e226
  have hk228 := Kept.overE hk227 K4 rfl (Nat.le_of_ble_eq_true rfl)
  replace Kg4 := Kg4.awayE hk227 n6
  replace K4 := K4.overE hk227 rfl
  replace Zg4 := Zg4.putE hk227
  replace h1 := h1.kp hk228
  replace h2 := h2.kp hk228
  replace h3 := h3.kp hk228
  replace h4 := h4.kp hk228
  replace BW := BW.put hk227 hk228 g9 hg0
  clear hk227 hk228
  go_wp2_with fail
  clear c177 c178 c179 c180 c181 c182 c183 c184 c185 c186 c187 c188 c189 c190 c191 c192 c193 c194 c195 c196 c197 c198 c199 c200 c201 c202 c203 c204 c205 c206 c207 c208 c209 c210 c211 c212 c213 c214 c215 c216 c217 c218 c219 c220 c221 c222 c223 c224
  rw [← e226]
  clear e226
  obtain ⟨c229, c230, c231, c232, c233, c234, c235, c236, c237, c238, c239, c240, c241, c242, c243, c244⟩ := K4.c16
  exact bodyPost_ret (v := mv ⟨f1, f2, f3, f4⟩) (by simp [results, Tryz.results55, go_sem, c229, c230, c231, c232, c233, c234, c235, c236, c237, c238, c239, c240, c241, c242, c243, c244]) rfl ⟨⟨f1, f2, f3, f4⟩, e4, rfl, mis_four (z := q.mul r) h1 h2 h3 h4, Kg4, Zg4, BW⟩
end Go.Proofs.YtjamfkafgfpobaaGreatDoor
