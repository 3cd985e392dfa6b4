/-
  What Image answers. Conditions: as each theorem states.
-/
import Derived.Test.YtplgheabhekedaaGreatImb
import Derived.Deep.RegionHeld3
import Derived.Deep.DeepCutAuto
import Derived.BigRegion
namespace Go.Proofs.YtplgheabhekedaaGreat
open Go.RowKit Nb

set_option maxHeartbeats 16000000 in
set_option maxRecDepth 100000 in
theorem i_Image {q : Mq} {x : Rat} {m : Mv} {a : Fv} {w : World} (G : Fm w q m) (A : Ff w x a) (hd : q.det = 1) :
    Calls Tryz.prog 38 #[mv m, fv a] w (fun e w' => ∃ (f g : Fv) (er : Int), e = .returned (.tuple #[fv f, fv g, .int .i64 er]) ∧ ImIs w' q x f g er ∧ Below w.heap.size w w') := by
 have HD := Lib.hid hd
 clear hd
 have BW : Below w.heap.size w w := Below.refl _ _
 obtain ⟨V2, e3, hb4, K5, Z6, z1⟩ := alloc_new w [.bool m.A.n, .slice m.A.A m.A.xs.length m.A.c, .bool m.A.m, .slice m.A.B m.A.ds.length m.A.d, .bool m.B.n, .slice m.B.A m.B.xs.length m.B.c, .bool m.B.m, .slice m.B.B m.B.ds.length m.B.d, .bool m.C.n, .slice m.C.A m.C.xs.length m.C.c, .bool m.C.m, .slice m.C.B m.C.ds.length m.C.d, .bool m.D.n, .slice m.D.A m.D.xs.length m.D.c, .bool m.D.m, .slice m.D.B m.D.ds.length m.D.d] 31
 replace K5 : Box V2 (w.heap.size) (mcs m) := K5
 have g7 : w.heap.size ≤ w.heap.size := BW.size
 replace G := G.kp (Kept.of hb4)
 replace A := A.kp (Kept.of hb4)
 replace BW := BW.trans (hb4.mono BW.size)
 clear hb4
 obtain ⟨V9, e10, hb11, K12, Z13, z8⟩ := alloc_new V2 [.bool a.n, .slice a.A a.xs.length a.c, .bool a.m, .slice a.B a.ds.length a.d] 29
 rw [z1] at K12 Z13 z8
 have n14 : w.heap.size ≠ w.heap.size + 1 := Nat.ne_of_lt (z1 ▸ K5.lt)
 have g15 : w.heap.size ≤ w.heap.size + 1 := z1 ▸ BW.size
 replace K5 := K5.on hb11
 replace Z6 := Z6.on hb11
 replace G := G.kp (Kept.of hb11)
 replace A := A.kp (Kept.of hb11)
 replace BW := BW.trans (hb11.mono BW.size)
 clear hb11
 obtain ⟨V17, e18, hb19, K20, Z21, z16⟩ := alloc_new V9 [.bool false, .slice none 0 0, .bool false, .slice none 0 0] 29
 rw [z8] at K20 Z21 z16
 have n22 : w.heap.size ≠ w.heap.size + 1 + 1 := Nat.ne_of_lt (z8 ▸ K5.lt)
 have n23 : w.heap.size + 1 ≠ w.heap.size + 1 + 1 := Nat.ne_of_lt (z8 ▸ K12.lt)
 have g24 : w.heap.size ≤ w.heap.size + 1 + 1 := z8 ▸ BW.size
 replace K5 := K5.on hb19
 replace K12 := K12.on hb19
 replace Z6 := Z6.on hb19
 replace Z13 := Z13.on hb19
 replace G := G.kp (Kept.of hb19)
 replace A := A.kp (Kept.of hb19)
 replace BW := BW.trans (hb19.mono BW.size)
 clear hb19
 obtain ⟨V25, e26, hb27, K28, Z29, -⟩ := alloc_new V17 [.bool false, .slice none 0 0, .bool false, .slice none 0 0] 29
 rw [z16] at K28 Z29
 have n30 : w.heap.size ≠ w.heap.size + 1 + 1 + 1 := Nat.ne_of_lt (z16 ▸ K5.lt)
 have n31 : w.heap.size + 1 ≠ w.heap.size + 1 + 1 + 1 := Nat.ne_of_lt (z16 ▸ K12.lt)
 have n32 : w.heap.size + 1 + 1 ≠ w.heap.size + 1 + 1 + 1 := Nat.ne_of_lt (z16 ▸ K20.lt)
 have g33 : w.heap.size ≤ w.heap.size + 1 + 1 + 1 := z16 ▸ BW.size
 replace K5 := K5.on hb27
 replace K12 := K12.on hb27
 replace K20 := K20.on hb27
 replace Z6 := Z6.on hb27
 replace Z13 := Z13.on hb27
 replace Z21 := Z21.on hb27
 replace G := G.kp (Kept.of hb27)
 replace A := A.kp (Kept.of hb27)
 replace BW := BW.trans (hb27.mono BW.size)
 clear hb27
 clear z1 z8 z16
 go_enter Tryz.func38, Tryz.ntmps38
 go_wp2_with fail
 rw [← e3, ← e10, ← e18, ← e26]
 clear e3 e10 e18 e26
 go_cut [7] (fun sw0 wx => sw0 = .int .i64 0 ∧ Below w.heap.size w wx ∧ Box wx (w.heap.size) (mcs m) ∧ Box wx (w.heap.size + 1) [.bool a.n, .slice a.A a.xs.length a.c, .bool a.m, .slice a.B a.ds.length a.d] ∧ Box wx (w.heap.size + 1 + 1) [.bool false, .slice none 0 0, .bool false, .slice none 0 0] ∧ Box wx (w.heap.size + 1 + 1 + 1) [.bool false, .slice none 0 0, .bool false, .slice none 0 0] ∧ Fz wx (w.heap.size) ∧ Fz wx (w.heap.size + 1) ∧ Fz wx (w.heap.size + 1 + 1) ∧ Fz wx (w.heap.size + 1 + 1 + 1) ∧ Fm wx (q) m ∧ Ff wx (x) a)
 case first =>
  refine wp_region_noPanic ?_
  have hb : Below V25.heap.size V25 V25.drew := (Below.refl _ _).drew
  replace K5 := K5.on hb
  replace K12 := K12.on hb
  replace K20 := K20.on hb
  replace K28 := K28.on hb
  replace Z6 := Z6.on hb
  replace Z13 := Z13.on hb
  replace Z21 := Z21.on hb
  replace Z29 := Z29.on hb
  replace G := G.kp (Kept.of hb)
  replace A := A.kp (Kept.of hb)
  replace BW := BW.trans (hb.mono BW.size)
  clear hb
  refine wp_region_held_drew (S := (fun wx => Box wx (w.heap.size) [.bool m.A.n, .slice m.A.A m.A.xs.length m.A.c, .bool m.A.m, .slice m.A.B m.A.ds.length m.A.d, .bool m.B.n, .slice m.B.A m.B.xs.length m.B.c, .bool m.B.m, .slice m.B.B m.B.ds.length m.B.d, .bool m.C.n, .slice m.C.A m.C.xs.length m.C.c, .bool m.C.m, .slice m.C.B m.C.ds.length m.C.d, .bool m.D.n, .slice m.D.A m.D.xs.length m.D.c, .bool m.D.m, .slice m.D.B m.D.ds.length m.D.d] ∧ Cs wx (w.heap.size + 1) 0 [.bool a.n, .slice a.A a.xs.length a.c, .bool a.m, .slice a.B a.ds.length a.d])) (by kernel_rfl) (by exact ⟨K5, K12.cs⟩) (fun hHeld => ?_)
  generalize V25.drew = Vd34 at *
  refine pT 0 ?_ (hy := fun wt hSw => ldM rfl rfl hSw.1)
  (try simp only [p0, p1, p2, p3])
  refine pT 2 ?_
  (try simp only [p0, p1, p2, p3])
  refine pR1 1 (fun K hK => ?_)
  go_simp
  (go_at_call 18; with_reducible refine (y_check0 G HD.out).mono ?_)
  rintro _ w35 ⟨rfl, hb⟩
  (try go_wp2_with fail)
  replace K5 := K5.on hb
  replace K12 := K12.on hb
  replace K20 := K20.on hb
  replace K28 := K28.on hb
  replace Z6 := Z6.on hb
  replace Z13 := Z13.on hb
  replace Z21 := Z21.on hb
  replace Z29 := Z29.on hb
  replace G := G.kp (Kept.of hb)
  replace A := A.kp (Kept.of hb)
  replace BW := BW.trans (hb.mono BW.size)
  clear hb
  clear hHeld
  refine hK.out _ _ (by exact ⟨K5, K12.cs⟩) (fun hHeld => ?_)
  clear hK
  (try simp only [p0, p1, p2, p3])
  refine pR1 3 (fun K hK => ?_)
  go_simp
  (go_at_call 62; with_reducible refine (f_check0 A).mono ?_)
  rintro _ w36 ⟨rfl, hb⟩
  (try go_wp2_with fail)
  replace K5 := K5.on hb
  replace K12 := K12.on hb
  replace K20 := K20.on hb
  replace K28 := K28.on hb
  replace Z6 := Z6.on hb
  replace Z13 := Z13.on hb
  replace Z21 := Z21.on hb
  replace Z29 := Z29.on hb
  replace G := G.kp (Kept.of hb)
  replace A := A.kp (Kept.of hb)
  replace BW := BW.trans (hb.mono BW.size)
  clear hb
  clear hHeld
  refine hK.out _ _ (by exact ⟨K5, K12.cs⟩) (fun hHeld => ?_)
  clear hK
  (try simp only [p0, p1, p2, p3])
  refine pR1 4 (fun K hK => ?_)
  go_simp
  obtain ⟨V37, e38, hb39, K40, -, -⟩ := alloc_new w36 [.int .i64 0, .int .i64 0] 32
  have n41 : w.heap.size ≠ w36.heap.size := Nat.ne_of_lt (K5.lt)
  have n42 : w.heap.size + 1 ≠ w36.heap.size := Nat.ne_of_lt (K12.lt)
  have n43 : w.heap.size + 1 + 1 ≠ w36.heap.size := Nat.ne_of_lt (K20.lt)
  have n44 : w.heap.size + 1 + 1 + 1 ≠ w36.heap.size := Nat.ne_of_lt (K28.lt)
  replace K5 := K5.on hb39
  replace K12 := K12.on hb39
  replace K20 := K20.on hb39
  replace K28 := K28.on hb39
  replace Z6 := Z6.on hb39
  replace Z13 := Z13.on hb39
  replace Z21 := Z21.on hb39
  replace Z29 := Z29.on hb39
  replace G := G.kp (Kept.of hb39)
  replace A := A.kp (Kept.of hb39)
  replace BW := BW.trans (hb39.mono BW.size)
  clear hb39
  rw [← e38]
  clear e38
  generalize w36.heap.size = b45 at *
  clear hHeld
  refine hK.out _ _ (by exact ⟨K5, K12.cs⟩) (fun hHeld => ?_)
  clear hK
  (try simp only [p0, p1, p2, p3])
  refine pR1 5 (fun K hK => ?_)
  go_simp
  (go_at_call 59; with_reducible refine (cor_zero K40).mono ?_)
  rintro _ w46 ⟨rfl, hb⟩
  (try go_wp2_with fail)
  replace K5 := K5.on hb
  replace K12 := K12.on hb
  replace K20 := K20.on hb
  replace K28 := K28.on hb
  replace K40 := K40.on hb
  replace Z6 := Z6.on hb
  replace Z13 := Z13.on hb
  replace Z21 := Z21.on hb
  replace Z29 := Z29.on hb
  replace G := G.kp (Kept.of hb)
  replace A := A.kp (Kept.of hb)
  replace BW := BW.trans (hb.mono BW.size)
  clear hb
  clear hHeld
  refine hK.out _ _ (by exact ⟨K5, K12.cs⟩) (fun hHeld => ?_)
  clear hK
  (try simp only [p0, p1, p2, p3])
  refine pT 6 ?_
  (try simp only [p0, p1, p2, p3])
  refine wpAnyH_done (by kernel_rfl) (NoPanic.normal ?_) _
  go_wp2
  go_meet
  exact ⟨rfl, BW, K5, K12, K20, K28, Z6, Z13, Z21, Z29, G, A⟩
 case rest =>
  obtain ⟨rfl, BW, K5, K12, K20, K28, Z6, Z13, Z21, Z29, G, A⟩ := hcut
  go_wp2_with fail
  go_cut [9, 8] (fun sv0 sw0 wx => ∃ (pkb_0 : Nat) (gs : Nat) (M : Mv) (f2 : Fv), sv0 = .pointer (some ⟨pkb_0, 0, none⟩) ∧ sw0 = .func (.func 128) #[] #[.pointer (some ⟨gs, 0, none⟩)] ∧ Below w.heap.size w wx ∧ Box wx (w.heap.size + 1 + 1) [.bool false, .slice none 0 0, .bool false, .slice none 0 0] ∧ Box wx (w.heap.size + 1 + 1 + 1) [.bool false, .slice none 0 0, .bool false, .slice none 0 0] ∧ Fz wx (w.heap.size + 1 + 1) ∧ Fz wx (w.heap.size + 1 + 1 + 1) ∧ Box wx pkb_0 [.bool f2.n, .slice f2.A f2.xs.length f2.c, .bool f2.m, .slice f2.B f2.ds.length f2.d] ∧ pkb_0 ≠ w.heap.size + 1 + 1 ∧ pkb_0 ≠ w.heap.size + 1 + 1 + 1 ∧ Gm wx (q) M 1024 ∧ Box wx gs (mcs M) ∧ Fq wx (x) f2 1024)
  case first =>
   refine wp_region_noPanic ?_
   have hb : Below wc.heap.size wc wc.drew := (Below.refl _ _).drew
   replace K5 := K5.on hb
   replace K12 := K12.on hb
   replace K20 := K20.on hb
   replace K28 := K28.on hb
   replace Z21 := Z21.on hb
   replace Z29 := Z29.on hb
   replace G := G.kp (Kept.of hb)
   replace A := A.kp (Kept.of hb)
   replace BW := BW.trans (hb.mono BW.size)
   clear hb
   refine wp_region_held_drew (S := (fun wx => Box wx (w.heap.size) [.bool m.A.n, .slice m.A.A m.A.xs.length m.A.c, .bool m.A.m, .slice m.A.B m.A.ds.length m.A.d, .bool m.B.n, .slice m.B.A m.B.xs.length m.B.c, .bool m.B.m, .slice m.B.B m.B.ds.length m.B.d, .bool m.C.n, .slice m.C.A m.C.xs.length m.C.c, .bool m.C.m, .slice m.C.B m.C.ds.length m.C.d, .bool m.D.n, .slice m.D.A m.D.xs.length m.D.c, .bool m.D.m, .slice m.D.B m.D.ds.length m.D.d] ∧ Cs wx (w.heap.size + 1) 0 [.bool a.n, .slice a.A a.xs.length a.c, .bool a.m, .slice a.B a.ds.length a.d])) (by kernel_rfl) (by exact ⟨K5, K12.cs⟩) (fun hHeld => ?_)
   generalize wc.drew = Vd34 at *
   refine pT 0 ?_ (hy := fun wt hSw => ldM rfl rfl hSw.1)
   (try simp only [p0, p1, p2, p3])
   refine pT 3 ?_
   (try simp only [p0, p1, p2, p3])
   refine pR2 1 5 (fun K hK => ?_) (fun K hK => ?_)
   ·go_simp
    (go_at_call 53; with_reducible refine (b_from G).mono ?_)
    rintro _ w35 ⟨M, rfl, GM, hb⟩
    (try go_wp2_with fail)
    replace K5 := K5.on hb
    replace K12 := K12.on hb
    replace K20 := K20.on hb
    replace K28 := K28.on hb
    replace Z21 := Z21.on hb
    replace Z29 := Z29.on hb
    replace G := G.kp (Kept.of hb)
    replace A := A.kp (Kept.of hb)
    replace BW := BW.trans (hb.mono BW.size)
    clear hb
    clear hHeld
    refine hK.out _ _ (by exact ⟨K5, K12.cs⟩) (fun hHeld => ?_)
    clear hK
    (try simp only [p0, p1, p2, p3])
    refine pR2 2 5 (fun K hK => ?_) (fun K hK => ?_)
    ·go_simp
     have l37 := K5.lt
     have l38 := K12.lt
     have l39 := K20.lt
     have l40 := K28.lt
     (go_at_call 92; with_reducible refine (i_spaced).mono ?_)
     rintro _ w36 ⟨gs, rfl, KS, gsz, hb⟩
     (try go_wp2_with fail)
     replace K5 := K5.on hb
     replace K12 := K12.on hb
     replace K20 := K20.on hb
     replace K28 := K28.on hb
     replace Z21 := Z21.on hb
     replace Z29 := Z29.on hb
     replace G := G.kp (Kept.of hb)
     replace A := A.kp (Kept.of hb)
     replace GM := GM.kp (Kept.of hb)
     replace BW := BW.trans (hb.mono BW.size)
     clear hb
     have n41 : gs ≠ w.heap.size := Nat.ne_of_gt (Nat.lt_of_lt_of_le l37 gsz)
     have n42 : gs ≠ w.heap.size + 1 := Nat.ne_of_gt (Nat.lt_of_lt_of_le l38 gsz)
     have n43 : gs ≠ w.heap.size + 1 + 1 := Nat.ne_of_gt (Nat.lt_of_lt_of_le l39 gsz)
     have n44 : gs ≠ w.heap.size + 1 + 1 + 1 := Nat.ne_of_gt (Nat.lt_of_lt_of_le l40 gsz)
     clear l37 l38 l39 l40 gsz
     clear hHeld
     refine hK.out _ _ (by exact ⟨K5, K12.cs⟩) (fun hHeld => ?_)
     clear hK
     (try simp only [p0, p1, p2, p3])
     refine pR2 4 5 (fun K hK => ?_) (fun K hK => ?_)
     ·go_simp
      (go_at_call 66; with_reducible refine (q_from A).mono ?_)
      rintro _ w45 ⟨f2, rfl, F2, hb⟩
      (try go_wp2_with fail)
      replace K5 := K5.on hb
      replace K12 := K12.on hb
      replace K20 := K20.on hb
      replace K28 := K28.on hb
      replace KS := KS.on hb
      replace Z21 := Z21.on hb
      replace Z29 := Z29.on hb
      replace G := G.kp (Kept.of hb)
      replace A := A.kp (Kept.of hb)
      replace GM := GM.kp (Kept.of hb)
      replace BW := BW.trans (hb.mono BW.size)
      clear hb
      clear hHeld
      refine hK.out _ _ (by exact ⟨K5, K12.cs⟩) (fun hHeld => ?_)
      clear hK
      (try simp only [p0, p1, p2, p3])
      refine pR1 5 (fun K hK => ?_)
      go_simp
      obtain ⟨V46, e47, hb48, K49, Z50, -⟩ := alloc_new w45 [.bool false, .slice none 0 0, .bool false, .slice none 0 0] 88
      have n51 : w.heap.size ≠ w45.heap.size := Nat.ne_of_lt (K5.lt)
      have n52 : w.heap.size + 1 ≠ w45.heap.size := Nat.ne_of_lt (K12.lt)
      have n53 : w.heap.size + 1 + 1 ≠ w45.heap.size := Nat.ne_of_lt (K20.lt)
      have n54 : w.heap.size + 1 + 1 + 1 ≠ w45.heap.size := Nat.ne_of_lt (K28.lt)
      have n55 : gs ≠ w45.heap.size := Nat.ne_of_lt (KS.lt)
      have g56 : w.heap.size ≤ w45.heap.size := BW.size
      replace K5 := K5.on hb48
      replace K12 := K12.on hb48
      replace K20 := K20.on hb48
      replace K28 := K28.on hb48
      replace KS := KS.on hb48
      replace Z21 := Z21.on hb48
      replace Z29 := Z29.on hb48
      replace G := G.kp (Kept.of hb48)
      replace A := A.kp (Kept.of hb48)
      replace GM := GM.kp (Kept.of hb48)
      replace F2 := F2.kp (Kept.of hb48)
      replace BW := BW.trans (hb48.mono BW.size)
      clear hb48
      rw [← e47]
      clear e47
      generalize w45.heap.size = b57 at *
      clear hHeld
      refine hK.out _ _ (by exact ⟨K5, K12.cs⟩) (fun hHeld => ?_)
      clear hK
      (try simp only [p0, p1, p2, p3])
      refine pT 6 ?_
      (try simp only [p0, p1, p2, p3])
      refine pR1 7 (fun K hK => ?_)
      obtain ⟨c58, c59, c60, c61⟩ := K49.c4
      obtain ⟨c62, c63, c64, c65⟩ := Z50.f4
      go_simp
      clear c58 c59 c60 c61 c62 c63 c64 c65
      obtain ⟨V66, hk68⟩ : ∃ V66, V66 = V46.setCells (b57) 0 [.bool f2.n, .slice f2.A f2.xs.length f2.c, .bool f2.m, .slice f2.B f2.ds.length f2.d] := ⟨_, rfl⟩
      have e67 := hk68
      simp only [World.setCells, Nat.zero_add, Nat.reduceAdd] at e67
      have hk69 := Kept.overE hk68 K49 rfl (Nat.le_of_ble_eq_true rfl)
      replace K5 := K5.awayE hk68 n51
      replace K12 := K12.awayE hk68 n52
      replace K20 := K20.awayE hk68 n53
      replace K28 := K28.awayE hk68 n54
      replace KS := KS.awayE hk68 n55
      replace K49 := K49.overE hk68 rfl
      replace Z21 := Z21.putE hk68
      replace Z29 := Z29.putE hk68
      replace G := G.kp hk69
      replace A := A.kp hk69
      replace GM := GM.kp hk69
      replace F2 := F2.kp hk69
      replace BW := Below.putE BW hk68 g56
      clear hk68 hk69
      rw [← e67]
      clear e67
      clear hHeld
      refine hK.out _ _ (by exact ⟨K5, K12.cs⟩) (fun hHeld => ?_)
      clear hK
      (try simp only [p0, p1, p2, p3])
      refine wpAnyH_done (by kernel_rfl) (NoPanic.normal ?_) _
      go_wp2
      go_meet
      exact ⟨b57, gs, M, f2, rfl, rfl, BW, K20, K28, Z21, Z29, K49, n53.symm, n54.symm, GM, KS, F2⟩
     ·go_simp
      obtain ⟨V45, e46, hb47, K48, Z49, -⟩ := alloc_new w36 [.bool false, .slice none 0 0, .bool false, .slice none 0 0] 88
      have n50 : w.heap.size ≠ w36.heap.size := Nat.ne_of_lt (K5.lt)
      have n51 : w.heap.size + 1 ≠ w36.heap.size := Nat.ne_of_lt (K12.lt)
      have n52 : w.heap.size + 1 + 1 ≠ w36.heap.size := Nat.ne_of_lt (K20.lt)
      have n53 : w.heap.size + 1 + 1 + 1 ≠ w36.heap.size := Nat.ne_of_lt (K28.lt)
      have n54 : gs ≠ w36.heap.size := Nat.ne_of_lt (KS.lt)
      have g55 : w.heap.size ≤ w36.heap.size := BW.size
      replace K5 := K5.on hb47
      replace K12 := K12.on hb47
      replace K20 := K20.on hb47
      replace K28 := K28.on hb47
      replace KS := KS.on hb47
      replace Z21 := Z21.on hb47
      replace Z29 := Z29.on hb47
      replace G := G.kp (Kept.of hb47)
      replace A := A.kp (Kept.of hb47)
      replace GM := GM.kp (Kept.of hb47)
      replace BW := BW.trans (hb47.mono BW.size)
      clear hb47
      rw [← e46]
      clear e46
      generalize w36.heap.size = b56 at *
      clear hHeld
      refine hK.out _ _ (by exact ⟨K5, K12.cs⟩) (fun hHeld => ?_)
      clear hK
      (try simp only [p0, p1, p2, p3])
      refine pR1 4 (fun K hK => ?_)
      go_simp
      (go_at_call 66; with_reducible refine (q_from A).mono ?_)
      rintro _ w57 ⟨f2, rfl, F2, hb⟩
      (try go_wp2_with fail)
      replace K5 := K5.on hb
      replace K12 := K12.on hb
      replace K20 := K20.on hb
      replace K28 := K28.on hb
      replace KS := KS.on hb
      replace K48 := K48.on hb
      replace Z21 := Z21.on hb
      replace Z29 := Z29.on hb
      replace Z49 := Z49.on hb
      replace G := G.kp (Kept.of hb)
      replace A := A.kp (Kept.of hb)
      replace GM := GM.kp (Kept.of hb)
      replace BW := BW.trans (hb.mono BW.size)
      clear hb
      clear hHeld
      refine hK.out _ _ (by exact ⟨K5, K12.cs⟩) (fun hHeld => ?_)
      clear hK
      (try simp only [p0, p1, p2, p3])
      refine pT 6 ?_
      (try simp only [p0, p1, p2, p3])
      refine pR1 7 (fun K hK => ?_)
      obtain ⟨c58, c59, c60, c61⟩ := K48.c4
      obtain ⟨c62, c63, c64, c65⟩ := Z49.f4
      go_simp
      clear c58 c59 c60 c61 c62 c63 c64 c65
      obtain ⟨V66, hk68⟩ : ∃ V66, V66 = w57.setCells (b56) 0 [.bool f2.n, .slice f2.A f2.xs.length f2.c, .bool f2.m, .slice f2.B f2.ds.length f2.d] := ⟨_, rfl⟩
      have e67 := hk68
      simp only [World.setCells, Nat.zero_add, Nat.reduceAdd] at e67
      have hk69 := Kept.overE hk68 K48 rfl (Nat.le_of_ble_eq_true rfl)
      replace K5 := K5.awayE hk68 n50
      replace K12 := K12.awayE hk68 n51
      replace K20 := K20.awayE hk68 n52
      replace K28 := K28.awayE hk68 n53
      replace KS := KS.awayE hk68 n54
      replace K48 := K48.overE hk68 rfl
      replace Z21 := Z21.putE hk68
      replace Z29 := Z29.putE hk68
      replace G := G.kp hk69
      replace A := A.kp hk69
      replace GM := GM.kp hk69
      replace F2 := F2.kp hk69
      replace BW := Below.putE BW hk68 g55
      clear hk68 hk69
      rw [← e67]
      clear e67
      clear hHeld
      refine hK.out _ _ (by exact ⟨K5, K12.cs⟩) (fun hHeld => ?_)
      clear hK
      (try simp only [p0, p1, p2, p3])
      refine wpAnyH_done (by kernel_rfl) (NoPanic.normal ?_) _
      go_wp2
      go_meet
      exact ⟨b56, gs, M, f2, rfl, rfl, BW, K20, K28, Z21, Z29, K48, n52.symm, n53.symm, GM, KS, F2⟩
    ·go_simp
     obtain ⟨V36, e37, hb38, K39, Z40, -⟩ := alloc_new w35 [.bool false, .slice none 0 0, .bool false, .slice none 0 0] 88
     have n41 : w.heap.size ≠ w35.heap.size := Nat.ne_of_lt (K5.lt)
     have n42 : w.heap.size + 1 ≠ w35.heap.size := Nat.ne_of_lt (K12.lt)
     have n43 : w.heap.size + 1 + 1 ≠ w35.heap.size := Nat.ne_of_lt (K20.lt)
     have n44 : w.heap.size + 1 + 1 + 1 ≠ w35.heap.size := Nat.ne_of_lt (K28.lt)
     have g45 : w.heap.size ≤ w35.heap.size := BW.size
     replace K5 := K5.on hb38
     replace K12 := K12.on hb38
     replace K20 := K20.on hb38
     replace K28 := K28.on hb38
     replace Z21 := Z21.on hb38
     replace Z29 := Z29.on hb38
     replace G := G.kp (Kept.of hb38)
     replace A := A.kp (Kept.of hb38)
     replace GM := GM.kp (Kept.of hb38)
     replace BW := BW.trans (hb38.mono BW.size)
     clear hb38
     rw [← e37]
     clear e37
     generalize w35.heap.size = b46 at *
     clear hHeld
     refine hK.out _ _ (by exact ⟨K5, K12.cs⟩) (fun hHeld => ?_)
     clear hK
     (try simp only [p0, p1, p2, p3])
     refine pR1 2 (fun K hK => ?_)
     go_simp
     have l48 := K5.lt
     have l49 := K12.lt
     have l50 := K20.lt
     have l51 := K28.lt
     have l52 := K39.lt
     (go_at_call 92; with_reducible refine (i_spaced).mono ?_)
     rintro _ w47 ⟨gs, rfl, KS, gsz, hb⟩
     (try go_wp2_with fail)
     replace K5 := K5.on hb
     replace K12 := K12.on hb
     replace K20 := K20.on hb
     replace K28 := K28.on hb
     replace K39 := K39.on hb
     replace Z21 := Z21.on hb
     replace Z29 := Z29.on hb
     replace Z40 := Z40.on hb
     replace G := G.kp (Kept.of hb)
     replace A := A.kp (Kept.of hb)
     replace GM := GM.kp (Kept.of hb)
     replace BW := BW.trans (hb.mono BW.size)
     clear hb
     have n53 : gs ≠ w.heap.size := Nat.ne_of_gt (Nat.lt_of_lt_of_le l48 gsz)
     have n54 : gs ≠ w.heap.size + 1 := Nat.ne_of_gt (Nat.lt_of_lt_of_le l49 gsz)
     have n55 : gs ≠ w.heap.size + 1 + 1 := Nat.ne_of_gt (Nat.lt_of_lt_of_le l50 gsz)
     have n56 : gs ≠ w.heap.size + 1 + 1 + 1 := Nat.ne_of_gt (Nat.lt_of_lt_of_le l51 gsz)
     have n57 : gs ≠ b46 := Nat.ne_of_gt (Nat.lt_of_lt_of_le l52 gsz)
     clear l48 l49 l50 l51 l52 gsz
     clear hHeld
     refine hK.out _ _ (by exact ⟨K5, K12.cs⟩) (fun hHeld => ?_)
     clear hK
     (try simp only [p0, p1, p2, p3])
     refine pR1 4 (fun K hK => ?_)
     go_simp
     (go_at_call 66; with_reducible refine (q_from A).mono ?_)
     rintro _ w58 ⟨f2, rfl, F2, hb⟩
     (try go_wp2_with fail)
     replace K5 := K5.on hb
     replace K12 := K12.on hb
     replace K20 := K20.on hb
     replace K28 := K28.on hb
     replace K39 := K39.on hb
     replace KS := KS.on hb
     replace Z21 := Z21.on hb
     replace Z29 := Z29.on hb
     replace Z40 := Z40.on hb
     replace G := G.kp (Kept.of hb)
     replace A := A.kp (Kept.of hb)
     replace GM := GM.kp (Kept.of hb)
     replace BW := BW.trans (hb.mono BW.size)
     clear hb
     clear hHeld
     refine hK.out _ _ (by exact ⟨K5, K12.cs⟩) (fun hHeld => ?_)
     clear hK
     (try simp only [p0, p1, p2, p3])
     refine pT 6 ?_
     (try simp only [p0, p1, p2, p3])
     refine pR1 7 (fun K hK => ?_)
     obtain ⟨c59, c60, c61, c62⟩ := K39.c4
     obtain ⟨c63, c64, c65, c66⟩ := Z40.f4
     go_simp
     clear c59 c60 c61 c62 c63 c64 c65 c66
     obtain ⟨V67, hk69⟩ : ∃ V67, V67 = w58.setCells (b46) 0 [.bool f2.n, .slice f2.A f2.xs.length f2.c, .bool f2.m, .slice f2.B f2.ds.length f2.d] := ⟨_, rfl⟩
     have e68 := hk69
     simp only [World.setCells, Nat.zero_add, Nat.reduceAdd] at e68
     have hk70 := Kept.overE hk69 K39 rfl (Nat.le_of_ble_eq_true rfl)
     replace K5 := K5.awayE hk69 n41
     replace K12 := K12.awayE hk69 n42
     replace K20 := K20.awayE hk69 n43
     replace K28 := K28.awayE hk69 n44
     replace K39 := K39.overE hk69 rfl
     replace KS := KS.awayE hk69 n57
     replace Z21 := Z21.putE hk69
     replace Z29 := Z29.putE hk69
     replace G := G.kp hk70
     replace A := A.kp hk70
     replace GM := GM.kp hk70
     replace F2 := F2.kp hk70
     replace BW := Below.putE BW hk69 g45
     clear hk69 hk70
     rw [← e68]
     clear e68
     clear hHeld
     refine hK.out _ _ (by exact ⟨K5, K12.cs⟩) (fun hHeld => ?_)
     clear hK
     (try simp only [p0, p1, p2, p3])
     refine wpAnyH_done (by kernel_rfl) (NoPanic.normal ?_) _
     go_wp2
     go_meet
     exact ⟨b46, gs, M, f2, rfl, rfl, BW, K20, K28, Z21, Z29, K39, n43.symm, n44.symm, GM, KS, F2⟩
   ·go_simp
    obtain ⟨V35, e36, hb37, K38, Z39, -⟩ := alloc_new Vd34 [.bool false, .slice none 0 0, .bool false, .slice none 0 0] 88
    have n40 : w.heap.size ≠ Vd34.heap.size := Nat.ne_of_lt (K5.lt)
    have n41 : w.heap.size + 1 ≠ Vd34.heap.size := Nat.ne_of_lt (K12.lt)
    have n42 : w.heap.size + 1 + 1 ≠ Vd34.heap.size := Nat.ne_of_lt (K20.lt)
    have n43 : w.heap.size + 1 + 1 + 1 ≠ Vd34.heap.size := Nat.ne_of_lt (K28.lt)
    have g44 : w.heap.size ≤ Vd34.heap.size := BW.size
    replace K5 := K5.on hb37
    replace K12 := K12.on hb37
    replace K20 := K20.on hb37
    replace K28 := K28.on hb37
    replace Z21 := Z21.on hb37
    replace Z29 := Z29.on hb37
    replace G := G.kp (Kept.of hb37)
    replace A := A.kp (Kept.of hb37)
    replace BW := BW.trans (hb37.mono BW.size)
    clear hb37
    rw [← e36]
    clear e36
    generalize Vd34.heap.size = b45 at *
    clear hHeld
    refine hK.out _ _ (by exact ⟨K5, K12.cs⟩) (fun hHeld => ?_)
    clear hK
    (try simp only [p0, p1, p2, p3])
    refine pR1 1 (fun K hK => ?_)
    go_simp
    (go_at_call 53; with_reducible refine (b_from G).mono ?_)
    rintro _ w46 ⟨M, rfl, GM, hb⟩
    (try go_wp2_with fail)
    replace K5 := K5.on hb
    replace K12 := K12.on hb
    replace K20 := K20.on hb
    replace K28 := K28.on hb
    replace K38 := K38.on hb
    replace Z21 := Z21.on hb
    replace Z29 := Z29.on hb
    replace Z39 := Z39.on hb
    replace A := A.kp (Kept.of hb)
    replace BW := BW.trans (hb.mono BW.size)
    clear hb
    clear hHeld
    refine hK.out _ _ (by exact ⟨K5, K12.cs⟩) (fun hHeld => ?_)
    clear hK
    (try simp only [p0, p1, p2, p3])
    refine pR1 2 (fun K hK => ?_)
    go_simp
    have l48 := K5.lt
    have l49 := K12.lt
    have l50 := K20.lt
    have l51 := K28.lt
    have l52 := K38.lt
    (go_at_call 92; with_reducible refine (i_spaced).mono ?_)
    rintro _ w47 ⟨gs, rfl, KS, gsz, hb⟩
    (try go_wp2_with fail)
    replace K5 := K5.on hb
    replace K12 := K12.on hb
    replace K20 := K20.on hb
    replace K28 := K28.on hb
    replace K38 := K38.on hb
    replace Z21 := Z21.on hb
    replace Z29 := Z29.on hb
    replace Z39 := Z39.on hb
    replace A := A.kp (Kept.of hb)
    replace GM := GM.kp (Kept.of hb)
    replace BW := BW.trans (hb.mono BW.size)
    clear hb
    have n53 : gs ≠ w.heap.size := Nat.ne_of_gt (Nat.lt_of_lt_of_le l48 gsz)
    have n54 : gs ≠ w.heap.size + 1 := Nat.ne_of_gt (Nat.lt_of_lt_of_le l49 gsz)
    have n55 : gs ≠ w.heap.size + 1 + 1 := Nat.ne_of_gt (Nat.lt_of_lt_of_le l50 gsz)
    have n56 : gs ≠ w.heap.size + 1 + 1 + 1 := Nat.ne_of_gt (Nat.lt_of_lt_of_le l51 gsz)
    have n57 : gs ≠ b45 := Nat.ne_of_gt (Nat.lt_of_lt_of_le l52 gsz)
    clear l48 l49 l50 l51 l52 gsz
    clear hHeld
    refine hK.out _ _ (by exact ⟨K5, K12.cs⟩) (fun hHeld => ?_)
    clear hK
    (try simp only [p0, p1, p2, p3])
    refine pR1 4 (fun K hK => ?_)
    go_simp
    (go_at_call 66; with_reducible refine (q_from A).mono ?_)
    rintro _ w58 ⟨f2, rfl, F2, hb⟩
    (try go_wp2_with fail)
    replace K5 := K5.on hb
    replace K12 := K12.on hb
    replace K20 := K20.on hb
    replace K28 := K28.on hb
    replace K38 := K38.on hb
    replace KS := KS.on hb
    replace Z21 := Z21.on hb
    replace Z29 := Z29.on hb
    replace Z39 := Z39.on hb
    replace A := A.kp (Kept.of hb)
    replace GM := GM.kp (Kept.of hb)
    replace BW := BW.trans (hb.mono BW.size)
    clear hb
    clear hHeld
    refine hK.out _ _ (by exact ⟨K5, K12.cs⟩) (fun hHeld => ?_)
    clear hK
    (try simp only [p0, p1, p2, p3])
    refine pT 6 ?_
    (try simp only [p0, p1, p2, p3])
    refine pR1 7 (fun K hK => ?_)
    obtain ⟨c59, c60, c61, c62⟩ := K38.c4
    obtain ⟨c63, c64, c65, c66⟩ := Z39.f4
    go_simp
    clear c59 c60 c61 c62 c63 c64 c65 c66
    obtain ⟨V67, hk69⟩ : ∃ V67, V67 = w58.setCells (b45) 0 [.bool f2.n, .slice f2.A f2.xs.length f2.c, .bool f2.m, .slice f2.B f2.ds.length f2.d] := ⟨_, rfl⟩
    have e68 := hk69
    simp only [World.setCells, Nat.zero_add, Nat.reduceAdd] at e68
    have hk70 := Kept.overE hk69 K38 rfl (Nat.le_of_ble_eq_true rfl)
    replace K5 := K5.awayE hk69 n40
    replace K12 := K12.awayE hk69 n41
    replace K20 := K20.awayE hk69 n42
    replace K28 := K28.awayE hk69 n43
    replace K38 := K38.overE hk69 rfl
    replace KS := KS.awayE hk69 n57
    replace Z21 := Z21.putE hk69
    replace Z29 := Z29.putE hk69
    replace A := A.kp hk70
    replace GM := GM.kp hk70
    replace F2 := F2.kp hk70
    replace BW := Below.putE BW hk69 g44
    clear hk69 hk70
    rw [← e68]
    clear e68
    clear hHeld
    refine hK.out _ _ (by exact ⟨K5, K12.cs⟩) (fun hHeld => ?_)
    clear hK
    (try simp only [p0, p1, p2, p3])
    refine wpAnyH_done (by kernel_rfl) (NoPanic.normal ?_) _
    go_wp2
    go_meet
    exact ⟨b45, gs, M, f2, rfl, rfl, BW, K20, K28, Z21, Z29, K38, n42.symm, n43.symm, GM, KS, F2⟩
  case rest =>
   obtain ⟨pkb_0, gs, M, f2, rfl, rfl, BW, K20, K28, Z21, Z29, KNb_0, nn34, nn35, GM, KS, F2⟩ := hcut
   go_wp2_with fail
   go_cut [10] (fun sv0 wx => ∃ (pkc_0 : Nat) (N : Mv), sv0 = .pointer (some ⟨pkc_0, 0, none⟩) ∧ Below w.heap.size w wx ∧ Box wx (w.heap.size + 1 + 1) [.bool false, .slice none 0 0, .bool false, .slice none 0 0] ∧ Box wx (w.heap.size + 1 + 1 + 1) [.bool false, .slice none 0 0, .bool false, .slice none 0 0] ∧ Box wx (pkb_0) [.bool f2.n, .slice f2.A f2.xs.length f2.c, .bool f2.m, .slice f2.B f2.ds.length f2.d] ∧ Box wx (gs) (mcs M) ∧ Fz wx (w.heap.size + 1 + 1) ∧ Fz wx (w.heap.size + 1 + 1 + 1) ∧ Gm wx (q) M 1024 ∧ Fq wx (x) f2 1024 ∧ Box wx pkc_0 (mcs N) ∧ pkc_0 ≠ w.heap.size + 1 + 1 ∧ pkc_0 ≠ w.heap.size + 1 + 1 + 1 ∧ Gm wx (imS q x ((0 : Int) : Rat)) N 16424)
   case first =>
    refine wp_region_noPanic ?_
    have hb : Below wc.heap.size wc wc.drew := (Below.refl _ _).drew
    replace K20 := K20.on hb
    replace K28 := K28.on hb
    replace KNb_0 := KNb_0.on hb
    replace KS := KS.on hb
    replace Z21 := Z21.on hb
    replace Z29 := Z29.on hb
    replace GM := GM.kp (Kept.of hb)
    replace F2 := F2.kp (Kept.of hb)
    replace BW := BW.trans (hb.mono BW.size)
    clear hb
    refine wp_region_held_drew (S := (fun wx => Cs wx (pkb_0) 0 [.bool f2.n, .slice f2.A f2.xs.length f2.c, .bool f2.m, .slice f2.B f2.ds.length f2.d])) (by kernel_rfl) (by exact KNb_0.cs) (fun hHeld => ?_)
    generalize wc.drew = Vd36 at *
    refine pT 0 ?_
    (try simp only [p0, p1, p2, p3])
    refine pT 1 ?_
    (try simp only [p0, p1, p2, p3])
    refine pR2 2 4 (fun K hK => ?_) (fun K hK => ?_)
    ·go_simp
     (go_at_call 93; with_reducible refine (b_of (n := 0) (by decide) (by decide)).mono ?_)
     rintro _ w37 ⟨f0, rfl, F0, hb⟩
     (try go_wp2_with fail)
     replace K20 := K20.on hb
     replace K28 := K28.on hb
     replace KNb_0 := KNb_0.on hb
     replace KS := KS.on hb
     replace Z21 := Z21.on hb
     replace Z29 := Z29.on hb
     replace GM := GM.kp (Kept.of hb)
     replace F2 := F2.kp (Kept.of hb)
     replace BW := BW.trans (hb.mono BW.size)
     clear hb
     clear hHeld
     refine hK.out _ _ (by exact KNb_0.cs) (fun hHeld => ?_)
     clear hK
     (try simp only [p0, p1, p2, p3])
     refine pR2 3 4 (fun K hK => ?_) (fun K hK => ?_)
     ·go_simp
      (go_at_call 128; with_reducible refine (i_sclo GM F2 (F0.mono (by decide)) (by decide) (by decide) KS (D := 16424) (by decide)).mono ?_)
      rintro _ w38 ⟨N, rfl, GN, hb⟩
      (try go_wp2_with fail)
      replace K20 := K20.on hb
      replace K28 := K28.on hb
      replace KNb_0 := KNb_0.on hb
      replace KS := KS.on hb
      replace Z21 := Z21.on hb
      replace Z29 := Z29.on hb
      replace GM := GM.kp (Kept.of hb)
      replace F2 := F2.kp (Kept.of hb)
      replace F0 := F0.kp (Kept.of hb)
      replace BW := BW.trans (hb.mono BW.size)
      clear hb
      clear hHeld
      refine hK.out _ _ (by exact KNb_0.cs) (fun hHeld => ?_)
      clear hK
      (try simp only [p0, p1, p2, p3])
      refine pR1 4 (fun K hK => ?_)
      go_simp
      obtain ⟨V39, e40, hb41, K42, Z43, -⟩ := alloc_new w38 [.bool false, .slice none 0 0, .bool false, .slice none 0 0, .bool false, .slice none 0 0, .bool false, .slice none 0 0, .bool false, .slice none 0 0, .bool false, .slice none 0 0, .bool false, .slice none 0 0, .bool false, .slice none 0 0] 90
      replace K42 : Box V39 (w38.heap.size) (zcs16) := K42
      have n44 : w.heap.size + 1 + 1 ≠ w38.heap.size := Nat.ne_of_lt (K20.lt)
      have n45 : w.heap.size + 1 + 1 + 1 ≠ w38.heap.size := Nat.ne_of_lt (K28.lt)
      have n46 : pkb_0 ≠ w38.heap.size := Nat.ne_of_lt (KNb_0.lt)
      have n47 : gs ≠ w38.heap.size := Nat.ne_of_lt (KS.lt)
      have g48 : w.heap.size ≤ w38.heap.size := BW.size
      replace K20 := K20.on hb41
      replace K28 := K28.on hb41
      replace KNb_0 := KNb_0.on hb41
      replace KS := KS.on hb41
      replace Z21 := Z21.on hb41
      replace Z29 := Z29.on hb41
      replace GM := GM.kp (Kept.of hb41)
      replace F2 := F2.kp (Kept.of hb41)
      replace F0 := F0.kp (Kept.of hb41)
      replace GN := GN.kp (Kept.of hb41)
      replace BW := BW.trans (hb41.mono BW.size)
      clear hb41
      rw [← e40]
      clear e40
      generalize w38.heap.size = b49 at *
      clear hHeld
      refine hK.out _ _ (by exact KNb_0.cs) (fun hHeld => ?_)
      clear hK
      (try simp only [p0, p1, p2, p3])
      refine pR1 5 (fun K hK => ?_)
      refine ite_yes (by rfl) (wp_stL rfl rfl rfl K42 Z43 rfl rfl rfl ?_)
      obtain ⟨V50, hk52⟩ : ∃ V50, V50 = V39.setCells (b49) 0 [.bool N.A.n, .slice N.A.A N.A.xs.length N.A.c, .bool N.A.m, .slice N.A.B N.A.ds.length N.A.d, .bool N.B.n, .slice N.B.A N.B.xs.length N.B.c, .bool N.B.m, .slice N.B.B N.B.ds.length N.B.d, .bool N.C.n, .slice N.C.A N.C.xs.length N.C.c, .bool N.C.m, .slice N.C.B N.C.ds.length N.C.d, .bool N.D.n, .slice N.D.A N.D.xs.length N.D.c, .bool N.D.m, .slice N.D.B N.D.ds.length N.D.d] := ⟨_, rfl⟩
      have e51 := hk52
      have hk53 := Kept.overE hk52 K42 rfl (Nat.le_of_ble_eq_true rfl)
      replace K20 := K20.awayE hk52 n44
      replace K28 := K28.awayE hk52 n45
      replace KNb_0 := KNb_0.awayE hk52 n46
      replace KS := KS.awayE hk52 n47
      replace K42 := K42.overE hk52 rfl
      replace Z21 := Z21.putE hk52
      replace Z29 := Z29.putE hk52
      replace Z43 := Z43.putE hk52
      replace GM := GM.kp hk53
      replace F2 := F2.kp hk53
      replace F0 := F0.kp hk53
      replace GN := GN.kp hk53
      replace BW := Below.putE BW hk52 g48
      clear hk52 hk53
      replace K42 : Box V50 (b49) (mcs N) := K42
      rw [← e51]
      clear e51
      clear hHeld
      refine hK.out _ _ (by exact KNb_0.cs) (fun hHeld => ?_)
      clear hK
      (try simp only [p0])
      refine wpAnyH_done (by kernel_rfl) (NoPanic.normal ?_) _
      go_wp2
      go_meet
      exact ⟨b49, N, rfl, BW, K20, K28, KNb_0, KS, Z21, Z29, GM, F2, K42, n44.symm, n45.symm, GN⟩
     ·go_simp
      obtain ⟨V38, e39, hb40, K41, Z42, -⟩ := alloc_new w37 [.bool false, .slice none 0 0, .bool false, .slice none 0 0, .bool false, .slice none 0 0, .bool false, .slice none 0 0, .bool false, .slice none 0 0, .bool false, .slice none 0 0, .bool false, .slice none 0 0, .bool false, .slice none 0 0] 90
      replace K41 : Box V38 (w37.heap.size) (zcs16) := K41
      have n43 : w.heap.size + 1 + 1 ≠ w37.heap.size := Nat.ne_of_lt (K20.lt)
      have n44 : w.heap.size + 1 + 1 + 1 ≠ w37.heap.size := Nat.ne_of_lt (K28.lt)
      have n45 : pkb_0 ≠ w37.heap.size := Nat.ne_of_lt (KNb_0.lt)
      have n46 : gs ≠ w37.heap.size := Nat.ne_of_lt (KS.lt)
      have g47 : w.heap.size ≤ w37.heap.size := BW.size
      replace K20 := K20.on hb40
      replace K28 := K28.on hb40
      replace KNb_0 := KNb_0.on hb40
      replace KS := KS.on hb40
      replace Z21 := Z21.on hb40
      replace Z29 := Z29.on hb40
      replace GM := GM.kp (Kept.of hb40)
      replace F2 := F2.kp (Kept.of hb40)
      replace F0 := F0.kp (Kept.of hb40)
      replace BW := BW.trans (hb40.mono BW.size)
      clear hb40
      rw [← e39]
      clear e39
      generalize w37.heap.size = b48 at *
      clear hHeld
      refine hK.out _ _ (by exact KNb_0.cs) (fun hHeld => ?_)
      clear hK
      (try simp only [p0, p1, p2, p3])
      refine pR1 3 (fun K hK => ?_)
      go_simp
      (go_at_call 128; with_reducible refine (i_sclo GM F2 (F0.mono (by decide)) (by decide) (by decide) KS (D := 16424) (by decide)).mono ?_)
      rintro _ w49 ⟨N, rfl, GN, hb⟩
      (try go_wp2_with fail)
      replace K20 := K20.on hb
      replace K28 := K28.on hb
      replace KNb_0 := KNb_0.on hb
      replace KS := KS.on hb
      replace K41 := K41.on hb
      replace Z21 := Z21.on hb
      replace Z29 := Z29.on hb
      replace Z42 := Z42.on hb
      replace GM := GM.kp (Kept.of hb)
      replace F2 := F2.kp (Kept.of hb)
      replace F0 := F0.kp (Kept.of hb)
      replace BW := BW.trans (hb.mono BW.size)
      clear hb
      clear hHeld
      refine hK.out _ _ (by exact KNb_0.cs) (fun hHeld => ?_)
      clear hK
      (try simp only [p0, p1, p2, p3])
      refine pR1 5 (fun K hK => ?_)
      refine ite_yes (by rfl) (wp_stL rfl rfl rfl K41 Z42 rfl rfl rfl ?_)
      obtain ⟨V50, hk52⟩ : ∃ V50, V50 = w49.setCells (b48) 0 [.bool N.A.n, .slice N.A.A N.A.xs.length N.A.c, .bool N.A.m, .slice N.A.B N.A.ds.length N.A.d, .bool N.B.n, .slice N.B.A N.B.xs.length N.B.c, .bool N.B.m, .slice N.B.B N.B.ds.length N.B.d, .bool N.C.n, .slice N.C.A N.C.xs.length N.C.c, .bool N.C.m, .slice N.C.B N.C.ds.length N.C.d, .bool N.D.n, .slice N.D.A N.D.xs.length N.D.c, .bool N.D.m, .slice N.D.B N.D.ds.length N.D.d] := ⟨_, rfl⟩
      have e51 := hk52
      have hk53 := Kept.overE hk52 K41 rfl (Nat.le_of_ble_eq_true rfl)
      replace K20 := K20.awayE hk52 n43
      replace K28 := K28.awayE hk52 n44
      replace KNb_0 := KNb_0.awayE hk52 n45
      replace KS := KS.awayE hk52 n46
      replace K41 := K41.overE hk52 rfl
      replace Z21 := Z21.putE hk52
      replace Z29 := Z29.putE hk52
      replace GM := GM.kp hk53
      replace F2 := F2.kp hk53
      replace F0 := F0.kp hk53
      replace GN := GN.kp hk53
      replace BW := Below.putE BW hk52 g47
      clear hk52 hk53
      replace K41 : Box V50 (b48) (mcs N) := K41
      rw [← e51]
      clear e51
      clear hHeld
      refine hK.out _ _ (by exact KNb_0.cs) (fun hHeld => ?_)
      clear hK
      (try simp only [p0])
      refine wpAnyH_done (by kernel_rfl) (NoPanic.normal ?_) _
      go_wp2
      go_meet
      exact ⟨b48, N, rfl, BW, K20, K28, KNb_0, KS, Z21, Z29, GM, F2, K41, n43.symm, n44.symm, GN⟩
    ·go_simp
     obtain ⟨V37, e38, hb39, K40, Z41, -⟩ := alloc_new Vd36 [.bool false, .slice none 0 0, .bool false, .slice none 0 0, .bool false, .slice none 0 0, .bool false, .slice none 0 0, .bool false, .slice none 0 0, .bool false, .slice none 0 0, .bool false, .slice none 0 0, .bool false, .slice none 0 0] 90
     replace K40 : Box V37 (Vd36.heap.size) (zcs16) := K40
     have n42 : w.heap.size + 1 + 1 ≠ Vd36.heap.size := Nat.ne_of_lt (K20.lt)
     have n43 : w.heap.size + 1 + 1 + 1 ≠ Vd36.heap.size := Nat.ne_of_lt (K28.lt)
     have n44 : pkb_0 ≠ Vd36.heap.size := Nat.ne_of_lt (KNb_0.lt)
     have n45 : gs ≠ Vd36.heap.size := Nat.ne_of_lt (KS.lt)
     have g46 : w.heap.size ≤ Vd36.heap.size := BW.size
     replace K20 := K20.on hb39
     replace K28 := K28.on hb39
     replace KNb_0 := KNb_0.on hb39
     replace KS := KS.on hb39
     replace Z21 := Z21.on hb39
     replace Z29 := Z29.on hb39
     replace GM := GM.kp (Kept.of hb39)
     replace F2 := F2.kp (Kept.of hb39)
     replace BW := BW.trans (hb39.mono BW.size)
     clear hb39
     rw [← e38]
     clear e38
     generalize Vd36.heap.size = b47 at *
     clear hHeld
     refine hK.out _ _ (by exact KNb_0.cs) (fun hHeld => ?_)
     clear hK
     (try simp only [p0, p1, p2, p3])
     refine pR1 2 (fun K hK => ?_)
     go_simp
     (go_at_call 93; with_reducible refine (b_of (n := 0) (by decide) (by decide)).mono ?_)
     rintro _ w48 ⟨f0, rfl, F0, hb⟩
     (try go_wp2_with fail)
     replace K20 := K20.on hb
     replace K28 := K28.on hb
     replace KNb_0 := KNb_0.on hb
     replace KS := KS.on hb
     replace K40 := K40.on hb
     replace Z21 := Z21.on hb
     replace Z29 := Z29.on hb
     replace Z41 := Z41.on hb
     replace GM := GM.kp (Kept.of hb)
     replace F2 := F2.kp (Kept.of hb)
     replace BW := BW.trans (hb.mono BW.size)
     clear hb
     clear hHeld
     refine hK.out _ _ (by exact KNb_0.cs) (fun hHeld => ?_)
     clear hK
     (try simp only [p0, p1, p2, p3])
     refine pR1 3 (fun K hK => ?_)
     go_simp
     (go_at_call 128; with_reducible refine (i_sclo GM F2 (F0.mono (by decide)) (by decide) (by decide) KS (D := 16424) (by decide)).mono ?_)
     rintro _ w49 ⟨N, rfl, GN, hb⟩
     (try go_wp2_with fail)
     replace K20 := K20.on hb
     replace K28 := K28.on hb
     replace KNb_0 := KNb_0.on hb
     replace KS := KS.on hb
     replace K40 := K40.on hb
     replace Z21 := Z21.on hb
     replace Z29 := Z29.on hb
     replace Z41 := Z41.on hb
     replace GM := GM.kp (Kept.of hb)
     replace F2 := F2.kp (Kept.of hb)
     replace BW := BW.trans (hb.mono BW.size)
     clear hb
     clear hHeld
     refine hK.out _ _ (by exact KNb_0.cs) (fun hHeld => ?_)
     clear hK
     (try simp only [p0, p1, p2, p3])
     refine pR1 5 (fun K hK => ?_)
     refine ite_yes (by rfl) (wp_stL rfl rfl rfl K40 Z41 rfl rfl rfl ?_)
     obtain ⟨V50, hk52⟩ : ∃ V50, V50 = w49.setCells (b47) 0 [.bool N.A.n, .slice N.A.A N.A.xs.length N.A.c, .bool N.A.m, .slice N.A.B N.A.ds.length N.A.d, .bool N.B.n, .slice N.B.A N.B.xs.length N.B.c, .bool N.B.m, .slice N.B.B N.B.ds.length N.B.d, .bool N.C.n, .slice N.C.A N.C.xs.length N.C.c, .bool N.C.m, .slice N.C.B N.C.ds.length N.C.d, .bool N.D.n, .slice N.D.A N.D.xs.length N.D.c, .bool N.D.m, .slice N.D.B N.D.ds.length N.D.d] := ⟨_, rfl⟩
     have e51 := hk52
     have hk53 := Kept.overE hk52 K40 rfl (Nat.le_of_ble_eq_true rfl)
     replace K20 := K20.awayE hk52 n42
     replace K28 := K28.awayE hk52 n43
     replace KNb_0 := KNb_0.awayE hk52 n44
     replace KS := KS.awayE hk52 n45
     replace K40 := K40.overE hk52 rfl
     replace Z21 := Z21.putE hk52
     replace Z29 := Z29.putE hk52
     replace GM := GM.kp hk53
     replace F2 := F2.kp hk53
     replace GN := GN.kp hk53
     replace BW := Below.putE BW hk52 g46
     clear hk52 hk53
     replace K40 : Box V50 (b47) (mcs N) := K40
     rw [← e51]
     clear e51
     clear hHeld
     refine hK.out _ _ (by exact KNb_0.cs) (fun hHeld => ?_)
     clear hK
     (try simp only [p0])
     refine wpAnyH_done (by kernel_rfl) (NoPanic.normal ?_) _
     go_wp2
     go_meet
     exact ⟨b47, N, rfl, BW, K20, K28, KNb_0, KS, Z21, Z29, GM, F2, K40, n42.symm, n43.symm, GN⟩
   case rest =>
    obtain ⟨pkc_0, N, rfl, BW, K20, K28, KNb_0, KS, Z21, Z29, GM, F2, KNc_0, nn36, nn37, GN⟩ := hcut
    go_wp2_with fail
    go_cut [11, 6] (fun sv0 sw0 wx => ∃ (pkd_0 : Nat) (g : Fv) (e1 : Int), sv0 = .pointer (some ⟨pkd_0, 0, none⟩) ∧ sw0 = .int .i64 e1 ∧ Below w.heap.size w wx ∧ Box wx (w.heap.size + 1 + 1) [.bool false, .slice none 0 0, .bool false, .slice none 0 0] ∧ Box wx (w.heap.size + 1 + 1 + 1) [.bool false, .slice none 0 0, .bool false, .slice none 0 0] ∧ Box wx (pkb_0) [.bool f2.n, .slice f2.A f2.xs.length f2.c, .bool f2.m, .slice f2.B f2.ds.length f2.d] ∧ Box wx (gs) (mcs M) ∧ Fz wx (w.heap.size + 1 + 1) ∧ Fz wx (w.heap.size + 1 + 1 + 1) ∧ Gm wx (q) M 1024 ∧ Fq wx (x) f2 1024 ∧ Box wx pkd_0 [.bool g.n, .slice g.A g.xs.length g.c, .bool g.m, .slice g.B g.ds.length g.d] ∧ pkd_0 ≠ w.heap.size + 1 + 1 ∧ pkd_0 ≠ w.heap.size + 1 + 1 + 1 ∧ OvIs wx (-(imS q x ((0 : Int) : Rat)).b) (imS q x ((0 : Int) : Rat)).d g e1 32850)
    case first =>
     refine wp_region_noPanic ?_
     have hb : Below wc.heap.size wc wc.drew := (Below.refl _ _).drew
     replace K20 := K20.on hb
     replace K28 := K28.on hb
     replace KNb_0 := KNb_0.on hb
     replace KS := KS.on hb
     replace KNc_0 := KNc_0.on hb
     replace Z21 := Z21.on hb
     replace Z29 := Z29.on hb
     replace GM := GM.kp (Kept.of hb)
     replace F2 := F2.kp (Kept.of hb)
     replace GN := GN.kp (Kept.of hb)
     replace BW := BW.trans (hb.mono BW.size)
     clear hb
     refine wp_region_held_drew (S := (fun wx => Cs wx (pkc_0) 0 [.bool N.A.n, .slice N.A.A N.A.xs.length N.A.c, .bool N.A.m, .slice N.A.B N.A.ds.length N.A.d, .bool N.B.n, .slice N.B.A N.B.xs.length N.B.c, .bool N.B.m, .slice N.B.B N.B.ds.length N.B.d, .bool N.C.n, .slice N.C.A N.C.xs.length N.C.c, .bool N.C.m, .slice N.C.B N.C.ds.length N.C.d, .bool N.D.n, .slice N.D.A N.D.xs.length N.D.c, .bool N.D.m, .slice N.D.B N.D.ds.length N.D.d])) (by kernel_rfl) (by exact KNc_0.cs) (fun hHeld => ?_)
     generalize wc.drew = Vd38 at *
     refine pT 0 ?_
     (try simp only [p0, p1, p2, p3])
     refine pT 1 ?_
     (try simp only [p0, p1, p2, p3])
     refine pT 3 ?_
     (try simp only [p0, p1, p2, p3])
     refine pT 4 ?_
     (try simp only [p0, p1, p2, p3])
     refine pR2 2 9 (fun K hK => ?_) (fun K hK => ?_)
     ·go_simp
      (go_at_call 95; with_reducible refine (q_neg GN.gB (by decide)).mono ?_)
      rintro _ w39 ⟨n1, rfl, N1, hb⟩
      (try go_wp2_with fail)
      replace K20 := K20.on hb
      replace K28 := K28.on hb
      replace KNb_0 := KNb_0.on hb
      replace KS := KS.on hb
      replace KNc_0 := KNc_0.on hb
      replace Z21 := Z21.on hb
      replace Z29 := Z29.on hb
      replace GM := GM.kp (Kept.of hb)
      replace F2 := F2.kp (Kept.of hb)
      replace GN := GN.kp (Kept.of hb)
      replace BW := BW.trans (hb.mono BW.size)
      clear hb
      clear hHeld
      refine hK.out _ _ (by exact KNc_0.cs) (fun hHeld => ?_)
      clear hK
      (try simp only [p0, p1, p2, p3])
      refine pR2 5 9 (fun K hK => ?_) (fun K hK => ?_)
      ·go_simp
       (go_at_call 94; with_reducible refine (i_ov N1 GN.gD (by decide) (D := 32850) (by decide)).mono ?_)
       rintro _ w40 ⟨g, e1, rfl, O, hb⟩
       (try go_wp2_with fail)
       replace K20 := K20.on hb
       replace K28 := K28.on hb
       replace KNb_0 := KNb_0.on hb
       replace KS := KS.on hb
       replace KNc_0 := KNc_0.on hb
       replace Z21 := Z21.on hb
       replace Z29 := Z29.on hb
       replace GM := GM.kp (Kept.of hb)
       replace F2 := F2.kp (Kept.of hb)
       replace GN := GN.kp (Kept.of hb)
       replace N1 := N1.kp (Kept.of hb)
       replace BW := BW.trans (hb.mono BW.size)
       clear hb
       clear hHeld
       refine hK.out _ _ (by exact KNc_0.cs) (fun hHeld => ?_)
       clear hK
       (try simp only [p0, p1, p2, p3])
       refine pT 6 ?_
       (try simp only [p0, p1, p2, p3])
       refine pT 7 ?_
       (try simp only [p0, p1, p2, p3])
       refine pT 8 ?_
       (try simp only [p0, p1, p2, p3])
       refine pR1 9 (fun K hK => ?_)
       go_simp
       obtain ⟨V41, e42, hb43, K44, Z45, -⟩ := alloc_new w40 [.bool false, .slice none 0 0, .bool false, .slice none 0 0] 88
       have n46 : w.heap.size + 1 + 1 ≠ w40.heap.size := Nat.ne_of_lt (K20.lt)
       have n47 : w.heap.size + 1 + 1 + 1 ≠ w40.heap.size := Nat.ne_of_lt (K28.lt)
       have n48 : pkb_0 ≠ w40.heap.size := Nat.ne_of_lt (KNb_0.lt)
       have n49 : gs ≠ w40.heap.size := Nat.ne_of_lt (KS.lt)
       have n50 : pkc_0 ≠ w40.heap.size := Nat.ne_of_lt (KNc_0.lt)
       have g51 : w.heap.size ≤ w40.heap.size := BW.size
       replace K20 := K20.on hb43
       replace K28 := K28.on hb43
       replace KNb_0 := KNb_0.on hb43
       replace KS := KS.on hb43
       replace KNc_0 := KNc_0.on hb43
       replace Z21 := Z21.on hb43
       replace Z29 := Z29.on hb43
       replace GM := GM.kp (Kept.of hb43)
       replace F2 := F2.kp (Kept.of hb43)
       replace GN := GN.kp (Kept.of hb43)
       replace N1 := N1.kp (Kept.of hb43)
       replace O := O.kp (Kept.of hb43)
       replace BW := BW.trans (hb43.mono BW.size)
       clear hb43
       rw [← e42]
       clear e42
       generalize w40.heap.size = b52 at *
       clear hHeld
       refine hK.out _ _ (by exact KNc_0.cs) (fun hHeld => ?_)
       clear hK
       (try simp only [p0, p1, p2, p3])
       refine pR1 10 (fun K hK => ?_)
       obtain ⟨c53, c54, c55, c56⟩ := K44.c4
       obtain ⟨c57, c58, c59, c60⟩ := Z45.f4
       go_simp
       clear c53 c54 c55 c56 c57 c58 c59 c60
       obtain ⟨V61, hk63⟩ : ∃ V61, V61 = V41.setCells (b52) 0 [.bool g.n, .slice g.A g.xs.length g.c, .bool g.m, .slice g.B g.ds.length g.d] := ⟨_, rfl⟩
       have e62 := hk63
       simp only [World.setCells, Nat.zero_add, Nat.reduceAdd] at e62
       have hk64 := Kept.overE hk63 K44 rfl (Nat.le_of_ble_eq_true rfl)
       replace K20 := K20.awayE hk63 n46
       replace K28 := K28.awayE hk63 n47
       replace KNb_0 := KNb_0.awayE hk63 n48
       replace KS := KS.awayE hk63 n49
       replace KNc_0 := KNc_0.awayE hk63 n50
       replace K44 := K44.overE hk63 rfl
       replace Z21 := Z21.putE hk63
       replace Z29 := Z29.putE hk63
       replace GM := GM.kp hk64
       replace F2 := F2.kp hk64
       replace GN := GN.kp hk64
       replace N1 := N1.kp hk64
       replace O := O.kp hk64
       replace BW := Below.putE BW hk63 g51
       clear hk63 hk64
       rw [← e62]
       clear e62
       clear hHeld
       refine hK.out _ _ (by exact KNc_0.cs) (fun hHeld => ?_)
       clear hK
       (try simp only [p0, p1, p2, p3])
       refine pT 11 ?_
       (try simp only [p0, p1, p2, p3])
       refine wpAnyH_done (by kernel_rfl) (NoPanic.normal ?_) _
       go_wp2
       go_meet
       exact ⟨b52, g, e1, rfl, rfl, BW, K20, K28, KNb_0, KS, Z21, Z29, GM, F2, K44, n46.symm, n47.symm, O⟩
      ·go_simp
       obtain ⟨V40, e41, hb42, K43, Z44, -⟩ := alloc_new w39 [.bool false, .slice none 0 0, .bool false, .slice none 0 0] 88
       have n45 : w.heap.size + 1 + 1 ≠ w39.heap.size := Nat.ne_of_lt (K20.lt)
       have n46 : w.heap.size + 1 + 1 + 1 ≠ w39.heap.size := Nat.ne_of_lt (K28.lt)
       have n47 : pkb_0 ≠ w39.heap.size := Nat.ne_of_lt (KNb_0.lt)
       have n48 : gs ≠ w39.heap.size := Nat.ne_of_lt (KS.lt)
       have n49 : pkc_0 ≠ w39.heap.size := Nat.ne_of_lt (KNc_0.lt)
       have g50 : w.heap.size ≤ w39.heap.size := BW.size
       replace K20 := K20.on hb42
       replace K28 := K28.on hb42
       replace KNb_0 := KNb_0.on hb42
       replace KS := KS.on hb42
       replace KNc_0 := KNc_0.on hb42
       replace Z21 := Z21.on hb42
       replace Z29 := Z29.on hb42
       replace GM := GM.kp (Kept.of hb42)
       replace F2 := F2.kp (Kept.of hb42)
       replace GN := GN.kp (Kept.of hb42)
       replace N1 := N1.kp (Kept.of hb42)
       replace BW := BW.trans (hb42.mono BW.size)
       clear hb42
       rw [← e41]
       clear e41
       generalize w39.heap.size = b51 at *
       clear hHeld
       refine hK.out _ _ (by exact KNc_0.cs) (fun hHeld => ?_)
       clear hK
       (try simp only [p0, p1, p2, p3])
       refine pR1 5 (fun K hK => ?_)
       go_simp
       (go_at_call 94; with_reducible refine (i_ov N1 GN.gD (by decide) (D := 32850) (by decide)).mono ?_)
       rintro _ w52 ⟨g, e1, rfl, O, hb⟩
       (try go_wp2_with fail)
       replace K20 := K20.on hb
       replace K28 := K28.on hb
       replace KNb_0 := KNb_0.on hb
       replace KS := KS.on hb
       replace KNc_0 := KNc_0.on hb
       replace K43 := K43.on hb
       replace Z21 := Z21.on hb
       replace Z29 := Z29.on hb
       replace Z44 := Z44.on hb
       replace GM := GM.kp (Kept.of hb)
       replace F2 := F2.kp (Kept.of hb)
       replace GN := GN.kp (Kept.of hb)
       replace N1 := N1.kp (Kept.of hb)
       replace BW := BW.trans (hb.mono BW.size)
       clear hb
       clear hHeld
       refine hK.out _ _ (by exact KNc_0.cs) (fun hHeld => ?_)
       clear hK
       (try simp only [p0, p1, p2, p3])
       refine pT 6 ?_
       (try simp only [p0, p1, p2, p3])
       refine pT 7 ?_
       (try simp only [p0, p1, p2, p3])
       refine pT 8 ?_
       (try simp only [p0, p1, p2, p3])
       refine pR1 10 (fun K hK => ?_)
       obtain ⟨c53, c54, c55, c56⟩ := K43.c4
       obtain ⟨c57, c58, c59, c60⟩ := Z44.f4
       go_simp
       clear c53 c54 c55 c56 c57 c58 c59 c60
       obtain ⟨V61, hk63⟩ : ∃ V61, V61 = w52.setCells (b51) 0 [.bool g.n, .slice g.A g.xs.length g.c, .bool g.m, .slice g.B g.ds.length g.d] := ⟨_, rfl⟩
       have e62 := hk63
       simp only [World.setCells, Nat.zero_add, Nat.reduceAdd] at e62
       have hk64 := Kept.overE hk63 K43 rfl (Nat.le_of_ble_eq_true rfl)
       replace K20 := K20.awayE hk63 n45
       replace K28 := K28.awayE hk63 n46
       replace KNb_0 := KNb_0.awayE hk63 n47
       replace KS := KS.awayE hk63 n48
       replace KNc_0 := KNc_0.awayE hk63 n49
       replace K43 := K43.overE hk63 rfl
       replace Z21 := Z21.putE hk63
       replace Z29 := Z29.putE hk63
       replace GM := GM.kp hk64
       replace F2 := F2.kp hk64
       replace GN := GN.kp hk64
       replace N1 := N1.kp hk64
       replace O := O.kp hk64
       replace BW := Below.putE BW hk63 g50
       clear hk63 hk64
       rw [← e62]
       clear e62
       clear hHeld
       refine hK.out _ _ (by exact KNc_0.cs) (fun hHeld => ?_)
       clear hK
       (try simp only [p0, p1, p2, p3])
       refine pT 11 ?_
       (try simp only [p0, p1, p2, p3])
       refine wpAnyH_done (by kernel_rfl) (NoPanic.normal ?_) _
       go_wp2
       go_meet
       exact ⟨b51, g, e1, rfl, rfl, BW, K20, K28, KNb_0, KS, Z21, Z29, GM, F2, K43, n45.symm, n46.symm, O⟩
     ·go_simp
      obtain ⟨V39, e40, hb41, K42, Z43, -⟩ := alloc_new Vd38 [.bool false, .slice none 0 0, .bool false, .slice none 0 0] 88
      have n44 : w.heap.size + 1 + 1 ≠ Vd38.heap.size := Nat.ne_of_lt (K20.lt)
      have n45 : w.heap.size + 1 + 1 + 1 ≠ Vd38.heap.size := Nat.ne_of_lt (K28.lt)
      have n46 : pkb_0 ≠ Vd38.heap.size := Nat.ne_of_lt (KNb_0.lt)
      have n47 : gs ≠ Vd38.heap.size := Nat.ne_of_lt (KS.lt)
      have n48 : pkc_0 ≠ Vd38.heap.size := Nat.ne_of_lt (KNc_0.lt)
      have g49 : w.heap.size ≤ Vd38.heap.size := BW.size
      replace K20 := K20.on hb41
      replace K28 := K28.on hb41
      replace KNb_0 := KNb_0.on hb41
      replace KS := KS.on hb41
      replace KNc_0 := KNc_0.on hb41
      replace Z21 := Z21.on hb41
      replace Z29 := Z29.on hb41
      replace GM := GM.kp (Kept.of hb41)
      replace F2 := F2.kp (Kept.of hb41)
      replace GN := GN.kp (Kept.of hb41)
      replace BW := BW.trans (hb41.mono BW.size)
      clear hb41
      rw [← e40]
      clear e40
      generalize Vd38.heap.size = b50 at *
      clear hHeld
      refine hK.out _ _ (by exact KNc_0.cs) (fun hHeld => ?_)
      clear hK
      (try simp only [p0, p1, p2, p3])
      refine pR1 2 (fun K hK => ?_)
      go_simp
      (go_at_call 95; with_reducible refine (q_neg GN.gB (by decide)).mono ?_)
      rintro _ w51 ⟨n1, rfl, N1, hb⟩
      (try go_wp2_with fail)
      replace K20 := K20.on hb
      replace K28 := K28.on hb
      replace KNb_0 := KNb_0.on hb
      replace KS := KS.on hb
      replace KNc_0 := KNc_0.on hb
      replace K42 := K42.on hb
      replace Z21 := Z21.on hb
      replace Z29 := Z29.on hb
      replace Z43 := Z43.on hb
      replace GM := GM.kp (Kept.of hb)
      replace F2 := F2.kp (Kept.of hb)
      replace GN := GN.kp (Kept.of hb)
      replace BW := BW.trans (hb.mono BW.size)
      clear hb
      clear hHeld
      refine hK.out _ _ (by exact KNc_0.cs) (fun hHeld => ?_)
      clear hK
      (try simp only [p0, p1, p2, p3])
      refine pR1 5 (fun K hK => ?_)
      go_simp
      (go_at_call 94; with_reducible refine (i_ov N1 GN.gD (by decide) (D := 32850) (by decide)).mono ?_)
      rintro _ w52 ⟨g, e1, rfl, O, hb⟩
      (try go_wp2_with fail)
      replace K20 := K20.on hb
      replace K28 := K28.on hb
      replace KNb_0 := KNb_0.on hb
      replace KS := KS.on hb
      replace KNc_0 := KNc_0.on hb
      replace K42 := K42.on hb
      replace Z21 := Z21.on hb
      replace Z29 := Z29.on hb
      replace Z43 := Z43.on hb
      replace GM := GM.kp (Kept.of hb)
      replace F2 := F2.kp (Kept.of hb)
      replace BW := BW.trans (hb.mono BW.size)
      clear hb
      clear hHeld
      refine hK.out _ _ (by exact KNc_0.cs) (fun hHeld => ?_)
      clear hK
      (try simp only [p0, p1, p2, p3])
      refine pT 6 ?_
      (try simp only [p0, p1, p2, p3])
      refine pT 7 ?_
      (try simp only [p0, p1, p2, p3])
      refine pT 8 ?_
      (try simp only [p0, p1, p2, p3])
      refine pR1 10 (fun K hK => ?_)
      obtain ⟨c53, c54, c55, c56⟩ := K42.c4
      obtain ⟨c57, c58, c59, c60⟩ := Z43.f4
      go_simp
      clear c53 c54 c55 c56 c57 c58 c59 c60
      obtain ⟨V61, hk63⟩ : ∃ V61, V61 = w52.setCells (b50) 0 [.bool g.n, .slice g.A g.xs.length g.c, .bool g.m, .slice g.B g.ds.length g.d] := ⟨_, rfl⟩
      have e62 := hk63
      simp only [World.setCells, Nat.zero_add, Nat.reduceAdd] at e62
      have hk64 := Kept.overE hk63 K42 rfl (Nat.le_of_ble_eq_true rfl)
      replace K20 := K20.awayE hk63 n44
      replace K28 := K28.awayE hk63 n45
      replace KNb_0 := KNb_0.awayE hk63 n46
      replace KS := KS.awayE hk63 n47
      replace KNc_0 := KNc_0.awayE hk63 n48
      replace K42 := K42.overE hk63 rfl
      replace Z21 := Z21.putE hk63
      replace Z29 := Z29.putE hk63
      replace GM := GM.kp hk64
      replace F2 := F2.kp hk64
      replace O := O.kp hk64
      replace BW := Below.putE BW hk63 g49
      clear hk63 hk64
      rw [← e62]
      clear e62
      clear hHeld
      refine hK.out _ _ (by exact KNc_0.cs) (fun hHeld => ?_)
      clear hK
      (try simp only [p0, p1, p2, p3])
      refine pT 11 ?_
      (try simp only [p0, p1, p2, p3])
      refine wpAnyH_done (by kernel_rfl) (NoPanic.normal ?_) _
      go_wp2
      go_meet
      exact ⟨b50, g, e1, rfl, rfl, BW, K20, K28, KNb_0, KS, Z21, Z29, GM, F2, K42, n44.symm, n45.symm, O⟩
    case rest =>
     obtain ⟨pkd_0, g, e1, rfl, rfl, BW, K20, K28, KNb_0, KS, Z21, Z29, GM, F2, KNd_0, nn38, nn39, O⟩ := hcut
     have HZ := Lib.hid (im_d q x ((0 : Int) : Rat))
     rcases O with ⟨hz, rfl, rfl⟩ | ⟨hz, rfl, LT⟩
     ·have HB := Lib.hid (HZ.out.symm.trans hz)
      clear hz
      clear KS KNd_0 GM F2
      obtain ⟨c40, c41, c42, c43⟩ := K20.c4
      obtain ⟨c44, c45, c46, c47⟩ := Z21.f4
      obtain ⟨V48, hk50⟩ : ∃ V48, V48 = wc.setCells (w.heap.size + 1 + 1) 0 [.bool false, .slice none 0 0, .bool false, .slice none 0 0] := ⟨_, rfl⟩
      have e49 := hk50
      simp only [World.setCells, Nat.zero_add, Nat.reduceAdd] at e49
      have hk51 := Kept.overE hk50 K20 rfl (Nat.le_of_ble_eq_true rfl)
      replace K20 := K20.overE hk50 rfl
      replace K28 := K28.awayE hk50 n32.symm
      replace KNb_0 := KNb_0.awayE hk50 nn34
      replace Z21 := Z21.putE hk50
      replace Z29 := Z29.putE hk50
      replace BW := Below.putE BW hk50 g24
      clear hk50 hk51
      obtain ⟨c52, c53, c54, c55⟩ := K28.c4
      obtain ⟨c56, c57, c58, c59⟩ := Z29.f4
      rw [e49] at c52 c53 c54 c55 c56 c57 c58 c59
      obtain ⟨V60, hk62⟩ : ∃ V60, V60 = V48.setCells (w.heap.size + 1 + 1 + 1) 0 [.bool false, .slice none 0 0, .bool false, .slice none 0 0] := ⟨_, rfl⟩
      have e61 := hk62
      simp only [World.setCells, Nat.zero_add, Nat.reduceAdd] at e61
      have hk63 := Kept.overE hk62 K28 rfl (Nat.le_of_ble_eq_true rfl)
      replace K20 := K20.awayE hk62 n32
      replace K28 := K28.overE hk62 rfl
      replace KNb_0 := KNb_0.awayE hk62 nn35
      replace Z21 := Z21.putE hk62
      replace Z29 := Z29.putE hk62
      replace BW := Below.putE BW hk62 g33
      clear hk62 hk63
      go_wp2_with fail
      clear c40 c41 c42 c43 c44 c45 c46 c47 c52 c53 c54 c55 c56 c57 c58 c59
      rw [← e49, ← e61]
      clear e49 e61
      obtain ⟨c64, c65, c66, c67⟩ := K20.c4
      obtain ⟨c68, c69, c70, c71⟩ := K28.c4
      exact bodyPost_ret (v := .tuple #[.agg #[.bool false, .slice none 0 0, .bool false, .slice none 0 0], .agg #[.bool false, .slice none 0 0, .bool false, .slice none 0 0], .int .i64 3]) (by simp [results, Tryz.results38, go_sem, c64, c65, c66, c67, c68, c69, c70, c71]) rfl ⟨fv0, fv0, 3, rfl, .inr (.inl ⟨HB.out, rfl, rfl, rfl⟩), BW⟩
     ·have HA := Lib.hid (show imD q x ≠ 0 from fun h => hz (HZ.out.trans h))
      replace LT := LT.to (im_t q x)
      clear hz
      go_wp2_with fail
      refine wp_region_noPanic ?_
      have hb : Below wc.heap.size wc wc.drew := (Below.refl _ _).drew
      replace K20 := K20.on hb
      replace K28 := K28.on hb
      replace KNb_0 := KNb_0.on hb
      replace KS := KS.on hb
      replace KNd_0 := KNd_0.on hb
      replace Z21 := Z21.on hb
      replace Z29 := Z29.on hb
      replace GM := GM.kp (Kept.of hb)
      replace F2 := F2.kp (Kept.of hb)
      replace LT := LT.kp (Kept.of hb)
      replace BW := BW.trans (hb.mono BW.size)
      clear hb
      refine wp_region_held_drew (S := (fun wx => Cs wx (pkb_0) 0 [.bool f2.n, .slice f2.A f2.xs.length f2.c, .bool f2.m, .slice f2.B f2.ds.length f2.d] ∧ Cs wx (pkd_0) 0 [.bool g.n, .slice g.A g.xs.length g.c, .bool g.m, .slice g.B g.ds.length g.d])) (by kernel_rfl) (by exact ⟨KNb_0.cs, KNd_0.cs⟩) (fun hHeld => ?_)
      generalize wc.drew = Vd40 at *
      refine pT 0 ?_
      (try simp only [p0, p1, p2, p3])
      refine pT 1 ?_
      (try simp only [p0, p1, p2, p3])
      refine pT 2 ?_
      (try simp only [p0, p1, p2, p3])
      refine pT 3 ?_
      (try simp only [p0, p1, p2, p3])
      refine pR1 4 (fun K hK => ?_)
      go_simp
      (go_at_call 128; with_reducible refine (i_sclo (GM.mono (by decide)) (F2.mono (by decide)) LT (by decide) (by decide) KS (D := 525640) (by decide)).mono ?_)
      rintro _ w41 ⟨Q, rfl, GQ2, hb⟩
      (try go_wp2_with fail)
      replace K20 := K20.on hb
      replace K28 := K28.on hb
      replace KNb_0 := KNb_0.on hb
      replace KS := KS.on hb
      replace KNd_0 := KNd_0.on hb
      replace Z21 := Z21.on hb
      replace Z29 := Z29.on hb
      replace LT := LT.kp (Kept.of hb)
      replace BW := BW.trans (hb.mono BW.size)
      clear hb
      clear KS
      clear hHeld
      refine hK.out _ _ (by exact ⟨KNb_0.cs, KNd_0.cs⟩) (fun hHeld => ?_)
      clear hK
      (try simp only [p0, p1, p2, p3])
      refine pT 5 (v := fv Q.A) ?_ (hy := fun wt hSw => (by (go_simp; exact fld0 Q wt)))
      (try simp only [p0, p1, p2, p3])
      refine pR1 6 (fun K hK => ?_)
      go_simp
      (go_at_call 96; with_reducible refine (i_both (LT.mono (by decide)) GQ2.gA (by decide)).mono ?_)
      rintro _ w42 ⟨f, h, er, rfl, R, hb⟩
      (try go_wp2_with fail)
      replace K20 := K20.on hb
      replace K28 := K28.on hb
      replace KNb_0 := KNb_0.on hb
      replace KNd_0 := KNd_0.on hb
      replace Z21 := Z21.on hb
      replace Z29 := Z29.on hb
      replace BW := BW.trans (hb.mono BW.size)
      clear hb
      clear hHeld
      refine hK.out _ _ (by exact ⟨KNb_0.cs, KNd_0.cs⟩) (fun hHeld => ?_)
      clear hK
      (try simp only [p0, p1, p2, p3])
      refine pT 7 ?_
      (try simp only [p0, p1, p2, p3])
      refine pT 8 ?_
      (try simp only [p0, p1, p2, p3])
      refine pT 9 ?_
      (try simp only [p0, p1, p2, p3])
      refine pR1 10 (fun K hK => ?_)
      obtain ⟨c43, c44, c45, c46⟩ := K20.c4
      obtain ⟨c47, c48, c49, c50⟩ := Z21.f4
      go_simp
      clear c43 c44 c45 c46 c47 c48 c49 c50
      obtain ⟨V51, hk53⟩ : ∃ V51, V51 = w42.setCells (w.heap.size + 1 + 1) 0 [.bool f.n, .slice f.A f.xs.length f.c, .bool f.m, .slice f.B f.ds.length f.d] := ⟨_, rfl⟩
      have e52 := hk53
      simp only [World.setCells, Nat.zero_add, Nat.reduceAdd] at e52
      have hk54 := Kept.overE hk53 K20 rfl (Nat.le_of_ble_eq_true rfl)
      replace K20 := K20.overE hk53 rfl
      replace K28 := K28.awayE hk53 n32.symm
      replace KNb_0 := KNb_0.awayE hk53 nn34
      replace KNd_0 := KNd_0.awayE hk53 nn38
      replace Z29 := Z29.putE hk53
      replace R := R.kp hk54
      replace BW := Below.putE BW hk53 g24
      clear hk53 hk54
      rw [← e52]
      clear e52
      clear hHeld
      refine hK.out _ _ (by exact ⟨KNb_0.cs, KNd_0.cs⟩) (fun hHeld => ?_)
      clear hK
      (try simp only [p0, p1, p2, p3])
      refine pR1 11 (fun K hK => ?_)
      obtain ⟨c55, c56, c57, c58⟩ := K28.c4
      obtain ⟨c59, c60, c61, c62⟩ := Z29.f4
      go_simp
      clear c55 c56 c57 c58 c59 c60 c61 c62
      obtain ⟨V63, hk65⟩ : ∃ V63, V63 = V51.setCells (w.heap.size + 1 + 1 + 1) 0 [.bool h.n, .slice h.A h.xs.length h.c, .bool h.m, .slice h.B h.ds.length h.d] := ⟨_, rfl⟩
      have e64 := hk65
      simp only [World.setCells, Nat.zero_add, Nat.reduceAdd] at e64
      have hk66 := Kept.overE hk65 K28 rfl (Nat.le_of_ble_eq_true rfl)
      replace K20 := K20.awayE hk65 n32
      replace K28 := K28.overE hk65 rfl
      replace KNb_0 := KNb_0.awayE hk65 nn35
      replace KNd_0 := KNd_0.awayE hk65 nn39
      replace R := R.kp hk66
      replace BW := Below.putE BW hk65 g33
      clear hk65 hk66
      rw [← e64]
      clear e64
      clear hHeld
      refine hK.out _ _ (by exact ⟨KNb_0.cs, KNd_0.cs⟩) (fun hHeld => ?_)
      clear hK
      (try simp only [p0, p1, p2, p3])
      refine pT 12 ?_
      (try simp only [p0, p1, p2, p3])
      refine wpAnyH_done (by kernel_rfl) (NoPanic.normal ?_) _
      go_wp2
      obtain ⟨c67, c68, c69, c70⟩ := K20.c4
      obtain ⟨c71, c72, c73, c74⟩ := K28.c4
      exact bodyPost_ret (v := .tuple #[fv f, fv h, .int .i64 er]) (by simp [results, Tryz.results38, go_sem, c67, c68, c69, c70, c71, c72, c73, c74]) rfl ⟨f, h, er, rfl, im_is HD.out HA.out R, BW⟩
end Go.Proofs.YtplgheabhekedaaGreat
