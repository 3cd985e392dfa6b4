/-
  What Power, Sharp and Planes answer. Conditions: as each theorem states.
-/
import Derived.Test.YtplgheabhekedaaGreatImb
import Derived.Deep.RegionHeld3
import Derived.Deep.DeepCutAuto
import Derived.BigRegion
namespace Go.Proofs.YtplgheabhekedaaGreat
open Go.RowKit Nb

theorem q_sub0 {W : World} {q p : Rat} {f g : Fv} {C : Nat} (h : Fq W q f C) (k : Fq W p g C) (hC : C ≤ 1759218604390) : Calls Tryz.prog 77 #[fv f, fv g] W (GQ W (q - p) (2 * C + 4)) := by
 obtain ⟨n, A, xs, c, m, B, ds, d⟩ := f
 obtain ⟨n', A', ys, c', m', B', es, d'⟩ := g
 obtain ⟨rfl, h⟩ := h
 obtain ⟨rfl, k⟩ := k
 refine (fsub_any q p n n' A B A' B' xs ds ys es c d c' d' C W h k hC).mono ?_
 rintro _ _ ⟨n, A, xs, c, B, ds, d, rfl, hL, hb⟩
 exact ⟨⟨n, A, xs, c, false, B, ds, d⟩, rfl, ⟨rfl, hL⟩, hb⟩
theorem PlIs.kp {W W' : World} {q : Mq} {f g : Fv} {e : Int} (h : PlIs W q f g e) (k : Kept W W') : PlIs W' q f g e := by
 rcases h with ⟨h1, h2, h3, h4⟩ | h | h
 ·exact .inl ⟨h1, h2, h3.kp k, h4.kp k⟩
 ·exact .inr (.inl h)
 ·exact .inr (.inr h)
theorem pl_is {W : World} {q : Mq} {f g : Fv} {e : Int} (h : (q.c = 0 ∧ e = 3 ∧ f = fv0 ∧ g = fv0) ∨ (q.c ≠ 0 ∧ BothIs W ((q.d - ((1 : Int) : Rat)) / q.c) ((((1 : Int) : Rat) - q.a) / q.c) f g e)) : PlIs W q f g e := by
 rcases h with h | ⟨hc, ⟨h1, _, _, h4, h5⟩ | ⟨h1, h2, h3, h4⟩⟩
 ·exact .inr (.inl h)
 ·exact .inl ⟨hc, h1, h4, h5⟩
 ·exact .inr (.inr ⟨hc, h1, h3, h4, h2⟩)
set_option maxHeartbeats 8000000 in
set_option maxRecDepth 20000 in
theorem i_PowerNo {m : Mv} {w : World} (X : Xm w m) (hn : ¬ MayM w m) :
    Calls Tryz.prog 45 #[mv m] w (fun e w' => e = .returned (.tuple #[.agg #[.bool false, .slice none 0 0, .bool false, .slice none 0 0], .int .i64 1]) ∧ Below w.heap.size w w') := by
 have HX := Lib.hid X
 have HN := Lib.hid hn
 clear hn
 have BW : Below w.heap.size w w := Below.refl _ _
 obtain ⟨V2, e3, hb4, K5, Z6, z1⟩ := alloc_new w [.bool m.A.n, .slice m.A.A m.A.xs.length m.A.c, .bool m.A.m, .slice m.A.B m.A.ds.length m.A.d, .bool m.B.n, .slice m.B.A m.B.xs.length m.B.c, .bool m.B.m, .slice m.B.B m.B.ds.length m.B.d, .bool m.C.n, .slice m.C.A m.C.xs.length m.C.c, .bool m.C.m, .slice m.C.B m.C.ds.length m.C.d, .bool m.D.n, .slice m.D.A m.D.xs.length m.D.c, .bool m.D.m, .slice m.D.B m.D.ds.length m.D.d] 31
 replace K5 : Box V2 (w.heap.size) (mcs m) := K5
 have g7 : w.heap.size ≤ w.heap.size := BW.size
 replace X := X.kp (Kept.of hb4)
 replace BW := BW.trans (hb4.mono BW.size)
 clear hb4
 obtain ⟨V8, e9, hb10, K11, Z12, -⟩ := alloc_new V2 [.bool false, .slice none 0 0, .bool false, .slice none 0 0] 29
 rw [z1] at K11 Z12
 have n13 : w.heap.size ≠ w.heap.size + 1 := Nat.ne_of_lt (z1 ▸ K5.lt)
 have g14 : w.heap.size ≤ w.heap.size + 1 := z1 ▸ BW.size
 replace K5 := K5.on hb10
 replace X := X.kp (Kept.of hb10)
 replace BW := BW.trans (hb10.mono BW.size)
 clear hb10
 clear z1
 go_enter Tryz.func45, Tryz.ntmps45
 go_upto_region 1 with fail
 rw [← e3, ← e9]
 clear e3 e9
 have c15 : Box V8 (w.heap.size) [.bool m.A.n, .slice m.A.A m.A.xs.length m.A.c, .bool m.A.m, .slice m.A.B m.A.ds.length m.A.d, .bool m.B.n, .slice m.B.A m.B.xs.length m.B.c, .bool m.B.m, .slice m.B.B m.B.ds.length m.B.d, .bool m.C.n, .slice m.C.A m.C.xs.length m.C.c, .bool m.C.m, .slice m.C.B m.C.ds.length m.C.d, .bool m.D.n, .slice m.D.A m.D.xs.length m.D.c, .bool m.D.m, .slice m.D.B m.D.ds.length m.D.d] := K5
 go_wp2_with (first | (refine wpList_ldM (by rfl) (by rfl) (by rfl) c15 (by rfl) ?_))
 clear c15
 refine (y_check1 X (fun h => HN.out (MayM.at HX.out h))).mono ?_
 rintro _ w16 ⟨rfl, hb⟩
 replace K11 := K11.on hb
 replace Z12 := Z12.on hb
 replace BW := BW.trans (hb.mono BW.size)
 clear hb
 obtain ⟨c17, c18, c19, c20⟩ := K11.c4
 obtain ⟨c21, c22, c23, c24⟩ := Z12.f4
 obtain ⟨V25, hk27⟩ : ∃ V25, V25 = w16.setCells (w.heap.size + 1) 0 [.bool false, .slice none 0 0, .bool false, .slice none 0 0] := ⟨_, rfl⟩
 have e26 := hk27
 simp only [World.setCells, Nat.zero_add, Nat.reduceAdd] at e26
 have hk28 := Kept.overE hk27 K11 rfl (Nat.le_of_ble_eq_true rfl)
 replace K11 := K11.overE hk27 rfl
 replace BW := Below.putE BW hk27 g14
 clear hk27 hk28
 go_wp2_with fail
 clear c17 c18 c19 c20 c21 c22 c23 c24
 rw [← e26]
 clear e26
 obtain ⟨c29, c30, c31, c32⟩ := K11.c4
 exact bodyPost_ret (v := .tuple #[.agg #[.bool false, .slice none 0 0, .bool false, .slice none 0 0], .int .i64 1]) (by simp [results, Tryz.results45, go_sem, c29, c30, c31, c32]) rfl ⟨rfl, BW⟩
set_option maxHeartbeats 8000000 in
set_option maxRecDepth 20000 in
theorem i_Power {q : Mq} {m : Mv} {w : World} (G : Fm w q m) (hd : q.det = 1) :
    Calls Tryz.prog 45 #[mv m] w (fun e w' => ∃ f : Fv, e = .returned (.tuple #[fv f, .int .i64 0]) ∧ Ff w' (-q.c) f ∧ Below w.heap.size w w') := by
 have HF := Lib.hid (fits_neg G.fC.fits)
 have BW : Below w.heap.size w w := Below.refl _ _
 obtain ⟨V2, e3, hb4, K5, Z6, z1⟩ := alloc_new w [.bool m.A.n, .slice m.A.A m.A.xs.length m.A.c, .bool m.A.m, .slice m.A.B m.A.ds.length m.A.d, .bool m.B.n, .slice m.B.A m.B.xs.length m.B.c, .bool m.B.m, .slice m.B.B m.B.ds.length m.B.d, .bool m.C.n, .slice m.C.A m.C.xs.length m.C.c, .bool m.C.m, .slice m.C.B m.C.ds.length m.C.d, .bool m.D.n, .slice m.D.A m.D.xs.length m.D.c, .bool m.D.m, .slice m.D.B m.D.ds.length m.D.d] 31
 replace K5 : Box V2 (w.heap.size) (mcs m) := K5
 have g7 : w.heap.size ≤ w.heap.size := BW.size
 replace G := G.kp (Kept.of hb4)
 replace BW := BW.trans (hb4.mono BW.size)
 clear hb4
 obtain ⟨V8, e9, hb10, K11, Z12, -⟩ := alloc_new V2 [.bool false, .slice none 0 0, .bool false, .slice none 0 0] 29
 rw [z1] at K11 Z12
 have n13 : w.heap.size ≠ w.heap.size + 1 := Nat.ne_of_lt (z1 ▸ K5.lt)
 have g14 : w.heap.size ≤ w.heap.size + 1 := z1 ▸ BW.size
 replace K5 := K5.on hb10
 replace G := G.kp (Kept.of hb10)
 replace BW := BW.trans (hb10.mono BW.size)
 clear hb10
 clear z1
 go_enter Tryz.func45, Tryz.ntmps45
 go_upto_region 1 with fail
 rw [← e3, ← e9]
 clear e3 e9
 have c15 : Box V8 (w.heap.size) [.bool m.A.n, .slice m.A.A m.A.xs.length m.A.c, .bool m.A.m, .slice m.A.B m.A.ds.length m.A.d, .bool m.B.n, .slice m.B.A m.B.xs.length m.B.c, .bool m.B.m, .slice m.B.B m.B.ds.length m.B.d, .bool m.C.n, .slice m.C.A m.C.xs.length m.C.c, .bool m.C.m, .slice m.C.B m.C.ds.length m.C.d, .bool m.D.n, .slice m.D.A m.D.xs.length m.D.c, .bool m.D.m, .slice m.D.B m.D.ds.length m.D.d] := K5
 go_wp2_with (first | (refine wpList_ldM (by rfl) (by rfl) (by rfl) c15 (by rfl) ?_))
 clear c15
 refine (y_check0 G hd).mono ?_
 rintro _ w16 ⟨rfl, hb⟩
 replace K5 := K5.on hb
 replace K11 := K11.on hb
 replace Z12 := Z12.on hb
 replace G := G.kp (Kept.of hb)
 replace BW := BW.trans (hb.mono BW.size)
 clear hb
 obtain ⟨c17, c18, c19, c20, c21, c22, c23, c24, c25, c26, c27, c28, c29, c30, c31, c32⟩ := K5.c16
 go_wp2_with fail
 clear c17 c18 c19 c20 c21 c22 c23 c24 c25 c26 c27 c28 c29 c30 c31 c32
 refine (q_from G.fC).mono ?_
 rintro _ w33 ⟨f1, rfl, L1, hb⟩
 replace K11 := K11.on hb
 replace Z12 := Z12.on hb
 replace BW := BW.trans (hb.mono BW.size)
 clear hb
 go_wp2_with fail
 refine (q_neg L1 (by decide)).mono ?_
 rintro _ w34 ⟨f2, rfl, L2, hb⟩
 replace K11 := K11.on hb
 replace Z12 := Z12.on hb
 replace BW := BW.trans (hb.mono BW.size)
 clear hb
 go_wp2_with fail
 refine (q_fit L2 (by decide)).mono ?_
 rintro _ w35 ⟨f, er, rfl, R, hb⟩
 replace K11 := K11.on hb
 replace Z12 := Z12.on hb
 replace BW := BW.trans (hb.mono BW.size)
 clear hb
 obtain ⟨rfl, L⟩ := R.yes not_false HF.out
 clear R
 obtain ⟨c36, c37, c38, c39⟩ := K11.c4
 obtain ⟨c40, c41, c42, c43⟩ := Z12.f4
 obtain ⟨V44, hk46⟩ : ∃ V44, V44 = w35.setCells (w.heap.size + 1) 0 [.bool f.n, .slice f.A f.xs.length f.c, .bool f.m, .slice f.B f.ds.length f.d] := ⟨_, rfl⟩
 have e45 := hk46
 simp only [World.setCells, Nat.zero_add, Nat.reduceAdd] at e45
 have hk47 := Kept.overE hk46 K11 rfl (Nat.le_of_ble_eq_true rfl)
 replace K11 := K11.overE hk46 rfl
 replace L := L.kp hk47
 replace BW := Below.putE BW hk46 g14
 clear hk46 hk47
 go_wp2_with fail
 clear c36 c37 c38 c39 c40 c41 c42 c43
 rw [← e45]
 clear e45
 obtain ⟨c48, c49, c50, c51⟩ := K11.c4
 exact bodyPost_ret (v := .tuple #[fv f, .int .i64 0]) (by simp [results, Tryz.results45, go_sem, c48, c49, c50, c51]) rfl ⟨f, rfl, L, BW⟩
set_option maxHeartbeats 8000000 in
set_option maxRecDepth 20000 in
theorem i_PlanesNo {m : Mv} {w : World} (X : Xm w m) (hn : ¬ MayM w m) :
    Calls Tryz.prog 44 #[mv m] w (fun e w' => e = .returned (.tuple #[.agg #[.bool false, .slice none 0 0, .bool false, .slice none 0 0], .agg #[.bool false, .slice none 0 0, .bool false, .slice none 0 0], .int .i64 1]) ∧ Below w.heap.size w w') := by
 have HX := Lib.hid X
 have HN := Lib.hid hn
 clear hn
 have BW : Below w.heap.size w w := Below.refl _ _
 obtain ⟨V2, e3, hb4, K5, Z6, z1⟩ := alloc_new w [.bool m.A.n, .slice m.A.A m.A.xs.length m.A.c, .bool m.A.m, .slice m.A.B m.A.ds.length m.A.d, .bool m.B.n, .slice m.B.A m.B.xs.length m.B.c, .bool m.B.m, .slice m.B.B m.B.ds.length m.B.d, .bool m.C.n, .slice m.C.A m.C.xs.length m.C.c, .bool m.C.m, .slice m.C.B m.C.ds.length m.C.d, .bool m.D.n, .slice m.D.A m.D.xs.length m.D.c, .bool m.D.m, .slice m.D.B m.D.ds.length m.D.d] 31
 replace K5 : Box V2 (w.heap.size) (mcs m) := K5
 have g7 : w.heap.size ≤ w.heap.size := BW.size
 replace X := X.kp (Kept.of hb4)
 replace BW := BW.trans (hb4.mono BW.size)
 clear hb4
 obtain ⟨V9, e10, hb11, K12, Z13, z8⟩ := alloc_new V2 [.bool false, .slice none 0 0, .bool false, .slice none 0 0] 29
 rw [z1] at K12 Z13 z8
 have n14 : w.heap.size ≠ w.heap.size + 1 := Nat.ne_of_lt (z1 ▸ K5.lt)
 have g15 : w.heap.size ≤ w.heap.size + 1 := z1 ▸ BW.size
 replace K5 := K5.on hb11
 replace X := X.kp (Kept.of hb11)
 replace BW := BW.trans (hb11.mono BW.size)
 clear hb11
 obtain ⟨V16, e17, hb18, K19, Z20, -⟩ := alloc_new V9 [.bool false, .slice none 0 0, .bool false, .slice none 0 0] 29
 rw [z8] at K19 Z20
 have n21 : w.heap.size ≠ w.heap.size + 1 + 1 := Nat.ne_of_lt (z8 ▸ K5.lt)
 have n22 : w.heap.size + 1 ≠ w.heap.size + 1 + 1 := Nat.ne_of_lt (z8 ▸ K12.lt)
 have g23 : w.heap.size ≤ w.heap.size + 1 + 1 := z8 ▸ BW.size
 replace K5 := K5.on hb18
 replace K12 := K12.on hb18
 replace Z13 := Z13.on hb18
 replace X := X.kp (Kept.of hb18)
 replace BW := BW.trans (hb18.mono BW.size)
 clear hb18
 clear z1 z8
 go_enter Tryz.func44, Tryz.ntmps44
 go_upto_region 1 with fail
 rw [← e3, ← e10, ← e17]
 clear e3 e10 e17
 have c24 : Box V16 (w.heap.size) [.bool m.A.n, .slice m.A.A m.A.xs.length m.A.c, .bool m.A.m, .slice m.A.B m.A.ds.length m.A.d, .bool m.B.n, .slice m.B.A m.B.xs.length m.B.c, .bool m.B.m, .slice m.B.B m.B.ds.length m.B.d, .bool m.C.n, .slice m.C.A m.C.xs.length m.C.c, .bool m.C.m, .slice m.C.B m.C.ds.length m.C.d, .bool m.D.n, .slice m.D.A m.D.xs.length m.D.c, .bool m.D.m, .slice m.D.B m.D.ds.length m.D.d] := K5
 go_wp2_with (first | (refine wpList_ldM (by rfl) (by rfl) (by rfl) c24 (by rfl) ?_))
 clear c24
 refine (y_check1 X (fun h => HN.out (MayM.at HX.out h))).mono ?_
 rintro _ w25 ⟨rfl, hb⟩
 replace K12 := K12.on hb
 replace K19 := K19.on hb
 replace Z13 := Z13.on hb
 replace Z20 := Z20.on hb
 replace BW := BW.trans (hb.mono BW.size)
 clear hb
 obtain ⟨c26, c27, c28, c29⟩ := K12.c4
 obtain ⟨c30, c31, c32, c33⟩ := Z13.f4
 obtain ⟨V34, hk36⟩ : ∃ V34, V34 = w25.setCells (w.heap.size + 1) 0 [.bool false, .slice none 0 0, .bool false, .slice none 0 0] := ⟨_, rfl⟩
 have e35 := hk36
 simp only [World.setCells, Nat.zero_add, Nat.reduceAdd] at e35
 have hk37 := Kept.overE hk36 K12 rfl (Nat.le_of_ble_eq_true rfl)
 replace K12 := K12.overE hk36 rfl
 replace K19 := K19.awayE hk36 n22.symm
 replace Z20 := Z20.putE hk36
 replace BW := Below.putE BW hk36 g15
 clear hk36 hk37
 obtain ⟨c38, c39, c40, c41⟩ := K19.c4
 obtain ⟨c42, c43, c44, c45⟩ := Z20.f4
 rw [e35] at c38 c39 c40 c41 c42 c43 c44 c45
 obtain ⟨V46, hk48⟩ : ∃ V46, V46 = V34.setCells (w.heap.size + 1 + 1) 0 [.bool false, .slice none 0 0, .bool false, .slice none 0 0] := ⟨_, rfl⟩
 have e47 := hk48
 simp only [World.setCells, Nat.zero_add, Nat.reduceAdd] at e47
 have hk49 := Kept.overE hk48 K19 rfl (Nat.le_of_ble_eq_true rfl)
 replace K12 := K12.awayE hk48 n22
 replace K19 := K19.overE hk48 rfl
 replace BW := Below.putE BW hk48 g23
 clear hk48 hk49
 go_wp2_with fail
 clear c26 c27 c28 c29 c30 c31 c32 c33 c38 c39 c40 c41 c42 c43 c44 c45
 rw [← e35, ← e47]
 clear e35 e47
 obtain ⟨c50, c51, c52, c53⟩ := K12.c4
 obtain ⟨c54, c55, c56, c57⟩ := K19.c4
 exact bodyPost_ret (v := .tuple #[.agg #[.bool false, .slice none 0 0, .bool false, .slice none 0 0], .agg #[.bool false, .slice none 0 0, .bool false, .slice none 0 0], .int .i64 1]) (by simp [results, Tryz.results44, go_sem, c50, c51, c52, c53, c54, c55, c56, c57]) rfl ⟨rfl, BW⟩
set_option maxHeartbeats 16000000 in
set_option maxRecDepth 100000 in
theorem i_Planes {q : Mq} {m : Mv} {w : World} (G : Fm w q m) (hd : q.det = 1) :
    Calls Tryz.prog 44 #[mv m] w (fun e w' => ∃ (f g : Fv) (er : Int), e = .returned (.tuple #[fv f, fv g, .int .i64 er]) ∧ PlIs w' q f g er ∧ Below w.heap.size w w') := by
 have BW : Below w.heap.size w w := Below.refl _ _
 obtain ⟨V2, e3, hb4, K5, Z6, z1⟩ := alloc_new w [.bool m.A.n, .slice m.A.A m.A.xs.length m.A.c, .bool m.A.m, .slice m.A.B m.A.ds.length m.A.d, .bool m.B.n, .slice m.B.A m.B.xs.length m.B.c, .bool m.B.m, .slice m.B.B m.B.ds.length m.B.d, .bool m.C.n, .slice m.C.A m.C.xs.length m.C.c, .bool m.C.m, .slice m.C.B m.C.ds.length m.C.d, .bool m.D.n, .slice m.D.A m.D.xs.length m.D.c, .bool m.D.m, .slice m.D.B m.D.ds.length m.D.d] 31
 replace K5 : Box V2 (w.heap.size) (mcs m) := K5
 have g7 : w.heap.size ≤ w.heap.size := BW.size
 replace G := G.kp (Kept.of hb4)
 replace BW := BW.trans (hb4.mono BW.size)
 clear hb4
 obtain ⟨V9, e10, hb11, K12, Z13, z8⟩ := alloc_new V2 [.bool false, .slice none 0 0, .bool false, .slice none 0 0] 29
 rw [z1] at K12 Z13 z8
 have n14 : w.heap.size ≠ w.heap.size + 1 := Nat.ne_of_lt (z1 ▸ K5.lt)
 have g15 : w.heap.size ≤ w.heap.size + 1 := z1 ▸ BW.size
 replace K5 := K5.on hb11
 replace G := G.kp (Kept.of hb11)
 replace BW := BW.trans (hb11.mono BW.size)
 clear hb11
 obtain ⟨V16, e17, hb18, K19, Z20, -⟩ := alloc_new V9 [.bool false, .slice none 0 0, .bool false, .slice none 0 0] 29
 rw [z8] at K19 Z20
 have n21 : w.heap.size ≠ w.heap.size + 1 + 1 := Nat.ne_of_lt (z8 ▸ K5.lt)
 have n22 : w.heap.size + 1 ≠ w.heap.size + 1 + 1 := Nat.ne_of_lt (z8 ▸ K12.lt)
 have g23 : w.heap.size ≤ w.heap.size + 1 + 1 := z8 ▸ BW.size
 replace K5 := K5.on hb18
 replace K12 := K12.on hb18
 replace Z13 := Z13.on hb18
 replace G := G.kp (Kept.of hb18)
 replace BW := BW.trans (hb18.mono BW.size)
 clear hb18
 clear z1 z8
 go_enter Tryz.func44, Tryz.ntmps44
 go_upto_region 1 with fail
 rw [← e3, ← e10, ← e17]
 clear e3 e10 e17
 have c24 : Box V16 (w.heap.size) [.bool m.A.n, .slice m.A.A m.A.xs.length m.A.c, .bool m.A.m, .slice m.A.B m.A.ds.length m.A.d, .bool m.B.n, .slice m.B.A m.B.xs.length m.B.c, .bool m.B.m, .slice m.B.B m.B.ds.length m.B.d, .bool m.C.n, .slice m.C.A m.C.xs.length m.C.c, .bool m.C.m, .slice m.C.B m.C.ds.length m.C.d, .bool m.D.n, .slice m.D.A m.D.xs.length m.D.c, .bool m.D.m, .slice m.D.B m.D.ds.length m.D.d] := K5
 go_wp2_with (first | (refine wpList_ldM (by rfl) (by rfl) (by rfl) c24 (by rfl) ?_))
 clear c24
 refine (y_check0 G hd).mono ?_
 rintro _ w25 ⟨rfl, hb⟩
 replace K5 := K5.on hb
 replace K12 := K12.on hb
 replace K19 := K19.on hb
 replace Z13 := Z13.on hb
 replace Z20 := Z20.on hb
 replace G := G.kp (Kept.of hb)
 replace BW := BW.trans (hb.mono BW.size)
 clear hb
 have c26 : Box w25 (w.heap.size) [.bool m.A.n, .slice m.A.A m.A.xs.length m.A.c, .bool m.A.m, .slice m.A.B m.A.ds.length m.A.d, .bool m.B.n, .slice m.B.A m.B.xs.length m.B.c, .bool m.B.m, .slice m.B.B m.B.ds.length m.B.d, .bool m.C.n, .slice m.C.A m.C.xs.length m.C.c, .bool m.C.m, .slice m.C.B m.C.ds.length m.C.d, .bool m.D.n, .slice m.D.A m.D.xs.length m.D.c, .bool m.D.m, .slice m.D.B m.D.ds.length m.D.d] := K5
 go_wp2_with (first | (refine wpList_ldM (by rfl) (by rfl) (by rfl) c26 (by rfl) ?_))
 clear c26
 refine (b_from G).mono ?_
 rintro _ w27 ⟨M, rfl, GM, hb⟩
 replace K5 := K5.on hb
 replace K12 := K12.on hb
 replace K19 := K19.on hb
 replace Z13 := Z13.on hb
 replace Z20 := Z20.on hb
 replace G := G.kp (Kept.of hb)
 replace BW := BW.trans (hb.mono BW.size)
 clear hb
 go_wp2_with fail
 refine (b_of (n := 1) (by decide) (by decide)).mono ?_
 rintro _ w28 ⟨o, rfl, LO, hb⟩
 replace K5 := K5.on hb
 replace K12 := K12.on hb
 replace K19 := K19.on hb
 replace Z13 := Z13.on hb
 replace Z20 := Z20.on hb
 replace G := G.kp (Kept.of hb)
 replace GM := GM.kp (Kept.of hb)
 replace BW := BW.trans (hb.mono BW.size)
 clear hb
 clear G
 replace LO := LO.mono (C' := 1024) (by decide)
 obtain ⟨V30, e31, hb32, K33, Z34, z29⟩ := alloc_new w28 [.bool M.A.n, .slice M.A.A M.A.xs.length M.A.c, .bool M.A.m, .slice M.A.B M.A.ds.length M.A.d, .bool M.B.n, .slice M.B.A M.B.xs.length M.B.c, .bool M.B.m, .slice M.B.B M.B.ds.length M.B.d, .bool M.C.n, .slice M.C.A M.C.xs.length M.C.c, .bool M.C.m, .slice M.C.B M.C.ds.length M.C.d, .bool M.D.n, .slice M.D.A M.D.xs.length M.D.c, .bool M.D.m, .slice M.D.B M.D.ds.length M.D.d] 90
 replace K33 : Box V30 (w28.heap.size) (mcs M) := K33
 have n35 : w.heap.size ≠ w28.heap.size := Nat.ne_of_lt (K5.lt)
 have n36 : w.heap.size + 1 ≠ w28.heap.size := Nat.ne_of_lt (K12.lt)
 have n37 : w.heap.size + 1 + 1 ≠ w28.heap.size := Nat.ne_of_lt (K19.lt)
 have g38 : w.heap.size ≤ w28.heap.size := BW.size
 replace K5 := K5.on hb32
 replace K12 := K12.on hb32
 replace K19 := K19.on hb32
 replace Z13 := Z13.on hb32
 replace Z20 := Z20.on hb32
 replace GM := GM.kp (Kept.of hb32)
 replace LO := LO.kp (Kept.of hb32)
 replace BW := BW.trans (hb32.mono BW.size)
 clear hb32
 obtain ⟨V39, e40, hb41, K42, Z43, -⟩ := alloc_new V30 [.bool o.n, .slice o.A o.xs.length o.c, .bool o.m, .slice o.B o.ds.length o.d] 88
 rw [z29] at K42 Z43
 have n44 : w.heap.size ≠ w28.heap.size + 1 := Nat.ne_of_lt (z29 ▸ K5.lt)
 have n45 : w.heap.size + 1 ≠ w28.heap.size + 1 := Nat.ne_of_lt (z29 ▸ K12.lt)
 have n46 : w.heap.size + 1 + 1 ≠ w28.heap.size + 1 := Nat.ne_of_lt (z29 ▸ K19.lt)
 have n47 : w28.heap.size ≠ w28.heap.size + 1 := Nat.ne_of_lt (z29 ▸ K33.lt)
 have g48 : w.heap.size ≤ w28.heap.size + 1 := z29 ▸ BW.size
 replace K5 := K5.on hb41
 replace K12 := K12.on hb41
 replace K19 := K19.on hb41
 replace K33 := K33.on hb41
 replace Z13 := Z13.on hb41
 replace Z20 := Z20.on hb41
 replace Z34 := Z34.on hb41
 replace GM := GM.kp (Kept.of hb41)
 replace LO := LO.kp (Kept.of hb41)
 replace BW := BW.trans (hb41.mono BW.size)
 clear hb41
 clear z29
 go_wp2_with fail
 rw [← e31, ← e40]
 clear e31 e40
 generalize w28.heap.size + 1 = b49 at *
 generalize w28.heap.size = b50 at *
 go_cut [8, 4] (fun sv0 sw0 wx => ∃ (pka_0 : Nat) (g : Fv) (e1 : Int), sv0 = .pointer (some ⟨pka_0, 0, none⟩) ∧ sw0 = .int .i64 e1 ∧ Below w.heap.size w wx ∧ Box wx (w.heap.size + 1) [.bool false, .slice none 0 0, .bool false, .slice none 0 0] ∧ Box wx (w.heap.size + 1 + 1) [.bool false, .slice none 0 0, .bool false, .slice none 0 0] ∧ Box wx (b50) (mcs M) ∧ Box wx (b49) [.bool o.n, .slice o.A o.xs.length o.c, .bool o.m, .slice o.B o.ds.length o.d] ∧ Fz wx (w.heap.size + 1) ∧ Fz wx (w.heap.size + 1 + 1) ∧ Fz wx (b50) ∧ Fz wx (b49) ∧ Gm wx (q) M 1024 ∧ Fq wx (((1 : Int) : Rat)) o 1024 ∧ Box wx pka_0 [.bool g.n, .slice g.A g.xs.length g.c, .bool g.m, .slice g.B g.ds.length g.d] ∧ pka_0 ≠ w.heap.size + 1 ∧ pka_0 ≠ w.heap.size + 1 + 1 ∧ pka_0 ≠ b50 ∧ pka_0 ≠ b49 ∧ OvIs wx (q.d - ((1 : Int) : Rat)) q.c g e1 4106)
 case first =>
  refine wp_region_noPanic ?_
  have hb : Below V39.heap.size V39 V39.drew := (Below.refl _ _).drew
  replace K5 := K5.on hb
  replace K12 := K12.on hb
  replace K19 := K19.on hb
  replace K33 := K33.on hb
  replace K42 := K42.on hb
  replace Z13 := Z13.on hb
  replace Z20 := Z20.on hb
  replace Z34 := Z34.on hb
  replace Z43 := Z43.on hb
  replace GM := GM.kp (Kept.of hb)
  replace LO := LO.kp (Kept.of hb)
  replace BW := BW.trans (hb.mono BW.size)
  clear hb
  refine wp_region_held_drew (S := (fun wx => Cs wx (b50) 0 [.bool M.A.n, .slice M.A.A M.A.xs.length M.A.c, .bool M.A.m, .slice M.A.B M.A.ds.length M.A.d, .bool M.B.n, .slice M.B.A M.B.xs.length M.B.c, .bool M.B.m, .slice M.B.B M.B.ds.length M.B.d, .bool M.C.n, .slice M.C.A M.C.xs.length M.C.c, .bool M.C.m, .slice M.C.B M.C.ds.length M.C.d, .bool M.D.n, .slice M.D.A M.D.xs.length M.D.c, .bool M.D.m, .slice M.D.B M.D.ds.length M.D.d] ∧ Cs wx (b49) 0 [.bool o.n, .slice o.A o.xs.length o.c, .bool o.m, .slice o.B o.ds.length o.d])) (by kernel_rfl) (by exact ⟨K33.cs, K42.cs⟩) (fun hHeld => ?_)
  generalize V39.drew = Vd51 at *
  refine pT 0 ?_
  (try simp only [p0, p1, p2, p3])
  refine pT 1 ?_
  (try simp only [p0, p1, p2, p3])
  refine pT 2 ?_
  (try simp only [p0, p1, p2, p3])
  refine pT 4 ?_
  (try simp only [p0, p1, p2, p3])
  refine pT 5 ?_
  (try simp only [p0, p1, p2, p3])
  refine pR2 3 10 (fun K hK => ?_) (fun K hK => ?_)
  ·go_simp
   (go_at_call 77; with_reducible refine (q_sub0 GM.gD LO (by decide)).mono ?_)
   rintro _ w52 ⟨n1, rfl, N1, hb⟩
   (try go_wp2_with fail)
   replace K5 := K5.on hb
   replace K12 := K12.on hb
   replace K19 := K19.on hb
   replace K33 := K33.on hb
   replace K42 := K42.on hb
   replace Z13 := Z13.on hb
   replace Z20 := Z20.on hb
   replace Z34 := Z34.on hb
   replace Z43 := Z43.on hb
   replace GM := GM.kp (Kept.of hb)
   replace LO := LO.kp (Kept.of hb)
   replace BW := BW.trans (hb.mono BW.size)
   clear hb
   clear hHeld
   refine hK.out _ _ (by exact ⟨K33.cs, K42.cs⟩) (fun hHeld => ?_)
   clear hK
   (try simp only [p0, p1, p2, p3])
   refine pR2 6 10 (fun K hK => ?_) (fun K hK => ?_)
   ·go_simp
    (go_at_call 94; with_reducible refine (i_ov N1 (GM.gC.mono (by decide)) (by decide) (D := 4106) (by decide)).mono ?_)
    rintro _ w53 ⟨g, e1, rfl, Og, hb⟩
    (try go_wp2_with fail)
    replace K5 := K5.on hb
    replace K12 := K12.on hb
    replace K19 := K19.on hb
    replace K33 := K33.on hb
    replace K42 := K42.on hb
    replace Z13 := Z13.on hb
    replace Z20 := Z20.on hb
    replace Z34 := Z34.on hb
    replace Z43 := Z43.on hb
    replace GM := GM.kp (Kept.of hb)
    replace LO := LO.kp (Kept.of hb)
    replace N1 := N1.kp (Kept.of hb)
    replace BW := BW.trans (hb.mono BW.size)
    clear hb
    clear hHeld
    refine hK.out _ _ (by exact ⟨K33.cs, K42.cs⟩) (fun hHeld => ?_)
    clear hK
    (try simp only [p0, p1, p2, p3])
    refine pT 7 ?_
    (try simp only [p0, p1, p2, p3])
    refine pT 8 ?_
    (try simp only [p0, p1, p2, p3])
    refine pT 9 ?_
    (try simp only [p0, p1, p2, p3])
    refine pR1 10 (fun K hK => ?_)
    go_simp
    obtain ⟨V54, e55, hb56, K57, Z58, -⟩ := alloc_new w53 [.bool false, .slice none 0 0, .bool false, .slice none 0 0] 88
    have n59 : w.heap.size ≠ w53.heap.size := Nat.ne_of_lt (K5.lt)
    have n60 : w.heap.size + 1 ≠ w53.heap.size := Nat.ne_of_lt (K12.lt)
    have n61 : w.heap.size + 1 + 1 ≠ w53.heap.size := Nat.ne_of_lt (K19.lt)
    have n62 : b50 ≠ w53.heap.size := Nat.ne_of_lt (K33.lt)
    have n63 : b49 ≠ w53.heap.size := Nat.ne_of_lt (K42.lt)
    have g64 : w.heap.size ≤ w53.heap.size := BW.size
    replace K5 := K5.on hb56
    replace K12 := K12.on hb56
    replace K19 := K19.on hb56
    replace K33 := K33.on hb56
    replace K42 := K42.on hb56
    replace Z13 := Z13.on hb56
    replace Z20 := Z20.on hb56
    replace Z34 := Z34.on hb56
    replace Z43 := Z43.on hb56
    replace GM := GM.kp (Kept.of hb56)
    replace LO := LO.kp (Kept.of hb56)
    replace N1 := N1.kp (Kept.of hb56)
    replace Og := Og.kp (Kept.of hb56)
    replace BW := BW.trans (hb56.mono BW.size)
    clear hb56
    rw [← e55]
    clear e55
    generalize w53.heap.size = b65 at *
    clear hHeld
    refine hK.out _ _ (by exact ⟨K33.cs, K42.cs⟩) (fun hHeld => ?_)
    clear hK
    (try simp only [p0, p1, p2, p3])
    refine pR1 11 (fun K hK => ?_)
    obtain ⟨c66, c67, c68, c69⟩ := K57.c4
    obtain ⟨c70, c71, c72, c73⟩ := Z58.f4
    go_simp
    clear c66 c67 c68 c69 c70 c71 c72 c73
    obtain ⟨V74, hk76⟩ : ∃ V74, V74 = V54.setCells (b65) 0 [.bool g.n, .slice g.A g.xs.length g.c, .bool g.m, .slice g.B g.ds.length g.d] := ⟨_, rfl⟩
    have e75 := hk76
    simp only [World.setCells, Nat.zero_add, Nat.reduceAdd] at e75
    have hk77 := Kept.overE hk76 K57 rfl (Nat.le_of_ble_eq_true rfl)
    replace K5 := K5.awayE hk76 n59
    replace K12 := K12.awayE hk76 n60
    replace K19 := K19.awayE hk76 n61
    replace K33 := K33.awayE hk76 n62
    replace K42 := K42.awayE hk76 n63
    replace K57 := K57.overE hk76 rfl
    replace Z13 := Z13.putE hk76
    replace Z20 := Z20.putE hk76
    replace Z34 := Z34.putE hk76
    replace Z43 := Z43.putE hk76
    replace GM := GM.kp hk77
    replace LO := LO.kp hk77
    replace N1 := N1.kp hk77
    replace Og := Og.kp hk77
    replace BW := Below.putE BW hk76 g64
    clear hk76 hk77
    rw [← e75]
    clear e75
    clear hHeld
    refine hK.out _ _ (by exact ⟨K33.cs, K42.cs⟩) (fun hHeld => ?_)
    clear hK
    (try simp only [p0, p1, p2, p3])
    refine pT 12 ?_
    (try simp only [p0, p1, p2, p3])
    refine wpAnyH_done (by kernel_rfl) (NoPanic.normal ?_) _
    go_wp2
    go_meet
    exact ⟨b65, g, e1, rfl, rfl, BW, K12, K19, K33, K42, Z13, Z20, Z34, Z43, GM, LO, K57, n60.symm, n61.symm, n62.symm, n63.symm, Og⟩
   ·go_simp
    obtain ⟨V53, e54, hb55, K56, Z57, -⟩ := alloc_new w52 [.bool false, .slice none 0 0, .bool false, .slice none 0 0] 88
    have n58 : w.heap.size ≠ w52.heap.size := Nat.ne_of_lt (K5.lt)
    have n59 : w.heap.size + 1 ≠ w52.heap.size := Nat.ne_of_lt (K12.lt)
    have n60 : w.heap.size + 1 + 1 ≠ w52.heap.size := Nat.ne_of_lt (K19.lt)
    have n61 : b50 ≠ w52.heap.size := Nat.ne_of_lt (K33.lt)
    have n62 : b49 ≠ w52.heap.size := Nat.ne_of_lt (K42.lt)
    have g63 : w.heap.size ≤ w52.heap.size := BW.size
    replace K5 := K5.on hb55
    replace K12 := K12.on hb55
    replace K19 := K19.on hb55
    replace K33 := K33.on hb55
    replace K42 := K42.on hb55
    replace Z13 := Z13.on hb55
    replace Z20 := Z20.on hb55
    replace Z34 := Z34.on hb55
    replace Z43 := Z43.on hb55
    replace GM := GM.kp (Kept.of hb55)
    replace LO := LO.kp (Kept.of hb55)
    replace N1 := N1.kp (Kept.of hb55)
    replace BW := BW.trans (hb55.mono BW.size)
    clear hb55
    rw [← e54]
    clear e54
    generalize w52.heap.size = b64 at *
    clear hHeld
    refine hK.out _ _ (by exact ⟨K33.cs, K42.cs⟩) (fun hHeld => ?_)
    clear hK
    (try simp only [p0, p1, p2, p3])
    refine pR1 6 (fun K hK => ?_)
    go_simp
    (go_at_call 94; with_reducible refine (i_ov N1 (GM.gC.mono (by decide)) (by decide) (D := 4106) (by decide)).mono ?_)
    rintro _ w65 ⟨g, e1, rfl, Og, hb⟩
    (try go_wp2_with fail)
    replace K5 := K5.on hb
    replace K12 := K12.on hb
    replace K19 := K19.on hb
    replace K33 := K33.on hb
    replace K42 := K42.on hb
    replace K56 := K56.on hb
    replace Z13 := Z13.on hb
    replace Z20 := Z20.on hb
    replace Z34 := Z34.on hb
    replace Z43 := Z43.on hb
    replace Z57 := Z57.on hb
    replace GM := GM.kp (Kept.of hb)
    replace LO := LO.kp (Kept.of hb)
    replace N1 := N1.kp (Kept.of hb)
    replace BW := BW.trans (hb.mono BW.size)
    clear hb
    clear hHeld
    refine hK.out _ _ (by exact ⟨K33.cs, K42.cs⟩) (fun hHeld => ?_)
    clear hK
    (try simp only [p0, p1, p2, p3])
    refine pT 7 ?_
    (try simp only [p0, p1, p2, p3])
    refine pT 8 ?_
    (try simp only [p0, p1, p2, p3])
    refine pT 9 ?_
    (try simp only [p0, p1, p2, p3])
    refine pR1 11 (fun K hK => ?_)
    obtain ⟨c66, c67, c68, c69⟩ := K56.c4
    obtain ⟨c70, c71, c72, c73⟩ := Z57.f4
    go_simp
    clear c66 c67 c68 c69 c70 c71 c72 c73
    obtain ⟨V74, hk76⟩ : ∃ V74, V74 = w65.setCells (b64) 0 [.bool g.n, .slice g.A g.xs.length g.c, .bool g.m, .slice g.B g.ds.length g.d] := ⟨_, rfl⟩
    have e75 := hk76
    simp only [World.setCells, Nat.zero_add, Nat.reduceAdd] at e75
    have hk77 := Kept.overE hk76 K56 rfl (Nat.le_of_ble_eq_true rfl)
    replace K5 := K5.awayE hk76 n58
    replace K12 := K12.awayE hk76 n59
    replace K19 := K19.awayE hk76 n60
    replace K33 := K33.awayE hk76 n61
    replace K42 := K42.awayE hk76 n62
    replace K56 := K56.overE hk76 rfl
    replace Z13 := Z13.putE hk76
    replace Z20 := Z20.putE hk76
    replace Z34 := Z34.putE hk76
    replace Z43 := Z43.putE hk76
    replace GM := GM.kp hk77
    replace LO := LO.kp hk77
    replace N1 := N1.kp hk77
    replace Og := Og.kp hk77
    replace BW := Below.putE BW hk76 g63
    clear hk76 hk77
    rw [← e75]
    clear e75
    clear hHeld
    refine hK.out _ _ (by exact ⟨K33.cs, K42.cs⟩) (fun hHeld => ?_)
    clear hK
    (try simp only [p0, p1, p2, p3])
    refine pT 12 ?_
    (try simp only [p0, p1, p2, p3])
    refine wpAnyH_done (by kernel_rfl) (NoPanic.normal ?_) _
    go_wp2
    go_meet
    exact ⟨b64, g, e1, rfl, rfl, BW, K12, K19, K33, K42, Z13, Z20, Z34, Z43, GM, LO, K56, n59.symm, n60.symm, n61.symm, n62.symm, Og⟩
  ·go_simp
   obtain ⟨V52, e53, hb54, K55, Z56, -⟩ := alloc_new Vd51 [.bool false, .slice none 0 0, .bool false, .slice none 0 0] 88
   have n57 : w.heap.size ≠ Vd51.heap.size := Nat.ne_of_lt (K5.lt)
   have n58 : w.heap.size + 1 ≠ Vd51.heap.size := Nat.ne_of_lt (K12.lt)
   have n59 : w.heap.size + 1 + 1 ≠ Vd51.heap.size := Nat.ne_of_lt (K19.lt)
   have n60 : b50 ≠ Vd51.heap.size := Nat.ne_of_lt (K33.lt)
   have n61 : b49 ≠ Vd51.heap.size := Nat.ne_of_lt (K42.lt)
   have g62 : w.heap.size ≤ Vd51.heap.size := BW.size
   replace K12 := K12.on hb54
   replace K19 := K19.on hb54
   replace K33 := K33.on hb54
   replace K42 := K42.on hb54
   replace Z13 := Z13.on hb54
   replace Z20 := Z20.on hb54
   replace Z34 := Z34.on hb54
   replace Z43 := Z43.on hb54
   replace GM := GM.kp (Kept.of hb54)
   replace LO := LO.kp (Kept.of hb54)
   replace BW := BW.trans (hb54.mono BW.size)
   clear hb54
   rw [← e53]
   clear e53
   generalize Vd51.heap.size = b63 at *
   clear hHeld
   refine hK.out _ _ (by exact ⟨K33.cs, K42.cs⟩) (fun hHeld => ?_)
   clear hK
   (try simp only [p0, p1, p2, p3])
   refine pR1 3 (fun K hK => ?_)
   go_simp
   (go_at_call 77; with_reducible refine (q_sub0 GM.gD LO (by decide)).mono ?_)
   rintro _ w64 ⟨n1, rfl, N1, hb⟩
   (try go_wp2_with fail)
   replace K12 := K12.on hb
   replace K19 := K19.on hb
   replace K33 := K33.on hb
   replace K42 := K42.on hb
   replace K55 := K55.on hb
   replace Z13 := Z13.on hb
   replace Z20 := Z20.on hb
   replace Z34 := Z34.on hb
   replace Z43 := Z43.on hb
   replace Z56 := Z56.on hb
   replace GM := GM.kp (Kept.of hb)
   replace LO := LO.kp (Kept.of hb)
   replace BW := BW.trans (hb.mono BW.size)
   clear hb
   clear hHeld
   refine hK.out _ _ (by exact ⟨K33.cs, K42.cs⟩) (fun hHeld => ?_)
   clear hK
   (try simp only [p0, p1, p2, p3])
   refine pR1 6 (fun K hK => ?_)
   go_simp
   (go_at_call 94; with_reducible refine (i_ov N1 (GM.gC.mono (by decide)) (by decide) (D := 4106) (by decide)).mono ?_)
   rintro _ w65 ⟨g, e1, rfl, Og, hb⟩
   (try go_wp2_with fail)
   replace K12 := K12.on hb
   replace K19 := K19.on hb
   replace K33 := K33.on hb
   replace K42 := K42.on hb
   replace K55 := K55.on hb
   replace Z13 := Z13.on hb
   replace Z20 := Z20.on hb
   replace Z34 := Z34.on hb
   replace Z43 := Z43.on hb
   replace Z56 := Z56.on hb
   replace GM := GM.kp (Kept.of hb)
   replace LO := LO.kp (Kept.of hb)
   replace N1 := N1.kp (Kept.of hb)
   replace BW := BW.trans (hb.mono BW.size)
   clear hb
   clear hHeld
   refine hK.out _ _ (by exact ⟨K33.cs, K42.cs⟩) (fun hHeld => ?_)
   clear hK
   (try simp only [p0, p1, p2, p3])
   refine pT 7 ?_
   (try simp only [p0, p1, p2, p3])
   refine pT 8 ?_
   (try simp only [p0, p1, p2, p3])
   refine pT 9 ?_
   (try simp only [p0, p1, p2, p3])
   refine pR1 11 (fun K hK => ?_)
   obtain ⟨c66, c67, c68, c69⟩ := K55.c4
   obtain ⟨c70, c71, c72, c73⟩ := Z56.f4
   go_simp
   clear c66 c67 c68 c69 c70 c71 c72 c73
   obtain ⟨V74, hk76⟩ : ∃ V74, V74 = w65.setCells (b63) 0 [.bool g.n, .slice g.A g.xs.length g.c, .bool g.m, .slice g.B g.ds.length g.d] := ⟨_, rfl⟩
   have e75 := hk76
   simp only [World.setCells, Nat.zero_add, Nat.reduceAdd] at e75
   have hk77 := Kept.overE hk76 K55 rfl (Nat.le_of_ble_eq_true rfl)
   replace K12 := K12.awayE hk76 n58
   replace K19 := K19.awayE hk76 n59
   replace K33 := K33.awayE hk76 n60
   replace K42 := K42.awayE hk76 n61
   replace K55 := K55.overE hk76 rfl
   replace Z13 := Z13.putE hk76
   replace Z20 := Z20.putE hk76
   replace Z34 := Z34.putE hk76
   replace Z43 := Z43.putE hk76
   replace GM := GM.kp hk77
   replace LO := LO.kp hk77
   replace N1 := N1.kp hk77
   replace Og := Og.kp hk77
   replace BW := Below.putE BW hk76 g62
   clear hk76 hk77
   rw [← e75]
   clear e75
   clear hHeld
   refine hK.out _ _ (by exact ⟨K33.cs, K42.cs⟩) (fun hHeld => ?_)
   clear hK
   (try simp only [p0, p1, p2, p3])
   refine pT 12 ?_
   (try simp only [p0, p1, p2, p3])
   refine wpAnyH_done (by kernel_rfl) (NoPanic.normal ?_) _
   go_wp2
   go_meet
   exact ⟨b63, g, e1, rfl, rfl, BW, K12, K19, K33, K42, Z13, Z20, Z34, Z43, GM, LO, K55, n58.symm, n59.symm, n60.symm, n61.symm, Og⟩
 case rest =>
  obtain ⟨pka_0, g, e1, rfl, rfl, BW, K12, K19, K33, K42, Z13, Z20, Z34, Z43, GM, LO, KNa_0, nn51, nn52, nn53, nn54, Og⟩ := hcut
  go_wp2_with fail
  go_cut [9, 10] (fun sv0 sw0 wx => ∃ (pkb_0 : Nat) (h : Fv) (e2 : Int), sv0 = .pointer (some ⟨pkb_0, 0, none⟩) ∧ sw0 = .int .i64 e2 ∧ Below w.heap.size w wx ∧ Box wx (w.heap.size + 1) [.bool false, .slice none 0 0, .bool false, .slice none 0 0] ∧ Box wx (w.heap.size + 1 + 1) [.bool false, .slice none 0 0, .bool false, .slice none 0 0] ∧ Box wx (pka_0) [.bool g.n, .slice g.A g.xs.length g.c, .bool g.m, .slice g.B g.ds.length g.d] ∧ Fz wx (w.heap.size + 1) ∧ Fz wx (w.heap.size + 1 + 1) ∧ OvIs wx (q.d - ((1 : Int) : Rat)) q.c g e1 4106 ∧ Box wx pkb_0 [.bool h.n, .slice h.A h.xs.length h.c, .bool h.m, .slice h.B h.ds.length h.d] ∧ pkb_0 ≠ w.heap.size + 1 ∧ pkb_0 ≠ w.heap.size + 1 + 1 ∧ OvIs wx (((1 : Int) : Rat) - q.a) q.c h e2 4106)
  case first =>
   refine wp_region_noPanic ?_
   have hb : Below wc.heap.size wc wc.drew := (Below.refl _ _).drew
   replace K12 := K12.on hb
   replace K19 := K19.on hb
   replace K33 := K33.on hb
   replace K42 := K42.on hb
   replace KNa_0 := KNa_0.on hb
   replace Z13 := Z13.on hb
   replace Z20 := Z20.on hb
   replace GM := GM.kp (Kept.of hb)
   replace LO := LO.kp (Kept.of hb)
   replace Og := Og.kp (Kept.of hb)
   replace BW := BW.trans (hb.mono BW.size)
   clear hb
   refine wp_region_held_drew (S := (fun wx => Cs wx (b50) 0 [.bool M.A.n, .slice M.A.A M.A.xs.length M.A.c, .bool M.A.m, .slice M.A.B M.A.ds.length M.A.d, .bool M.B.n, .slice M.B.A M.B.xs.length M.B.c, .bool M.B.m, .slice M.B.B M.B.ds.length M.B.d, .bool M.C.n, .slice M.C.A M.C.xs.length M.C.c, .bool M.C.m, .slice M.C.B M.C.ds.length M.C.d, .bool M.D.n, .slice M.D.A M.D.xs.length M.D.c, .bool M.D.m, .slice M.D.B M.D.ds.length M.D.d] ∧ Cs wx (b49) 0 [.bool o.n, .slice o.A o.xs.length o.c, .bool o.m, .slice o.B o.ds.length o.d])) (by kernel_rfl) (by exact ⟨K33.cs, K42.cs⟩) (fun hHeld => ?_)
   generalize wc.drew = Vd55 at *
   refine pT 0 ?_
   (try simp only [p0, p1, p2, p3])
   refine pT 1 ?_
   (try simp only [p0, p1, p2, p3])
   refine pT 2 ?_
   (try simp only [p0, p1, p2, p3])
   refine pT 4 ?_
   (try simp only [p0, p1, p2, p3])
   refine pT 5 ?_
   (try simp only [p0, p1, p2, p3])
   refine pR2 3 10 (fun K hK => ?_) (fun K hK => ?_)
   ·go_simp
    (go_at_call 77; with_reducible refine (q_sub0 LO GM.gA (by decide)).mono ?_)
    rintro _ w56 ⟨n1, rfl, N1, hb⟩
    (try go_wp2_with fail)
    replace K12 := K12.on hb
    replace K19 := K19.on hb
    replace K33 := K33.on hb
    replace K42 := K42.on hb
    replace KNa_0 := KNa_0.on hb
    replace Z13 := Z13.on hb
    replace Z20 := Z20.on hb
    replace GM := GM.kp (Kept.of hb)
    replace LO := LO.kp (Kept.of hb)
    replace Og := Og.kp (Kept.of hb)
    replace BW := BW.trans (hb.mono BW.size)
    clear hb
    clear hHeld
    refine hK.out _ _ (by exact ⟨K33.cs, K42.cs⟩) (fun hHeld => ?_)
    clear hK
    (try simp only [p0, p1, p2, p3])
    refine pR2 6 10 (fun K hK => ?_) (fun K hK => ?_)
    ·go_simp
     (go_at_call 94; with_reducible refine (i_ov N1 (GM.gC.mono (by decide)) (by decide) (D := 4106) (by decide)).mono ?_)
     rintro _ w57 ⟨h, e2, rfl, Oh, hb⟩
     (try go_wp2_with fail)
     replace K12 := K12.on hb
     replace K19 := K19.on hb
     replace K33 := K33.on hb
     replace K42 := K42.on hb
     replace KNa_0 := KNa_0.on hb
     replace Z13 := Z13.on hb
     replace Z20 := Z20.on hb
     replace GM := GM.kp (Kept.of hb)
     replace LO := LO.kp (Kept.of hb)
     replace Og := Og.kp (Kept.of hb)
     replace N1 := N1.kp (Kept.of hb)
     replace BW := BW.trans (hb.mono BW.size)
     clear hb
     clear hHeld
     refine hK.out _ _ (by exact ⟨K33.cs, K42.cs⟩) (fun hHeld => ?_)
     clear hK
     (try simp only [p0, p1, p2, p3])
     refine pT 7 ?_
     (try simp only [p0, p1, p2, p3])
     refine pT 8 ?_
     (try simp only [p0, p1, p2, p3])
     refine pT 9 ?_
     (try simp only [p0, p1, p2, p3])
     refine pR1 10 (fun K hK => ?_)
     go_simp
     obtain ⟨V58, e59, hb60, K61, Z62, -⟩ := alloc_new w57 [.bool false, .slice none 0 0, .bool false, .slice none 0 0] 88
     have n63 : w.heap.size + 1 ≠ w57.heap.size := Nat.ne_of_lt (K12.lt)
     have n64 : w.heap.size + 1 + 1 ≠ w57.heap.size := Nat.ne_of_lt (K19.lt)
     have n65 : b50 ≠ w57.heap.size := Nat.ne_of_lt (K33.lt)
     have n66 : b49 ≠ w57.heap.size := Nat.ne_of_lt (K42.lt)
     have n67 : pka_0 ≠ w57.heap.size := Nat.ne_of_lt (KNa_0.lt)
     have g68 : w.heap.size ≤ w57.heap.size := BW.size
     replace K12 := K12.on hb60
     replace K19 := K19.on hb60
     replace K33 := K33.on hb60
     replace K42 := K42.on hb60
     replace KNa_0 := KNa_0.on hb60
     replace Z13 := Z13.on hb60
     replace Z20 := Z20.on hb60
     replace GM := GM.kp (Kept.of hb60)
     replace LO := LO.kp (Kept.of hb60)
     replace Og := Og.kp (Kept.of hb60)
     replace N1 := N1.kp (Kept.of hb60)
     replace Oh := Oh.kp (Kept.of hb60)
     replace BW := BW.trans (hb60.mono BW.size)
     clear hb60
     rw [← e59]
     clear e59
     generalize w57.heap.size = b69 at *
     clear hHeld
     refine hK.out _ _ (by exact ⟨K33.cs, K42.cs⟩) (fun hHeld => ?_)
     clear hK
     (try simp only [p0, p1, p2, p3])
     refine pR1 11 (fun K hK => ?_)
     obtain ⟨c70, c71, c72, c73⟩ := K61.c4
     obtain ⟨c74, c75, c76, c77⟩ := Z62.f4
     go_simp
     clear c70 c71 c72 c73 c74 c75 c76 c77
     obtain ⟨V78, hk80⟩ : ∃ V78, V78 = V58.setCells (b69) 0 [.bool h.n, .slice h.A h.xs.length h.c, .bool h.m, .slice h.B h.ds.length h.d] := ⟨_, rfl⟩
     have e79 := hk80
     simp only [World.setCells, Nat.zero_add, Nat.reduceAdd] at e79
     have hk81 := Kept.overE hk80 K61 rfl (Nat.le_of_ble_eq_true rfl)
     replace K12 := K12.awayE hk80 n63
     replace K19 := K19.awayE hk80 n64
     replace K33 := K33.awayE hk80 n65
     replace K42 := K42.awayE hk80 n66
     replace KNa_0 := KNa_0.awayE hk80 n67
     replace K61 := K61.overE hk80 rfl
     replace Z13 := Z13.putE hk80
     replace Z20 := Z20.putE hk80
     replace GM := GM.kp hk81
     replace LO := LO.kp hk81
     replace Og := Og.kp hk81
     replace N1 := N1.kp hk81
     replace Oh := Oh.kp hk81
     replace BW := Below.putE BW hk80 g68
     clear hk80 hk81
     rw [← e79]
     clear e79
     clear hHeld
     refine hK.out _ _ (by exact ⟨K33.cs, K42.cs⟩) (fun hHeld => ?_)
     clear hK
     (try simp only [p0, p1, p2, p3])
     refine pT 12 ?_
     (try simp only [p0, p1, p2, p3])
     refine wpAnyH_done (by kernel_rfl) (NoPanic.normal ?_) _
     go_wp2
     go_meet
     exact ⟨b69, h, e2, rfl, rfl, BW, K12, K19, KNa_0, Z13, Z20, Og, K61, n63.symm, n64.symm, Oh⟩
    ·go_simp
     obtain ⟨V57, e58, hb59, K60, Z61, -⟩ := alloc_new w56 [.bool false, .slice none 0 0, .bool false, .slice none 0 0] 88
     have n62 : w.heap.size + 1 ≠ w56.heap.size := Nat.ne_of_lt (K12.lt)
     have n63 : w.heap.size + 1 + 1 ≠ w56.heap.size := Nat.ne_of_lt (K19.lt)
     have n64 : b50 ≠ w56.heap.size := Nat.ne_of_lt (K33.lt)
     have n65 : b49 ≠ w56.heap.size := Nat.ne_of_lt (K42.lt)
     have n66 : pka_0 ≠ w56.heap.size := Nat.ne_of_lt (KNa_0.lt)
     have g67 : w.heap.size ≤ w56.heap.size := BW.size
     replace K12 := K12.on hb59
     replace K19 := K19.on hb59
     replace K33 := K33.on hb59
     replace K42 := K42.on hb59
     replace KNa_0 := KNa_0.on hb59
     replace Z13 := Z13.on hb59
     replace Z20 := Z20.on hb59
     replace GM := GM.kp (Kept.of hb59)
     replace LO := LO.kp (Kept.of hb59)
     replace Og := Og.kp (Kept.of hb59)
     replace N1 := N1.kp (Kept.of hb59)
     replace BW := BW.trans (hb59.mono BW.size)
     clear hb59
     rw [← e58]
     clear e58
     generalize w56.heap.size = b68 at *
     clear hHeld
     refine hK.out _ _ (by exact ⟨K33.cs, K42.cs⟩) (fun hHeld => ?_)
     clear hK
     (try simp only [p0, p1, p2, p3])
     refine pR1 6 (fun K hK => ?_)
     go_simp
     (go_at_call 94; with_reducible refine (i_ov N1 (GM.gC.mono (by decide)) (by decide) (D := 4106) (by decide)).mono ?_)
     rintro _ w69 ⟨h, e2, rfl, Oh, hb⟩
     (try go_wp2_with fail)
     replace K12 := K12.on hb
     replace K19 := K19.on hb
     replace K33 := K33.on hb
     replace K42 := K42.on hb
     replace KNa_0 := KNa_0.on hb
     replace K60 := K60.on hb
     replace Z13 := Z13.on hb
     replace Z20 := Z20.on hb
     replace Z61 := Z61.on hb
     replace GM := GM.kp (Kept.of hb)
     replace LO := LO.kp (Kept.of hb)
     replace Og := Og.kp (Kept.of hb)
     replace N1 := N1.kp (Kept.of hb)
     replace BW := BW.trans (hb.mono BW.size)
     clear hb
     clear hHeld
     refine hK.out _ _ (by exact ⟨K33.cs, K42.cs⟩) (fun hHeld => ?_)
     clear hK
     (try simp only [p0, p1, p2, p3])
     refine pT 7 ?_
     (try simp only [p0, p1, p2, p3])
     refine pT 8 ?_
     (try simp only [p0, p1, p2, p3])
     refine pT 9 ?_
     (try simp only [p0, p1, p2, p3])
     refine pR1 11 (fun K hK => ?_)
     obtain ⟨c70, c71, c72, c73⟩ := K60.c4
     obtain ⟨c74, c75, c76, c77⟩ := Z61.f4
     go_simp
     clear c70 c71 c72 c73 c74 c75 c76 c77
     obtain ⟨V78, hk80⟩ : ∃ V78, V78 = w69.setCells (b68) 0 [.bool h.n, .slice h.A h.xs.length h.c, .bool h.m, .slice h.B h.ds.length h.d] := ⟨_, rfl⟩
     have e79 := hk80
     simp only [World.setCells, Nat.zero_add, Nat.reduceAdd] at e79
     have hk81 := Kept.overE hk80 K60 rfl (Nat.le_of_ble_eq_true rfl)
     replace K12 := K12.awayE hk80 n62
     replace K19 := K19.awayE hk80 n63
     replace K33 := K33.awayE hk80 n64
     replace K42 := K42.awayE hk80 n65
     replace KNa_0 := KNa_0.awayE hk80 n66
     replace K60 := K60.overE hk80 rfl
     replace Z13 := Z13.putE hk80
     replace Z20 := Z20.putE hk80
     replace GM := GM.kp hk81
     replace LO := LO.kp hk81
     replace Og := Og.kp hk81
     replace N1 := N1.kp hk81
     replace Oh := Oh.kp hk81
     replace BW := Below.putE BW hk80 g67
     clear hk80 hk81
     rw [← e79]
     clear e79
     clear hHeld
     refine hK.out _ _ (by exact ⟨K33.cs, K42.cs⟩) (fun hHeld => ?_)
     clear hK
     (try simp only [p0, p1, p2, p3])
     refine pT 12 ?_
     (try simp only [p0, p1, p2, p3])
     refine wpAnyH_done (by kernel_rfl) (NoPanic.normal ?_) _
     go_wp2
     go_meet
     exact ⟨b68, h, e2, rfl, rfl, BW, K12, K19, KNa_0, Z13, Z20, Og, K60, n62.symm, n63.symm, Oh⟩
   ·go_simp
    obtain ⟨V56, e57, hb58, K59, Z60, -⟩ := alloc_new Vd55 [.bool false, .slice none 0 0, .bool false, .slice none 0 0] 88
    have n61 : w.heap.size + 1 ≠ Vd55.heap.size := Nat.ne_of_lt (K12.lt)
    have n62 : w.heap.size + 1 + 1 ≠ Vd55.heap.size := Nat.ne_of_lt (K19.lt)
    have n63 : b50 ≠ Vd55.heap.size := Nat.ne_of_lt (K33.lt)
    have n64 : b49 ≠ Vd55.heap.size := Nat.ne_of_lt (K42.lt)
    have n65 : pka_0 ≠ Vd55.heap.size := Nat.ne_of_lt (KNa_0.lt)
    have g66 : w.heap.size ≤ Vd55.heap.size := BW.size
    replace K12 := K12.on hb58
    replace K19 := K19.on hb58
    replace K33 := K33.on hb58
    replace K42 := K42.on hb58
    replace KNa_0 := KNa_0.on hb58
    replace Z13 := Z13.on hb58
    replace Z20 := Z20.on hb58
    replace GM := GM.kp (Kept.of hb58)
    replace LO := LO.kp (Kept.of hb58)
    replace Og := Og.kp (Kept.of hb58)
    replace BW := BW.trans (hb58.mono BW.size)
    clear hb58
    rw [← e57]
    clear e57
    generalize Vd55.heap.size = b67 at *
    clear hHeld
    refine hK.out _ _ (by exact ⟨K33.cs, K42.cs⟩) (fun hHeld => ?_)
    clear hK
    (try simp only [p0, p1, p2, p3])
    refine pR1 3 (fun K hK => ?_)
    go_simp
    (go_at_call 77; with_reducible refine (q_sub0 LO GM.gA (by decide)).mono ?_)
    rintro _ w68 ⟨n1, rfl, N1, hb⟩
    (try go_wp2_with fail)
    replace K12 := K12.on hb
    replace K19 := K19.on hb
    replace K33 := K33.on hb
    replace K42 := K42.on hb
    replace KNa_0 := KNa_0.on hb
    replace K59 := K59.on hb
    replace Z13 := Z13.on hb
    replace Z20 := Z20.on hb
    replace Z60 := Z60.on hb
    replace GM := GM.kp (Kept.of hb)
    replace Og := Og.kp (Kept.of hb)
    replace BW := BW.trans (hb.mono BW.size)
    clear hb
    clear hHeld
    refine hK.out _ _ (by exact ⟨K33.cs, K42.cs⟩) (fun hHeld => ?_)
    clear hK
    (try simp only [p0, p1, p2, p3])
    refine pR1 6 (fun K hK => ?_)
    go_simp
    (go_at_call 94; with_reducible refine (i_ov N1 (GM.gC.mono (by decide)) (by decide) (D := 4106) (by decide)).mono ?_)
    rintro _ w69 ⟨h, e2, rfl, Oh, hb⟩
    (try go_wp2_with fail)
    replace K12 := K12.on hb
    replace K19 := K19.on hb
    replace K33 := K33.on hb
    replace K42 := K42.on hb
    replace KNa_0 := KNa_0.on hb
    replace K59 := K59.on hb
    replace Z13 := Z13.on hb
    replace Z20 := Z20.on hb
    replace Z60 := Z60.on hb
    replace Og := Og.kp (Kept.of hb)
    replace BW := BW.trans (hb.mono BW.size)
    clear hb
    clear hHeld
    refine hK.out _ _ (by exact ⟨K33.cs, K42.cs⟩) (fun hHeld => ?_)
    clear hK
    (try simp only [p0, p1, p2, p3])
    refine pT 7 ?_
    (try simp only [p0, p1, p2, p3])
    refine pT 8 ?_
    (try simp only [p0, p1, p2, p3])
    refine pT 9 ?_
    (try simp only [p0, p1, p2, p3])
    refine pR1 11 (fun K hK => ?_)
    obtain ⟨c70, c71, c72, c73⟩ := K59.c4
    obtain ⟨c74, c75, c76, c77⟩ := Z60.f4
    go_simp
    clear c70 c71 c72 c73 c74 c75 c76 c77
    obtain ⟨V78, hk80⟩ : ∃ V78, V78 = w69.setCells (b67) 0 [.bool h.n, .slice h.A h.xs.length h.c, .bool h.m, .slice h.B h.ds.length h.d] := ⟨_, rfl⟩
    have e79 := hk80
    simp only [World.setCells, Nat.zero_add, Nat.reduceAdd] at e79
    have hk81 := Kept.overE hk80 K59 rfl (Nat.le_of_ble_eq_true rfl)
    replace K12 := K12.awayE hk80 n61
    replace K19 := K19.awayE hk80 n62
    replace K33 := K33.awayE hk80 n63
    replace K42 := K42.awayE hk80 n64
    replace KNa_0 := KNa_0.awayE hk80 n65
    replace K59 := K59.overE hk80 rfl
    replace Z13 := Z13.putE hk80
    replace Z20 := Z20.putE hk80
    replace Og := Og.kp hk81
    replace Oh := Oh.kp hk81
    replace BW := Below.putE BW hk80 g66
    clear hk80 hk81
    rw [← e79]
    clear e79
    clear hHeld
    refine hK.out _ _ (by exact ⟨K33.cs, K42.cs⟩) (fun hHeld => ?_)
    clear hK
    (try simp only [p0, p1, p2, p3])
    refine pT 12 ?_
    (try simp only [p0, p1, p2, p3])
    refine wpAnyH_done (by kernel_rfl) (NoPanic.normal ?_) _
    go_wp2
    go_meet
    exact ⟨b67, h, e2, rfl, rfl, BW, K12, K19, KNa_0, Z13, Z20, Og, K59, n61.symm, n62.symm, Oh⟩
  case rest =>
   obtain ⟨pkb_0, h, e2, rfl, rfl, BW, K12, K19, KNa_0, Z13, Z20, Og, KNb_0, nn55, nn56, Oh⟩ := hcut
   go_wp2_with fail
   refine wp_region_noPanic ?_
   have hb : Below wc.heap.size wc wc.drew := (Below.refl _ _).drew
   replace K12 := K12.on hb
   replace K19 := K19.on hb
   replace KNa_0 := KNa_0.on hb
   replace KNb_0 := KNb_0.on hb
   replace Z13 := Z13.on hb
   replace Z20 := Z20.on hb
   replace Og := Og.kp (Kept.of hb)
   replace Oh := Oh.kp (Kept.of hb)
   replace BW := BW.trans (hb.mono BW.size)
   clear hb
   refine wp_region_held_drew (S := (fun wx => Cs wx (pka_0) 0 [.bool g.n, .slice g.A g.xs.length g.c, .bool g.m, .slice g.B g.ds.length g.d] ∧ Cs wx (pkb_0) 0 [.bool h.n, .slice h.A h.xs.length h.c, .bool h.m, .slice h.B h.ds.length h.d])) (by kernel_rfl) (by exact ⟨KNa_0.cs, KNb_0.cs⟩) (fun hHeld => ?_)
   generalize wc.drew = Vd57 at *
   refine pT 0 ?_
   (try simp only [p0, p1, p2, p3])
   refine pT 1 ?_
   (try simp only [p0, p1, p2, p3])
   refine pT 2 ?_
   (try simp only [p0, p1, p2, p3])
   refine pT 3 ?_
   (try simp only [p0, p1, p2, p3])
   refine pR1 4 (fun K hK => ?_)
   go_simp
   obtain ⟨V58, e59, hb60, K61, -, -⟩ := alloc_new Vd57 [.int .i64 e1, .int .i64 e2] 32
   have n62 : w.heap.size + 1 ≠ Vd57.heap.size := Nat.ne_of_lt (K12.lt)
   have n63 : w.heap.size + 1 + 1 ≠ Vd57.heap.size := Nat.ne_of_lt (K19.lt)
   replace K12 := K12.on hb60
   replace K19 := K19.on hb60
   replace KNa_0 := KNa_0.on hb60
   replace KNb_0 := KNb_0.on hb60
   replace Z13 := Z13.on hb60
   replace Z20 := Z20.on hb60
   replace Og := Og.kp (Kept.of hb60)
   replace Oh := Oh.kp (Kept.of hb60)
   replace BW := BW.trans (hb60.mono BW.size)
   clear hb60
   rw [← e59]
   clear e59
   generalize Vd57.heap.size = b64 at *
   clear hHeld
   refine hK.out _ _ (by exact ⟨KNa_0.cs, KNb_0.cs⟩) (fun hHeld => ?_)
   clear hK
   (try simp only [p0, p1, p2, p3])
   refine pR1 5 (fun K hK => ?_)
   go_simp
   (go_at_call 59; with_reducible refine (cor_two K61).mono ?_)
   rintro _ w65 ⟨rfl, hb⟩
   (try go_wp2_with fail)
   replace K12 := K12.on hb
   replace K19 := K19.on hb
   replace KNa_0 := KNa_0.on hb
   replace KNb_0 := KNb_0.on hb
   replace Z13 := Z13.on hb
   replace Z20 := Z20.on hb
   replace Og := Og.kp (Kept.of hb)
   replace Oh := Oh.kp (Kept.of hb)
   replace BW := BW.trans (hb.mono BW.size)
   clear hb
   clear hHeld
   refine hK.out _ _ (by exact ⟨KNa_0.cs, KNb_0.cs⟩) (fun hHeld => ?_)
   clear hK
   (try simp only [p0, p1, p2, p3])
   refine pR1 6 (fun K hK => ?_)
   go_simp
   (go_at_call 96; with_reducible refine (i_bothF (ov_both Og Oh) (by decide)).mono ?_)
   rintro _ w66 ⟨f, k, er, rfl, R, hb⟩
   (try go_wp2_with fail)
   replace K12 := K12.on hb
   replace K19 := K19.on hb
   replace KNa_0 := KNa_0.on hb
   replace KNb_0 := KNb_0.on hb
   replace Z13 := Z13.on hb
   replace Z20 := Z20.on hb
   replace BW := BW.trans (hb.mono BW.size)
   clear hb
   clear hHeld
   refine hK.out _ _ (by exact ⟨KNa_0.cs, KNb_0.cs⟩) (fun hHeld => ?_)
   clear hK
   (try simp only [p0, p1, p2, p3])
   refine pT 7 ?_
   (try simp only [p0, p1, p2, p3])
   refine pT 8 ?_
   (try simp only [p0, p1, p2, p3])
   refine pT 9 ?_
   (try simp only [p0, p1, p2, p3])
   refine pR1 10 (fun K hK => ?_)
   obtain ⟨c67, c68, c69, c70⟩ := K12.c4
   obtain ⟨c71, c72, c73, c74⟩ := Z13.f4
   go_simp
   clear c67 c68 c69 c70 c71 c72 c73 c74
   obtain ⟨V75, hk77⟩ : ∃ V75, V75 = w66.setCells (w.heap.size + 1) 0 [.bool f.n, .slice f.A f.xs.length f.c, .bool f.m, .slice f.B f.ds.length f.d] := ⟨_, rfl⟩
   have e76 := hk77
   simp only [World.setCells, Nat.zero_add, Nat.reduceAdd] at e76
   have hk78 := Kept.overE hk77 K12 rfl (Nat.le_of_ble_eq_true rfl)
   replace K12 := K12.overE hk77 rfl
   replace K19 := K19.awayE hk77 n22.symm
   replace KNa_0 := KNa_0.awayE hk77 nn51
   replace KNb_0 := KNb_0.awayE hk77 nn55
   replace Z20 := Z20.putE hk77
   replace R := R.kp hk78
   replace BW := Below.putE BW hk77 g15
   clear hk77 hk78
   rw [← e76]
   clear e76
   clear hHeld
   refine hK.out _ _ (by exact ⟨KNa_0.cs, KNb_0.cs⟩) (fun hHeld => ?_)
   clear hK
   (try simp only [p0, p1, p2, p3])
   refine pR1 11 (fun K hK => ?_)
   obtain ⟨c79, c80, c81, c82⟩ := K19.c4
   obtain ⟨c83, c84, c85, c86⟩ := Z20.f4
   go_simp
   clear c79 c80 c81 c82 c83 c84 c85 c86
   obtain ⟨V87, hk89⟩ : ∃ V87, V87 = V75.setCells (w.heap.size + 1 + 1) 0 [.bool k.n, .slice k.A k.xs.length k.c, .bool k.m, .slice k.B k.ds.length k.d] := ⟨_, rfl⟩
   have e88 := hk89
   simp only [World.setCells, Nat.zero_add, Nat.reduceAdd] at e88
   have hk90 := Kept.overE hk89 K19 rfl (Nat.le_of_ble_eq_true rfl)
   replace K12 := K12.awayE hk89 n22
   replace K19 := K19.overE hk89 rfl
   replace KNa_0 := KNa_0.awayE hk89 nn52
   replace KNb_0 := KNb_0.awayE hk89 nn56
   replace R := R.kp hk90
   replace BW := Below.putE BW hk89 g23
   clear hk89 hk90
   rw [← e88]
   clear e88
   clear hHeld
   refine hK.out _ _ (by exact ⟨KNa_0.cs, KNb_0.cs⟩) (fun hHeld => ?_)
   clear hK
   (try simp only [p0, p1, p2, p3])
   refine pT 12 ?_
   (try simp only [p0, p1, p2, p3])
   refine wpAnyH_done (by kernel_rfl) (NoPanic.normal ?_) _
   go_wp2
   obtain ⟨c91, c92, c93, c94⟩ := K12.c4
   obtain ⟨c95, c96, c97, c98⟩ := K19.c4
   exact bodyPost_ret (v := .tuple #[fv f, fv k, .int .i64 er]) (by simp [results, Tryz.results44, go_sem, c91, c92, c93, c94, c95, c96, c97, c98]) rfl ⟨f, k, er, rfl, pl_is R, BW⟩
end Go.Proofs.YtplgheabhekedaaGreat
