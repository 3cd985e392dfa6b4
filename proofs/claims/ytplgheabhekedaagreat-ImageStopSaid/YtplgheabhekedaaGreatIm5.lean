/-
  What Stop answers. Conditions: as each theorem states.
-/
import Derived.Test.YtplgheabhekedaaGreatIm2
import Derived.Deep.RegionHeld3
import Derived.Deep.DeepCutAuto
import Derived.BigRegion
namespace Go.Proofs.YtplgheabhekedaaGreat
open Go.RowKit Nb

theorem absQ_zero {x : Rat} : absQ x = 0 ↔ x = 0 := by
 unfold absQ
 split
 ·constructor <;> intro h <;> grind
 ·exact Iff.rfl
theorem st_is {W : World} {q : Mq} {x : Rat} {f : Fv} {e : Int} (hb : q.b ≠ 0) (hx : 0 ≤ x) (h : Fr W False (x / absQ q.b) f e) : StIs W q x f e := by
 rcases fr_cases h with ⟨_, h2, h3⟩ | ⟨h1, h2, h3⟩
 ·exact .inl ⟨hb, hx, h2, h3⟩
 ·exact .inr (.inr (.inr ⟨hb, hx, h2, h3, h1⟩))
set_option maxHeartbeats 16000000 in
set_option maxRecDepth 100000 in
theorem i_StopNo {m : Mv} {a : Fv} {w : World} (X : Xm w m) (A : Fx w a) (hn : ¬ (MayM w m ∧ okv a)) :
    Calls Tryz.prog 48 #[mv m, fv a] w (fun e w' => e = .returned (.tuple #[.agg #[.bool false, .slice none 0 0, .bool false, .slice none 0 0], .int .i64 1]) ∧ Below w.heap.size w w') := by
 have HX := Lib.hid X
 have HN := Lib.hid hn
 clear hn
 have BW : Below w.heap.size w w := Below.refl _ _
 obtain ⟨V2, e3, hb4, K5, Z6, z1⟩ := alloc_new w [.bool m.A.n, .slice m.A.A m.A.xs.length m.A.c, .bool m.A.m, .slice m.A.B m.A.ds.length m.A.d, .bool m.B.n, .slice m.B.A m.B.xs.length m.B.c, .bool m.B.m, .slice m.B.B m.B.ds.length m.B.d, .bool m.C.n, .slice m.C.A m.C.xs.length m.C.c, .bool m.C.m, .slice m.C.B m.C.ds.length m.C.d, .bool m.D.n, .slice m.D.A m.D.xs.length m.D.c, .bool m.D.m, .slice m.D.B m.D.ds.length m.D.d] 31
 replace K5 : Box V2 (w.heap.size) (mcs m) := K5
 have g7 : w.heap.size ≤ w.heap.size := BW.size
 replace X := X.kp (Kept.of hb4)
 replace A := A.kp (Kept.of hb4)
 replace BW := BW.trans (hb4.mono BW.size)
 clear hb4
 obtain ⟨V9, e10, hb11, K12, Z13, z8⟩ := alloc_new V2 [.bool a.n, .slice a.A a.xs.length a.c, .bool a.m, .slice a.B a.ds.length a.d] 29
 rw [z1] at K12 Z13 z8
 have n14 : w.heap.size ≠ w.heap.size + 1 := Nat.ne_of_lt (z1 ▸ K5.lt)
 have g15 : w.heap.size ≤ w.heap.size + 1 := z1 ▸ BW.size
 replace K5 := K5.on hb11
 replace Z6 := Z6.on hb11
 replace X := X.kp (Kept.of hb11)
 replace A := A.kp (Kept.of hb11)
 replace BW := BW.trans (hb11.mono BW.size)
 clear hb11
 obtain ⟨V16, e17, hb18, K19, Z20, -⟩ := alloc_new V9 [.bool false, .slice none 0 0, .bool false, .slice none 0 0] 29
 rw [z8] at K19 Z20
 have n21 : w.heap.size ≠ w.heap.size + 1 + 1 := Nat.ne_of_lt (z8 ▸ K5.lt)
 have n22 : w.heap.size + 1 ≠ w.heap.size + 1 + 1 := Nat.ne_of_lt (z8 ▸ K12.lt)
 have g23 : w.heap.size ≤ w.heap.size + 1 + 1 := z8 ▸ BW.size
 replace K5 := K5.on hb18
 replace K12 := K12.on hb18
 replace Z6 := Z6.on hb18
 replace Z13 := Z13.on hb18
 replace X := X.kp (Kept.of hb18)
 replace A := A.kp (Kept.of hb18)
 replace BW := BW.trans (hb18.mono BW.size)
 clear hb18
 clear z1 z8
 go_enter Tryz.func48, Tryz.ntmps48
 go_wp2_with fail
 rw [← e3, ← e10, ← e17]
 clear e3 e10 e17
 go_cut [6] (fun sw0 wx => sw0 = .int .i64 1 ∧ Below w.heap.size w wx ∧ Box wx (w.heap.size) (mcs m) ∧ Box wx (w.heap.size + 1) [.bool a.n, .slice a.A a.xs.length a.c, .bool a.m, .slice a.B a.ds.length a.d] ∧ Box wx (w.heap.size + 1 + 1) [.bool false, .slice none 0 0, .bool false, .slice none 0 0] ∧ Fz wx (w.heap.size) ∧ Fz wx (w.heap.size + 1) ∧ Fz wx (w.heap.size + 1 + 1) ∧ Xm wx m ∧ Fx wx a)
 case first =>
  refine wp_region_noPanic ?_
  have hb : Below V16.heap.size V16 V16.drew := (Below.refl _ _).drew
  replace K5 := K5.on hb
  replace K12 := K12.on hb
  replace K19 := K19.on hb
  replace Z6 := Z6.on hb
  replace Z13 := Z13.on hb
  replace Z20 := Z20.on hb
  replace X := X.kp (Kept.of hb)
  replace A := A.kp (Kept.of hb)
  replace BW := BW.trans (hb.mono BW.size)
  clear hb
  refine wp_region_held_drew (S := (fun wx => Box wx (w.heap.size) [.bool m.A.n, .slice m.A.A m.A.xs.length m.A.c, .bool m.A.m, .slice m.A.B m.A.ds.length m.A.d, .bool m.B.n, .slice m.B.A m.B.xs.length m.B.c, .bool m.B.m, .slice m.B.B m.B.ds.length m.B.d, .bool m.C.n, .slice m.C.A m.C.xs.length m.C.c, .bool m.C.m, .slice m.C.B m.C.ds.length m.C.d, .bool m.D.n, .slice m.D.A m.D.xs.length m.D.c, .bool m.D.m, .slice m.D.B m.D.ds.length m.D.d] ∧ Cs wx (w.heap.size + 1) 0 [.bool a.n, .slice a.A a.xs.length a.c, .bool a.m, .slice a.B a.ds.length a.d])) (by kernel_rfl) (by exact ⟨K5, K12.cs⟩) (fun hHeld => ?_)
  generalize V16.drew = Vd24 at *
  refine pT 0 ?_ (hy := fun wt hSw => ldM rfl rfl hSw.1)
  (try simp only [p0, p1, p2, p3])
  refine pT 2 ?_
  (try simp only [p0, p1, p2, p3])
  refine pR1 1 (fun K hK => ?_)
  go_simp
  (go_at_call 18; with_reducible refine (y_check X).mono ?_)
  rintro _ w25 ⟨r, rfl, hr, hb⟩
  (try go_wp2_with fail)
  replace K5 := K5.on hb
  replace K12 := K12.on hb
  replace K19 := K19.on hb
  replace Z6 := Z6.on hb
  replace Z13 := Z13.on hb
  replace Z20 := Z20.on hb
  replace X := X.kp (Kept.of hb)
  replace A := A.kp (Kept.of hb)
  replace BW := BW.trans (hb.mono BW.size)
  clear hb
  have HR := Lib.hid (im_or HX.out HN.out hr)
  clear hr
  clear hHeld
  refine hK.out _ _ (by exact ⟨K5, K12.cs⟩) (fun hHeld => ?_)
  clear hK
  (try simp only [p0, p1, p2, p3])
  refine pR1 3 (fun K hK => ?_)
  go_simp
  (go_at_call 62; with_reducible refine (r_check A).mono ?_)
  rintro _ w26 ⟨rfl, hb⟩
  (try go_wp2_with fail)
  replace K5 := K5.on hb
  replace K12 := K12.on hb
  replace K19 := K19.on hb
  replace Z6 := Z6.on hb
  replace Z13 := Z13.on hb
  replace Z20 := Z20.on hb
  replace X := X.kp (Kept.of hb)
  replace A := A.kp (Kept.of hb)
  replace BW := BW.trans (hb.mono BW.size)
  clear hb
  clear hHeld
  refine hK.out _ _ (by exact ⟨K5, K12.cs⟩) (fun hHeld => ?_)
  clear hK
  (try simp only [p0, p1, p2, p3])
  refine pR1 4 (fun K hK => ?_)
  go_simp
  obtain ⟨V27, e28, hb29, K30, -, -⟩ := alloc_new w26 [.int .i64 r, .int .i64 (chkv a)] 32
  have n31 : w.heap.size ≠ w26.heap.size := Nat.ne_of_lt (K5.lt)
  have n32 : w.heap.size + 1 ≠ w26.heap.size := Nat.ne_of_lt (K12.lt)
  have n33 : w.heap.size + 1 + 1 ≠ w26.heap.size := Nat.ne_of_lt (K19.lt)
  replace K5 := K5.on hb29
  replace K12 := K12.on hb29
  replace K19 := K19.on hb29
  replace Z6 := Z6.on hb29
  replace Z13 := Z13.on hb29
  replace Z20 := Z20.on hb29
  replace X := X.kp (Kept.of hb29)
  replace A := A.kp (Kept.of hb29)
  replace BW := BW.trans (hb29.mono BW.size)
  clear hb29
  rw [← e28]
  clear e28
  generalize w26.heap.size = b34 at *
  clear hHeld
  refine hK.out _ _ (by exact ⟨K5, K12.cs⟩) (fun hHeld => ?_)
  clear hK
  (try simp only [p0, p1, p2, p3])
  refine pR1 5 (fun K hK => ?_)
  go_simp
  (go_at_call 59; with_reducible refine (cor_two K30).mono ?_)
  rintro _ w35 ⟨rfl, hb⟩
  (try go_wp2_with fail)
  replace K5 := K5.on hb
  replace K12 := K12.on hb
  replace K19 := K19.on hb
  replace Z6 := Z6.on hb
  replace Z13 := Z13.on hb
  replace Z20 := Z20.on hb
  replace X := X.kp (Kept.of hb)
  replace A := A.kp (Kept.of hb)
  replace BW := BW.trans (hb.mono BW.size)
  clear hb
  rw [HR.out]
  clear hHeld
  refine hK.out _ _ (by exact ⟨K5, K12.cs⟩) (fun hHeld => ?_)
  clear hK
  (try simp only [p0, p1, p2, p3])
  refine pT 6 ?_
  (try simp only [p0, p1, p2, p3])
  refine wpAnyH_done (by kernel_rfl) (NoPanic.normal ?_) _
  go_wp2
  go_meet
  exact ⟨rfl, BW, K5, K12, K19, Z6, Z13, Z20, X, A⟩
 case rest =>
  obtain ⟨rfl, BW, K5, K12, K19, Z6, Z13, Z20, X, A⟩ := hcut
  obtain ⟨c24, c25, c26, c27⟩ := K19.c4
  obtain ⟨c28, c29, c30, c31⟩ := Z20.f4
  obtain ⟨V32, hk34⟩ : ∃ V32, V32 = wc.setCells (w.heap.size + 1 + 1) 0 [.bool false, .slice none 0 0, .bool false, .slice none 0 0] := ⟨_, rfl⟩
  have e33 := hk34
  simp only [World.setCells, Nat.zero_add, Nat.reduceAdd] at e33
  have hk35 := Kept.overE hk34 K19 rfl (Nat.le_of_ble_eq_true rfl)
  replace K19 := K19.overE hk34 rfl
  replace BW := Below.putE BW hk34 g23
  clear hk34 hk35
  go_wp2_with fail
  clear c24 c25 c26 c27 c28 c29 c30 c31
  rw [← e33]
  clear e33
  obtain ⟨c36, c37, c38, c39⟩ := K19.c4
  exact bodyPost_ret (v := .tuple #[.agg #[.bool false, .slice none 0 0, .bool false, .slice none 0 0], .int .i64 1]) (by simp [results, Tryz.results48, go_sem, c36, c37, c38, c39]) rfl ⟨rfl, BW⟩
set_option maxHeartbeats 16000000 in
set_option maxRecDepth 100000 in
theorem i_Stop {q : Mq} {x : Rat} {m : Mv} {a : Fv} {w : World} (G : Fm w q m) (A : Ff w x a) (hd : q.det = 1) :
    Calls Tryz.prog 48 #[mv m, fv a] w (fun e w' => ∃ (f : Fv) (er : Int), e = .returned (.tuple #[fv f, .int .i64 er]) ∧ StIs w' q x f er ∧ Below w.heap.size w w') := by
 have HD := Lib.hid hd
 clear hd
 have BW : Below w.heap.size w w := Below.refl _ _
 obtain ⟨V2, e3, hb4, K5, Z6, z1⟩ := alloc_new w [.bool m.A.n, .slice m.A.A m.A.xs.length m.A.c, .bool m.A.m, .slice m.A.B m.A.ds.length m.A.d, .bool m.B.n, .slice m.B.A m.B.xs.length m.B.c, .bool m.B.m, .slice m.B.B m.B.ds.length m.B.d, .bool m.C.n, .slice m.C.A m.C.xs.length m.C.c, .bool m.C.m, .slice m.C.B m.C.ds.length m.C.d, .bool m.D.n, .slice m.D.A m.D.xs.length m.D.c, .bool m.D.m, .slice m.D.B m.D.ds.length m.D.d] 31
 replace K5 : Box V2 (w.heap.size) (mcs m) := K5
 have g7 : w.heap.size ≤ w.heap.size := BW.size
 replace G := G.kp (Kept.of hb4)
 replace A := A.kp (Kept.of hb4)
 replace BW := BW.trans (hb4.mono BW.size)
 clear hb4
 obtain ⟨V9, e10, hb11, K12, Z13, z8⟩ := alloc_new V2 [.bool a.n, .slice a.A a.xs.length a.c, .bool a.m, .slice a.B a.ds.length a.d] 29
 rw [z1] at K12 Z13 z8
 have n14 : w.heap.size ≠ w.heap.size + 1 := Nat.ne_of_lt (z1 ▸ K5.lt)
 have g15 : w.heap.size ≤ w.heap.size + 1 := z1 ▸ BW.size
 replace K5 := K5.on hb11
 replace Z6 := Z6.on hb11
 replace G := G.kp (Kept.of hb11)
 replace A := A.kp (Kept.of hb11)
 replace BW := BW.trans (hb11.mono BW.size)
 clear hb11
 obtain ⟨V16, e17, hb18, K19, Z20, -⟩ := alloc_new V9 [.bool false, .slice none 0 0, .bool false, .slice none 0 0] 29
 rw [z8] at K19 Z20
 have n21 : w.heap.size ≠ w.heap.size + 1 + 1 := Nat.ne_of_lt (z8 ▸ K5.lt)
 have n22 : w.heap.size + 1 ≠ w.heap.size + 1 + 1 := Nat.ne_of_lt (z8 ▸ K12.lt)
 have g23 : w.heap.size ≤ w.heap.size + 1 + 1 := z8 ▸ BW.size
 replace K5 := K5.on hb18
 replace K12 := K12.on hb18
 replace Z6 := Z6.on hb18
 replace Z13 := Z13.on hb18
 replace G := G.kp (Kept.of hb18)
 replace A := A.kp (Kept.of hb18)
 replace BW := BW.trans (hb18.mono BW.size)
 clear hb18
 clear z1 z8
 go_enter Tryz.func48, Tryz.ntmps48
 go_wp2_with fail
 rw [← e3, ← e10, ← e17]
 clear e3 e10 e17
 go_cut [6] (fun sw0 wx => sw0 = .int .i64 0 ∧ Below w.heap.size w wx ∧ Box wx (w.heap.size) (mcs m) ∧ Box wx (w.heap.size + 1) [.bool a.n, .slice a.A a.xs.length a.c, .bool a.m, .slice a.B a.ds.length a.d] ∧ Box wx (w.heap.size + 1 + 1) [.bool false, .slice none 0 0, .bool false, .slice none 0 0] ∧ Fz wx (w.heap.size) ∧ Fz wx (w.heap.size + 1) ∧ Fz wx (w.heap.size + 1 + 1) ∧ Fm wx (q) m ∧ Ff wx (x) a)
 case first =>
  refine wp_region_noPanic ?_
  have hb : Below V16.heap.size V16 V16.drew := (Below.refl _ _).drew
  replace K5 := K5.on hb
  replace K12 := K12.on hb
  replace K19 := K19.on hb
  replace Z6 := Z6.on hb
  replace Z13 := Z13.on hb
  replace Z20 := Z20.on hb
  replace G := G.kp (Kept.of hb)
  replace A := A.kp (Kept.of hb)
  replace BW := BW.trans (hb.mono BW.size)
  clear hb
  refine wp_region_held_drew (S := (fun wx => Box wx (w.heap.size) [.bool m.A.n, .slice m.A.A m.A.xs.length m.A.c, .bool m.A.m, .slice m.A.B m.A.ds.length m.A.d, .bool m.B.n, .slice m.B.A m.B.xs.length m.B.c, .bool m.B.m, .slice m.B.B m.B.ds.length m.B.d, .bool m.C.n, .slice m.C.A m.C.xs.length m.C.c, .bool m.C.m, .slice m.C.B m.C.ds.length m.C.d, .bool m.D.n, .slice m.D.A m.D.xs.length m.D.c, .bool m.D.m, .slice m.D.B m.D.ds.length m.D.d] ∧ Cs wx (w.heap.size + 1) 0 [.bool a.n, .slice a.A a.xs.length a.c, .bool a.m, .slice a.B a.ds.length a.d])) (by kernel_rfl) (by exact ⟨K5, K12.cs⟩) (fun hHeld => ?_)
  generalize V16.drew = Vd24 at *
  refine pT 0 ?_ (hy := fun wt hSw => ldM rfl rfl hSw.1)
  (try simp only [p0, p1, p2, p3])
  refine pT 2 ?_
  (try simp only [p0, p1, p2, p3])
  refine pR1 1 (fun K hK => ?_)
  go_simp
  (go_at_call 18; with_reducible refine (y_check0 G HD.out).mono ?_)
  rintro _ w25 ⟨rfl, hb⟩
  (try go_wp2_with fail)
  replace K5 := K5.on hb
  replace K12 := K12.on hb
  replace K19 := K19.on hb
  replace Z6 := Z6.on hb
  replace Z13 := Z13.on hb
  replace Z20 := Z20.on hb
  replace G := G.kp (Kept.of hb)
  replace A := A.kp (Kept.of hb)
  replace BW := BW.trans (hb.mono BW.size)
  clear hb
  clear hHeld
  refine hK.out _ _ (by exact ⟨K5, K12.cs⟩) (fun hHeld => ?_)
  clear hK
  (try simp only [p0, p1, p2, p3])
  refine pR1 3 (fun K hK => ?_)
  go_simp
  (go_at_call 62; with_reducible refine (f_check0 A).mono ?_)
  rintro _ w26 ⟨rfl, hb⟩
  (try go_wp2_with fail)
  replace K5 := K5.on hb
  replace K12 := K12.on hb
  replace K19 := K19.on hb
  replace Z6 := Z6.on hb
  replace Z13 := Z13.on hb
  replace Z20 := Z20.on hb
  replace G := G.kp (Kept.of hb)
  replace A := A.kp (Kept.of hb)
  replace BW := BW.trans (hb.mono BW.size)
  clear hb
  clear hHeld
  refine hK.out _ _ (by exact ⟨K5, K12.cs⟩) (fun hHeld => ?_)
  clear hK
  (try simp only [p0, p1, p2, p3])
  refine pR1 4 (fun K hK => ?_)
  go_simp
  obtain ⟨V27, e28, hb29, K30, -, -⟩ := alloc_new w26 [.int .i64 0, .int .i64 0] 32
  have n31 : w.heap.size ≠ w26.heap.size := Nat.ne_of_lt (K5.lt)
  have n32 : w.heap.size + 1 ≠ w26.heap.size := Nat.ne_of_lt (K12.lt)
  have n33 : w.heap.size + 1 + 1 ≠ w26.heap.size := Nat.ne_of_lt (K19.lt)
  replace K5 := K5.on hb29
  replace K12 := K12.on hb29
  replace K19 := K19.on hb29
  replace Z6 := Z6.on hb29
  replace Z13 := Z13.on hb29
  replace Z20 := Z20.on hb29
  replace G := G.kp (Kept.of hb29)
  replace A := A.kp (Kept.of hb29)
  replace BW := BW.trans (hb29.mono BW.size)
  clear hb29
  rw [← e28]
  clear e28
  generalize w26.heap.size = b34 at *
  clear hHeld
  refine hK.out _ _ (by exact ⟨K5, K12.cs⟩) (fun hHeld => ?_)
  clear hK
  (try simp only [p0, p1, p2, p3])
  refine pR1 5 (fun K hK => ?_)
  go_simp
  (go_at_call 59; with_reducible refine (cor_zero K30).mono ?_)
  rintro _ w35 ⟨rfl, hb⟩
  (try go_wp2_with fail)
  replace K5 := K5.on hb
  replace K12 := K12.on hb
  replace K19 := K19.on hb
  replace Z6 := Z6.on hb
  replace Z13 := Z13.on hb
  replace Z20 := Z20.on hb
  replace G := G.kp (Kept.of hb)
  replace A := A.kp (Kept.of hb)
  replace BW := BW.trans (hb.mono BW.size)
  clear hb
  clear hHeld
  refine hK.out _ _ (by exact ⟨K5, K12.cs⟩) (fun hHeld => ?_)
  clear hK
  (try simp only [p0, p1, p2, p3])
  refine pT 6 ?_
  (try simp only [p0, p1, p2, p3])
  refine wpAnyH_done (by kernel_rfl) (NoPanic.normal ?_) _
  go_wp2
  go_meet
  exact ⟨rfl, BW, K5, K12, K19, Z6, Z13, Z20, G, A⟩
 case rest =>
  obtain ⟨rfl, BW, K5, K12, K19, Z6, Z13, Z20, G, A⟩ := hcut
  obtain ⟨c24, c25, c26, c27⟩ := K12.c4
  go_wp2_with fail
  clear c24 c25 c26 c27
  refine (r_sign A).mono ?_
  rintro _ w28 ⟨rfl, hb⟩
  replace K5 := K5.on hb
  replace K12 := K12.on hb
  replace K19 := K19.on hb
  replace Z20 := Z20.on hb
  replace G := G.kp (Kept.of hb)
  replace A := A.kp (Kept.of hb)
  replace BW := BW.trans (hb.mono BW.size)
  clear hb
  generalize hs : sgnQ x = s at *
  have HS := Lib.hid hs
  clear hs
  by_cases h0 : s < 0
  ·have hs1 : decide (s < 0) = true := by simp; omega
   have HN := Lib.hid h0
   clear h0
   obtain ⟨c29, c30, c31, c32⟩ := K19.c4
   obtain ⟨c33, c34, c35, c36⟩ := Z20.f4
   obtain ⟨V37, hk39⟩ : ∃ V37, V37 = w28.setCells (w.heap.size + 1 + 1) 0 [.bool false, .slice none 0 0, .bool false, .slice none 0 0] := ⟨_, rfl⟩
   have e38 := hk39
   simp only [World.setCells, Nat.zero_add, Nat.reduceAdd] at e38
   have hk40 := Kept.overE hk39 K19 rfl (Nat.le_of_ble_eq_true rfl)
   replace K5 := K5.awayE hk39 n21
   replace K12 := K12.awayE hk39 n22
   replace K19 := K19.overE hk39 rfl
   replace Z20 := Z20.putE hk39
   replace BW := Below.putE BW hk39 g23
   clear hk39 hk40
   go_wp2_with fail
   clear c29 c30 c31 c32 c33 c34 c35 c36
   rw [← e38]
   clear e38
   obtain ⟨c41, c42, c43, c44⟩ := K19.c4
   exact bodyPost_ret (v := .tuple #[.agg #[.bool false, .slice none 0 0, .bool false, .slice none 0 0], .int .i64 1]) (by simp [results, Tryz.results48, go_sem, c41, c42, c43, c44]) rfl ⟨fv0, 1, rfl, .inr (.inl ⟨rfl, Rat.not_le.1 (fun h => by have h1 := sgn_ge.2 h; rw [HS.out] at h1; have h2 := HN.out; omega), rfl⟩), BW⟩
  ·have hs1 : decide (s < 0) = false := by simp; omega
   have HY := Lib.hid (sgn_ge.1 (show 0 ≤ sgnQ x by rw [HS.out]; omega))
   clear h0
   obtain ⟨c29, c30, c31, c32, c33, c34, c35, c36, c37, c38, c39, c40, c41, c42, c43, c44⟩ := K5.c16
   go_wp2_with fail
   clear c29 c30 c31 c32 c33 c34 c35 c36 c37 c38 c39 c40 c41 c42 c43 c44
   clear hs1
   refine (q_from G.fB).mono ?_
   rintro _ w45 ⟨b, rfl, LB, hb⟩
   replace K5 := K5.on hb
   replace K12 := K12.on hb
   replace K19 := K19.on hb
   replace Z20 := Z20.on hb
   replace G := G.kp (Kept.of hb)
   replace A := A.kp (Kept.of hb)
   replace BW := BW.trans (hb.mono BW.size)
   clear hb
   clear G
   obtain ⟨V46, e47, hb48, K49, Z50, -⟩ := alloc_new w45 [.bool b.n, .slice b.A b.xs.length b.c, .bool b.m, .slice b.B b.ds.length b.d] 88
   have n51 : w.heap.size ≠ w45.heap.size := Nat.ne_of_lt (K5.lt)
   have n52 : w.heap.size + 1 ≠ w45.heap.size := Nat.ne_of_lt (K12.lt)
   have n53 : w.heap.size + 1 + 1 ≠ w45.heap.size := Nat.ne_of_lt (K19.lt)
   have g54 : w.heap.size ≤ w45.heap.size := BW.size
   replace K5 := K5.on hb48
   replace K12 := K12.on hb48
   replace K19 := K19.on hb48
   replace Z20 := Z20.on hb48
   replace A := A.kp (Kept.of hb48)
   replace LB := LB.kp (Kept.of hb48)
   replace BW := BW.trans (hb48.mono BW.size)
   clear hb48
   go_wp2_with fail
   rw [← e47]
   clear e47
   generalize w45.heap.size = b55 at *
   refine (b_sign LB (by decide)).mono ?_
   rintro _ w56 ⟨rfl, hb⟩
   replace K5 := K5.on hb
   replace K12 := K12.on hb
   replace K19 := K19.on hb
   replace K49 := K49.on hb
   replace Z20 := Z20.on hb
   replace Z50 := Z50.on hb
   replace A := A.kp (Kept.of hb)
   replace LB := LB.kp (Kept.of hb)
   replace BW := BW.trans (hb.mono BW.size)
   clear hb
   generalize ht : sgnQ q.b = t at *
   have HT := Lib.hid ht
   clear ht
   by_cases ht : t < 0
   ·have ht1 : decide (t < 0) = true := by simp; omega
    have HU := Lib.hid (show q.b < 0 from Rat.not_le.1 (fun h => by have h1 := sgn_ge.2 h; rw [HT.out] at h1; omega))
    clear ht
    obtain ⟨c57, c58, c59, c60⟩ := K49.c4
    go_wp2_with fail
    clear c57 c58 c59 c60
    clear ht1
    refine (q_neg LB (by decide)).mono ?_
    rintro _ w61 ⟨n, rfl, LN, hb⟩
    replace K5 := K5.on hb
    replace K12 := K12.on hb
    replace K19 := K19.on hb
    replace K49 := K49.on hb
    replace Z20 := Z20.on hb
    replace Z50 := Z50.on hb
    replace A := A.kp (Kept.of hb)
    replace LB := LB.kp (Kept.of hb)
    replace BW := BW.trans (hb.mono BW.size)
    clear hb
    replace LN : Fq w61 (absQ q.b) n 1024 := LN.to (by unfold absQ; rw [if_pos HU.out])
    clear LB
    obtain ⟨c62, c63, c64, c65⟩ := K49.c4
    obtain ⟨c66, c67, c68, c69⟩ := Z50.f4
    obtain ⟨V70, hk72⟩ : ∃ V70, V70 = w61.setCells (b55) 0 [.bool n.n, .slice n.A n.xs.length n.c, .bool n.m, .slice n.B n.ds.length n.d] := ⟨_, rfl⟩
    have e71 := hk72
    simp only [World.setCells, Nat.zero_add, Nat.reduceAdd] at e71
    have hk73 := Kept.overE hk72 K49 rfl (Nat.le_of_ble_eq_true rfl)
    replace K5 := K5.awayE hk72 n51
    replace K12 := K12.awayE hk72 n52
    replace K19 := K19.awayE hk72 n53
    replace K49 := K49.overE hk72 rfl
    replace Z20 := Z20.putE hk72
    replace A := A.kp hk73
    replace LN := LN.kp hk73
    replace BW := Below.putE BW hk72 g54
    clear hk72 hk73
    go_wp2_with fail
    clear c62 c63 c64 c65 c66 c67 c68 c69
    rw [← e71]
    clear e71
    go_cut [8, 9] (fun sv0 sw0 wx => ∃ (pku_0 : Nat) (g : Fv) (e1 : Int), sv0 = .pointer (some ⟨pku_0, 0, none⟩) ∧ sw0 = .int .i64 e1 ∧ Below w.heap.size w wx ∧ Box wx (w.heap.size + 1 + 1) [.bool false, .slice none 0 0, .bool false, .slice none 0 0] ∧ Fz wx (w.heap.size + 1 + 1) ∧ Box wx pku_0 [.bool g.n, .slice g.A g.xs.length g.c, .bool g.m, .slice g.B g.ds.length g.d] ∧ pku_0 ≠ w.heap.size + 1 + 1 ∧ OvIs wx x (absQ q.b) g e1 2050)
    case first =>
     refine wp_region_noPanic ?_
     have hb : Below V70.heap.size V70 V70.drew := (Below.refl _ _).drew
     replace K5 := K5.on hb
     replace K12 := K12.on hb
     replace K19 := K19.on hb
     replace K49 := K49.on hb
     replace Z20 := Z20.on hb
     replace A := A.kp (Kept.of hb)
     replace LN := LN.kp (Kept.of hb)
     replace BW := BW.trans (hb.mono BW.size)
     clear hb
     refine wp_region_held_drew (S := (fun wx => Cs wx (w.heap.size + 1) 0 [.bool a.n, .slice a.A a.xs.length a.c, .bool a.m, .slice a.B a.ds.length a.d] ∧ Cs wx (b55) 0 [.bool n.n, .slice n.A n.xs.length n.c, .bool n.m, .slice n.B n.ds.length n.d])) (by kernel_rfl) (by exact ⟨K12.cs, K49.cs⟩) (fun hHeld => ?_)
     generalize V70.drew = Vd74 at *
     refine pT 0 ?_
     (try simp only [p0, p1, p2, p3])
     refine pT 2 ?_
     (try simp only [p0, p1, p2, p3])
     refine pR2 1 7 (fun K hK => ?_) (fun K hK => ?_)
     ·go_simp
      (go_at_call 66; with_reducible refine (q_from A).mono ?_)
      rintro _ w75 ⟨f2, rfl, F2, hb⟩
      (try go_wp2_with fail)
      replace K5 := K5.on hb
      replace K12 := K12.on hb
      replace K19 := K19.on hb
      replace K49 := K49.on hb
      replace Z20 := Z20.on hb
      replace A := A.kp (Kept.of hb)
      replace LN := LN.kp (Kept.of hb)
      replace BW := BW.trans (hb.mono BW.size)
      clear hb
      clear hHeld
      refine hK.out _ _ (by exact ⟨K12.cs, K49.cs⟩) (fun hHeld => ?_)
      clear hK
      (try simp only [p0, p1, p2, p3])
      refine pR2 3 7 (fun K hK => ?_) (fun K hK => ?_)
      ·go_simp
       (go_at_call 94; with_reducible refine (i_ov F2 LN (by decide) (D := 2050) (by decide)).mono ?_)
       rintro _ w76 ⟨g, e1, rfl, O, hb⟩
       (try go_wp2_with fail)
       replace K5 := K5.on hb
       replace K12 := K12.on hb
       replace K19 := K19.on hb
       replace K49 := K49.on hb
       replace Z20 := Z20.on hb
       replace A := A.kp (Kept.of hb)
       replace LN := LN.kp (Kept.of hb)
       replace F2 := F2.kp (Kept.of hb)
       replace BW := BW.trans (hb.mono BW.size)
       clear hb
       clear hHeld
       refine hK.out _ _ (by exact ⟨K12.cs, K49.cs⟩) (fun hHeld => ?_)
       clear hK
       (try simp only [p0, p1, p2, p3])
       refine pT 4 ?_
       (try simp only [p0, p1, p2, p3])
       refine pT 5 ?_
       (try simp only [p0, p1, p2, p3])
       refine pT 6 ?_
       (try simp only [p0, p1, p2, p3])
       refine pR1 7 (fun K hK => ?_)
       go_simp
       obtain ⟨V77, e78, hb79, K80, Z81, -⟩ := alloc_new w76 [.bool false, .slice none 0 0, .bool false, .slice none 0 0] 88
       have n82 : w.heap.size ≠ w76.heap.size := Nat.ne_of_lt (K5.lt)
       have n83 : w.heap.size + 1 ≠ w76.heap.size := Nat.ne_of_lt (K12.lt)
       have n84 : w.heap.size + 1 + 1 ≠ w76.heap.size := Nat.ne_of_lt (K19.lt)
       have n85 : b55 ≠ w76.heap.size := Nat.ne_of_lt (K49.lt)
       have g86 : w.heap.size ≤ w76.heap.size := BW.size
       replace K5 := K5.on hb79
       replace K12 := K12.on hb79
       replace K19 := K19.on hb79
       replace K49 := K49.on hb79
       replace Z20 := Z20.on hb79
       replace A := A.kp (Kept.of hb79)
       replace LN := LN.kp (Kept.of hb79)
       replace F2 := F2.kp (Kept.of hb79)
       replace O := O.kp (Kept.of hb79)
       replace BW := BW.trans (hb79.mono BW.size)
       clear hb79
       rw [← e78]
       clear e78
       generalize w76.heap.size = b87 at *
       clear hHeld
       refine hK.out _ _ (by exact ⟨K12.cs, K49.cs⟩) (fun hHeld => ?_)
       clear hK
       (try simp only [p0, p1, p2, p3])
       refine pR1 8 (fun K hK => ?_)
       obtain ⟨c88, c89, c90, c91⟩ := K80.c4
       obtain ⟨c92, c93, c94, c95⟩ := Z81.f4
       go_simp
       clear c88 c89 c90 c91 c92 c93 c94 c95
       obtain ⟨V96, hk98⟩ : ∃ V96, V96 = V77.setCells (b87) 0 [.bool g.n, .slice g.A g.xs.length g.c, .bool g.m, .slice g.B g.ds.length g.d] := ⟨_, rfl⟩
       have e97 := hk98
       simp only [World.setCells, Nat.zero_add, Nat.reduceAdd] at e97
       have hk99 := Kept.overE hk98 K80 rfl (Nat.le_of_ble_eq_true rfl)
       replace K5 := K5.awayE hk98 n82
       replace K12 := K12.awayE hk98 n83
       replace K19 := K19.awayE hk98 n84
       replace K49 := K49.awayE hk98 n85
       replace K80 := K80.overE hk98 rfl
       replace Z20 := Z20.putE hk98
       replace A := A.kp hk99
       replace LN := LN.kp hk99
       replace F2 := F2.kp hk99
       replace O := O.kp hk99
       replace BW := Below.putE BW hk98 g86
       clear hk98 hk99
       rw [← e97]
       clear e97
       clear hHeld
       refine hK.out _ _ (by exact ⟨K12.cs, K49.cs⟩) (fun hHeld => ?_)
       clear hK
       (try simp only [p0, p1, p2, p3])
       refine pT 9 ?_
       (try simp only [p0, p1, p2, p3])
       refine wpAnyH_done (by kernel_rfl) (NoPanic.normal ?_) _
       go_wp2
       go_meet
       exact ⟨b87, g, e1, rfl, rfl, BW, K19, Z20, K80, n84.symm, O⟩
      ·go_simp
       obtain ⟨V76, e77, hb78, K79, Z80, -⟩ := alloc_new w75 [.bool false, .slice none 0 0, .bool false, .slice none 0 0] 88
       have n81 : w.heap.size ≠ w75.heap.size := Nat.ne_of_lt (K5.lt)
       have n82 : w.heap.size + 1 ≠ w75.heap.size := Nat.ne_of_lt (K12.lt)
       have n83 : w.heap.size + 1 + 1 ≠ w75.heap.size := Nat.ne_of_lt (K19.lt)
       have n84 : b55 ≠ w75.heap.size := Nat.ne_of_lt (K49.lt)
       have g85 : w.heap.size ≤ w75.heap.size := BW.size
       replace K5 := K5.on hb78
       replace K12 := K12.on hb78
       replace K19 := K19.on hb78
       replace K49 := K49.on hb78
       replace Z20 := Z20.on hb78
       replace A := A.kp (Kept.of hb78)
       replace LN := LN.kp (Kept.of hb78)
       replace F2 := F2.kp (Kept.of hb78)
       replace BW := BW.trans (hb78.mono BW.size)
       clear hb78
       rw [← e77]
       clear e77
       generalize w75.heap.size = b86 at *
       clear hHeld
       refine hK.out _ _ (by exact ⟨K12.cs, K49.cs⟩) (fun hHeld => ?_)
       clear hK
       (try simp only [p0, p1, p2, p3])
       refine pR1 3 (fun K hK => ?_)
       go_simp
       (go_at_call 94; with_reducible refine (i_ov F2 LN (by decide) (D := 2050) (by decide)).mono ?_)
       rintro _ w87 ⟨g, e1, rfl, O, hb⟩
       (try go_wp2_with fail)
       replace K5 := K5.on hb
       replace K12 := K12.on hb
       replace K19 := K19.on hb
       replace K49 := K49.on hb
       replace K79 := K79.on hb
       replace Z20 := Z20.on hb
       replace Z80 := Z80.on hb
       replace A := A.kp (Kept.of hb)
       replace LN := LN.kp (Kept.of hb)
       replace F2 := F2.kp (Kept.of hb)
       replace BW := BW.trans (hb.mono BW.size)
       clear hb
       clear hHeld
       refine hK.out _ _ (by exact ⟨K12.cs, K49.cs⟩) (fun hHeld => ?_)
       clear hK
       (try simp only [p0, p1, p2, p3])
       refine pT 4 ?_
       (try simp only [p0, p1, p2, p3])
       refine pT 5 ?_
       (try simp only [p0, p1, p2, p3])
       refine pT 6 ?_
       (try simp only [p0, p1, p2, p3])
       refine pR1 8 (fun K hK => ?_)
       obtain ⟨c88, c89, c90, c91⟩ := K79.c4
       obtain ⟨c92, c93, c94, c95⟩ := Z80.f4
       go_simp
       clear c88 c89 c90 c91 c92 c93 c94 c95
       obtain ⟨V96, hk98⟩ : ∃ V96, V96 = w87.setCells (b86) 0 [.bool g.n, .slice g.A g.xs.length g.c, .bool g.m, .slice g.B g.ds.length g.d] := ⟨_, rfl⟩
       have e97 := hk98
       simp only [World.setCells, Nat.zero_add, Nat.reduceAdd] at e97
       have hk99 := Kept.overE hk98 K79 rfl (Nat.le_of_ble_eq_true rfl)
       replace K5 := K5.awayE hk98 n81
       replace K12 := K12.awayE hk98 n82
       replace K19 := K19.awayE hk98 n83
       replace K49 := K49.awayE hk98 n84
       replace K79 := K79.overE hk98 rfl
       replace Z20 := Z20.putE hk98
       replace A := A.kp hk99
       replace LN := LN.kp hk99
       replace F2 := F2.kp hk99
       replace O := O.kp hk99
       replace BW := Below.putE BW hk98 g85
       clear hk98 hk99
       rw [← e97]
       clear e97
       clear hHeld
       refine hK.out _ _ (by exact ⟨K12.cs, K49.cs⟩) (fun hHeld => ?_)
       clear hK
       (try simp only [p0, p1, p2, p3])
       refine pT 9 ?_
       (try simp only [p0, p1, p2, p3])
       refine wpAnyH_done (by kernel_rfl) (NoPanic.normal ?_) _
       go_wp2
       go_meet
       exact ⟨b86, g, e1, rfl, rfl, BW, K19, Z20, K79, n83.symm, O⟩
     ·go_simp
      obtain ⟨V75, e76, hb77, K78, Z79, -⟩ := alloc_new Vd74 [.bool false, .slice none 0 0, .bool false, .slice none 0 0] 88
      have n80 : w.heap.size ≠ Vd74.heap.size := Nat.ne_of_lt (K5.lt)
      have n81 : w.heap.size + 1 ≠ Vd74.heap.size := Nat.ne_of_lt (K12.lt)
      have n82 : w.heap.size + 1 + 1 ≠ Vd74.heap.size := Nat.ne_of_lt (K19.lt)
      have n83 : b55 ≠ Vd74.heap.size := Nat.ne_of_lt (K49.lt)
      have g84 : w.heap.size ≤ Vd74.heap.size := BW.size
      replace K5 := K5.on hb77
      replace K12 := K12.on hb77
      replace K19 := K19.on hb77
      replace K49 := K49.on hb77
      replace Z20 := Z20.on hb77
      replace A := A.kp (Kept.of hb77)
      replace LN := LN.kp (Kept.of hb77)
      replace BW := BW.trans (hb77.mono BW.size)
      clear hb77
      rw [← e76]
      clear e76
      generalize Vd74.heap.size = b85 at *
      clear hHeld
      refine hK.out _ _ (by exact ⟨K12.cs, K49.cs⟩) (fun hHeld => ?_)
      clear hK
      (try simp only [p0, p1, p2, p3])
      refine pR1 1 (fun K hK => ?_)
      go_simp
      (go_at_call 66; with_reducible refine (q_from A).mono ?_)
      rintro _ w86 ⟨f2, rfl, F2, hb⟩
      (try go_wp2_with fail)
      replace K5 := K5.on hb
      replace K12 := K12.on hb
      replace K19 := K19.on hb
      replace K49 := K49.on hb
      replace K78 := K78.on hb
      replace Z20 := Z20.on hb
      replace Z79 := Z79.on hb
      replace A := A.kp (Kept.of hb)
      replace LN := LN.kp (Kept.of hb)
      replace BW := BW.trans (hb.mono BW.size)
      clear hb
      clear hHeld
      refine hK.out _ _ (by exact ⟨K12.cs, K49.cs⟩) (fun hHeld => ?_)
      clear hK
      (try simp only [p0, p1, p2, p3])
      refine pR1 3 (fun K hK => ?_)
      go_simp
      (go_at_call 94; with_reducible refine (i_ov F2 LN (by decide) (D := 2050) (by decide)).mono ?_)
      rintro _ w87 ⟨g, e1, rfl, O, hb⟩
      (try go_wp2_with fail)
      replace K5 := K5.on hb
      replace K12 := K12.on hb
      replace K19 := K19.on hb
      replace K49 := K49.on hb
      replace K78 := K78.on hb
      replace Z20 := Z20.on hb
      replace Z79 := Z79.on hb
      replace A := A.kp (Kept.of hb)
      replace F2 := F2.kp (Kept.of hb)
      replace BW := BW.trans (hb.mono BW.size)
      clear hb
      clear hHeld
      refine hK.out _ _ (by exact ⟨K12.cs, K49.cs⟩) (fun hHeld => ?_)
      clear hK
      (try simp only [p0, p1, p2, p3])
      refine pT 4 ?_
      (try simp only [p0, p1, p2, p3])
      refine pT 5 ?_
      (try simp only [p0, p1, p2, p3])
      refine pT 6 ?_
      (try simp only [p0, p1, p2, p3])
      refine pR1 8 (fun K hK => ?_)
      obtain ⟨c88, c89, c90, c91⟩ := K78.c4
      obtain ⟨c92, c93, c94, c95⟩ := Z79.f4
      go_simp
      clear c88 c89 c90 c91 c92 c93 c94 c95
      obtain ⟨V96, hk98⟩ : ∃ V96, V96 = w87.setCells (b85) 0 [.bool g.n, .slice g.A g.xs.length g.c, .bool g.m, .slice g.B g.ds.length g.d] := ⟨_, rfl⟩
      have e97 := hk98
      simp only [World.setCells, Nat.zero_add, Nat.reduceAdd] at e97
      have hk99 := Kept.overE hk98 K78 rfl (Nat.le_of_ble_eq_true rfl)
      replace K5 := K5.awayE hk98 n80
      replace K12 := K12.awayE hk98 n81
      replace K19 := K19.awayE hk98 n82
      replace K49 := K49.awayE hk98 n83
      replace K78 := K78.overE hk98 rfl
      replace Z20 := Z20.putE hk98
      replace A := A.kp hk99
      replace F2 := F2.kp hk99
      replace O := O.kp hk99
      replace BW := Below.putE BW hk98 g84
      clear hk98 hk99
      rw [← e97]
      clear e97
      clear hHeld
      refine hK.out _ _ (by exact ⟨K12.cs, K49.cs⟩) (fun hHeld => ?_)
      clear hK
      (try simp only [p0, p1, p2, p3])
      refine pT 9 ?_
      (try simp only [p0, p1, p2, p3])
      refine wpAnyH_done (by kernel_rfl) (NoPanic.normal ?_) _
      go_wp2
      go_meet
      exact ⟨b85, g, e1, rfl, rfl, BW, K19, Z20, K78, n82.symm, O⟩
    case rest =>
     obtain ⟨pku_0, g, e1, rfl, rfl, BW, K19, Z20, KNu_0, nn74, O⟩ := hcut
     rcases O with ⟨hb0, rfl, rfl⟩ | ⟨hb0, rfl, LG⟩
     ·have HB := Lib.hid (absQ_zero.1 hb0)
      clear hb0
      obtain ⟨c75, c76, c77, c78⟩ := K19.c4
      obtain ⟨c79, c80, c81, c82⟩ := Z20.f4
      obtain ⟨V83, hk85⟩ : ∃ V83, V83 = wc.setCells (w.heap.size + 1 + 1) 0 [.bool false, .slice none 0 0, .bool false, .slice none 0 0] := ⟨_, rfl⟩
      have e84 := hk85
      simp only [World.setCells, Nat.zero_add, Nat.reduceAdd] at e84
      have hk86 := Kept.overE hk85 K19 rfl (Nat.le_of_ble_eq_true rfl)
      replace K19 := K19.overE hk85 rfl
      replace KNu_0 := KNu_0.awayE hk85 nn74
      replace Z20 := Z20.putE hk85
      replace BW := Below.putE BW hk85 g23
      clear hk85 hk86
      go_wp2_with fail
      clear c75 c76 c77 c78 c79 c80 c81 c82
      rw [← e84]
      clear e84
      obtain ⟨c87, c88, c89, c90⟩ := K19.c4
      exact bodyPost_ret (v := .tuple #[.agg #[.bool false, .slice none 0 0, .bool false, .slice none 0 0], .int .i64 3]) (by simp [results, Tryz.results48, go_sem, c87, c88, c89, c90]) rfl ⟨fv0, 3, rfl, .inr (.inr (.inl ⟨HB.out, HY.out, rfl, rfl⟩)), BW⟩
     ·have HB := Lib.hid (fun h => hb0 (absQ_zero.2 h) : q.b ≠ 0)
      clear hb0
      obtain ⟨c75, c76, c77, c78⟩ := KNu_0.c4
      go_wp2_with fail
      clear c75 c76 c77 c78
      refine (q_fit LG (by decide)).mono ?_
      rintro _ w79 ⟨f, er, rfl, R, hb⟩
      replace K19 := K19.on hb
      replace Z20 := Z20.on hb
      replace LG := LG.kp (Kept.of hb)
      replace BW := BW.trans (hb.mono BW.size)
      clear hb
      obtain ⟨c80, c81, c82, c83⟩ := K19.c4
      obtain ⟨c84, c85, c86, c87⟩ := Z20.f4
      obtain ⟨V88, hk90⟩ : ∃ V88, V88 = w79.setCells (w.heap.size + 1 + 1) 0 [.bool f.n, .slice f.A f.xs.length f.c, .bool f.m, .slice f.B f.ds.length f.d] := ⟨_, rfl⟩
      have e89 := hk90
      simp only [World.setCells, Nat.zero_add, Nat.reduceAdd] at e89
      have hk91 := Kept.overE hk90 K19 rfl (Nat.le_of_ble_eq_true rfl)
      replace K19 := K19.overE hk90 rfl
      replace Z20 := Z20.putE hk90
      replace LG := LG.kp hk91
      replace R := R.kp hk91
      replace BW := Below.putE BW hk90 g23
      clear hk90 hk91
      go_wp2_with fail
      clear c80 c81 c82 c83 c84 c85 c86 c87
      rw [← e89]
      clear e89
      obtain ⟨c92, c93, c94, c95⟩ := K19.c4
      exact bodyPost_ret (v := .tuple #[fv f, .int .i64 er]) (by simp [results, Tryz.results48, go_sem, c92, c93, c94, c95]) rfl ⟨f, er, rfl, st_is HB.out HY.out R, BW⟩
   ·have ht1 : decide (t < 0) = false := by simp; omega
    have HU := Lib.hid (sgn_ge.1 (show 0 ≤ sgnQ q.b by rw [HT.out]; omega))
    clear ht
    go_wp2_with fail
    clear ht1
    replace LB : Fq w56 (absQ q.b) b 1024 := LB.to (by unfold absQ; rw [if_neg (Rat.not_lt.2 HU.out)])
    go_cut [8, 9] (fun sv0 sw0 wx => ∃ (pkv_0 : Nat) (g : Fv) (e1 : Int), sv0 = .pointer (some ⟨pkv_0, 0, none⟩) ∧ sw0 = .int .i64 e1 ∧ Below w.heap.size w wx ∧ Box wx (w.heap.size + 1 + 1) [.bool false, .slice none 0 0, .bool false, .slice none 0 0] ∧ Fz wx (w.heap.size + 1 + 1) ∧ Box wx pkv_0 [.bool g.n, .slice g.A g.xs.length g.c, .bool g.m, .slice g.B g.ds.length g.d] ∧ pkv_0 ≠ w.heap.size + 1 + 1 ∧ OvIs wx x (absQ q.b) g e1 2050)
    case first =>
     refine wp_region_noPanic ?_
     have hb : Below w56.heap.size w56 w56.drew := (Below.refl _ _).drew
     replace K5 := K5.on hb
     replace K12 := K12.on hb
     replace K19 := K19.on hb
     replace K49 := K49.on hb
     replace Z20 := Z20.on hb
     replace A := A.kp (Kept.of hb)
     replace LB := LB.kp (Kept.of hb)
     replace BW := BW.trans (hb.mono BW.size)
     clear hb
     refine wp_region_held_drew (S := (fun wx => Cs wx (w.heap.size + 1) 0 [.bool a.n, .slice a.A a.xs.length a.c, .bool a.m, .slice a.B a.ds.length a.d] ∧ Cs wx (b55) 0 [.bool b.n, .slice b.A b.xs.length b.c, .bool b.m, .slice b.B b.ds.length b.d])) (by kernel_rfl) (by exact ⟨K12.cs, K49.cs⟩) (fun hHeld => ?_)
     generalize w56.drew = Vd57 at *
     refine pT 0 ?_
     (try simp only [p0, p1, p2, p3])
     refine pT 2 ?_
     (try simp only [p0, p1, p2, p3])
     refine pR2 1 7 (fun K hK => ?_) (fun K hK => ?_)
     ·go_simp
      (go_at_call 66; with_reducible refine (q_from A).mono ?_)
      rintro _ w58 ⟨f2, rfl, F2, hb⟩
      (try go_wp2_with fail)
      replace K5 := K5.on hb
      replace K12 := K12.on hb
      replace K19 := K19.on hb
      replace K49 := K49.on hb
      replace Z20 := Z20.on hb
      replace A := A.kp (Kept.of hb)
      replace LB := LB.kp (Kept.of hb)
      replace BW := BW.trans (hb.mono BW.size)
      clear hb
      clear hHeld
      refine hK.out _ _ (by exact ⟨K12.cs, K49.cs⟩) (fun hHeld => ?_)
      clear hK
      (try simp only [p0, p1, p2, p3])
      refine pR2 3 7 (fun K hK => ?_) (fun K hK => ?_)
      ·go_simp
       (go_at_call 94; with_reducible refine (i_ov F2 LB (by decide) (D := 2050) (by decide)).mono ?_)
       rintro _ w59 ⟨g, e1, rfl, O, hb⟩
       (try go_wp2_with fail)
       replace K5 := K5.on hb
       replace K12 := K12.on hb
       replace K19 := K19.on hb
       replace K49 := K49.on hb
       replace Z20 := Z20.on hb
       replace A := A.kp (Kept.of hb)
       replace LB := LB.kp (Kept.of hb)
       replace F2 := F2.kp (Kept.of hb)
       replace BW := BW.trans (hb.mono BW.size)
       clear hb
       clear hHeld
       refine hK.out _ _ (by exact ⟨K12.cs, K49.cs⟩) (fun hHeld => ?_)
       clear hK
       (try simp only [p0, p1, p2, p3])
       refine pT 4 ?_
       (try simp only [p0, p1, p2, p3])
       refine pT 5 ?_
       (try simp only [p0, p1, p2, p3])
       refine pT 6 ?_
       (try simp only [p0, p1, p2, p3])
       refine pR1 7 (fun K hK => ?_)
       go_simp
       obtain ⟨V60, e61, hb62, K63, Z64, -⟩ := alloc_new w59 [.bool false, .slice none 0 0, .bool false, .slice none 0 0] 88
       have n65 : w.heap.size ≠ w59.heap.size := Nat.ne_of_lt (K5.lt)
       have n66 : w.heap.size + 1 ≠ w59.heap.size := Nat.ne_of_lt (K12.lt)
       have n67 : w.heap.size + 1 + 1 ≠ w59.heap.size := Nat.ne_of_lt (K19.lt)
       have n68 : b55 ≠ w59.heap.size := Nat.ne_of_lt (K49.lt)
       have g69 : w.heap.size ≤ w59.heap.size := BW.size
       replace K5 := K5.on hb62
       replace K12 := K12.on hb62
       replace K19 := K19.on hb62
       replace K49 := K49.on hb62
       replace Z20 := Z20.on hb62
       replace A := A.kp (Kept.of hb62)
       replace LB := LB.kp (Kept.of hb62)
       replace F2 := F2.kp (Kept.of hb62)
       replace O := O.kp (Kept.of hb62)
       replace BW := BW.trans (hb62.mono BW.size)
       clear hb62
       rw [← e61]
       clear e61
       generalize w59.heap.size = b70 at *
       clear hHeld
       refine hK.out _ _ (by exact ⟨K12.cs, K49.cs⟩) (fun hHeld => ?_)
       clear hK
       (try simp only [p0, p1, p2, p3])
       refine pR1 8 (fun K hK => ?_)
       obtain ⟨c71, c72, c73, c74⟩ := K63.c4
       obtain ⟨c75, c76, c77, c78⟩ := Z64.f4
       go_simp
       clear c71 c72 c73 c74 c75 c76 c77 c78
       obtain ⟨V79, hk81⟩ : ∃ V79, V79 = V60.setCells (b70) 0 [.bool g.n, .slice g.A g.xs.length g.c, .bool g.m, .slice g.B g.ds.length g.d] := ⟨_, rfl⟩
       have e80 := hk81
       simp only [World.setCells, Nat.zero_add, Nat.reduceAdd] at e80
       have hk82 := Kept.overE hk81 K63 rfl (Nat.le_of_ble_eq_true rfl)
       replace K5 := K5.awayE hk81 n65
       replace K12 := K12.awayE hk81 n66
       replace K19 := K19.awayE hk81 n67
       replace K49 := K49.awayE hk81 n68
       replace K63 := K63.overE hk81 rfl
       replace Z20 := Z20.putE hk81
       replace A := A.kp hk82
       replace LB := LB.kp hk82
       replace F2 := F2.kp hk82
       replace O := O.kp hk82
       replace BW := Below.putE BW hk81 g69
       clear hk81 hk82
       rw [← e80]
       clear e80
       clear hHeld
       refine hK.out _ _ (by exact ⟨K12.cs, K49.cs⟩) (fun hHeld => ?_)
       clear hK
       (try simp only [p0, p1, p2, p3])
       refine pT 9 ?_
       (try simp only [p0, p1, p2, p3])
       refine wpAnyH_done (by kernel_rfl) (NoPanic.normal ?_) _
       go_wp2
       go_meet
       exact ⟨b70, g, e1, rfl, rfl, BW, K19, Z20, K63, n67.symm, O⟩
      ·go_simp
       obtain ⟨V59, e60, hb61, K62, Z63, -⟩ := alloc_new w58 [.bool false, .slice none 0 0, .bool false, .slice none 0 0] 88
       have n64 : w.heap.size ≠ w58.heap.size := Nat.ne_of_lt (K5.lt)
       have n65 : w.heap.size + 1 ≠ w58.heap.size := Nat.ne_of_lt (K12.lt)
       have n66 : w.heap.size + 1 + 1 ≠ w58.heap.size := Nat.ne_of_lt (K19.lt)
       have n67 : b55 ≠ w58.heap.size := Nat.ne_of_lt (K49.lt)
       have g68 : w.heap.size ≤ w58.heap.size := BW.size
       replace K5 := K5.on hb61
       replace K12 := K12.on hb61
       replace K19 := K19.on hb61
       replace K49 := K49.on hb61
       replace Z20 := Z20.on hb61
       replace A := A.kp (Kept.of hb61)
       replace LB := LB.kp (Kept.of hb61)
       replace F2 := F2.kp (Kept.of hb61)
       replace BW := BW.trans (hb61.mono BW.size)
       clear hb61
       rw [← e60]
       clear e60
       generalize w58.heap.size = b69 at *
       clear hHeld
       refine hK.out _ _ (by exact ⟨K12.cs, K49.cs⟩) (fun hHeld => ?_)
       clear hK
       (try simp only [p0, p1, p2, p3])
       refine pR1 3 (fun K hK => ?_)
       go_simp
       (go_at_call 94; with_reducible refine (i_ov F2 LB (by decide) (D := 2050) (by decide)).mono ?_)
       rintro _ w70 ⟨g, e1, rfl, O, hb⟩
       (try go_wp2_with fail)
       replace K5 := K5.on hb
       replace K12 := K12.on hb
       replace K19 := K19.on hb
       replace K49 := K49.on hb
       replace K62 := K62.on hb
       replace Z20 := Z20.on hb
       replace Z63 := Z63.on hb
       replace A := A.kp (Kept.of hb)
       replace LB := LB.kp (Kept.of hb)
       replace F2 := F2.kp (Kept.of hb)
       replace BW := BW.trans (hb.mono BW.size)
       clear hb
       clear hHeld
       refine hK.out _ _ (by exact ⟨K12.cs, K49.cs⟩) (fun hHeld => ?_)
       clear hK
       (try simp only [p0, p1, p2, p3])
       refine pT 4 ?_
       (try simp only [p0, p1, p2, p3])
       refine pT 5 ?_
       (try simp only [p0, p1, p2, p3])
       refine pT 6 ?_
       (try simp only [p0, p1, p2, p3])
       refine pR1 8 (fun K hK => ?_)
       obtain ⟨c71, c72, c73, c74⟩ := K62.c4
       obtain ⟨c75, c76, c77, c78⟩ := Z63.f4
       go_simp
       clear c71 c72 c73 c74 c75 c76 c77 c78
       obtain ⟨V79, hk81⟩ : ∃ V79, V79 = w70.setCells (b69) 0 [.bool g.n, .slice g.A g.xs.length g.c, .bool g.m, .slice g.B g.ds.length g.d] := ⟨_, rfl⟩
       have e80 := hk81
       simp only [World.setCells, Nat.zero_add, Nat.reduceAdd] at e80
       have hk82 := Kept.overE hk81 K62 rfl (Nat.le_of_ble_eq_true rfl)
       replace K5 := K5.awayE hk81 n64
       replace K12 := K12.awayE hk81 n65
       replace K19 := K19.awayE hk81 n66
       replace K49 := K49.awayE hk81 n67
       replace K62 := K62.overE hk81 rfl
       replace Z20 := Z20.putE hk81
       replace A := A.kp hk82
       replace LB := LB.kp hk82
       replace F2 := F2.kp hk82
       replace O := O.kp hk82
       replace BW := Below.putE BW hk81 g68
       clear hk81 hk82
       rw [← e80]
       clear e80
       clear hHeld
       refine hK.out _ _ (by exact ⟨K12.cs, K49.cs⟩) (fun hHeld => ?_)
       clear hK
       (try simp only [p0, p1, p2, p3])
       refine pT 9 ?_
       (try simp only [p0, p1, p2, p3])
       refine wpAnyH_done (by kernel_rfl) (NoPanic.normal ?_) _
       go_wp2
       go_meet
       exact ⟨b69, g, e1, rfl, rfl, BW, K19, Z20, K62, n66.symm, O⟩
     ·go_simp
      obtain ⟨V58, e59, hb60, K61, Z62, -⟩ := alloc_new Vd57 [.bool false, .slice none 0 0, .bool false, .slice none 0 0] 88
      have n63 : w.heap.size ≠ Vd57.heap.size := Nat.ne_of_lt (K5.lt)
      have n64 : w.heap.size + 1 ≠ Vd57.heap.size := Nat.ne_of_lt (K12.lt)
      have n65 : w.heap.size + 1 + 1 ≠ Vd57.heap.size := Nat.ne_of_lt (K19.lt)
      have n66 : b55 ≠ Vd57.heap.size := Nat.ne_of_lt (K49.lt)
      have g67 : w.heap.size ≤ Vd57.heap.size := BW.size
      replace K12 := K12.on hb60
      replace K19 := K19.on hb60
      replace K49 := K49.on hb60
      replace Z20 := Z20.on hb60
      replace A := A.kp (Kept.of hb60)
      replace LB := LB.kp (Kept.of hb60)
      replace BW := BW.trans (hb60.mono BW.size)
      clear hb60
      rw [← e59]
      clear e59
      generalize Vd57.heap.size = b68 at *
      clear hHeld
      refine hK.out _ _ (by exact ⟨K12.cs, K49.cs⟩) (fun hHeld => ?_)
      clear hK
      (try simp only [p0, p1, p2, p3])
      refine pR1 1 (fun K hK => ?_)
      go_simp
      (go_at_call 66; with_reducible refine (q_from A).mono ?_)
      rintro _ w69 ⟨f2, rfl, F2, hb⟩
      (try go_wp2_with fail)
      replace K12 := K12.on hb
      replace K19 := K19.on hb
      replace K49 := K49.on hb
      replace K61 := K61.on hb
      replace Z20 := Z20.on hb
      replace Z62 := Z62.on hb
      replace A := A.kp (Kept.of hb)
      replace LB := LB.kp (Kept.of hb)
      replace BW := BW.trans (hb.mono BW.size)
      clear hb
      clear hHeld
      refine hK.out _ _ (by exact ⟨K12.cs, K49.cs⟩) (fun hHeld => ?_)
      clear hK
      (try simp only [p0, p1, p2, p3])
      refine pR1 3 (fun K hK => ?_)
      go_simp
      (go_at_call 94; with_reducible refine (i_ov F2 LB (by decide) (D := 2050) (by decide)).mono ?_)
      rintro _ w70 ⟨g, e1, rfl, O, hb⟩
      (try go_wp2_with fail)
      replace K12 := K12.on hb
      replace K19 := K19.on hb
      replace K49 := K49.on hb
      replace K61 := K61.on hb
      replace Z20 := Z20.on hb
      replace Z62 := Z62.on hb
      replace A := A.kp (Kept.of hb)
      replace BW := BW.trans (hb.mono BW.size)
      clear hb
      clear hHeld
      refine hK.out _ _ (by exact ⟨K12.cs, K49.cs⟩) (fun hHeld => ?_)
      clear hK
      (try simp only [p0, p1, p2, p3])
      refine pT 4 ?_
      (try simp only [p0, p1, p2, p3])
      refine pT 5 ?_
      (try simp only [p0, p1, p2, p3])
      refine pT 6 ?_
      (try simp only [p0, p1, p2, p3])
      refine pR1 8 (fun K hK => ?_)
      obtain ⟨c71, c72, c73, c74⟩ := K61.c4
      obtain ⟨c75, c76, c77, c78⟩ := Z62.f4
      go_simp
      clear c71 c72 c73 c74 c75 c76 c77 c78
      obtain ⟨V79, hk81⟩ : ∃ V79, V79 = w70.setCells (b68) 0 [.bool g.n, .slice g.A g.xs.length g.c, .bool g.m, .slice g.B g.ds.length g.d] := ⟨_, rfl⟩
      have e80 := hk81
      simp only [World.setCells, Nat.zero_add, Nat.reduceAdd] at e80
      have hk82 := Kept.overE hk81 K61 rfl (Nat.le_of_ble_eq_true rfl)
      replace K12 := K12.awayE hk81 n64
      replace K19 := K19.awayE hk81 n65
      replace K49 := K49.awayE hk81 n66
      replace K61 := K61.overE hk81 rfl
      replace Z20 := Z20.putE hk81
      replace A := A.kp hk82
      replace O := O.kp hk82
      replace BW := Below.putE BW hk81 g67
      clear hk81 hk82
      rw [← e80]
      clear e80
      clear hHeld
      refine hK.out _ _ (by exact ⟨K12.cs, K49.cs⟩) (fun hHeld => ?_)
      clear hK
      (try simp only [p0, p1, p2, p3])
      refine pT 9 ?_
      (try simp only [p0, p1, p2, p3])
      refine wpAnyH_done (by kernel_rfl) (NoPanic.normal ?_) _
      go_wp2
      go_meet
      exact ⟨b68, g, e1, rfl, rfl, BW, K19, Z20, K61, n65.symm, O⟩
    case rest =>
     obtain ⟨pkv_0, g, e1, rfl, rfl, BW, K19, Z20, KNv_0, nn57, O⟩ := hcut
     rcases O with ⟨hb0, rfl, rfl⟩ | ⟨hb0, rfl, LG⟩
     ·have HB := Lib.hid (absQ_zero.1 hb0)
      clear hb0
      obtain ⟨c58, c59, c60, c61⟩ := K19.c4
      obtain ⟨c62, c63, c64, c65⟩ := Z20.f4
      obtain ⟨V66, hk68⟩ : ∃ V66, V66 = wc.setCells (w.heap.size + 1 + 1) 0 [.bool false, .slice none 0 0, .bool false, .slice none 0 0] := ⟨_, rfl⟩
      have e67 := hk68
      simp only [World.setCells, Nat.zero_add, Nat.reduceAdd] at e67
      have hk69 := Kept.overE hk68 K19 rfl (Nat.le_of_ble_eq_true rfl)
      replace K19 := K19.overE hk68 rfl
      replace KNv_0 := KNv_0.awayE hk68 nn57
      replace Z20 := Z20.putE hk68
      replace BW := Below.putE BW hk68 g23
      clear hk68 hk69
      go_wp2_with fail
      clear c58 c59 c60 c61 c62 c63 c64 c65
      rw [← e67]
      clear e67
      obtain ⟨c70, c71, c72, c73⟩ := K19.c4
      exact bodyPost_ret (v := .tuple #[.agg #[.bool false, .slice none 0 0, .bool false, .slice none 0 0], .int .i64 3]) (by simp [results, Tryz.results48, go_sem, c70, c71, c72, c73]) rfl ⟨fv0, 3, rfl, .inr (.inr (.inl ⟨HB.out, HY.out, rfl, rfl⟩)), BW⟩
     ·have HB := Lib.hid (fun h => hb0 (absQ_zero.2 h) : q.b ≠ 0)
      clear hb0
      obtain ⟨c58, c59, c60, c61⟩ := KNv_0.c4
      go_wp2_with fail
      clear c58 c59 c60 c61
      refine (q_fit LG (by decide)).mono ?_
      rintro _ w62 ⟨f, er, rfl, R, hb⟩
      replace K19 := K19.on hb
      replace Z20 := Z20.on hb
      replace BW := BW.trans (hb.mono BW.size)
      clear hb
      obtain ⟨c63, c64, c65, c66⟩ := K19.c4
      obtain ⟨c67, c68, c69, c70⟩ := Z20.f4
      obtain ⟨V71, hk73⟩ : ∃ V71, V71 = w62.setCells (w.heap.size + 1 + 1) 0 [.bool f.n, .slice f.A f.xs.length f.c, .bool f.m, .slice f.B f.ds.length f.d] := ⟨_, rfl⟩
      have e72 := hk73
      simp only [World.setCells, Nat.zero_add, Nat.reduceAdd] at e72
      have hk74 := Kept.overE hk73 K19 rfl (Nat.le_of_ble_eq_true rfl)
      replace K19 := K19.overE hk73 rfl
      replace R := R.kp hk74
      replace BW := Below.putE BW hk73 g23
      clear hk73 hk74
      go_wp2_with fail
      clear c63 c64 c65 c66 c67 c68 c69 c70
      rw [← e72]
      clear e72
      obtain ⟨c75, c76, c77, c78⟩ := K19.c4
      exact bodyPost_ret (v := .tuple #[fv f, .int .i64 er]) (by simp [results, Tryz.results48, go_sem, c75, c76, c77, c78]) rfl ⟨f, er, rfl, st_is HB.out HY.out R, BW⟩
end Go.Proofs.YtplgheabhekedaaGreat
