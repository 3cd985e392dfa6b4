/-
  The document's matrices over things of any ring. No conditions.
-/
import Derived.Test.YtgoackkfjieahaaMd0
namespace Go.Proofs.Ytgoackkfjieahaa.D
open Go.RowKit
/-- What the document's three operations on things of kind kk do. -/
structure RefR (kk : Int) (R : Rg) : Prop where
  nw : (kk == 2) = false
  ad : ∀ (x y : Int) (w : World), Calls Try.prog 56 #[tv kk x, tv kk y] w (fun e w' => e = .returned (tv kk (R.ad x y)) ∧ Below w.heap.size w w')
  ml : ∀ (x y : Int) (w : World), Calls Try.prog 57 #[tv kk x, tv kk y] w (fun e w' => e = .returned (tv kk (R.ml x y)) ∧ Below w.heap.size w w')
  ng : ∀ (x : Int) (w : World), Calls Try.prog 58 #[tv kk x] w (fun e w' => e = .returned (tv kk (R.ng x)) ∧ Below w.heap.size w w')
set_option maxHeartbeats 8000000 in
set_option maxRecDepth 20000 in
theorem rmul {kk : Int} {R : Rg} (H : RefR kk R) (x y : Mz) (w : World) :
    Calls Try.prog 14 #[tm kk x, tm kk y] w (fun e w' => e = .returned (tm kk (R.mul x y)) ∧ Below w.heap.size w w') := by
  have hsc := @run_store_c Try.prog
  have BW : Below w.heap.size w w := Below.refl _ _
  obtain ⟨V2, e3, hb4, K5, -, z1⟩ := alloc_new w [.int .i64 kk, .int .i64 x.a, .complex .f64 0 0, .int .i64 kk, .int .i64 x.b, .complex .f64 0 0, .int .i64 kk, .int .i64 x.c, .complex .f64 0 0, .int .i64 kk, .int .i64 x.d, .complex .f64 0 0] 37
  replace BW := BW.trans (hb4.mono BW.size)
  clear hb4
  obtain ⟨V7, e8, hb9, K10, -, z6⟩ := alloc_new V2 [.int .i64 kk, .int .i64 y.a, .complex .f64 0 0, .int .i64 kk, .int .i64 y.b, .complex .f64 0 0, .int .i64 kk, .int .i64 y.c, .complex .f64 0 0, .int .i64 kk, .int .i64 y.d, .complex .f64 0 0] 37
  rw [z1] at K10 z6
  replace K5 := K5.on hb9
  replace BW := BW.trans (hb9.mono BW.size)
  clear hb9
  obtain ⟨V11, e12, hb13, K14, Z15, -⟩ := alloc_new V7 [.int .i64 0, .int .i64 0, .complex .f64 0 0, .int .i64 0, .int .i64 0, .complex .f64 0 0, .int .i64 0, .int .i64 0, .complex .f64 0 0, .int .i64 0, .int .i64 0, .complex .f64 0 0] 37
  rw [z6] at K14 Z15
  have n16 : w.heap.size ≠ w.heap.size + 1 + 1 := Nat.ne_of_lt (z6 ▸ K5.lt)
  have n17 : w.heap.size + 1 ≠ w.heap.size + 1 + 1 := Nat.ne_of_lt (z6 ▸ K10.lt)
  have g18 : w.heap.size ≤ w.heap.size + 1 + 1 := z6 ▸ BW.size
  replace K5 := K5.on hb13
  replace K10 := K10.on hb13
  replace BW := BW.trans (hb13.mono BW.size)
  clear hb13
  clear z1 z6
  go_enter Try.func14, Try.ntmps14
  go_wp2_with fail
  rw [← e3, ← e8, ← e12]
  clear e3 e8 e12
  refine wp_region_noPanic ?_
  have hb : Below V11.heap.size V11 V11.drew := (Below.refl _ _).drew
  replace K5 := K5.on hb
  replace K10 := K10.on hb
  replace K14 := K14.on hb
  replace Z15 := Z15.on hb
  replace BW := BW.trans (hb.mono BW.size)
  clear hb
  refine wp_region_held_drew (S := (fun wx => Cs wx (w.heap.size) 0 [.int .i64 kk, .int .i64 x.a, .complex .f64 0 0, .int .i64 kk, .int .i64 x.b, .complex .f64 0 0, .int .i64 kk, .int .i64 x.c, .complex .f64 0 0, .int .i64 kk, .int .i64 x.d, .complex .f64 0 0] ∧ Cs wx (w.heap.size + 1) 0 [.int .i64 kk, .int .i64 y.a, .complex .f64 0 0, .int .i64 kk, .int .i64 y.b, .complex .f64 0 0, .int .i64 kk, .int .i64 y.c, .complex .f64 0 0, .int .i64 kk, .int .i64 y.d, .complex .f64 0 0])) (by kernel_rfl) (by exact ⟨K5.cs, K10.cs⟩) (fun hHeld => ?_)
  generalize V11.drew = Vd19 at *
  refine pT 0 ?_
  (try simp only [p0, p1, p2, p3])
  refine pT 1 ?_
  (try simp only [p0, p1, p2, p3])
  refine pT 2 ?_
  (try simp only [p0, p1, p2, p3])
  refine pT 3 ?_
  (try simp only [p0, p1, p2, p3])
  refine pT 5 ?_
  (try simp only [p0, p1, p2, p3])
  refine pT 6 ?_
  (try simp only [p0, p1, p2, p3])
  refine pT 7 ?_
  (try simp only [p0, p1, p2, p3])
  refine pT 8 ?_
  (try simp only [p0, p1, p2, p3])
  refine pT 11 ?_
  (try simp only [p0, p1, p2, p3])
  refine pT 12 ?_
  (try simp only [p0, p1, p2, p3])
  refine pT 13 ?_
  (try simp only [p0, p1, p2, p3])
  refine pT 14 ?_
  (try simp only [p0, p1, p2, p3])
  refine pT 16 ?_
  (try simp only [p0, p1, p2, p3])
  refine pT 17 ?_
  (try simp only [p0, p1, p2, p3])
  refine pT 18 ?_
  (try simp only [p0, p1, p2, p3])
  refine pT 19 ?_
  (try simp only [p0, p1, p2, p3])
  refine pT 22 ?_
  (try simp only [p0, p1, p2, p3])
  refine pT 23 ?_
  (try simp only [p0, p1, p2, p3])
  refine pT 24 ?_
  (try simp only [p0, p1, p2, p3])
  refine pT 25 ?_
  (try simp only [p0, p1, p2, p3])
  refine pT 27 ?_
  (try simp only [p0, p1, p2, p3])
  refine pT 28 ?_
  (try simp only [p0, p1, p2, p3])
  refine pT 29 ?_
  (try simp only [p0, p1, p2, p3])
  refine pT 30 ?_
  (try simp only [p0, p1, p2, p3])
  refine pT 33 ?_
  (try simp only [p0, p1, p2, p3])
  refine pT 34 ?_
  (try simp only [p0, p1, p2, p3])
  refine pT 35 ?_
  (try simp only [p0, p1, p2, p3])
  refine pT 36 ?_
  (try simp only [p0, p1, p2, p3])
  refine pT 38 ?_
  (try simp only [p0, p1, p2, p3])
  refine pT 39 ?_
  (try simp only [p0, p1, p2, p3])
  refine pT 40 ?_
  (try simp only [p0, p1, p2, p3])
  refine pT 41 ?_
  (try simp only [p0, p1, p2, p3])
  refine pR1 4 (fun K hK => ?_)
  go_simp
  (go_at_call 57; with_reducible refine (H.ml _ _ _).mono ?_)
  rintro _ w20 ⟨rfl, hb⟩
  (try go_wp2_with fail)
  replace K5 := K5.on hb
  replace K10 := K10.on hb
  replace K14 := K14.on hb
  replace Z15 := Z15.on hb
  replace BW := BW.trans (hb.mono BW.size)
  clear hb
  refine hK.out _ _ (by exact ⟨K5.cs, K10.cs⟩) (fun hHeld => ?_)
  clear hK
  (try simp only [p0, p1, p2, p3])
  refine pR1 9 (fun K hK => ?_)
  go_simp
  (go_at_call 57; with_reducible refine (H.ml _ _ _).mono ?_)
  rintro _ w21 ⟨rfl, hb⟩
  (try go_wp2_with fail)
  replace K5 := K5.on hb
  replace K10 := K10.on hb
  replace K14 := K14.on hb
  replace Z15 := Z15.on hb
  replace BW := BW.trans (hb.mono BW.size)
  clear hb
  refine hK.out _ _ (by exact ⟨K5.cs, K10.cs⟩) (fun hHeld => ?_)
  clear hK
  (try simp only [p0, p1, p2, p3])
  refine pR1 10 (fun K hK => ?_)
  go_simp
  (go_at_call 56; with_reducible refine (H.ad _ _ _).mono ?_)
  rintro _ w22 ⟨rfl, hb⟩
  (try go_wp2_with fail)
  replace K5 := K5.on hb
  replace K10 := K10.on hb
  replace K14 := K14.on hb
  replace Z15 := Z15.on hb
  replace BW := BW.trans (hb.mono BW.size)
  clear hb
  refine hK.out _ _ (by exact ⟨K5.cs, K10.cs⟩) (fun hHeld => ?_)
  clear hK
  (try simp only [p0, p1, p2, p3])
  refine pR1 15 (fun K hK => ?_)
  go_simp
  (go_at_call 57; with_reducible refine (H.ml _ _ _).mono ?_)
  rintro _ w23 ⟨rfl, hb⟩
  (try go_wp2_with fail)
  replace K5 := K5.on hb
  replace K10 := K10.on hb
  replace K14 := K14.on hb
  replace Z15 := Z15.on hb
  replace BW := BW.trans (hb.mono BW.size)
  clear hb
  refine hK.out _ _ (by exact ⟨K5.cs, K10.cs⟩) (fun hHeld => ?_)
  clear hK
  (try simp only [p0, p1, p2, p3])
  refine pR1 20 (fun K hK => ?_)
  go_simp
  (go_at_call 57; with_reducible refine (H.ml _ _ _).mono ?_)
  rintro _ w24 ⟨rfl, hb⟩
  (try go_wp2_with fail)
  replace K5 := K5.on hb
  replace K10 := K10.on hb
  replace K14 := K14.on hb
  replace Z15 := Z15.on hb
  replace BW := BW.trans (hb.mono BW.size)
  clear hb
  refine hK.out _ _ (by exact ⟨K5.cs, K10.cs⟩) (fun hHeld => ?_)
  clear hK
  (try simp only [p0, p1, p2, p3])
  refine pR1 21 (fun K hK => ?_)
  go_simp
  (go_at_call 56; with_reducible refine (H.ad _ _ _).mono ?_)
  rintro _ w25 ⟨rfl, hb⟩
  (try go_wp2_with fail)
  replace K5 := K5.on hb
  replace K10 := K10.on hb
  replace K14 := K14.on hb
  replace Z15 := Z15.on hb
  replace BW := BW.trans (hb.mono BW.size)
  clear hb
  refine hK.out _ _ (by exact ⟨K5.cs, K10.cs⟩) (fun hHeld => ?_)
  clear hK
  (try simp only [p0, p1, p2, p3])
  refine pR1 26 (fun K hK => ?_)
  go_simp
  (go_at_call 57; with_reducible refine (H.ml _ _ _).mono ?_)
  rintro _ w26 ⟨rfl, hb⟩
  (try go_wp2_with fail)
  replace K5 := K5.on hb
  replace K10 := K10.on hb
  replace K14 := K14.on hb
  replace Z15 := Z15.on hb
  replace BW := BW.trans (hb.mono BW.size)
  clear hb
  refine hK.out _ _ (by exact ⟨K5.cs, K10.cs⟩) (fun hHeld => ?_)
  clear hK
  (try simp only [p0, p1, p2, p3])
  refine pR1 31 (fun K hK => ?_)
  go_simp
  (go_at_call 57; with_reducible refine (H.ml _ _ _).mono ?_)
  rintro _ w27 ⟨rfl, hb⟩
  (try go_wp2_with fail)
  replace K5 := K5.on hb
  replace K10 := K10.on hb
  replace K14 := K14.on hb
  replace Z15 := Z15.on hb
  replace BW := BW.trans (hb.mono BW.size)
  clear hb
  refine hK.out _ _ (by exact ⟨K5.cs, K10.cs⟩) (fun hHeld => ?_)
  clear hK
  (try simp only [p0, p1, p2, p3])
  refine pR1 32 (fun K hK => ?_)
  go_simp
  (go_at_call 56; with_reducible refine (H.ad _ _ _).mono ?_)
  rintro _ w28 ⟨rfl, hb⟩
  (try go_wp2_with fail)
  replace K5 := K5.on hb
  replace K10 := K10.on hb
  replace K14 := K14.on hb
  replace Z15 := Z15.on hb
  replace BW := BW.trans (hb.mono BW.size)
  clear hb
  refine hK.out _ _ (by exact ⟨K5.cs, K10.cs⟩) (fun hHeld => ?_)
  clear hK
  (try simp only [p0, p1, p2, p3])
  refine pR1 37 (fun K hK => ?_)
  go_simp
  (go_at_call 57; with_reducible refine (H.ml _ _ _).mono ?_)
  rintro _ w29 ⟨rfl, hb⟩
  (try go_wp2_with fail)
  replace K5 := K5.on hb
  replace K10 := K10.on hb
  replace K14 := K14.on hb
  replace Z15 := Z15.on hb
  replace BW := BW.trans (hb.mono BW.size)
  clear hb
  refine hK.out _ _ (by exact ⟨K5.cs, K10.cs⟩) (fun hHeld => ?_)
  clear hK
  (try simp only [p0, p1, p2, p3])
  refine pR1 42 (fun K hK => ?_)
  go_simp
  (go_at_call 57; with_reducible refine (H.ml _ _ _).mono ?_)
  rintro _ w30 ⟨rfl, hb⟩
  (try go_wp2_with fail)
  replace K5 := K5.on hb
  replace K10 := K10.on hb
  replace K14 := K14.on hb
  replace Z15 := Z15.on hb
  replace BW := BW.trans (hb.mono BW.size)
  clear hb
  refine hK.out _ _ (by exact ⟨K5.cs, K10.cs⟩) (fun hHeld => ?_)
  clear hK
  (try simp only [p0, p1, p2, p3])
  refine pR1 43 (fun K hK => ?_)
  go_simp
  (go_at_call 56; with_reducible refine (H.ad _ _ _).mono ?_)
  rintro _ w31 ⟨rfl, hb⟩
  (try go_wp2_with fail)
  replace K5 := K5.on hb
  replace K10 := K10.on hb
  replace K14 := K14.on hb
  replace Z15 := Z15.on hb
  replace BW := BW.trans (hb.mono BW.size)
  clear hb
  refine hK.out _ _ (by exact ⟨K5.cs, K10.cs⟩) (fun hHeld => ?_)
  clear hK
  (try simp only [p0, p1, p2, p3])
  refine pT 44 ?_
  (try simp only [p0, p1, p2, p3])
  refine pR1 45 (fun K hK => ?_)
  obtain ⟨c32, c33, c34, c35, c36, c37, c38, c39, c40, c41, c42, c43⟩ := K14.c12
  obtain ⟨c44, c45, c46, c47, c48, c49, c50, c51, c52, c53, c54, c55⟩ := Z15.f12
  go_simp
  clear c32 c33 c34 c35 c36 c37 c38 c39 c40 c41 c42 c43 c44 c45 c46 c47 c48 c49 c50 c51 c52 c53 c54 c55
  obtain ⟨V56, hk58⟩ : ∃ V56, V56 = w31.setCells (w.heap.size + 1 + 1) 0 [.int .i64 kk, .int .i64 (R.ad (R.ml x.a y.a) (R.ml x.b y.c)), .complex .f64 0 0, .int .i64 kk, .int .i64 (R.ad (R.ml x.a y.b) (R.ml x.b y.d)), .complex .f64 0 0, .int .i64 kk, .int .i64 (R.ad (R.ml x.c y.a) (R.ml x.d y.c)), .complex .f64 0 0, .int .i64 kk, .int .i64 (R.ad (R.ml x.c y.b) (R.ml x.d y.d)), .complex .f64 0 0] := ⟨_, rfl⟩
  have e57 := hk58
  simp only [World.setCells, Nat.zero_add, Nat.reduceAdd] at e57
  have hk59 := Kept.overE hk58 K14 rfl (by simp)
  replace K5 := K5.awayE hk58 n16
  replace K10 := K10.awayE hk58 n17
  replace K14 := K14.overE hk58 rfl
  replace BW := Below.putE BW hk58 g18
  clear hk58 hk59
  rw [← e57]
  clear e57
  refine hK.out _ _ (by exact ⟨K5.cs, K10.cs⟩) (fun hHeld => ?_)
  clear hK
  (try simp only [p0, p1, p2, p3])
  refine wpAnyH_done (by kernel_rfl) (NoPanic.normal ?_) _
  go_wp2
  obtain ⟨c60, c61, c62, c63, c64, c65, c66, c67, c68, c69, c70, c71⟩ := K14.c12
  exact bodyPost_ret (v := (.agg #[.int .i64 kk, .int .i64 (R.ad (R.ml x.a y.a) (R.ml x.b y.c)), .complex .f64 0 0, .int .i64 kk, .int .i64 (R.ad (R.ml x.a y.b) (R.ml x.b y.d)), .complex .f64 0 0, .int .i64 kk, .int .i64 (R.ad (R.ml x.c y.a) (R.ml x.d y.c)), .complex .f64 0 0, .int .i64 kk, .int .i64 (R.ad (R.ml x.c y.b) (R.ml x.d y.d)), .complex .f64 0 0])) (by simp [results, Try.results14, go_sem, c60, c61, c62, c63, c64, c65, c66, c67, c68, c69, c70, c71]) rfl ⟨rfl, BW⟩
set_option maxHeartbeats 8000000 in
set_option maxRecDepth 20000 in
theorem rdet {kk : Int} {R : Rg} (H : RefR kk R) (x : Mz) (w : World) :
    Calls Try.prog 16 #[tm kk x] w (fun e w' => e = .returned (tv kk (R.det x)) ∧ Below w.heap.size w w') := by
  have hsc := @run_store_c Try.prog
  have BW : Below w.heap.size w w := Below.refl _ _
  obtain ⟨V2, e3, hb4, K5, -, z1⟩ := alloc_new w [.int .i64 kk, .int .i64 x.a, .complex .f64 0 0, .int .i64 kk, .int .i64 x.b, .complex .f64 0 0, .int .i64 kk, .int .i64 x.c, .complex .f64 0 0, .int .i64 kk, .int .i64 x.d, .complex .f64 0 0] 37
  replace BW := BW.trans (hb4.mono BW.size)
  clear hb4
  obtain ⟨V6, e7, hb8, K9, Z10, -⟩ := alloc_new V2 [.int .i64 0, .int .i64 0, .complex .f64 0 0] 35
  rw [z1] at K9 Z10
  have n11 : w.heap.size ≠ w.heap.size + 1 := Nat.ne_of_lt (z1 ▸ K5.lt)
  have g12 : w.heap.size ≤ w.heap.size + 1 := z1 ▸ BW.size
  replace K5 := K5.on hb8
  replace BW := BW.trans (hb8.mono BW.size)
  clear hb8
  clear z1
  go_enter Try.func16, Try.ntmps16
  go_wp2_with fail
  rw [← e3, ← e7]
  clear e3 e7
  refine wp_region_noPanic ?_
  have hb : Below V6.heap.size V6 V6.drew := (Below.refl _ _).drew
  replace K5 := K5.on hb
  replace K9 := K9.on hb
  replace Z10 := Z10.on hb
  replace BW := BW.trans (hb.mono BW.size)
  clear hb
  refine wp_region_held_drew (S := (fun wx => Cs wx (w.heap.size) 0 [.int .i64 kk, .int .i64 x.a, .complex .f64 0 0, .int .i64 kk, .int .i64 x.b, .complex .f64 0 0, .int .i64 kk, .int .i64 x.c, .complex .f64 0 0, .int .i64 kk, .int .i64 x.d, .complex .f64 0 0])) (by kernel_rfl) (by exact K5.cs) (fun hHeld => ?_)
  generalize V6.drew = Vd13 at *
  refine pT 0 ?_
  (try simp only [p0, p1, p2, p3])
  refine pT 1 ?_
  (try simp only [p0, p1, p2, p3])
  refine pT 2 ?_
  (try simp only [p0, p1, p2, p3])
  refine pT 3 ?_
  (try simp only [p0, p1, p2, p3])
  refine pT 5 ?_
  (try simp only [p0, p1, p2, p3])
  refine pT 6 ?_
  (try simp only [p0, p1, p2, p3])
  refine pT 7 ?_
  (try simp only [p0, p1, p2, p3])
  refine pT 8 ?_
  (try simp only [p0, p1, p2, p3])
  refine pR1 4 (fun K hK => ?_)
  go_simp
  (go_at_call 57; with_reducible refine (H.ml _ _ _).mono ?_)
  rintro _ w14 ⟨rfl, hb⟩
  (try go_wp2_with fail)
  replace K5 := K5.on hb
  replace K9 := K9.on hb
  replace Z10 := Z10.on hb
  replace BW := BW.trans (hb.mono BW.size)
  clear hb
  refine hK.out _ _ (by exact K5.cs) (fun hHeld => ?_)
  clear hK
  (try simp only [p0, p1, p2, p3])
  refine pR1 9 (fun K hK => ?_)
  go_simp
  (go_at_call 57; with_reducible refine (H.ml _ _ _).mono ?_)
  rintro _ w15 ⟨rfl, hb⟩
  (try go_wp2_with fail)
  replace K5 := K5.on hb
  replace K9 := K9.on hb
  replace Z10 := Z10.on hb
  replace BW := BW.trans (hb.mono BW.size)
  clear hb
  refine hK.out _ _ (by exact K5.cs) (fun hHeld => ?_)
  clear hK
  (try simp only [p0, p1, p2, p3])
  refine pR1 10 (fun K hK => ?_)
  go_simp
  (go_at_call 58; with_reducible refine (H.ng _ _).mono ?_)
  rintro _ w16 ⟨rfl, hb⟩
  (try go_wp2_with fail)
  replace K5 := K5.on hb
  replace K9 := K9.on hb
  replace Z10 := Z10.on hb
  replace BW := BW.trans (hb.mono BW.size)
  clear hb
  refine hK.out _ _ (by exact K5.cs) (fun hHeld => ?_)
  clear hK
  (try simp only [p0, p1, p2, p3])
  refine pR1 11 (fun K hK => ?_)
  go_simp
  (go_at_call 56; with_reducible refine (H.ad _ _ _).mono ?_)
  rintro _ w17 ⟨rfl, hb⟩
  (try go_wp2_with fail)
  replace K5 := K5.on hb
  replace K9 := K9.on hb
  replace Z10 := Z10.on hb
  replace BW := BW.trans (hb.mono BW.size)
  clear hb
  refine hK.out _ _ (by exact K5.cs) (fun hHeld => ?_)
  clear hK
  (try simp only [p0, p1, p2, p3])
  refine pR1 12 (fun K hK => ?_)
  obtain ⟨c18, c19, c20⟩ := K9.c3
  obtain ⟨c21, c22, c23⟩ := Z10.f3
  go_simp
  clear c18 c19 c20 c21 c22 c23
  obtain ⟨V24, hk26⟩ : ∃ V24, V24 = w17.setCells (w.heap.size + 1) 0 [.int .i64 kk, .int .i64 (R.ad (R.ml x.a x.d) (R.ng (R.ml x.b x.c))), .complex .f64 0 0] := ⟨_, rfl⟩
  have e25 := hk26
  simp only [World.setCells, Nat.zero_add, Nat.reduceAdd] at e25
  have hk27 := Kept.overE hk26 K9 rfl (by simp)
  replace K5 := K5.awayE hk26 n11
  replace K9 := K9.overE hk26 rfl
  replace BW := Below.putE BW hk26 g12
  clear hk26 hk27
  rw [← e25]
  clear e25
  refine hK.out _ _ (by exact K5.cs) (fun hHeld => ?_)
  clear hK
  (try simp only [p0, p1, p2, p3])
  refine wpAnyH_done (by kernel_rfl) (NoPanic.normal ?_) _
  go_wp2
  obtain ⟨c28, c29, c30⟩ := K9.c3
  exact bodyPost_ret (v := (.agg #[.int .i64 kk, .int .i64 (R.ad (R.ml x.a x.d) (R.ng (R.ml x.b x.c))), .complex .f64 0 0])) (by simp [results, Try.results16, go_sem, c28, c29, c30]) rfl ⟨rfl, BW⟩
set_option maxHeartbeats 8000000 in
set_option maxRecDepth 20000 in
theorem rtrace {kk : Int} {R : Rg} (H : RefR kk R) (x : Mz) (w : World) :
    Calls Try.prog 18 #[tm kk x] w (fun e w' => e = .returned (tv kk (R.tr x)) ∧ Below w.heap.size w w') := by
  have hsc := @run_store_c Try.prog
  have BW : Below w.heap.size w w := Below.refl _ _
  obtain ⟨V2, e3, hb4, K5, -, z1⟩ := alloc_new w [.int .i64 kk, .int .i64 x.a, .complex .f64 0 0, .int .i64 kk, .int .i64 x.b, .complex .f64 0 0, .int .i64 kk, .int .i64 x.c, .complex .f64 0 0, .int .i64 kk, .int .i64 x.d, .complex .f64 0 0] 37
  replace BW := BW.trans (hb4.mono BW.size)
  clear hb4
  obtain ⟨V6, e7, hb8, K9, Z10, -⟩ := alloc_new V2 [.int .i64 0, .int .i64 0, .complex .f64 0 0] 35
  rw [z1] at K9 Z10
  have n11 : w.heap.size ≠ w.heap.size + 1 := Nat.ne_of_lt (z1 ▸ K5.lt)
  have g12 : w.heap.size ≤ w.heap.size + 1 := z1 ▸ BW.size
  replace BW := BW.trans (hb8.mono BW.size)
  clear hb8
  clear z1
  go_enter Try.func18, Try.ntmps18
  go_wp2_with fail
  rw [← e3, ← e7]
  clear e3 e7
  refine (H.ad _ _ _).mono ?_
  rintro _ w13 ⟨rfl, hb⟩
  replace K9 := K9.on hb
  replace Z10 := Z10.on hb
  replace BW := BW.trans (hb.mono BW.size)
  clear hb
  obtain ⟨c14, c15, c16⟩ := K9.c3
  obtain ⟨c17, c18, c19⟩ := Z10.f3
  obtain ⟨V20, hk22⟩ : ∃ V20, V20 = w13.setCells (w.heap.size + 1) 0 [.int .i64 kk, .int .i64 (R.ad x.a x.d), .complex .f64 0 0] := ⟨_, rfl⟩
  have e21 := hk22
  simp only [World.setCells, Nat.zero_add, Nat.reduceAdd] at e21
  have hk23 := Kept.overE hk22 K9 rfl (by simp)
  replace K9 := K9.overE hk22 rfl
  replace BW := Below.putE BW hk22 g12
  clear hk22 hk23
  go_wp2_with fail
  clear c14 c15 c16 c17 c18 c19
  rw [← e21]
  clear e21
  obtain ⟨c24, c25, c26⟩ := K9.c3
  exact bodyPost_ret (v := (.agg #[.int .i64 kk, .int .i64 (R.ad x.a x.d), .complex .f64 0 0])) (by simp [results, Try.results18, go_sem, c24, c25, c26]) rfl ⟨rfl, BW⟩
set_option maxHeartbeats 8000000 in
set_option maxRecDepth 20000 in
theorem rturned {kk : Int} {R : Rg} (H : RefR kk R) (x : Mz) (w : World) :
    Calls Try.prog 20 #[tm kk x] w (fun e w' => e = .returned (tm kk (R.turned x)) ∧ Below w.heap.size w w') := by
  have hsc := @run_store_c Try.prog
  have BW : Below w.heap.size w w := Below.refl _ _
  obtain ⟨V2, e3, hb4, K5, -, z1⟩ := alloc_new w [.int .i64 kk, .int .i64 x.a, .complex .f64 0 0, .int .i64 kk, .int .i64 x.b, .complex .f64 0 0, .int .i64 kk, .int .i64 x.c, .complex .f64 0 0, .int .i64 kk, .int .i64 x.d, .complex .f64 0 0] 37
  replace BW := BW.trans (hb4.mono BW.size)
  clear hb4
  obtain ⟨V6, e7, hb8, K9, Z10, -⟩ := alloc_new V2 [.int .i64 0, .int .i64 0, .complex .f64 0 0, .int .i64 0, .int .i64 0, .complex .f64 0 0, .int .i64 0, .int .i64 0, .complex .f64 0 0, .int .i64 0, .int .i64 0, .complex .f64 0 0] 37
  rw [z1] at K9 Z10
  have n11 : w.heap.size ≠ w.heap.size + 1 := Nat.ne_of_lt (z1 ▸ K5.lt)
  have g12 : w.heap.size ≤ w.heap.size + 1 := z1 ▸ BW.size
  replace K5 := K5.on hb8
  replace BW := BW.trans (hb8.mono BW.size)
  clear hb8
  clear z1
  go_enter Try.func20, Try.ntmps20
  go_wp2_with fail
  rw [← e3, ← e7]
  clear e3 e7
  refine wp_region_noPanic ?_
  have hb : Below V6.heap.size V6 V6.drew := (Below.refl _ _).drew
  replace K5 := K5.on hb
  replace K9 := K9.on hb
  replace Z10 := Z10.on hb
  replace BW := BW.trans (hb.mono BW.size)
  clear hb
  refine wp_region_held_drew (S := (fun wx => Cs wx (w.heap.size) 0 [.int .i64 kk, .int .i64 x.a, .complex .f64 0 0, .int .i64 kk, .int .i64 x.b, .complex .f64 0 0, .int .i64 kk, .int .i64 x.c, .complex .f64 0 0, .int .i64 kk, .int .i64 x.d, .complex .f64 0 0])) (by kernel_rfl) (by exact K5.cs) (fun hHeld => ?_)
  generalize V6.drew = Vd13 at *
  refine pT 0 ?_
  (try simp only [p0, p1, p2, p3])
  refine pT 1 ?_
  (try simp only [p0, p1, p2, p3])
  refine pT 2 ?_
  (try simp only [p0, p1, p2, p3])
  refine pT 3 ?_
  (try simp only [p0, p1, p2, p3])
  refine pT 5 ?_
  (try simp only [p0, p1, p2, p3])
  refine pT 6 ?_
  (try simp only [p0, p1, p2, p3])
  refine pT 8 ?_
  (try simp only [p0, p1, p2, p3])
  refine pT 9 ?_
  (try simp only [p0, p1, p2, p3])
  refine pR1 4 (fun K hK => ?_)
  go_simp
  (go_at_call 58; with_reducible refine (H.ng _ _).mono ?_)
  rintro _ w14 ⟨rfl, hb⟩
  (try go_wp2_with fail)
  replace K5 := K5.on hb
  replace K9 := K9.on hb
  replace Z10 := Z10.on hb
  replace BW := BW.trans (hb.mono BW.size)
  clear hb
  refine hK.out _ _ (by exact K5.cs) (fun hHeld => ?_)
  clear hK
  (try simp only [p0, p1, p2, p3])
  refine pR1 7 (fun K hK => ?_)
  go_simp
  (go_at_call 58; with_reducible refine (H.ng _ _).mono ?_)
  rintro _ w15 ⟨rfl, hb⟩
  (try go_wp2_with fail)
  replace K5 := K5.on hb
  replace K9 := K9.on hb
  replace Z10 := Z10.on hb
  replace BW := BW.trans (hb.mono BW.size)
  clear hb
  refine hK.out _ _ (by exact K5.cs) (fun hHeld => ?_)
  clear hK
  (try simp only [p0, p1, p2, p3])
  refine pT 10 ?_
  (try simp only [p0, p1, p2, p3])
  refine pR1 11 (fun K hK => ?_)
  obtain ⟨c16, c17, c18, c19, c20, c21, c22, c23, c24, c25, c26, c27⟩ := K9.c12
  obtain ⟨c28, c29, c30, c31, c32, c33, c34, c35, c36, c37, c38, c39⟩ := Z10.f12
  go_simp
  clear c16 c17 c18 c19 c20 c21 c22 c23 c24 c25 c26 c27 c28 c29 c30 c31 c32 c33 c34 c35 c36 c37 c38 c39
  obtain ⟨V40, hk42⟩ : ∃ V40, V40 = w15.setCells (w.heap.size + 1) 0 [.int .i64 kk, .int .i64 x.d, .complex .f64 0 0, .int .i64 kk, .int .i64 (R.ng x.b), .complex .f64 0 0, .int .i64 kk, .int .i64 (R.ng x.c), .complex .f64 0 0, .int .i64 kk, .int .i64 x.a, .complex .f64 0 0] := ⟨_, rfl⟩
  have e41 := hk42
  simp only [World.setCells, Nat.zero_add, Nat.reduceAdd] at e41
  have hk43 := Kept.overE hk42 K9 rfl (by simp)
  replace K5 := K5.awayE hk42 n11
  replace K9 := K9.overE hk42 rfl
  replace BW := Below.putE BW hk42 g12
  clear hk42 hk43
  rw [← e41]
  clear e41
  refine hK.out _ _ (by exact K5.cs) (fun hHeld => ?_)
  clear hK
  (try simp only [p0, p1, p2, p3])
  refine wpAnyH_done (by kernel_rfl) (NoPanic.normal ?_) _
  go_wp2
  obtain ⟨c44, c45, c46, c47, c48, c49, c50, c51, c52, c53, c54, c55⟩ := K9.c12
  exact bodyPost_ret (v := (.agg #[.int .i64 kk, .int .i64 x.d, .complex .f64 0 0, .int .i64 kk, .int .i64 (R.ng x.b), .complex .f64 0 0, .int .i64 kk, .int .i64 (R.ng x.c), .complex .f64 0 0, .int .i64 kk, .int .i64 x.a, .complex .f64 0 0])) (by simp [results, Try.results20, go_sem, c44, c45, c46, c47, c48, c49, c50, c51, c52, c53, c54, c55]) rfl ⟨rfl, BW⟩
set_option maxHeartbeats 8000000 in
set_option maxRecDepth 20000 in
theorem alike {kk : Int} {R : Rg} (H : RefR kk R) (x y : Int) (w : World) :
    Calls Try.prog 59 #[tv kk x, tv kk y] w (fun e w' => e = .returned (.bool (x == y)) ∧ Below w.heap.size w w') := by
  have hsc := @run_store_c Try.prog
  have hnw := H.nw
  have BW : Below w.heap.size w w := Below.refl _ _
  obtain ⟨V2, e3, hb4, K5, -, z1⟩ := alloc_new w [.int .i64 kk, .int .i64 x, .complex .f64 0 0] 35
  replace BW := BW.trans (hb4.mono BW.size)
  clear hb4
  obtain ⟨V6, e7, hb8, K9, -, -⟩ := alloc_new V2 [.int .i64 kk, .int .i64 y, .complex .f64 0 0] 35
  rw [z1] at K9
  replace BW := BW.trans (hb8.mono BW.size)
  clear hb8
  clear z1
  go_enter Try.func59, Try.ntmps59
  go_wp2_with fail
  rw [← e3, ← e7]
  clear e3 e7
  go_wp2_with fail
  go_ret; exact ⟨rfl, BW⟩
theorem alikeT {kk : Int} {R : Rg} (H : RefR kk R) {x y : Int} {b : Bool} {w : World} (h : (x == y) = b) : Calls Try.prog 59 #[tv kk x, tv kk y] w (fun e w' => e = .returned (.bool b) ∧ Below w.heap.size w w') := h ▸ alike H x y w
set_option maxHeartbeats 8000000 in
set_option maxRecDepth 20000 in
theorem rlike0 {kk : Int} {R : Rg} (H : RefR kk R) (x y : Mz) (w : World) (h0 : (x.a == y.a) = false) :
    Calls Try.prog 26 #[tm kk x, tm kk y] w (fun e w' => e = .returned (.bool false) ∧ Below w.heap.size w w') := by
  have hsc := @run_store_c Try.prog
  have Q0 := Lib.hid h0
  clear h0
  have BW : Below w.heap.size w w := Below.refl _ _
  obtain ⟨V2, e3, hb4, K5, -, z1⟩ := alloc_new w [.int .i64 kk, .int .i64 x.a, .complex .f64 0 0, .int .i64 kk, .int .i64 x.b, .complex .f64 0 0, .int .i64 kk, .int .i64 x.c, .complex .f64 0 0, .int .i64 kk, .int .i64 x.d, .complex .f64 0 0] 37
  replace BW := BW.trans (hb4.mono BW.size)
  clear hb4
  obtain ⟨V6, e7, hb8, K9, -, -⟩ := alloc_new V2 [.int .i64 kk, .int .i64 y.a, .complex .f64 0 0, .int .i64 kk, .int .i64 y.b, .complex .f64 0 0, .int .i64 kk, .int .i64 y.c, .complex .f64 0 0, .int .i64 kk, .int .i64 y.d, .complex .f64 0 0] 37
  rw [z1] at K9
  replace BW := BW.trans (hb8.mono BW.size)
  clear hb8
  clear z1
  go_enter Try.func26, Try.ntmps26
  go_wp2_with fail
  rw [← e3, ← e7]
  clear e3 e7
  refine (alikeT H Q0.out).mono ?_
  rintro _ w10 ⟨rfl, hb⟩
  replace BW := BW.trans (hb.mono BW.size)
  clear hb
  go_wp2_with fail
  go_ret; exact ⟨rfl, BW⟩
set_option maxHeartbeats 8000000 in
set_option maxRecDepth 20000 in
theorem rlike1 {kk : Int} {R : Rg} (H : RefR kk R) (x y : Mz) (w : World) (h0 : (x.a == y.a) = true) (h1 : (x.b == y.b) = false) :
    Calls Try.prog 26 #[tm kk x, tm kk y] w (fun e w' => e = .returned (.bool false) ∧ Below w.heap.size w w') := by
  have hsc := @run_store_c Try.prog
  have Q0 := Lib.hid h0
  have Q1 := Lib.hid h1
  clear h0 h1
  have BW : Below w.heap.size w w := Below.refl _ _
  obtain ⟨V2, e3, hb4, K5, -, z1⟩ := alloc_new w [.int .i64 kk, .int .i64 x.a, .complex .f64 0 0, .int .i64 kk, .int .i64 x.b, .complex .f64 0 0, .int .i64 kk, .int .i64 x.c, .complex .f64 0 0, .int .i64 kk, .int .i64 x.d, .complex .f64 0 0] 37
  replace BW := BW.trans (hb4.mono BW.size)
  clear hb4
  obtain ⟨V6, e7, hb8, K9, -, -⟩ := alloc_new V2 [.int .i64 kk, .int .i64 y.a, .complex .f64 0 0, .int .i64 kk, .int .i64 y.b, .complex .f64 0 0, .int .i64 kk, .int .i64 y.c, .complex .f64 0 0, .int .i64 kk, .int .i64 y.d, .complex .f64 0 0] 37
  rw [z1] at K9
  replace K5 := K5.on hb8
  replace BW := BW.trans (hb8.mono BW.size)
  clear hb8
  clear z1
  go_enter Try.func26, Try.ntmps26
  go_wp2_with fail
  rw [← e3, ← e7]
  clear e3 e7
  refine (alikeT H Q0.out).mono ?_
  rintro _ w10 ⟨rfl, hb⟩
  replace K5 := K5.on hb
  replace K9 := K9.on hb
  replace BW := BW.trans (hb.mono BW.size)
  clear hb
  obtain ⟨c11, c12, c13, c14, c15, c16, c17, c18, c19, c20, c21, c22⟩ := K5.c12
  obtain ⟨c23, c24, c25, c26, c27, c28, c29, c30, c31, c32, c33, c34⟩ := K9.c12
  go_wp2_with fail
  clear c11 c12 c13 c14 c15 c16 c17 c18 c19 c20 c21 c22 c23 c24 c25 c26 c27 c28 c29 c30 c31 c32 c33 c34
  refine (alikeT H Q1.out).mono ?_
  rintro _ w35 ⟨rfl, hb⟩
  replace BW := BW.trans (hb.mono BW.size)
  clear hb
  go_wp2_with fail
  go_ret; exact ⟨rfl, BW⟩
set_option maxHeartbeats 8000000 in
set_option maxRecDepth 20000 in
theorem rlike2 {kk : Int} {R : Rg} (H : RefR kk R) (x y : Mz) (w : World) (h0 : (x.a == y.a) = true) (h1 : (x.b == y.b) = true) (h2 : (x.c == y.c) = false) :
    Calls Try.prog 26 #[tm kk x, tm kk y] w (fun e w' => e = .returned (.bool false) ∧ Below w.heap.size w w') := by
  have hsc := @run_store_c Try.prog
  have Q0 := Lib.hid h0
  have Q1 := Lib.hid h1
  have Q2 := Lib.hid h2
  clear h0 h1 h2
  have BW : Below w.heap.size w w := Below.refl _ _
  obtain ⟨V2, e3, hb4, K5, -, z1⟩ := alloc_new w [.int .i64 kk, .int .i64 x.a, .complex .f64 0 0, .int .i64 kk, .int .i64 x.b, .complex .f64 0 0, .int .i64 kk, .int .i64 x.c, .complex .f64 0 0, .int .i64 kk, .int .i64 x.d, .complex .f64 0 0] 37
  replace BW := BW.trans (hb4.mono BW.size)
  clear hb4
  obtain ⟨V6, e7, hb8, K9, -, -⟩ := alloc_new V2 [.int .i64 kk, .int .i64 y.a, .complex .f64 0 0, .int .i64 kk, .int .i64 y.b, .complex .f64 0 0, .int .i64 kk, .int .i64 y.c, .complex .f64 0 0, .int .i64 kk, .int .i64 y.d, .complex .f64 0 0] 37
  rw [z1] at K9
  replace K5 := K5.on hb8
  replace BW := BW.trans (hb8.mono BW.size)
  clear hb8
  clear z1
  go_enter Try.func26, Try.ntmps26
  go_wp2_with fail
  rw [← e3, ← e7]
  clear e3 e7
  refine (alikeT H Q0.out).mono ?_
  rintro _ w10 ⟨rfl, hb⟩
  replace K5 := K5.on hb
  replace K9 := K9.on hb
  replace BW := BW.trans (hb.mono BW.size)
  clear hb
  obtain ⟨c11, c12, c13, c14, c15, c16, c17, c18, c19, c20, c21, c22⟩ := K5.c12
  obtain ⟨c23, c24, c25, c26, c27, c28, c29, c30, c31, c32, c33, c34⟩ := K9.c12
  go_wp2_with fail
  clear c11 c12 c13 c14 c15 c16 c17 c18 c19 c20 c21 c22 c23 c24 c25 c26 c27 c28 c29 c30 c31 c32 c33 c34
  refine (alikeT H Q1.out).mono ?_
  rintro _ w35 ⟨rfl, hb⟩
  replace K5 := K5.on hb
  replace K9 := K9.on hb
  replace BW := BW.trans (hb.mono BW.size)
  clear hb
  obtain ⟨c36, c37, c38, c39, c40, c41, c42, c43, c44, c45, c46, c47⟩ := K5.c12
  obtain ⟨c48, c49, c50, c51, c52, c53, c54, c55, c56, c57, c58, c59⟩ := K9.c12
  go_wp2_with fail
  clear c36 c37 c38 c39 c40 c41 c42 c43 c44 c45 c46 c47 c48 c49 c50 c51 c52 c53 c54 c55 c56 c57 c58 c59
  refine (alikeT H Q2.out).mono ?_
  rintro _ w60 ⟨rfl, hb⟩
  replace BW := BW.trans (hb.mono BW.size)
  clear hb
  go_wp2_with fail
  go_ret; exact ⟨rfl, BW⟩
set_option maxHeartbeats 8000000 in
set_option maxRecDepth 20000 in
theorem rlike3 {kk : Int} {R : Rg} (H : RefR kk R) (x y : Mz) (w : World) (h0 : (x.a == y.a) = true) (h1 : (x.b == y.b) = true) (h2 : (x.c == y.c) = true) (h3 : (x.d == y.d) = false) :
    Calls Try.prog 26 #[tm kk x, tm kk y] w (fun e w' => e = .returned (.bool false) ∧ Below w.heap.size w w') := by
  have hsc := @run_store_c Try.prog
  have Q0 := Lib.hid h0
  have Q1 := Lib.hid h1
  have Q2 := Lib.hid h2
  have Q3 := Lib.hid h3
  clear h0 h1 h2 h3
  have BW : Below w.heap.size w w := Below.refl _ _
  obtain ⟨V2, e3, hb4, K5, -, z1⟩ := alloc_new w [.int .i64 kk, .int .i64 x.a, .complex .f64 0 0, .int .i64 kk, .int .i64 x.b, .complex .f64 0 0, .int .i64 kk, .int .i64 x.c, .complex .f64 0 0, .int .i64 kk, .int .i64 x.d, .complex .f64 0 0] 37
  replace BW := BW.trans (hb4.mono BW.size)
  clear hb4
  obtain ⟨V6, e7, hb8, K9, -, -⟩ := alloc_new V2 [.int .i64 kk, .int .i64 y.a, .complex .f64 0 0, .int .i64 kk, .int .i64 y.b, .complex .f64 0 0, .int .i64 kk, .int .i64 y.c, .complex .f64 0 0, .int .i64 kk, .int .i64 y.d, .complex .f64 0 0] 37
  rw [z1] at K9
  replace K5 := K5.on hb8
  replace BW := BW.trans (hb8.mono BW.size)
  clear hb8
  clear z1
  go_enter Try.func26, Try.ntmps26
  go_wp2_with fail
  rw [← e3, ← e7]
  clear e3 e7
  refine (alikeT H Q0.out).mono ?_
  rintro _ w10 ⟨rfl, hb⟩
  replace K5 := K5.on hb
  replace K9 := K9.on hb
  replace BW := BW.trans (hb.mono BW.size)
  clear hb
  obtain ⟨c11, c12, c13, c14, c15, c16, c17, c18, c19, c20, c21, c22⟩ := K5.c12
  obtain ⟨c23, c24, c25, c26, c27, c28, c29, c30, c31, c32, c33, c34⟩ := K9.c12
  go_wp2_with fail
  clear c11 c12 c13 c14 c15 c16 c17 c18 c19 c20 c21 c22 c23 c24 c25 c26 c27 c28 c29 c30 c31 c32 c33 c34
  refine (alikeT H Q1.out).mono ?_
  rintro _ w35 ⟨rfl, hb⟩
  replace K5 := K5.on hb
  replace K9 := K9.on hb
  replace BW := BW.trans (hb.mono BW.size)
  clear hb
  obtain ⟨c36, c37, c38, c39, c40, c41, c42, c43, c44, c45, c46, c47⟩ := K5.c12
  obtain ⟨c48, c49, c50, c51, c52, c53, c54, c55, c56, c57, c58, c59⟩ := K9.c12
  go_wp2_with fail
  clear c36 c37 c38 c39 c40 c41 c42 c43 c44 c45 c46 c47 c48 c49 c50 c51 c52 c53 c54 c55 c56 c57 c58 c59
  refine (alikeT H Q2.out).mono ?_
  rintro _ w60 ⟨rfl, hb⟩
  replace K5 := K5.on hb
  replace K9 := K9.on hb
  replace BW := BW.trans (hb.mono BW.size)
  clear hb
  obtain ⟨c61, c62, c63, c64, c65, c66, c67, c68, c69, c70, c71, c72⟩ := K5.c12
  obtain ⟨c73, c74, c75, c76, c77, c78, c79, c80, c81, c82, c83, c84⟩ := K9.c12
  go_wp2_with fail
  clear c61 c62 c63 c64 c65 c66 c67 c68 c69 c70 c71 c72 c73 c74 c75 c76 c77 c78 c79 c80 c81 c82 c83 c84
  refine (alikeT H Q3.out).mono ?_
  rintro _ w85 ⟨rfl, hb⟩
  replace BW := BW.trans (hb.mono BW.size)
  clear hb
  go_wp2_with fail
  go_ret; exact ⟨rfl, BW⟩
set_option maxHeartbeats 8000000 in
set_option maxRecDepth 20000 in
theorem rlike4 {kk : Int} {R : Rg} (H : RefR kk R) (x y : Mz) (w : World) (h0 : (x.a == y.a) = true) (h1 : (x.b == y.b) = true) (h2 : (x.c == y.c) = true) (h3 : (x.d == y.d) = true) :
    Calls Try.prog 26 #[tm kk x, tm kk y] w (fun e w' => e = .returned (.bool true) ∧ Below w.heap.size w w') := by
  have hsc := @run_store_c Try.prog
  have Q0 := Lib.hid h0
  have Q1 := Lib.hid h1
  have Q2 := Lib.hid h2
  have Q3 := Lib.hid h3
  clear h0 h1 h2 h3
  have BW : Below w.heap.size w w := Below.refl _ _
  obtain ⟨V2, e3, hb4, K5, -, z1⟩ := alloc_new w [.int .i64 kk, .int .i64 x.a, .complex .f64 0 0, .int .i64 kk, .int .i64 x.b, .complex .f64 0 0, .int .i64 kk, .int .i64 x.c, .complex .f64 0 0, .int .i64 kk, .int .i64 x.d, .complex .f64 0 0] 37
  replace BW := BW.trans (hb4.mono BW.size)
  clear hb4
  obtain ⟨V6, e7, hb8, K9, -, -⟩ := alloc_new V2 [.int .i64 kk, .int .i64 y.a, .complex .f64 0 0, .int .i64 kk, .int .i64 y.b, .complex .f64 0 0, .int .i64 kk, .int .i64 y.c, .complex .f64 0 0, .int .i64 kk, .int .i64 y.d, .complex .f64 0 0] 37
  rw [z1] at K9
  replace K5 := K5.on hb8
  replace BW := BW.trans (hb8.mono BW.size)
  clear hb8
  clear z1
  go_enter Try.func26, Try.ntmps26
  go_wp2_with fail
  rw [← e3, ← e7]
  clear e3 e7
  refine (alikeT H Q0.out).mono ?_
  rintro _ w10 ⟨rfl, hb⟩
  replace K5 := K5.on hb
  replace K9 := K9.on hb
  replace BW := BW.trans (hb.mono BW.size)
  clear hb
  obtain ⟨c11, c12, c13, c14, c15, c16, c17, c18, c19, c20, c21, c22⟩ := K5.c12
  obtain ⟨c23, c24, c25, c26, c27, c28, c29, c30, c31, c32, c33, c34⟩ := K9.c12
  go_wp2_with fail
  clear c11 c12 c13 c14 c15 c16 c17 c18 c19 c20 c21 c22 c23 c24 c25 c26 c27 c28 c29 c30 c31 c32 c33 c34
  refine (alikeT H Q1.out).mono ?_
  rintro _ w35 ⟨rfl, hb⟩
  replace K5 := K5.on hb
  replace K9 := K9.on hb
  replace BW := BW.trans (hb.mono BW.size)
  clear hb
  obtain ⟨c36, c37, c38, c39, c40, c41, c42, c43, c44, c45, c46, c47⟩ := K5.c12
  obtain ⟨c48, c49, c50, c51, c52, c53, c54, c55, c56, c57, c58, c59⟩ := K9.c12
  go_wp2_with fail
  clear c36 c37 c38 c39 c40 c41 c42 c43 c44 c45 c46 c47 c48 c49 c50 c51 c52 c53 c54 c55 c56 c57 c58 c59
  refine (alikeT H Q2.out).mono ?_
  rintro _ w60 ⟨rfl, hb⟩
  replace K5 := K5.on hb
  replace K9 := K9.on hb
  replace BW := BW.trans (hb.mono BW.size)
  clear hb
  obtain ⟨c61, c62, c63, c64, c65, c66, c67, c68, c69, c70, c71, c72⟩ := K5.c12
  obtain ⟨c73, c74, c75, c76, c77, c78, c79, c80, c81, c82, c83, c84⟩ := K9.c12
  go_wp2_with fail
  clear c61 c62 c63 c64 c65 c66 c67 c68 c69 c70 c71 c72 c73 c74 c75 c76 c77 c78 c79 c80 c81 c82 c83 c84
  refine (alikeT H Q3.out).mono ?_
  rintro _ w85 ⟨rfl, hb⟩
  replace BW := BW.trans (hb.mono BW.size)
  clear hb
  go_wp2_with fail
  go_ret; exact ⟨rfl, BW⟩
theorem rlike {kk : Int} {R : Rg} (H : RefR kk R) (x y : Mz) (w : World) : Calls Try.prog 26 #[tm kk x, tm kk y] w (fun e w' => e = .returned (.bool (lkm x y)) ∧ Below w.heap.size w w') := by
  unfold lkm
  cases h0 : (x.a == y.a)
  · exact rlike0 H x y w h0
  · cases h1 : (x.b == y.b)
    · exact rlike1 H x y w h0 h1
    · cases h2 : (x.c == y.c)
      · exact rlike2 H x y w h0 h1 h2
      · cases h3 : (x.d == y.d)
        · exact rlike3 H x y w h0 h1 h2 h3
        · exact rlike4 H x y w h0 h1 h2 h3
end Go.Proofs.Ytgoackkfjieahaa.D
