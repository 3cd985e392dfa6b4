/-
  The document's things of the ring that tells what is done. No conditions.
-/
import Derived.Test.YtgoackkfjieahaaMd1
import Derived.Test.YtgoackkfjieahaaMm0
namespace Go.Proofs.Ytgoackkfjieahaa.D
open Go.RowKit
set_option maxHeartbeats 8000000 in
set_option maxRecDepth 20000 in
theorem add_T (x y : Int) (w : World) :
    Calls Try.prog 56 #[tv 3 x, tv 3 y] w (fun e w' => e = .returned (tv 3 (rt.ad x y)) ∧ Below w.heap.size w w') := by
  have hsc := @run_store_c Try.prog
  have BW : Below w.heap.size w w := Below.refl _ _
  obtain ⟨V2, e3, hb4, K5, -, z1⟩ := alloc_new w [.int .i64 3, .int .i64 x, .complex .f64 0 0] 35
  replace BW := BW.trans (hb4.mono BW.size)
  clear hb4
  obtain ⟨V7, e8, hb9, K10, -, z6⟩ := alloc_new V2 [.int .i64 3, .int .i64 y, .complex .f64 0 0] 35
  rw [z1] at K10 z6
  replace K5 := K5.on hb9
  replace BW := BW.trans (hb9.mono BW.size)
  clear hb9
  obtain ⟨V11, e12, hb13, K14, Z15, -⟩ := alloc_new V7 [.int .i64 0, .int .i64 0, .complex .f64 0 0] 35
  rw [z6] at K14 Z15
  have n16 : w.heap.size ≠ w.heap.size + 1 + 1 := Nat.ne_of_lt (z6 ▸ K5.lt)
  have n17 : w.heap.size + 1 ≠ w.heap.size + 1 + 1 := Nat.ne_of_lt (z6 ▸ K10.lt)
  have g18 : w.heap.size ≤ w.heap.size + 1 + 1 := z6 ▸ BW.size
  replace K5 := K5.on hb13
  replace K10 := K10.on hb13
  replace BW := BW.trans (hb13.mono BW.size)
  clear hb13
  clear z1 z6
  go_enter Try.func56, Try.ntmps56
  go_wp2_with fail
  rw [← e3, ← e8, ← e12]
  clear e3 e8 e12
  refine wp_region_noPanic ?_
  have hb : Below V11.heap.size V11 V11.drew := (Below.refl _ _).drew
  replace K5 := K5.on hb
  replace K10 := K10.on hb
  replace K14 := K14.on hb
  replace Z15 := Z15.on hb
  replace BW := BW.trans (hb.mono BW.size)
  clear hb
  refine wp_region_held_drew (S := (fun wx => Cs wx (w.heap.size) 0 [.int .i64 3, .int .i64 x, .complex .f64 0 0] ∧ Cs wx (w.heap.size + 1) 0 [.int .i64 3, .int .i64 y, .complex .f64 0 0])) (by kernel_rfl) (by exact ⟨K5.cs, K10.cs⟩) (fun hHeld => ?_)
  generalize V11.drew = Vd19 at *
  refine pT 0 ?_
  (try simp only [p0, p1, p2, p3])
  refine pT 1 ?_
  (try simp only [p0, p1, p2, p3])
  refine pT 2 ?_
  (try simp only [p0, p1, p2, p3])
  refine pT 3 ?_
  (try simp only [p0, p1, p2, p3])
  refine pT 4 ?_
  (try simp only [p0, p1, p2, p3])
  refine pT 5 ?_
  (try simp only [p0, p1, p2, p3])
  refine pR1 6 (fun K hK => ?_)
  go_simp
  (go_at_call 67; with_reducible refine (mixb 1 x y _).mono ?_)
  rintro _ w20 ⟨rfl, hb⟩
  (try go_wp2_with fail)
  replace K5 := K5.on hb
  replace K10 := K10.on hb
  replace K14 := K14.on hb
  replace Z15 := Z15.on hb
  replace BW := BW.trans (hb.mono BW.size)
  clear hb
  refine hK.out _ _ (by exact ⟨K5.cs, K10.cs⟩) (fun hHeld => ?_)
  clear hK
  (try simp only [p0, p1, p2, p3])
  refine pT 7 ?_
  (try simp only [p0, p1, p2, p3])
  refine pR1 8 (fun K hK => ?_)
  obtain ⟨c21, c22, c23⟩ := K14.c3
  obtain ⟨c24, c25, c26⟩ := Z15.f3
  go_simp
  clear c21 c22 c23 c24 c25 c26
  obtain ⟨V27, hk29⟩ : ∃ V27, V27 = w20.setCells (w.heap.size + 1 + 1) 0 [.int .i64 3, .int .i64 (mixv 1 x y), .complex .f64 0 0] := ⟨_, rfl⟩
  have e28 := hk29
  simp only [World.setCells, Nat.zero_add, Nat.reduceAdd] at e28
  have hk30 := Kept.overE hk29 K14 rfl (by simp)
  replace K5 := K5.awayE hk29 n16
  replace K10 := K10.awayE hk29 n17
  replace K14 := K14.overE hk29 rfl
  replace BW := Below.putE BW hk29 g18
  clear hk29 hk30
  rw [← e28]
  clear e28
  refine hK.out _ _ (by exact ⟨K5.cs, K10.cs⟩) (fun hHeld => ?_)
  clear hK
  (try simp only [p0, p1, p2, p3])
  refine wpAnyH_done (by kernel_rfl) (NoPanic.normal ?_) _
  go_wp2
  obtain ⟨c31, c32, c33⟩ := K14.c3
  exact bodyPost_ret (v := (.agg #[.int .i64 3, .int .i64 (mixv 1 x y), .complex .f64 0 0])) (by simp [results, Try.results56, go_sem, c31, c32, c33]) rfl ⟨rfl, BW⟩
set_option maxHeartbeats 8000000 in
set_option maxRecDepth 20000 in
theorem mul_T (x y : Int) (w : World) :
    Calls Try.prog 57 #[tv 3 x, tv 3 y] w (fun e w' => e = .returned (tv 3 (rt.ml x y)) ∧ Below w.heap.size w w') := by
  have hsc := @run_store_c Try.prog
  have BW : Below w.heap.size w w := Below.refl _ _
  obtain ⟨V2, e3, hb4, K5, -, z1⟩ := alloc_new w [.int .i64 3, .int .i64 x, .complex .f64 0 0] 35
  replace BW := BW.trans (hb4.mono BW.size)
  clear hb4
  obtain ⟨V7, e8, hb9, K10, -, z6⟩ := alloc_new V2 [.int .i64 3, .int .i64 y, .complex .f64 0 0] 35
  rw [z1] at K10 z6
  replace K5 := K5.on hb9
  replace BW := BW.trans (hb9.mono BW.size)
  clear hb9
  obtain ⟨V11, e12, hb13, K14, Z15, -⟩ := alloc_new V7 [.int .i64 0, .int .i64 0, .complex .f64 0 0] 35
  rw [z6] at K14 Z15
  have n16 : w.heap.size ≠ w.heap.size + 1 + 1 := Nat.ne_of_lt (z6 ▸ K5.lt)
  have n17 : w.heap.size + 1 ≠ w.heap.size + 1 + 1 := Nat.ne_of_lt (z6 ▸ K10.lt)
  have g18 : w.heap.size ≤ w.heap.size + 1 + 1 := z6 ▸ BW.size
  replace K5 := K5.on hb13
  replace K10 := K10.on hb13
  replace BW := BW.trans (hb13.mono BW.size)
  clear hb13
  clear z1 z6
  go_enter Try.func57, Try.ntmps57
  go_wp2_with fail
  rw [← e3, ← e8, ← e12]
  clear e3 e8 e12
  refine wp_region_noPanic ?_
  have hb : Below V11.heap.size V11 V11.drew := (Below.refl _ _).drew
  replace K5 := K5.on hb
  replace K10 := K10.on hb
  replace K14 := K14.on hb
  replace Z15 := Z15.on hb
  replace BW := BW.trans (hb.mono BW.size)
  clear hb
  refine wp_region_held_drew (S := (fun wx => Cs wx (w.heap.size) 0 [.int .i64 3, .int .i64 x, .complex .f64 0 0] ∧ Cs wx (w.heap.size + 1) 0 [.int .i64 3, .int .i64 y, .complex .f64 0 0])) (by kernel_rfl) (by exact ⟨K5.cs, K10.cs⟩) (fun hHeld => ?_)
  generalize V11.drew = Vd19 at *
  refine pT 0 ?_
  (try simp only [p0, p1, p2, p3])
  refine pT 1 ?_
  (try simp only [p0, p1, p2, p3])
  refine pT 2 ?_
  (try simp only [p0, p1, p2, p3])
  refine pT 3 ?_
  (try simp only [p0, p1, p2, p3])
  refine pT 4 ?_
  (try simp only [p0, p1, p2, p3])
  refine pT 5 ?_
  (try simp only [p0, p1, p2, p3])
  refine pR1 6 (fun K hK => ?_)
  go_simp
  (go_at_call 67; with_reducible refine (mixb 2 x y _).mono ?_)
  rintro _ w20 ⟨rfl, hb⟩
  (try go_wp2_with fail)
  replace K5 := K5.on hb
  replace K10 := K10.on hb
  replace K14 := K14.on hb
  replace Z15 := Z15.on hb
  replace BW := BW.trans (hb.mono BW.size)
  clear hb
  refine hK.out _ _ (by exact ⟨K5.cs, K10.cs⟩) (fun hHeld => ?_)
  clear hK
  (try simp only [p0, p1, p2, p3])
  refine pT 7 ?_
  (try simp only [p0, p1, p2, p3])
  refine pR1 8 (fun K hK => ?_)
  obtain ⟨c21, c22, c23⟩ := K14.c3
  obtain ⟨c24, c25, c26⟩ := Z15.f3
  go_simp
  clear c21 c22 c23 c24 c25 c26
  obtain ⟨V27, hk29⟩ : ∃ V27, V27 = w20.setCells (w.heap.size + 1 + 1) 0 [.int .i64 3, .int .i64 (mixv 2 x y), .complex .f64 0 0] := ⟨_, rfl⟩
  have e28 := hk29
  simp only [World.setCells, Nat.zero_add, Nat.reduceAdd] at e28
  have hk30 := Kept.overE hk29 K14 rfl (by simp)
  replace K5 := K5.awayE hk29 n16
  replace K10 := K10.awayE hk29 n17
  replace K14 := K14.overE hk29 rfl
  replace BW := Below.putE BW hk29 g18
  clear hk29 hk30
  rw [← e28]
  clear e28
  refine hK.out _ _ (by exact ⟨K5.cs, K10.cs⟩) (fun hHeld => ?_)
  clear hK
  (try simp only [p0, p1, p2, p3])
  refine wpAnyH_done (by kernel_rfl) (NoPanic.normal ?_) _
  go_wp2
  obtain ⟨c31, c32, c33⟩ := K14.c3
  exact bodyPost_ret (v := (.agg #[.int .i64 3, .int .i64 (mixv 2 x y), .complex .f64 0 0])) (by simp [results, Try.results57, go_sem, c31, c32, c33]) rfl ⟨rfl, BW⟩
set_option maxHeartbeats 8000000 in
set_option maxRecDepth 20000 in
theorem neg_T (x : Int) (w : World) :
    Calls Try.prog 58 #[tv 3 x] w (fun e w' => e = .returned (tv 3 (rt.ng x)) ∧ Below w.heap.size w w') := by
  have hsc := @run_store_c Try.prog
  have BW : Below w.heap.size w w := Below.refl _ _
  obtain ⟨V2, e3, hb4, K5, -, z1⟩ := alloc_new w [.int .i64 3, .int .i64 x, .complex .f64 0 0] 35
  replace BW := BW.trans (hb4.mono BW.size)
  clear hb4
  obtain ⟨V6, e7, hb8, K9, Z10, -⟩ := alloc_new V2 [.int .i64 0, .int .i64 0, .complex .f64 0 0] 35
  rw [z1] at K9 Z10
  have n11 : w.heap.size ≠ w.heap.size + 1 := Nat.ne_of_lt (z1 ▸ K5.lt)
  have g12 : w.heap.size ≤ w.heap.size + 1 := z1 ▸ BW.size
  replace K5 := K5.on hb8
  replace BW := BW.trans (hb8.mono BW.size)
  clear hb8
  clear z1
  go_enter Try.func58, Try.ntmps58
  go_wp2_with fail
  rw [← e3, ← e7]
  clear e3 e7
  refine wp_region_noPanic ?_
  have hb : Below V6.heap.size V6 V6.drew := (Below.refl _ _).drew
  replace K5 := K5.on hb
  replace K9 := K9.on hb
  replace Z10 := Z10.on hb
  replace BW := BW.trans (hb.mono BW.size)
  clear hb
  refine wp_region_held_drew (S := (fun wx => Cs wx (w.heap.size) 0 [.int .i64 3, .int .i64 x, .complex .f64 0 0])) (by kernel_rfl) (by exact K5.cs) (fun hHeld => ?_)
  generalize V6.drew = Vd13 at *
  refine pT 0 ?_
  (try simp only [p0, p1, p2, p3])
  refine pT 1 ?_
  (try simp only [p0, p1, p2, p3])
  refine pT 2 ?_
  (try simp only [p0, p1, p2, p3])
  refine pT 3 ?_
  (try simp only [p0, p1, p2, p3])
  refine pR1 4 (fun K hK => ?_)
  go_simp
  (go_at_call 67; with_reducible refine (mixb 3 x 0 _).mono ?_)
  rintro _ w14 ⟨rfl, hb⟩
  (try go_wp2_with fail)
  replace K5 := K5.on hb
  replace K9 := K9.on hb
  replace Z10 := Z10.on hb
  replace BW := BW.trans (hb.mono BW.size)
  clear hb
  refine hK.out _ _ (by exact K5.cs) (fun hHeld => ?_)
  clear hK
  (try simp only [p0, p1, p2, p3])
  refine pT 5 ?_
  (try simp only [p0, p1, p2, p3])
  refine pR1 6 (fun K hK => ?_)
  obtain ⟨c15, c16, c17⟩ := K9.c3
  obtain ⟨c18, c19, c20⟩ := Z10.f3
  go_simp
  clear c15 c16 c17 c18 c19 c20
  obtain ⟨V21, hk23⟩ : ∃ V21, V21 = w14.setCells (w.heap.size + 1) 0 [.int .i64 3, .int .i64 (mixv 3 x 0), .complex .f64 0 0] := ⟨_, rfl⟩
  have e22 := hk23
  simp only [World.setCells, Nat.zero_add, Nat.reduceAdd] at e22
  have hk24 := Kept.overE hk23 K9 rfl (by simp)
  replace K5 := K5.awayE hk23 n11
  replace K9 := K9.overE hk23 rfl
  replace BW := Below.putE BW hk23 g12
  clear hk23 hk24
  rw [← e22]
  clear e22
  refine hK.out _ _ (by exact K5.cs) (fun hHeld => ?_)
  clear hK
  (try simp only [p0, p1, p2, p3])
  refine wpAnyH_done (by kernel_rfl) (NoPanic.normal ?_) _
  go_wp2
  obtain ⟨c25, c26, c27⟩ := K9.c3
  exact bodyPost_ret (v := (.agg #[.int .i64 3, .int .i64 (mixv 3 x 0), .complex .f64 0 0])) (by simp [results, Try.results58, go_sem, c25, c26, c27]) rfl ⟨rfl, BW⟩
theorem refT : RefR 3 rt := ⟨rfl, add_T, mul_T, neg_T⟩
end Go.Proofs.Ytgoackkfjieahaa.D
