/-
  Matrices of numbers that wrap round keep the laws of matrices (MatRing): the walk. Condition: numbers of 64 bits.
-/
import Derived.Test.YtgoackkfjieahaaMrw
namespace Go.Proofs.Ytgoackkfjieahaa.W
open Go.RowKit
theorem mulT {x y z : Mz} {w : World} (h : R.mul x y = z) : Calls Try.prog 13 #[mv x, mv y] w fun e w' => e = .returned (mv z) ∧ Below w.heap.size w w' := h ▸ mul x y w
theorem detT {x : Mz} {d : Int} {w : World} (h : R.det x = d) : Calls Try.prog 15 #[mv x] w fun e w' => e = .returned (.int .i64 d) ∧ Below w.heap.size w w' := h ▸ det x w
theorem traceT {x : Mz} {d : Int} {w : World} (h : R.tr x = d) : Calls Try.prog 17 #[mv x] w fun e w' => e = .returned (.int .i64 d) ∧ Below w.heap.size w w' := h ▸ trace x w
theorem turnedT {x y : Mz} {w : World} (h : R.turned x = y) : Calls Try.prog 19 #[mv x] w fun e w' => e = .returned (mv y) ∧ Below w.heap.size w w' := h ▸ turned x w
theorem lv1 : R.mul ⟨1, 2, 3, 4⟩ ⟨5, 6, 7, 8⟩ = ⟨19, 22, 43, 50⟩ := by kernel_rfl
theorem lv2 : R.det ⟨1, 2, 3, 4⟩ = -2 := by kernel_rfl
set_option maxHeartbeats 8000000 in
set_option maxRecDepth 20000 in
theorem wrapw (x : Mz) (w : World) :
    Calls Try.prog 10 #[mv x] w (fun e w' => e = .returned (mv x) ∧ Below w.heap.size w w') := by
  have BW : Below w.heap.size w w := Below.refl _ _
  obtain ⟨V2, e3, hb4, K5, -, z1⟩ := alloc_new w [.int .i64 x.a, .int .i64 x.b, .int .i64 x.c, .int .i64 x.d] 23
  replace BW := BW.trans (hb4.mono BW.size)
  clear hb4
  obtain ⟨V6, e7, hb8, K9, -, -⟩ := alloc_new V2 [.int .i64 x.a, .int .i64 x.b, .int .i64 x.c, .int .i64 x.d] 31
  rw [z1] at K9
  replace BW := BW.trans (hb8.mono BW.size)
  clear hb8
  clear z1
  go_enter Try.func10, Try.ntmps10
  go_wp2_with fail
  rw [← e3, ← e7]
  clear e3 e7
  go_wp2_with fail
  obtain ⟨c10, c11, c12, c13⟩ := K9.c4
  exact bodyPost_ret (v := (.agg #[.int .i64 x.a, .int .i64 x.b, .int .i64 x.c, .int .i64 x.d])) (by simp [results, Try.results10, go_sem, c10, c11, c12, c13]) rfl ⟨rfl, BW⟩
set_option maxHeartbeats 8000000 in
set_option maxRecDepth 20000 in
theorem lives (w : World) :
    Calls Try.prog 27 #[] w (fun e w' => e = .returned (.bool true) ∧ Below w.heap.size w w') := by
  have BW : Below w.heap.size w w := Below.refl _ _
  go_enter Try.func27, Try.ntmps27
  go_wp2_with fail
  refine (wrapw ⟨1, 2, 3, 4⟩ _).mono ?_
  rintro _ w1 ⟨rfl, hb⟩
  replace BW := BW.trans (hb.mono BW.size)
  clear hb
  go_wp2_with fail
  refine (wrapw ⟨5, 6, 7, 8⟩ _).mono ?_
  rintro _ w2 ⟨rfl, hb⟩
  replace BW := BW.trans (hb.mono BW.size)
  clear hb
  go_wp2_with fail
  refine (mulT (x := ⟨1, 2, 3, 4⟩) (y := ⟨5, 6, 7, 8⟩) (z := ⟨19, 22, 43, 50⟩) lv1).mono ?_
  rintro _ w3 ⟨rfl, hb⟩
  replace BW := BW.trans (hb.mono BW.size)
  clear hb
  obtain ⟨V4, e5, hb6, K7, -, -⟩ := alloc_new w3 [.int .i64 19, .int .i64 22, .int .i64 43, .int .i64 50] 31
  replace BW := BW.trans (hb6.mono BW.size)
  clear hb6
  go_wp2_with fail
  rw [← e5]
  clear e5
  generalize w3.heap.size = b8 at *
  refine wp_region_noPanic ?_
  have hb : Below V4.heap.size V4 V4.drew := (Below.refl _ _).drew
  replace K7 := K7.on hb
  replace BW := BW.trans (hb.mono BW.size)
  clear hb
  refine wp_region_held_drew (S := (fun wx => Cs wx (b8) 0 [.int .i64 19, .int .i64 22, .int .i64 43, .int .i64 50])) (by kernel_rfl) (by exact K7.cs) (fun hHeld => ?_)
  generalize V4.drew = Vd9 at *
  refine pT 0 ?_
  (try simp only [p0, p1, p2, p3])
  refine pT 1 ?_
  (try simp only [p0, p1, p2, p3])
  refine pR1 2 (fun K hK => ?_)
  go_simp
  (go_at_call 10; with_reducible refine (wrapw ⟨19, 22, 43, 50⟩ _).mono ?_)
  rintro _ w10 ⟨rfl, hb⟩
  (try go_wp2_with fail)
  replace K7 := K7.on hb
  replace BW := BW.trans (hb.mono BW.size)
  clear hb
  refine hK.out _ _ (by exact K7.cs) (fun hHeld => ?_)
  clear hK
  (try simp only [p0, p1, p2, p3])
  refine pT 3 ?_
  (try simp only [p0, p1, p2, p3])
  refine pT 4 ?_
  (try simp only [p0, p1, p2, p3])
  refine pT 5 ?_
  (try simp only [p0, p1, p2, p3])
  refine pR1 6 (fun K hK => ?_)
  go_simp
  (go_at_call 10; with_reducible refine (wrapw ⟨1, 2, 3, 4⟩ _).mono ?_)
  rintro _ w11 ⟨rfl, hb⟩
  (try go_wp2_with fail)
  replace K7 := K7.on hb
  replace BW := BW.trans (hb.mono BW.size)
  clear hb
  refine hK.out _ _ (by exact K7.cs) (fun hHeld => ?_)
  clear hK
  (try simp only [p0, p1, p2, p3])
  refine pR1 7 (fun K hK => ?_)
  go_simp
  (go_at_call 15; with_reducible refine (detT (x := ⟨1, 2, 3, 4⟩) (d := -2) lv2).mono ?_)
  rintro _ w12 ⟨rfl, hb⟩
  (try go_wp2_with fail)
  replace K7 := K7.on hb
  replace BW := BW.trans (hb.mono BW.size)
  clear hb
  refine hK.out _ _ (by exact K7.cs) (fun hHeld => ?_)
  clear hK
  (try simp only [p0, p1, p2, p3])
  refine pT 8 ?_
  (try simp only [p0, p1, p2, p3])
  refine pT 9 ?_
  (try simp only [p0, p1, p2, p3])
  refine pT 10 ?_
  (try simp only [p0, p1, p2])
  refine wpAnyH_done (by kernel_rfl) (NoPanic.normal ?_) _
  go_wp2
  go_ret; exact ⟨rfl, BW⟩
end Go.Proofs.Ytgoackkfjieahaa.W
