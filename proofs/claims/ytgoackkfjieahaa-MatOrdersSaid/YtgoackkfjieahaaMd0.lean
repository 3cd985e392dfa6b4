/-
  The document's things of rings: sums, products, opposites. No conditions.
-/
import Derived.Test.YtgoackkfjieahaaMr1
import Derived.Test.YtgoackkfjieahaaBx
import Derived.Test.YtgoackkfjieahaaMls
namespace Go.Proofs.Ytgoackkfjieahaa.D
open Go.RowKit
theorem run_store_c {P : Program} (k : FloatKind) (b c : Nat) (a : Addr) (m : Mode) (w : World) : (store a (.complex k b c) m).run P w = stored P w a (.complex k b c) m := run_store P w a _ m rfl
/-- A thing of a ring, a matrix of such things, as values. -/
abbrev tv (kk n : Int) : Value := .agg #[.int .i64 kk, .int .i64 n, .complex .f64 0 0]
abbrev tm (kk : Int) (x : Mz) : Value := .agg #[.int .i64 kk, .int .i64 x.a, .complex .f64 0 0, .int .i64 kk, .int .i64 x.b, .complex .f64 0 0, .int .i64 kk, .int .i64 x.c, .complex .f64 0 0, .int .i64 kk, .int .i64 x.d, .complex .f64 0 0]
abbrev fv (x : Mz) : Value := .agg #[.int .i64 x.a, .int .i64 x.b, .int .i64 x.c, .int .i64 x.d]
def tcv (kk : Int) (x : Mz) : List Value := [.int .i64 kk, .int .i64 x.a, .complex .f64 0 0, .int .i64 kk, .int .i64 x.b, .complex .f64 0 0, .int .i64 kk, .int .i64 x.c, .complex .f64 0 0, .int .i64 kk, .int .i64 x.d, .complex .f64 0 0]
/-- Are two alike? -/
def lkm (x y : Mz) : Bool := (x.a == y.a) && ((x.b == y.b) && ((x.c == y.c) && (x.d == y.d)))
theorem _root_.Go.Proofs.Ytgoackkfjieahaa.At.c12 {W : World} {g o : Nat} {a0 a1 a2 a3 a4 a5 a6 a7 a8 a9 a10 a11 : Value} (h : At W g o [a0, a1, a2, a3, a4, a5, a6, a7, a8, a9, a10, a11]) : W.cell? ⟨g, o, none⟩ = some a0 ∧ W.cell? ⟨g, o + 1, none⟩ = some a1 ∧ W.cell? ⟨g, o + 2, none⟩ = some a2 ∧ W.cell? ⟨g, o + 3, none⟩ = some a3 ∧ W.cell? ⟨g, o + 4, none⟩ = some a4 ∧ W.cell? ⟨g, o + 5, none⟩ = some a5 ∧ W.cell? ⟨g, o + 6, none⟩ = some a6 ∧ W.cell? ⟨g, o + 7, none⟩ = some a7 ∧ W.cell? ⟨g, o + 8, none⟩ = some a8 ∧ W.cell? ⟨g, o + 9, none⟩ = some a9 ∧ W.cell? ⟨g, o + 10, none⟩ = some a10 ∧ W.cell? ⟨g, o + 11, none⟩ = some a11 := ⟨h.c 0 _ rfl, h.c 1 _ rfl, h.c 2 _ rfl, h.c 3 _ rfl, h.c 4 _ rfl, h.c 5 _ rfl, h.c 6 _ rfl, h.c 7 _ rfl, h.c 8 _ rfl, h.c 9 _ rfl, h.c 10 _ rfl, h.c 11 _ rfl⟩
theorem wz_in (x : Int) : wz 9223372036854775808 (wz 128 x) = wz 128 x := by
  have := w_rng (H := 128) (by decide) x
  exact w_id (by omega) (by omega)
theorem wz_sub (x : Int) : wz 128 (wz 9223372036854775808 x) = wz 128 x := z_congr (by unfold wz; omega)
set_option maxHeartbeats 8000000 in
set_option maxRecDepth 20000 in
theorem add_W (x y : Int) (w : World) :
    Calls Try.prog 56 #[tv 0 x, tv 0 y] w (fun e w' => e = .returned (tv 0 ((rz 9223372036854775808).ad x y)) ∧ Below w.heap.size w w') := by
  have hsc := @run_store_c Try.prog
  have BW : Below w.heap.size w w := Below.refl _ _
  obtain ⟨V2, e3, hb4, K5, -, z1⟩ := alloc_new w [.int .i64 0, .int .i64 x, .complex .f64 0 0] 35
  replace BW := BW.trans (hb4.mono BW.size)
  clear hb4
  obtain ⟨V7, e8, hb9, K10, -, z6⟩ := alloc_new V2 [.int .i64 0, .int .i64 y, .complex .f64 0 0] 35
  rw [z1] at K10 z6
  replace BW := BW.trans (hb9.mono BW.size)
  clear hb9
  obtain ⟨V11, e12, hb13, K14, -, -⟩ := alloc_new V7 [.int .i64 0, .int .i64 (wrap64 (x + y)), .complex .f64 0 0] 35
  rw [z6] at K14
  replace BW := BW.trans (hb13.mono BW.size)
  clear hb13
  clear z1 z6
  go_enter Try.func56, Try.ntmps56
  go_wp2_with fail
  rw [← e3, ← e8, ← e12]
  clear e3 e8 e12
  go_wp2_with fail
  obtain ⟨c15, c16, c17⟩ := K14.c3
  exact bodyPost_ret (v := (.agg #[.int .i64 0, .int .i64 (wrap64 (x + y)), .complex .f64 0 0])) (by simp [results, Try.results56, go_sem, c15, c16, c17]) rfl ⟨by rw [wz_64]; rfl, BW⟩
set_option maxHeartbeats 8000000 in
set_option maxRecDepth 20000 in
theorem mul_W (x y : Int) (w : World) :
    Calls Try.prog 57 #[tv 0 x, tv 0 y] w (fun e w' => e = .returned (tv 0 ((rz 9223372036854775808).ml x y)) ∧ Below w.heap.size w w') := by
  have hsc := @run_store_c Try.prog
  have BW : Below w.heap.size w w := Below.refl _ _
  obtain ⟨V2, e3, hb4, K5, -, z1⟩ := alloc_new w [.int .i64 0, .int .i64 x, .complex .f64 0 0] 35
  replace BW := BW.trans (hb4.mono BW.size)
  clear hb4
  obtain ⟨V7, e8, hb9, K10, -, z6⟩ := alloc_new V2 [.int .i64 0, .int .i64 y, .complex .f64 0 0] 35
  rw [z1] at K10 z6
  replace BW := BW.trans (hb9.mono BW.size)
  clear hb9
  obtain ⟨V11, e12, hb13, K14, -, -⟩ := alloc_new V7 [.int .i64 0, .int .i64 (wrap64 (x * y)), .complex .f64 0 0] 35
  rw [z6] at K14
  replace BW := BW.trans (hb13.mono BW.size)
  clear hb13
  clear z1 z6
  go_enter Try.func57, Try.ntmps57
  go_wp2_with fail
  rw [← e3, ← e8, ← e12]
  clear e3 e8 e12
  go_wp2_with fail
  obtain ⟨c15, c16, c17⟩ := K14.c3
  exact bodyPost_ret (v := (.agg #[.int .i64 0, .int .i64 (wrap64 (x * y)), .complex .f64 0 0])) (by simp [results, Try.results57, go_sem, c15, c16, c17]) rfl ⟨by rw [wz_64]; rfl, BW⟩
set_option maxHeartbeats 8000000 in
set_option maxRecDepth 20000 in
theorem neg_W (x : Int) (w : World) :
    Calls Try.prog 58 #[tv 0 x] w (fun e w' => e = .returned (tv 0 ((rz 9223372036854775808).ng x)) ∧ Below w.heap.size w w') := by
  have hsc := @run_store_c Try.prog
  have BW : Below w.heap.size w w := Below.refl _ _
  obtain ⟨V2, e3, hb4, K5, -, z1⟩ := alloc_new w [.int .i64 0, .int .i64 x, .complex .f64 0 0] 35
  replace BW := BW.trans (hb4.mono BW.size)
  clear hb4
  obtain ⟨V6, e7, hb8, K9, -, -⟩ := alloc_new V2 [.int .i64 0, .int .i64 (wrap64 (-x)), .complex .f64 0 0] 35
  rw [z1] at K9
  replace BW := BW.trans (hb8.mono BW.size)
  clear hb8
  clear z1
  go_enter Try.func58, Try.ntmps58
  go_wp2_with fail
  rw [← e3, ← e7]
  clear e3 e7
  go_wp2_with fail
  obtain ⟨c10, c11, c12⟩ := K9.c3
  exact bodyPost_ret (v := (.agg #[.int .i64 0, .int .i64 (wrap64 (-x)), .complex .f64 0 0])) (by simp [results, Try.results58, go_sem, c10, c11, c12]) rfl ⟨by rw [wz_64]; rfl, BW⟩
set_option maxHeartbeats 8000000 in
set_option maxRecDepth 20000 in
theorem add_S (x y : Int) (w : World) :
    Calls Try.prog 56 #[tv 1 x, tv 1 y] w (fun e w' => e = .returned (tv 1 ((rz 128).ad x y)) ∧ Below w.heap.size w w') := by
  have hsc := @run_store_c Try.prog
  have hw1 : wrap64 (IntKind.i8.wrap (wrap64 (x + y))) = IntKind.i8.wrap (wrap64 (x + y)) := by rw [wz_8, wz_64]; exact wz_in _
  have BW : Below w.heap.size w w := Below.refl _ _
  obtain ⟨V2, e3, hb4, K5, -, z1⟩ := alloc_new w [.int .i64 1, .int .i64 x, .complex .f64 0 0] 35
  replace BW := BW.trans (hb4.mono BW.size)
  clear hb4
  obtain ⟨V7, e8, hb9, K10, -, z6⟩ := alloc_new V2 [.int .i64 1, .int .i64 y, .complex .f64 0 0] 35
  rw [z1] at K10 z6
  replace K5 := K5.on hb9
  replace BW := BW.trans (hb9.mono BW.size)
  clear hb9
  obtain ⟨V11, e12, hb13, K14, Z15, -⟩ := alloc_new V7 [.int .i64 1, .int .i64 (IntKind.i8.wrap (wrap64 (x + y))), .complex .f64 0 0] 35
  rw [z6] at K14 Z15
  have n16 : w.heap.size ≠ w.heap.size + 1 + 1 := Nat.ne_of_lt (z6 ▸ K5.lt)
  have n17 : w.heap.size + 1 ≠ w.heap.size + 1 + 1 := Nat.ne_of_lt (z6 ▸ K10.lt)
  have g18 : w.heap.size ≤ w.heap.size + 1 + 1 := z6 ▸ BW.size
  replace BW := BW.trans (hb13.mono BW.size)
  clear hb13
  clear z1 z6
  go_enter Try.func56, Try.ntmps56
  go_wp2_with fail
  rw [← e3, ← e8, ← e12]
  clear e3 e8 e12
  go_wp2_with fail
  obtain ⟨c19, c20, c21⟩ := K14.c3
  exact bodyPost_ret (v := (.agg #[.int .i64 1, .int .i64 (IntKind.i8.wrap (wrap64 (x + y))), .complex .f64 0 0])) (by simp [results, Try.results56, go_sem, c19, c20, c21]) rfl ⟨by rw [wz_8, wz_64, wz_sub]; rfl, BW⟩
set_option maxHeartbeats 8000000 in
set_option maxRecDepth 20000 in
theorem mul_S (x y : Int) (w : World) :
    Calls Try.prog 57 #[tv 1 x, tv 1 y] w (fun e w' => e = .returned (tv 1 ((rz 128).ml x y)) ∧ Below w.heap.size w w') := by
  have hsc := @run_store_c Try.prog
  have hw1 : wrap64 (IntKind.i8.wrap (wrap64 (x * y))) = IntKind.i8.wrap (wrap64 (x * y)) := by rw [wz_8, wz_64]; exact wz_in _
  have BW : Below w.heap.size w w := Below.refl _ _
  obtain ⟨V2, e3, hb4, K5, -, z1⟩ := alloc_new w [.int .i64 1, .int .i64 x, .complex .f64 0 0] 35
  replace BW := BW.trans (hb4.mono BW.size)
  clear hb4
  obtain ⟨V7, e8, hb9, K10, -, z6⟩ := alloc_new V2 [.int .i64 1, .int .i64 y, .complex .f64 0 0] 35
  rw [z1] at K10 z6
  replace K5 := K5.on hb9
  replace BW := BW.trans (hb9.mono BW.size)
  clear hb9
  obtain ⟨V11, e12, hb13, K14, Z15, -⟩ := alloc_new V7 [.int .i64 1, .int .i64 (IntKind.i8.wrap (wrap64 (x * y))), .complex .f64 0 0] 35
  rw [z6] at K14 Z15
  have n16 : w.heap.size ≠ w.heap.size + 1 + 1 := Nat.ne_of_lt (z6 ▸ K5.lt)
  have n17 : w.heap.size + 1 ≠ w.heap.size + 1 + 1 := Nat.ne_of_lt (z6 ▸ K10.lt)
  have g18 : w.heap.size ≤ w.heap.size + 1 + 1 := z6 ▸ BW.size
  replace BW := BW.trans (hb13.mono BW.size)
  clear hb13
  clear z1 z6
  go_enter Try.func57, Try.ntmps57
  go_wp2_with fail
  rw [← e3, ← e8, ← e12]
  clear e3 e8 e12
  go_wp2_with fail
  obtain ⟨c19, c20, c21⟩ := K14.c3
  exact bodyPost_ret (v := (.agg #[.int .i64 1, .int .i64 (IntKind.i8.wrap (wrap64 (x * y))), .complex .f64 0 0])) (by simp [results, Try.results57, go_sem, c19, c20, c21]) rfl ⟨by rw [wz_8, wz_64, wz_sub]; rfl, BW⟩
set_option maxHeartbeats 8000000 in
set_option maxRecDepth 20000 in
theorem neg_S (x : Int) (w : World) :
    Calls Try.prog 58 #[tv 1 x] w (fun e w' => e = .returned (tv 1 ((rz 128).ng x)) ∧ Below w.heap.size w w') := by
  have hsc := @run_store_c Try.prog
  have hw1 : wrap64 (IntKind.i8.wrap (wrap64 (-x))) = IntKind.i8.wrap (wrap64 (-x)) := by rw [wz_8, wz_64]; exact wz_in _
  have BW : Below w.heap.size w w := Below.refl _ _
  obtain ⟨V2, e3, hb4, K5, -, z1⟩ := alloc_new w [.int .i64 1, .int .i64 x, .complex .f64 0 0] 35
  replace BW := BW.trans (hb4.mono BW.size)
  clear hb4
  obtain ⟨V6, e7, hb8, K9, Z10, -⟩ := alloc_new V2 [.int .i64 1, .int .i64 (IntKind.i8.wrap (wrap64 (-x))), .complex .f64 0 0] 35
  rw [z1] at K9 Z10
  have n11 : w.heap.size ≠ w.heap.size + 1 := Nat.ne_of_lt (z1 ▸ K5.lt)
  have g12 : w.heap.size ≤ w.heap.size + 1 := z1 ▸ BW.size
  replace BW := BW.trans (hb8.mono BW.size)
  clear hb8
  clear z1
  go_enter Try.func58, Try.ntmps58
  go_wp2_with fail
  rw [← e3, ← e7]
  clear e3 e7
  go_wp2_with fail
  obtain ⟨c13, c14, c15⟩ := K9.c3
  exact bodyPost_ret (v := (.agg #[.int .i64 1, .int .i64 (IntKind.i8.wrap (wrap64 (-x))), .complex .f64 0 0])) (by simp [results, Try.results58, go_sem, c13, c14, c15]) rfl ⟨by rw [wz_8, wz_64, wz_sub]; rfl, BW⟩
set_option maxHeartbeats 8000000 in
set_option maxRecDepth 20000 in
theorem thing (kk x : Int) (w : World) :
    Calls Try.prog 54 #[.int .i64 kk, .int .i64 x] w (fun e w' => e = .returned (tv kk x) ∧ Below w.heap.size w w') := by
  have hsc := @run_store_c Try.prog
  have BW : Below w.heap.size w w := Below.refl _ _
  obtain ⟨V1, e2, hb3, K4, -, -⟩ := alloc_new w [.int .i64 kk, .int .i64 x, .complex .f64 0 0] 35
  replace BW := BW.trans (hb3.mono BW.size)
  clear hb3
  go_enter Try.func54, Try.ntmps54
  go_wp2_with fail
  rw [← e2]
  clear e2
  go_wp2_with fail
  obtain ⟨c5, c6, c7⟩ := K4.c3
  exact bodyPost_ret (v := (.agg #[.int .i64 kk, .int .i64 x, .complex .f64 0 0])) (by simp [results, Try.results54, go_sem, c5, c6, c7]) rfl ⟨rfl, BW⟩
set_option maxHeartbeats 8000000 in
set_option maxRecDepth 20000 in
theorem meant (kk : Int) (x : Mz) (w : World) :
    Calls Try.prog 11 #[.int .i64 kk, fv x] w (fun e w' => e = .returned (tm kk x) ∧ Below w.heap.size w w') := by
  have hsc := @run_store_c Try.prog
  have BW : Below w.heap.size w w := Below.refl _ _
  obtain ⟨V2, e3, hb4, K5, -, z1⟩ := alloc_new w [.int .i64 x.a, .int .i64 x.b, .int .i64 x.c, .int .i64 x.d] 23
  replace BW := BW.trans (hb4.mono BW.size)
  clear hb4
  obtain ⟨V6, e7, hb8, K9, Z10, -⟩ := alloc_new V2 [.int .i64 0, .int .i64 0, .complex .f64 0 0, .int .i64 0, .int .i64 0, .complex .f64 0 0, .int .i64 0, .int .i64 0, .complex .f64 0 0, .int .i64 0, .int .i64 0, .complex .f64 0 0] 37
  rw [z1] at K9 Z10
  have n11 : w.heap.size ≠ w.heap.size + 1 := Nat.ne_of_lt (z1 ▸ K5.lt)
  have g12 : w.heap.size ≤ w.heap.size + 1 := z1 ▸ BW.size
  replace K5 := K5.on hb8
  replace BW := BW.trans (hb8.mono BW.size)
  clear hb8
  clear z1
  go_enter Try.func11, Try.ntmps11
  go_wp2_with fail
  rw [← e3, ← e7]
  clear e3 e7
  refine wp_region_noPanic ?_
  have hb : Below V6.heap.size V6 V6.drew := (Below.refl _ _).drew
  replace K5 := K5.on hb
  replace K9 := K9.on hb
  replace Z10 := Z10.on hb
  replace BW := BW.trans (hb.mono BW.size)
  clear hb
  refine wp_region_held_drew (S := (fun wx => Cs wx (w.heap.size) 0 [.int .i64 x.a, .int .i64 x.b, .int .i64 x.c, .int .i64 x.d])) (by kernel_rfl) (by exact K5.cs) (fun hHeld => ?_)
  generalize V6.drew = Vd13 at *
  refine pT 0 ?_
  (try simp only [p0, p1, p2, p3])
  refine pT 1 ?_
  (try simp only [p0, p1, p2, p3])
  refine pT 2 ?_
  (try simp only [p0, p1, p2, p3])
  refine pT 4 ?_
  (try simp only [p0, p1, p2, p3])
  refine pT 5 ?_
  (try simp only [p0, p1, p2, p3])
  refine pT 6 ?_
  (try simp only [p0, p1, p2, p3])
  refine pT 8 ?_
  (try simp only [p0, p1, p2, p3])
  refine pT 9 ?_
  (try simp only [p0, p1, p2, p3])
  refine pT 10 ?_
  (try simp only [p0, p1, p2, p3])
  refine pT 12 ?_
  (try simp only [p0, p1, p2, p3])
  refine pT 13 ?_
  (try simp only [p0, p1, p2, p3])
  refine pT 14 ?_
  (try simp only [p0, p1, p2, p3])
  refine pR1 3 (fun K hK => ?_)
  go_simp
  (go_at_call 54; with_reducible refine (thing _ _ _).mono ?_)
  rintro _ w14 ⟨rfl, hb⟩
  (try go_wp2_with fail)
  replace K5 := K5.on hb
  replace K9 := K9.on hb
  replace Z10 := Z10.on hb
  replace BW := BW.trans (hb.mono BW.size)
  clear hb
  refine hK.out _ _ (by exact K5.cs) (fun hHeld => ?_)
  clear hK
  (try simp only [p0, p1, p2, p3])
  refine pR1 7 (fun K hK => ?_)
  go_simp
  (go_at_call 54; with_reducible refine (thing _ _ _).mono ?_)
  rintro _ w15 ⟨rfl, hb⟩
  (try go_wp2_with fail)
  replace K5 := K5.on hb
  replace K9 := K9.on hb
  replace Z10 := Z10.on hb
  replace BW := BW.trans (hb.mono BW.size)
  clear hb
  refine hK.out _ _ (by exact K5.cs) (fun hHeld => ?_)
  clear hK
  (try simp only [p0, p1, p2, p3])
  refine pR1 11 (fun K hK => ?_)
  go_simp
  (go_at_call 54; with_reducible refine (thing _ _ _).mono ?_)
  rintro _ w16 ⟨rfl, hb⟩
  (try go_wp2_with fail)
  replace K5 := K5.on hb
  replace K9 := K9.on hb
  replace Z10 := Z10.on hb
  replace BW := BW.trans (hb.mono BW.size)
  clear hb
  refine hK.out _ _ (by exact K5.cs) (fun hHeld => ?_)
  clear hK
  (try simp only [p0, p1, p2, p3])
  refine pR1 15 (fun K hK => ?_)
  go_simp
  (go_at_call 54; with_reducible refine (thing _ _ _).mono ?_)
  rintro _ w17 ⟨rfl, hb⟩
  (try go_wp2_with fail)
  replace K5 := K5.on hb
  replace K9 := K9.on hb
  replace Z10 := Z10.on hb
  replace BW := BW.trans (hb.mono BW.size)
  clear hb
  refine hK.out _ _ (by exact K5.cs) (fun hHeld => ?_)
  clear hK
  (try simp only [p0, p1, p2, p3])
  refine pT 16 ?_
  (try simp only [p0, p1, p2, p3])
  refine pR1 17 (fun K hK => ?_)
  obtain ⟨c18, c19, c20, c21, c22, c23, c24, c25, c26, c27, c28, c29⟩ := K9.c12
  obtain ⟨c30, c31, c32, c33, c34, c35, c36, c37, c38, c39, c40, c41⟩ := Z10.f12
  go_simp
  clear c18 c19 c20 c21 c22 c23 c24 c25 c26 c27 c28 c29 c30 c31 c32 c33 c34 c35 c36 c37 c38 c39 c40 c41
  obtain ⟨V42, hk44⟩ : ∃ V42, V42 = w17.setCells (w.heap.size + 1) 0 [.int .i64 kk, .int .i64 x.a, .complex .f64 0 0, .int .i64 kk, .int .i64 x.b, .complex .f64 0 0, .int .i64 kk, .int .i64 x.c, .complex .f64 0 0, .int .i64 kk, .int .i64 x.d, .complex .f64 0 0] := ⟨_, rfl⟩
  have e43 := hk44
  simp only [World.setCells, Nat.zero_add, Nat.reduceAdd] at e43
  have hk45 := Kept.overE hk44 K9 rfl (by simp)
  replace K5 := K5.awayE hk44 n11
  replace K9 := K9.overE hk44 rfl
  replace BW := Below.putE BW hk44 g12
  clear hk44 hk45
  rw [← e43]
  clear e43
  refine hK.out _ _ (by exact K5.cs) (fun hHeld => ?_)
  clear hK
  (try simp only [p0, p1, p2, p3])
  refine wpAnyH_done (by kernel_rfl) (NoPanic.normal ?_) _
  go_wp2
  obtain ⟨c46, c47, c48, c49, c50, c51, c52, c53, c54, c55, c56, c57⟩ := K9.c12
  exact bodyPost_ret (v := (.agg #[.int .i64 kk, .int .i64 x.a, .complex .f64 0 0, .int .i64 kk, .int .i64 x.b, .complex .f64 0 0, .int .i64 kk, .int .i64 x.c, .complex .f64 0 0, .int .i64 kk, .int .i64 x.d, .complex .f64 0 0])) (by simp [results, Try.results11, go_sem, c46, c47, c48, c49, c50, c51, c52, c53, c54, c55, c56, c57]) rfl ⟨rfl, BW⟩
end Go.Proofs.Ytgoackkfjieahaa.D
