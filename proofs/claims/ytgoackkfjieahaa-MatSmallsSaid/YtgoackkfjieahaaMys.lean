/-
  What MatSmalls calls over its ring. No conditions.
-/
import Derived.Test.YtgoackkfjieahaaMz0
import Derived.Test.YtgoackkfjieahaaMps
import Derived.Test.YtgoackkfjieahaaMrl
namespace Go.Proofs.Ytgoackkfjieahaa.S
open Go.RowKit D
/-- What a number of 64 bits comes to. -/
abbrev cv (x : Mz) : Mz := W.lowm x
abbrev OkR (x : Mz) : Prop := x.Ok 128
theorem cv_ok (x : Mz) : OkR (cv x) := by
  unfold cv W.lowm
  simp only [wz_8]
  exact ⟨w_w _, w_w _, w_w _, w_w _⟩
theorem mkT {x y : Mz} {w : World} (h : cv x = y) : Calls Try.prog 28 #[fv x] w (fun e w' => e = .returned (mv y) ∧ Below w.heap.size w w') := W.smallT h
theorem refS : RefR 1 R := ⟨rfl, D.add_S, D.mul_S, D.neg_S⟩
theorem ed_64 (x : Int) (h : wz 128 x = x) : wrap64 x = x := by rw [← h, wz_64]; exact wz_in x
theorem ed_64k (x : Int) (h : wz 128 x = x) : IntKind.i64.wrap x = x := by rw [← h, wz_64k]; exact wz_in x
theorem ok_mul (x y : Mz) : OkR (R.mul x y) := Mz.okm
theorem ok_turned {x : Mz} (h : OkR x) : OkR (R.turned x) := ⟨h.d, w_w _, w_w _, h.a⟩
theorem ok_pow {x y : Mz} {n : Nat} (hx : OkR x) (hy : OkR y) : OkR (R.pow x y n) := by
  induction n using Nat.strongRecOn generalizing x y with
  | ind n ih =>
    rw [Rg.pow]
    split
    · exact hx
    · refine ih _ (by omega) ?_ ?_
      · split
        · exact ok_mul _ _
        · exact hx
      · split
        · exact ok_mul _ _
        · exact hy
theorem ok_chain {x : Mz} {l : List Mz} (h : OkR x) : OkR (R.chain x l) := Mz.chain_ok h l
theorem infoM : ∃ i : TypeInfo, Try.prog.info? 58 = some i ∧ i.zero = some (.agg #[.int .i8 0, .int .i8 0, .int .i8 0, .int .i8 0]) ∧ i.size = 4 ∧ i.bytes = 4 := by
  have h : (Try.prog.info? 58).map (fun i => (i.zero, i.size, i.bytes)) = some (some (.agg #[.int .i8 0, .int .i8 0, .int .i8 0, .int .i8 0]), 4, 4) := by kernel_rfl
  cases hi : Try.prog.info? 58 with
  | none => rw [hi] at h; cases h
  | some i =>
    rw [hi] at h
    simp only [Option.map_some, Option.some.injEq, Prod.mk.injEq] at h
    exact ⟨i, rfl, h.1, h.2.1, h.2.2⟩
theorem mcv_one (x : Mz) : ∀ u ∈ mcv x, u.oneCell' = true := by
  intro u hu
  simp only [mcv, List.mem_cons, List.not_mem_nil, or_false] at hu
  rcases hu with rfl | rfl | rfl | rfl <;> rfl
set_option maxHeartbeats 8000000 in
set_option maxRecDepth 20000 in
theorem lowS (x : Mz) (w : World) :
    Calls Try.prog 29 #[fv x] w (fun e w' => e = .returned (fv (W.lowm x)) ∧ Below w.heap.size w w') := by
  have hwa : wrap64 (IntKind.i8.wrap x.a) = IntKind.i8.wrap x.a := by rw [wz_8]; exact ed_64 _ (w_w _)
  have hwb : wrap64 (IntKind.i8.wrap x.b) = IntKind.i8.wrap x.b := by rw [wz_8]; exact ed_64 _ (w_w _)
  have hwc : wrap64 (IntKind.i8.wrap x.c) = IntKind.i8.wrap x.c := by rw [wz_8]; exact ed_64 _ (w_w _)
  have hwd : wrap64 (IntKind.i8.wrap x.d) = IntKind.i8.wrap x.d := by rw [wz_8]; exact ed_64 _ (w_w _)
  have BW : Below w.heap.size w w := Below.refl _ _
  obtain ⟨V2, e3, hb4, K5, -, z1⟩ := alloc_new w [.int .i64 x.a, .int .i64 x.b, .int .i64 x.c, .int .i64 x.d] 23
  replace BW := BW.trans (hb4.mono BW.size)
  clear hb4
  obtain ⟨V6, e7, hb8, K9, -, -⟩ := alloc_new V2 [.int .i64 (IntKind.i8.wrap x.a), .int .i64 (IntKind.i8.wrap x.b), .int .i64 (IntKind.i8.wrap x.c), .int .i64 (IntKind.i8.wrap x.d)] 23
  rw [z1] at K9
  replace BW := BW.trans (hb8.mono BW.size)
  clear hb8
  clear z1
  go_enter Try.func29, Try.ntmps29
  go_wp2_with fail
  rw [← e3, ← e7]
  clear e3 e7
  go_wp2_with fail
  obtain ⟨c10, c11, c12, c13⟩ := K9.c4
  exact bodyPost_ret (v := (.agg #[.int .i64 (IntKind.i8.wrap x.a), .int .i64 (IntKind.i8.wrap x.b), .int .i64 (IntKind.i8.wrap x.c), .int .i64 (IntKind.i8.wrap x.d)])) (by simp [results, Try.results29, go_sem, c10, c11, c12, c13]) rfl ⟨rfl, BW⟩
theorem lowT {x y : Mz} {w : World} (h : cv x = y) : Calls Try.prog 29 #[fv x] w (fun e w' => e = .returned (fv y) ∧ Below w.heap.size w w') := h ▸ lowS x w
set_option maxHeartbeats 8000000 in
set_option maxRecDepth 20000 in
theorem same_eq {x : Mz} (h : OkR x) (w : World) :
    Calls Try.prog 30 #[mv x, tm 1 x] w (fun e w' => e = .returned (.bool true) ∧ Below w.heap.size w w') := by
  have hsc := @run_store_c Try.prog
  have hwa := ed_64 x.a h.a
  have hwb := ed_64 x.b h.b
  have hwc := ed_64 x.c h.c
  have hwd := ed_64 x.d h.d
  clear h
  have BW : Below w.heap.size w w := Below.refl _ _
  obtain ⟨V2, e3, hb4, K5, -, z1⟩ := alloc_new w [.int .i8 x.a, .int .i8 x.b, .int .i8 x.c, .int .i8 x.d] 58
  replace BW := BW.trans (hb4.mono BW.size)
  clear hb4
  obtain ⟨V6, e7, hb8, K9, -, -⟩ := alloc_new V2 [.int .i64 1, .int .i64 x.a, .complex .f64 0 0, .int .i64 1, .int .i64 x.b, .complex .f64 0 0, .int .i64 1, .int .i64 x.c, .complex .f64 0 0, .int .i64 1, .int .i64 x.d, .complex .f64 0 0] 37
  rw [z1] at K9
  replace BW := BW.trans (hb8.mono BW.size)
  clear hb8
  clear z1
  go_enter Try.func30, Try.ntmps30
  go_wp2_with fail
  rw [← e3, ← e7]
  clear e3 e7
  go_ret; exact ⟨rfl, BW⟩
theorem clike (a b : Int) (w : World) : Calls Try.prog 95 #[.int .i8 a, .int .i8 b] w fun e w' => e = .returned (.bool (a == b)) ∧ w = w' := by
  go_enter Try.func95, Try.ntmps95
  go_wp2
  go_ret; exact ⟨rfl, rfl⟩
theorem clikeT {a b : Int} {c : Bool} {w : World} (h : (a == b) = c) : Calls Try.prog 95 #[.int .i8 a, .int .i8 b] w fun e w' => e = .returned (.bool c) ∧ w = w' := h ▸ clike a b w
set_option maxHeartbeats 8000000 in
set_option maxRecDepth 20000 in
theorem like0 (x y : Mz) (w : World) (h0 : (x.a == y.a) = false) :
    Calls Try.prog 37 #[mv x, mv y] w (fun e w' => e = .returned (.bool false) ∧ Below w.heap.size w w') := by
  have hm := mLike
  have Q0 := Lib.hid h0
  clear h0
  obtain ⟨a, b, c, d⟩ := x
  obtain ⟨p, q, r, s⟩ := y
  go_enter Try.func37, Try.ntmps37
  go_wp2_with (go_at_call 95; first | (with_reducible refine (clikeT Q0.out).mono ?_; rintro e w' ⟨rfl, rfl⟩))
  go_ret; exact ⟨rfl, by go_grown⟩
set_option maxHeartbeats 8000000 in
set_option maxRecDepth 20000 in
theorem like1 (x y : Mz) (w : World) (h0 : (x.a == y.a) = true) (h1 : (x.b == y.b) = false) :
    Calls Try.prog 37 #[mv x, mv y] w (fun e w' => e = .returned (.bool false) ∧ Below w.heap.size w w') := by
  have hm := mLike
  have Q0 := Lib.hid h0
  have Q1 := Lib.hid h1
  clear h0 h1
  obtain ⟨a, b, c, d⟩ := x
  obtain ⟨p, q, r, s⟩ := y
  go_enter Try.func37, Try.ntmps37
  go_wp2_with (go_at_call 95; first | (with_reducible refine (clikeT Q0.out).mono ?_; rintro e w' ⟨rfl, rfl⟩) | (with_reducible refine (clikeT Q1.out).mono ?_; rintro e w' ⟨rfl, rfl⟩))
  go_ret; exact ⟨rfl, by go_grown⟩
set_option maxHeartbeats 8000000 in
set_option maxRecDepth 20000 in
theorem like2 (x y : Mz) (w : World) (h0 : (x.a == y.a) = true) (h1 : (x.b == y.b) = true) (h2 : (x.c == y.c) = false) :
    Calls Try.prog 37 #[mv x, mv y] w (fun e w' => e = .returned (.bool false) ∧ Below w.heap.size w w') := by
  have hm := mLike
  have Q0 := Lib.hid h0
  have Q1 := Lib.hid h1
  have Q2 := Lib.hid h2
  clear h0 h1 h2
  obtain ⟨a, b, c, d⟩ := x
  obtain ⟨p, q, r, s⟩ := y
  go_enter Try.func37, Try.ntmps37
  go_wp2_with (go_at_call 95; first | (with_reducible refine (clikeT Q0.out).mono ?_; rintro e w' ⟨rfl, rfl⟩) | (with_reducible refine (clikeT Q1.out).mono ?_; rintro e w' ⟨rfl, rfl⟩) | (with_reducible refine (clikeT Q2.out).mono ?_; rintro e w' ⟨rfl, rfl⟩))
  go_ret; exact ⟨rfl, by go_grown⟩
set_option maxHeartbeats 8000000 in
set_option maxRecDepth 20000 in
theorem like3 (x y : Mz) (w : World) (h0 : (x.a == y.a) = true) (h1 : (x.b == y.b) = true) (h2 : (x.c == y.c) = true) (h3 : (x.d == y.d) = false) :
    Calls Try.prog 37 #[mv x, mv y] w (fun e w' => e = .returned (.bool false) ∧ Below w.heap.size w w') := by
  have hm := mLike
  have Q0 := Lib.hid h0
  have Q1 := Lib.hid h1
  have Q2 := Lib.hid h2
  have Q3 := Lib.hid h3
  clear h0 h1 h2 h3
  obtain ⟨a, b, c, d⟩ := x
  obtain ⟨p, q, r, s⟩ := y
  go_enter Try.func37, Try.ntmps37
  go_wp2_with (go_at_call 95; first | (with_reducible refine (clikeT Q0.out).mono ?_; rintro e w' ⟨rfl, rfl⟩) | (with_reducible refine (clikeT Q1.out).mono ?_; rintro e w' ⟨rfl, rfl⟩) | (with_reducible refine (clikeT Q2.out).mono ?_; rintro e w' ⟨rfl, rfl⟩) | (with_reducible refine (clikeT Q3.out).mono ?_; rintro e w' ⟨rfl, rfl⟩))
  go_ret; exact ⟨rfl, by go_grown⟩
set_option maxHeartbeats 8000000 in
set_option maxRecDepth 20000 in
theorem like4 (x y : Mz) (w : World) (h0 : (x.a == y.a) = true) (h1 : (x.b == y.b) = true) (h2 : (x.c == y.c) = true) (h3 : (x.d == y.d) = true) :
    Calls Try.prog 37 #[mv x, mv y] w (fun e w' => e = .returned (.bool true) ∧ Below w.heap.size w w') := by
  have hm := mLike
  have Q0 := Lib.hid h0
  have Q1 := Lib.hid h1
  have Q2 := Lib.hid h2
  have Q3 := Lib.hid h3
  clear h0 h1 h2 h3
  obtain ⟨a, b, c, d⟩ := x
  obtain ⟨p, q, r, s⟩ := y
  go_enter Try.func37, Try.ntmps37
  go_wp2_with (go_at_call 95; first | (with_reducible refine (clikeT Q0.out).mono ?_; rintro e w' ⟨rfl, rfl⟩) | (with_reducible refine (clikeT Q1.out).mono ?_; rintro e w' ⟨rfl, rfl⟩) | (with_reducible refine (clikeT Q2.out).mono ?_; rintro e w' ⟨rfl, rfl⟩) | (with_reducible refine (clikeT Q3.out).mono ?_; rintro e w' ⟨rfl, rfl⟩))
  go_ret; exact ⟨rfl, by go_grown⟩
theorem like (x y : Mz) (w : World) : Calls Try.prog 37 #[mv x, mv y] w (fun e w' => e = .returned (.bool (lkm x y)) ∧ Below w.heap.size w w') := by
  unfold lkm
  cases h0 : (x.a == y.a)
  · exact like0 x y w h0
  · cases h1 : (x.b == y.b)
    · exact like1 x y w h0 h1
    · cases h2 : (x.c == y.c)
      · exact like2 x y w h0 h1 h2
      · cases h3 : (x.d == y.d)
        · exact like3 x y w h0 h1 h2 h3
        · exact like4 x y w h0 h1 h2 h3
theorem likeT {x y : Mz} {b : Bool} {w : World} (h : lkm x y = b) : Calls Try.prog 37 #[mv x, mv y] w (fun e w' => e = .returned (.bool b) ∧ Below w.heap.size w w') := h ▸ like x y w
end Go.Proofs.Ytgoackkfjieahaa.S
