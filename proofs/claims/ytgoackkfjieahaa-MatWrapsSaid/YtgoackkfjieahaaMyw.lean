/-
  What MatWraps calls over its ring. No conditions.
-/
import Derived.Test.YtgoackkfjieahaaMz0
import Derived.Test.YtgoackkfjieahaaMpw
import Derived.Test.YtgoackkfjieahaaMrl
namespace Go.Proofs.Ytgoackkfjieahaa.W
open Go.RowKit D
/-- What a number of 64 bits comes to. -/
abbrev cv (x : Mz) : Mz := x
def OkR (_ : Mz) : Prop := True
theorem mkT {x y : Mz} {w : World} (h : cv x = y) : Calls Try.prog 10 #[fv x] w (fun e w' => e = .returned (mv y) ∧ Below w.heap.size w w') := h ▸ wrapw x w
theorem meantT {x y : Mz} {w : World} (h : cv x = y) : Calls Try.prog 11 #[.int .i64 0, fv x] w (fun e w' => e = .returned (tm 0 y) ∧ Below w.heap.size w w') := h ▸ D.meant 0 x w
theorem refW : RefR 0 R := ⟨rfl, D.add_W, D.mul_W, D.neg_W⟩
theorem ok_any (x : Mz) : OkR x := trivial
theorem ok_mul (x y : Mz) : OkR (R.mul x y) := trivial
theorem ok_turned {x : Mz} (_ : OkR x) : OkR (R.turned x) := trivial
theorem ok_pow {x y : Mz} {n : Nat} (_ : OkR x) (_ : OkR y) : OkR (R.pow x y n) := trivial
theorem ok_chain {x : Mz} {l : List Mz} (_ : OkR x) : OkR (R.chain x l) := trivial
set_option maxHeartbeats 8000000 in
set_option maxRecDepth 20000 in
theorem same_eq {x : Mz} (_h : OkR x) (w : World) :
    Calls Try.prog 12 #[mv x, tm 0 x] w (fun e w' => e = .returned (.bool true) ∧ Below w.heap.size w w') := by
  have hsc := @run_store_c Try.prog
  have BW : Below w.heap.size w w := Below.refl _ _
  obtain ⟨V2, e3, hb4, K5, -, z1⟩ := alloc_new w [.int .i64 x.a, .int .i64 x.b, .int .i64 x.c, .int .i64 x.d] 31
  replace BW := BW.trans (hb4.mono BW.size)
  clear hb4
  obtain ⟨V6, e7, hb8, K9, -, -⟩ := alloc_new V2 [.int .i64 0, .int .i64 x.a, .complex .f64 0 0, .int .i64 0, .int .i64 x.b, .complex .f64 0 0, .int .i64 0, .int .i64 x.c, .complex .f64 0 0, .int .i64 0, .int .i64 x.d, .complex .f64 0 0] 37
  rw [z1] at K9
  replace BW := BW.trans (hb8.mono BW.size)
  clear hb8
  clear z1
  go_enter Try.func12, Try.ntmps12
  go_wp2_with fail
  rw [← e3, ← e7]
  clear e3 e7
  go_ret; exact ⟨rfl, BW⟩
theorem clike (a b : Int) (w : World) : Calls Try.prog 91 #[.int .i64 a, .int .i64 b] w fun e w' => e = .returned (.bool (a == b)) ∧ w = w' := by
  go_enter Try.func91, Try.ntmps91
  go_wp2
  go_ret; exact ⟨rfl, rfl⟩
theorem clikeT {a b : Int} {c : Bool} {w : World} (h : (a == b) = c) : Calls Try.prog 91 #[.int .i64 a, .int .i64 b] w fun e w' => e = .returned (.bool c) ∧ w = w' := h ▸ clike a b w
set_option maxHeartbeats 8000000 in
set_option maxRecDepth 20000 in
theorem like0 (x y : Mz) (w : World) (h0 : (x.a == y.a) = false) :
    Calls Try.prog 25 #[mv x, mv y] w (fun e w' => e = .returned (.bool false) ∧ Below w.heap.size w w') := by
  have hm := mLike
  have Q0 := Lib.hid h0
  clear h0
  obtain ⟨a, b, c, d⟩ := x
  obtain ⟨p, q, r, s⟩ := y
  go_enter Try.func25, Try.ntmps25
  go_wp2_with (go_at_call 91; first | (with_reducible refine (clikeT Q0.out).mono ?_; rintro e w' ⟨rfl, rfl⟩))
  go_ret; exact ⟨rfl, by go_grown⟩
set_option maxHeartbeats 8000000 in
set_option maxRecDepth 20000 in
theorem like1 (x y : Mz) (w : World) (h0 : (x.a == y.a) = true) (h1 : (x.b == y.b) = false) :
    Calls Try.prog 25 #[mv x, mv y] w (fun e w' => e = .returned (.bool false) ∧ Below w.heap.size w w') := by
  have hm := mLike
  have Q0 := Lib.hid h0
  have Q1 := Lib.hid h1
  clear h0 h1
  obtain ⟨a, b, c, d⟩ := x
  obtain ⟨p, q, r, s⟩ := y
  go_enter Try.func25, Try.ntmps25
  go_wp2_with (go_at_call 91; first | (with_reducible refine (clikeT Q0.out).mono ?_; rintro e w' ⟨rfl, rfl⟩) | (with_reducible refine (clikeT Q1.out).mono ?_; rintro e w' ⟨rfl, rfl⟩))
  go_ret; exact ⟨rfl, by go_grown⟩
set_option maxHeartbeats 8000000 in
set_option maxRecDepth 20000 in
theorem like2 (x y : Mz) (w : World) (h0 : (x.a == y.a) = true) (h1 : (x.b == y.b) = true) (h2 : (x.c == y.c) = false) :
    Calls Try.prog 25 #[mv x, mv y] w (fun e w' => e = .returned (.bool false) ∧ Below w.heap.size w w') := by
  have hm := mLike
  have Q0 := Lib.hid h0
  have Q1 := Lib.hid h1
  have Q2 := Lib.hid h2
  clear h0 h1 h2
  obtain ⟨a, b, c, d⟩ := x
  obtain ⟨p, q, r, s⟩ := y
  go_enter Try.func25, Try.ntmps25
  go_wp2_with (go_at_call 91; first | (with_reducible refine (clikeT Q0.out).mono ?_; rintro e w' ⟨rfl, rfl⟩) | (with_reducible refine (clikeT Q1.out).mono ?_; rintro e w' ⟨rfl, rfl⟩) | (with_reducible refine (clikeT Q2.out).mono ?_; rintro e w' ⟨rfl, rfl⟩))
  go_ret; exact ⟨rfl, by go_grown⟩
set_option maxHeartbeats 8000000 in
set_option maxRecDepth 20000 in
theorem like3 (x y : Mz) (w : World) (h0 : (x.a == y.a) = true) (h1 : (x.b == y.b) = true) (h2 : (x.c == y.c) = true) (h3 : (x.d == y.d) = false) :
    Calls Try.prog 25 #[mv x, mv y] w (fun e w' => e = .returned (.bool false) ∧ Below w.heap.size w w') := by
  have hm := mLike
  have Q0 := Lib.hid h0
  have Q1 := Lib.hid h1
  have Q2 := Lib.hid h2
  have Q3 := Lib.hid h3
  clear h0 h1 h2 h3
  obtain ⟨a, b, c, d⟩ := x
  obtain ⟨p, q, r, s⟩ := y
  go_enter Try.func25, Try.ntmps25
  go_wp2_with (go_at_call 91; first | (with_reducible refine (clikeT Q0.out).mono ?_; rintro e w' ⟨rfl, rfl⟩) | (with_reducible refine (clikeT Q1.out).mono ?_; rintro e w' ⟨rfl, rfl⟩) | (with_reducible refine (clikeT Q2.out).mono ?_; rintro e w' ⟨rfl, rfl⟩) | (with_reducible refine (clikeT Q3.out).mono ?_; rintro e w' ⟨rfl, rfl⟩))
  go_ret; exact ⟨rfl, by go_grown⟩
set_option maxHeartbeats 8000000 in
set_option maxRecDepth 20000 in
theorem like4 (x y : Mz) (w : World) (h0 : (x.a == y.a) = true) (h1 : (x.b == y.b) = true) (h2 : (x.c == y.c) = true) (h3 : (x.d == y.d) = true) :
    Calls Try.prog 25 #[mv x, mv y] w (fun e w' => e = .returned (.bool true) ∧ Below w.heap.size w w') := by
  have hm := mLike
  have Q0 := Lib.hid h0
  have Q1 := Lib.hid h1
  have Q2 := Lib.hid h2
  have Q3 := Lib.hid h3
  clear h0 h1 h2 h3
  obtain ⟨a, b, c, d⟩ := x
  obtain ⟨p, q, r, s⟩ := y
  go_enter Try.func25, Try.ntmps25
  go_wp2_with (go_at_call 91; first | (with_reducible refine (clikeT Q0.out).mono ?_; rintro e w' ⟨rfl, rfl⟩) | (with_reducible refine (clikeT Q1.out).mono ?_; rintro e w' ⟨rfl, rfl⟩) | (with_reducible refine (clikeT Q2.out).mono ?_; rintro e w' ⟨rfl, rfl⟩) | (with_reducible refine (clikeT Q3.out).mono ?_; rintro e w' ⟨rfl, rfl⟩))
  go_ret; exact ⟨rfl, by go_grown⟩
theorem like (x y : Mz) (w : World) : Calls Try.prog 25 #[mv x, mv y] w (fun e w' => e = .returned (.bool (lkm x y)) ∧ Below w.heap.size w w') := by
  unfold lkm
  cases h0 : (x.a == y.a)
  · exact like0 x y w h0
  · cases h1 : (x.b == y.b)
    · exact like1 x y w h0 h1
    · cases h2 : (x.c == y.c)
      · exact like2 x y w h0 h1 h2
      · cases h3 : (x.d == y.d)
        · exact like3 x y w h0 h1 h2 h3
        · exact like4 x y w h0 h1 h2 h3
theorem likeT {x y : Mz} {b : Bool} {w : World} (h : lkm x y = b) : Calls Try.prog 25 #[mv x, mv y] w (fun e w' => e = .returned (.bool b) ∧ Below w.heap.size w w') := h ▸ like x y w
end Go.Proofs.Ytgoackkfjieahaa.W
