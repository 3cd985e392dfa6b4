/-
  What MatOrders calls over its ring. No conditions.
-/
import Derived.Test.YtgoackkfjieahaaMz0
import Derived.Test.YtgoackkfjieahaaMpt
import Derived.Test.YtgoackkfjieahaaMrl
import Derived.Test.YtgoackkfjieahaaMd3
namespace Go.Proofs.Ytgoackkfjieahaa.T
open Go.RowKit D
/-- What a number of 64 bits comes to. -/
abbrev cv (x : Mz) : Mz := x
def OkR (_ : Mz) : Prop := True
theorem ok_any (x : Mz) : OkR x := trivial
theorem meantT {x y : Mz} {w : World} (h : cv x = y) : Calls Try.prog 11 #[.int .i64 3, fv x] w (fun e w' => e = .returned (tm 3 y) ∧ Below w.heap.size w w') := h ▸ D.meant 3 x w
theorem powI {R : Rg} (hR : Hid (R = rt)) {x y z : Mz} {n : Nat} {v : Int} {w : World} (hv : v = (n : Int)) (hn : (n : Int) ≤ 18446744073709551615) (h : R.pow x y n = z) : Calls Try.prog 44 #[mv x, mv y, .int .u64 v] w (fun e w' => e = .returned (mv z) ∧ Below w.heap.size w w') := hv ▸ powT hR (by omega) h
theorem infoM : ∃ i : TypeInfo, Try.prog.info? 71 = some i ∧ i.zero = some (.agg #[.int .i64 0, .int .i64 0, .int .i64 0, .int .i64 0]) ∧ i.size = 4 ∧ i.bytes = 32 := by
  have h : (Try.prog.info? 71).map (fun i => (i.zero, i.size, i.bytes)) = some (some (.agg #[.int .i64 0, .int .i64 0, .int .i64 0, .int .i64 0]), 4, 32) := by kernel_rfl
  cases hi : Try.prog.info? 71 with
  | none => rw [hi] at h; cases h
  | some i =>
    rw [hi] at h
    simp only [Option.map_some, Option.some.injEq, Prod.mk.injEq] at h
    exact ⟨i, rfl, h.1, h.2.1, h.2.2⟩
theorem mcv_one (x : Mz) : ∀ u ∈ mcv x, u.oneCell' = true := by
  intro u hu
  simp only [mcv, List.mem_cons, List.not_mem_nil, or_false] at hu
  rcases hu with rfl | rfl | rfl | rfl <;> rfl
set_option maxHeartbeats 8000000 in
set_option maxRecDepth 20000 in
theorem toldw (x : Mz) (w : World) :
    Calls Try.prog 38 #[fv x] w (fun e w' => e = .returned (mv x) ∧ Below w.heap.size w w') := by
  have BW : Below w.heap.size w w := Below.refl _ _
  obtain ⟨V2, e3, hb4, K5, -, z1⟩ := alloc_new w [.int .i64 x.a, .int .i64 x.b, .int .i64 x.c, .int .i64 x.d] 23
  replace BW := BW.trans (hb4.mono BW.size)
  clear hb4
  obtain ⟨V6, e7, hb8, K9, -, -⟩ := alloc_new V2 [.int .i64 x.a, .int .i64 x.b, .int .i64 x.c, .int .i64 x.d] 71
  rw [z1] at K9
  replace BW := BW.trans (hb8.mono BW.size)
  clear hb8
  clear z1
  go_enter Try.func38, Try.ntmps38
  go_wp2_with fail
  rw [← e3, ← e7]
  clear e3 e7
  go_wp2_with fail
  obtain ⟨c10, c11, c12, c13⟩ := K9.c4
  exact bodyPost_ret (v := (.agg #[.int .i64 x.a, .int .i64 x.b, .int .i64 x.c, .int .i64 x.d])) (by simp [results, Try.results38, go_sem, c10, c11, c12, c13]) rfl ⟨rfl, BW⟩
theorem mkT {x y : Mz} {w : World} (h : cv x = y) : Calls Try.prog 38 #[fv x] w (fun e w' => e = .returned (mv y) ∧ Below w.heap.size w w') := h ▸ toldw x w
set_option maxHeartbeats 8000000 in
set_option maxRecDepth 20000 in
theorem same_eq {x : Mz} (_h : OkR x) (w : World) :
    Calls Try.prog 39 #[mv x, tm 3 x] w (fun e w' => e = .returned (.bool true) ∧ Below w.heap.size w w') := by
  have hsc := @run_store_c Try.prog
  have BW : Below w.heap.size w w := Below.refl _ _
  obtain ⟨V2, e3, hb4, K5, -, z1⟩ := alloc_new w [.int .i64 x.a, .int .i64 x.b, .int .i64 x.c, .int .i64 x.d] 71
  replace BW := BW.trans (hb4.mono BW.size)
  clear hb4
  obtain ⟨V6, e7, hb8, K9, -, -⟩ := alloc_new V2 [.int .i64 3, .int .i64 x.a, .complex .f64 0 0, .int .i64 3, .int .i64 x.b, .complex .f64 0 0, .int .i64 3, .int .i64 x.c, .complex .f64 0 0, .int .i64 3, .int .i64 x.d, .complex .f64 0 0] 37
  rw [z1] at K9
  replace BW := BW.trans (hb8.mono BW.size)
  clear hb8
  clear z1
  go_enter Try.func39, Try.ntmps39
  go_wp2_with fail
  rw [← e3, ← e7]
  clear e3 e7
  go_ret; exact ⟨rfl, BW⟩
theorem clike (a b : Int) (w : World) : Calls Try.prog 97 #[.int .i64 a, .int .i64 b] w fun e w' => e = .returned (.bool (a == b)) ∧ w = w' := by
  go_enter Try.func97, Try.ntmps97
  go_wp2
  go_ret; exact ⟨rfl, rfl⟩
theorem clikeT {a b : Int} {c : Bool} {w : World} (h : (a == b) = c) : Calls Try.prog 97 #[.int .i64 a, .int .i64 b] w fun e w' => e = .returned (.bool c) ∧ w = w' := h ▸ clike a b w
set_option maxHeartbeats 8000000 in
set_option maxRecDepth 20000 in
theorem like0 (x y : Mz) (w : World) (h0 : (x.a == y.a) = false) :
    Calls Try.prog 46 #[mv x, mv y] w (fun e w' => e = .returned (.bool false) ∧ Below w.heap.size w w') := by
  have hm := mLike
  have Q0 := Lib.hid h0
  clear h0
  obtain ⟨a, b, c, d⟩ := x
  obtain ⟨p, q, r, s⟩ := y
  go_enter Try.func46, Try.ntmps46
  go_wp2_with (go_at_call 97; first | (with_reducible refine (clikeT Q0.out).mono ?_; rintro e w' ⟨rfl, rfl⟩))
  go_ret; exact ⟨rfl, by go_grown⟩
set_option maxHeartbeats 8000000 in
set_option maxRecDepth 20000 in
theorem like1 (x y : Mz) (w : World) (h0 : (x.a == y.a) = true) (h1 : (x.b == y.b) = false) :
    Calls Try.prog 46 #[mv x, mv y] w (fun e w' => e = .returned (.bool false) ∧ Below w.heap.size w w') := by
  have hm := mLike
  have Q0 := Lib.hid h0
  have Q1 := Lib.hid h1
  clear h0 h1
  obtain ⟨a, b, c, d⟩ := x
  obtain ⟨p, q, r, s⟩ := y
  go_enter Try.func46, Try.ntmps46
  go_wp2_with (go_at_call 97; first | (with_reducible refine (clikeT Q0.out).mono ?_; rintro e w' ⟨rfl, rfl⟩) | (with_reducible refine (clikeT Q1.out).mono ?_; rintro e w' ⟨rfl, rfl⟩))
  go_ret; exact ⟨rfl, by go_grown⟩
set_option maxHeartbeats 8000000 in
set_option maxRecDepth 20000 in
theorem like2 (x y : Mz) (w : World) (h0 : (x.a == y.a) = true) (h1 : (x.b == y.b) = true) (h2 : (x.c == y.c) = false) :
    Calls Try.prog 46 #[mv x, mv y] w (fun e w' => e = .returned (.bool false) ∧ Below w.heap.size w w') := by
  have hm := mLike
  have Q0 := Lib.hid h0
  have Q1 := Lib.hid h1
  have Q2 := Lib.hid h2
  clear h0 h1 h2
  obtain ⟨a, b, c, d⟩ := x
  obtain ⟨p, q, r, s⟩ := y
  go_enter Try.func46, Try.ntmps46
  go_wp2_with (go_at_call 97; first | (with_reducible refine (clikeT Q0.out).mono ?_; rintro e w' ⟨rfl, rfl⟩) | (with_reducible refine (clikeT Q1.out).mono ?_; rintro e w' ⟨rfl, rfl⟩) | (with_reducible refine (clikeT Q2.out).mono ?_; rintro e w' ⟨rfl, rfl⟩))
  go_ret; exact ⟨rfl, by go_grown⟩
set_option maxHeartbeats 8000000 in
set_option maxRecDepth 20000 in
theorem like3 (x y : Mz) (w : World) (h0 : (x.a == y.a) = true) (h1 : (x.b == y.b) = true) (h2 : (x.c == y.c) = true) (h3 : (x.d == y.d) = false) :
    Calls Try.prog 46 #[mv x, mv y] w (fun e w' => e = .returned (.bool false) ∧ Below w.heap.size w w') := by
  have hm := mLike
  have Q0 := Lib.hid h0
  have Q1 := Lib.hid h1
  have Q2 := Lib.hid h2
  have Q3 := Lib.hid h3
  clear h0 h1 h2 h3
  obtain ⟨a, b, c, d⟩ := x
  obtain ⟨p, q, r, s⟩ := y
  go_enter Try.func46, Try.ntmps46
  go_wp2_with (go_at_call 97; first | (with_reducible refine (clikeT Q0.out).mono ?_; rintro e w' ⟨rfl, rfl⟩) | (with_reducible refine (clikeT Q1.out).mono ?_; rintro e w' ⟨rfl, rfl⟩) | (with_reducible refine (clikeT Q2.out).mono ?_; rintro e w' ⟨rfl, rfl⟩) | (with_reducible refine (clikeT Q3.out).mono ?_; rintro e w' ⟨rfl, rfl⟩))
  go_ret; exact ⟨rfl, by go_grown⟩
set_option maxHeartbeats 8000000 in
set_option maxRecDepth 20000 in
theorem like4 (x y : Mz) (w : World) (h0 : (x.a == y.a) = true) (h1 : (x.b == y.b) = true) (h2 : (x.c == y.c) = true) (h3 : (x.d == y.d) = true) :
    Calls Try.prog 46 #[mv x, mv y] w (fun e w' => e = .returned (.bool true) ∧ Below w.heap.size w w') := by
  have hm := mLike
  have Q0 := Lib.hid h0
  have Q1 := Lib.hid h1
  have Q2 := Lib.hid h2
  have Q3 := Lib.hid h3
  clear h0 h1 h2 h3
  obtain ⟨a, b, c, d⟩ := x
  obtain ⟨p, q, r, s⟩ := y
  go_enter Try.func46, Try.ntmps46
  go_wp2_with (go_at_call 97; first | (with_reducible refine (clikeT Q0.out).mono ?_; rintro e w' ⟨rfl, rfl⟩) | (with_reducible refine (clikeT Q1.out).mono ?_; rintro e w' ⟨rfl, rfl⟩) | (with_reducible refine (clikeT Q2.out).mono ?_; rintro e w' ⟨rfl, rfl⟩) | (with_reducible refine (clikeT Q3.out).mono ?_; rintro e w' ⟨rfl, rfl⟩))
  go_ret; exact ⟨rfl, by go_grown⟩
theorem like (x y : Mz) (w : World) : Calls Try.prog 46 #[mv x, mv y] w (fun e w' => e = .returned (.bool (lkm x y)) ∧ Below w.heap.size w w') := by
  unfold lkm
  cases h0 : (x.a == y.a)
  · exact like0 x y w h0
  · cases h1 : (x.b == y.b)
    · exact like1 x y w h0 h1
    · cases h2 : (x.c == y.c)
      · exact like2 x y w h0 h1 h2
      · cases h3 : (x.d == y.d)
        · exact like3 x y w h0 h1 h2 h3
        · exact like4 x y w h0 h1 h2 h3
theorem likeT {x y : Mz} {b : Bool} {w : World} (h : lkm x y = b) : Calls Try.prog 46 #[mv x, mv y] w (fun e w' => e = .returned (.bool b) ∧ Below w.heap.size w w') := h ▸ like x y w
end Go.Proofs.Ytgoackkfjieahaa.T
