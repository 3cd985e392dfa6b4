/-
  What MatPowers calls: numbers of 8 bits, rows of matrices. No conditions.
-/
import Derived.Test.YtgoackkfjieahaaMrl
import Derived.Test.YtgoackkfjieahaaMpw
import Derived.Test.YtgoackkfjieahaaMps
namespace Go.Proofs.Ytgoackkfjieahaa.W
open Go.RowKit
theorem rep_snoc (n : Nat) (x : Mz) : (List.replicate (n + 1) x).flatMap mcv = (List.replicate n x).flatMap mcv ++ mcv x := by rw [List.replicate_succ', List.flatMap_append]; simp
theorem take_snoc {l : List Mz} {i : Nat} {x : Mz} (h : l[i]? = some x) : (l.take (i + 1)).flatMap mcv = (l.take i).flatMap mcv ++ mcv x := by
  obtain ⟨hi, rfl⟩ := List.getElem?_eq_some_iff.1 h
  rw [List.take_succ_eq_append_getElem hi, List.flatMap_append]; simp
theorem app_snoc {k l : List Mz} {i : Nat} {x : Mz} (h : l[i]? = some x) : (k ++ l.take (i + 1)).flatMap mcv = (k ++ l.take i).flatMap mcv ++ mcv x := by
  rw [List.flatMap_append, take_snoc h, ← List.append_assoc, ← List.flatMap_append]
theorem mcv_one (x : Mz) : ∀ u ∈ mcv x, u.oneCell' = true := by
  intro u hu
  simp only [mcv, List.mem_cons, List.not_mem_nil, or_false] at hu
  rcases hu with rfl | rfl | rfl | rfl <;> rfl
theorem LRow.len {W : World} {B n : Nat} {e : TypeId} {v : Value} {x : Mz} (h : LRow 4 W B e v n ((List.replicate n x).flatMap mcv)) : LRow 4 W B e v (List.replicate n x).length ((List.replicate n x).flatMap mcv) := by rwa [List.length_replicate]
theorem LRow.len2 {W : World} {B : Nat} {e : TypeId} {v : Value} {l k : List Mz} (h : LRow 4 W B e v (l.length + k.length) ((l ++ k).flatMap mcv)) : LRow 4 W B e v (l ++ k).length ((l ++ k).flatMap mcv) := by rwa [List.length_append]
theorem infoM : ∃ i : TypeInfo, Try.prog.info? 31 = some i ∧ i.zero = some (.agg #[.int .i64 0, .int .i64 0, .int .i64 0, .int .i64 0]) ∧ i.size = 4 ∧ i.bytes = 32 := by
  have h : (Try.prog.info? 31).map (fun i => (i.zero, i.size, i.bytes)) = some (some (.agg #[.int .i64 0, .int .i64 0, .int .i64 0, .int .i64 0]), 4, 32) := by kernel_rfl
  cases hi : Try.prog.info? 31 with
  | none => rw [hi] at h; cases h
  | some i =>
    rw [hi] at h
    simp only [Option.map_some, Option.some.injEq, Prod.mk.injEq] at h
    exact ⟨i, rfl, h.1, h.2.1, h.2.2⟩
/-- The lowest bits of each number. -/
def lowm (x : Mz) : Mz := ⟨IntKind.i8.wrap x.a, IntKind.i8.wrap x.b, IntKind.i8.wrap x.c, IntKind.i8.wrap x.d⟩
theorem lowm_one : lowm ⟨1, 0, 0, 1⟩ = ⟨1, 0, 0, 1⟩ := by kernel_rfl
set_option maxHeartbeats 8000000 in
set_option maxRecDepth 20000 in
theorem smallw (x : Mz) (w : World) :
    Calls Try.prog 28 #[mv x] w (fun e w' => e = .returned (S.mv (lowm x)) ∧ Below w.heap.size w w') := by
  have BW : Below w.heap.size w w := Below.refl _ _
  obtain ⟨V2, e3, hb4, K5, -, z1⟩ := alloc_new w [.int .i64 x.a, .int .i64 x.b, .int .i64 x.c, .int .i64 x.d] 23
  replace BW := BW.trans (hb4.mono BW.size)
  clear hb4
  obtain ⟨V6, e7, hb8, K9, -, -⟩ := alloc_new V2 [.int .i8 (IntKind.i8.wrap x.a), .int .i8 (IntKind.i8.wrap x.b), .int .i8 (IntKind.i8.wrap x.c), .int .i8 (IntKind.i8.wrap x.d)] 58
  rw [z1] at K9
  replace BW := BW.trans (hb8.mono BW.size)
  clear hb8
  clear z1
  go_enter Try.func28, Try.ntmps28
  go_wp2_with fail
  rw [← e3, ← e7]
  clear e3 e7
  go_wp2_with fail
  obtain ⟨c10, c11, c12, c13⟩ := K9.c4
  exact bodyPost_ret (v := (.agg #[.int .i8 (IntKind.i8.wrap x.a), .int .i8 (IntKind.i8.wrap x.b), .int .i8 (IntKind.i8.wrap x.c), .int .i8 (IntKind.i8.wrap x.d)])) (by simp [results, Try.results28, go_sem, c10, c11, c12, c13]) rfl ⟨rfl, BW⟩
theorem smallT {x y : Mz} {w : World} (h : lowm x = y) : Calls Try.prog 28 #[mv x] w (fun e w' => e = .returned (S.mv y) ∧ Below w.heap.size w w') := h ▸ smallw x w
theorem powI {x y z : Mz} {n : Nat} {v : Int} {w : World} (hv : v = (n : Int)) (hn : (n : Int) ≤ 18446744073709551615) (h : R.pow x y n = z) : Calls Try.prog 21 #[mv x, mv y, .int .u64 v] w (fun e w' => e = .returned (mv z) ∧ Below w.heap.size w w') := hv ▸ powT (by omega) h
end Go.Proofs.Ytgoackkfjieahaa.W
namespace Go.Proofs.Ytgoackkfjieahaa.S
open Go.RowKit
theorem mulT {x y z : Mz} {w : World} (h : R.mul x y = z) : Calls Try.prog 31 #[mv x, mv y] w fun e w' => e = .returned (mv z) ∧ Below w.heap.size w w' := h ▸ mul x y w
theorem powI {x y z : Mz} {n : Nat} {v : Int} {w : World} (hv : v = (n : Int)) (hn : (n : Int) ≤ 18446744073709551615) (h : R.pow x y n = z) : Calls Try.prog 35 #[mv x, mv y, .int .u64 v] w (fun e w' => e = .returned (mv z) ∧ Below w.heap.size w w') := hv ▸ powT (by omega) h
end Go.Proofs.Ytgoackkfjieahaa.S
