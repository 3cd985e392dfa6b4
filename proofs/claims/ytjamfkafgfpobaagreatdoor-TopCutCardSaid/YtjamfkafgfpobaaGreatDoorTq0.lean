/-
  A bench cut in two, a number counted round. Conditions: as each theorem states.
-/
import Derived.Test.YtjamfkafgfpobaaGreatDoorTp2
import Derived.Test.YtjamfkafgfpobaaGreatDoorRgm
import Derived.Test.YtjamfkafgfpobaaGreatDoorRk
import Derived.Deep.RegionHeld3
import Derived.Deep.DeepCutAuto
import Derived.BigRegion
namespace Go.Proofs.YtjamfkafgfpobaaGreatDoor
open Go.RowKit Nb IntWalk
section
variable {W : World} {a b : Option Addr} {c k : Nat} {es : List Ev} {zs : List Eq}
theorem sizeE_9 (W : World) : (sizeOf (Tryz.prog.elem 22)).run Tryz.prog W = .ok 9 W := by
 have hi := infoE
 have he : Tryz.prog.info? (Tryz.prog.elem 22) = Tryz.prog.info? 65 := by kernel_rfl
 unfold sizeOf typeInfo
 rw [← he] at hi
 cases hq : Tryz.prog.info? (Tryz.prog.elem 22) with
 | none => rw [hq] at hi; cases hi
 | some i =>
  rw [hq] at hi
  have hs : i.size = 9 := by simpa using hi
  simp [Sem.run_bind, hq, hs]
theorem undE : Tryz.prog.underlying 22 = some (.slice (Tryz.prog.elem 22)) := by kernel_rfl
theorem add_none (a : Option Addr) : a.map (fun x : Addr => x.add 0) = a := by
 cases a with
 | none => rfl
 | some x => obtain ⟨g, o, s⟩ := x; rfl
theorem wpList_slHE {ops : Array Oper} {rest : List Oper} {op : Oper} {ac : Act} {Q : Exit → Act → World → Prop} {x y : Operand} {n : Nat} (hgd : op.guard = none) (ho : op.op = .slice 22 x none (some y) none) (hx : ac.eval x = .slice a n c) (hy : ac.eval y = .int .i64 (k : Int)) (hh : k ≤ c)
  (h : wpList Tryz.prog ops Q rest (ac.put op.dst (.slice a k c)) W) : wpList Tryz.prog ops Q (op :: rest) ac W :=
 wpList_plain hgd fun _ hK => by
  have h1 := run_slice_h (P := Tryz.prog) W 22 a n c undE .i64 (k : Int) (by omega) (by omega)
  have h2 := run_sliceAt_slice (P := Tryz.prog) W 22 (.slice a n c) none (some (.int .i64 (k : Int))) none undE
  unfold Oper.wp execOp
  simp only [ho, hx, hy, Option.map_some, Option.map_none, Sem.run_bind, Sem.run_pure]
  rw [h2, h1, sizeE_9]
  have h3 : sliced a 0 (k : Int).toNat c 9 = .slice a k c := by
   unfold sliced
   simp only [Nat.zero_mul, add_none, ite_self, Int.toNat_natCast, Nat.sub_zero]
  simp only [Result.andThen_ok, h3]
  exact hK _ _ h
theorem wpList_slLE {ops : Array Oper} {rest : List Oper} {op : Oper} {ac : Act} {Q : Exit → Act → World → Prop} {x y : Operand} {n : Nat} (hgd : op.guard = none) (ho : op.op = .slice 22 x (some y) none none) (hx : ac.eval x = .slice a n c) (hy : ac.eval y = .int .i64 (k : Int)) (hh : k ≤ n)
  (h : ∀ b, Hid (b = if c = k then a else a.map (fun x : Addr => x.add (k * 9))) → wpList Tryz.prog ops Q rest (ac.put op.dst (.slice b (n - k) (c - k))) W) : wpList Tryz.prog ops Q (op :: rest) ac W :=
 wpList_plain hgd fun _ hK => by
  have h1 := run_slice_l (P := Tryz.prog) W 22 a n c undE .i64 (k : Int) (by omega) (by omega)
  have h2 := run_sliceAt_slice (P := Tryz.prog) W 22 (.slice a n c) (some (.int .i64 (k : Int))) none none undE
  unfold Oper.wp execOp
  simp only [ho, hx, hy, Option.map_some, Option.map_none, Sem.run_bind, Sem.run_pure]
  rw [h2, h1, sizeE_9]
  have h3 : sliced a (k : Int).toNat n c 9 = .slice (if c = k then a else a.map (fun x : Addr => x.add (k * 9))) (n - k) (c - k) := by
   unfold sliced
   simp only [Int.toNat_natCast]
  simp only [Result.andThen_ok, h3]
  exact hK _ _ (h _ (Lib.hid rfl))
theorem Sle.take (h : Sle W a c es) (hk : k ≤ es.length) : Sle W a c (es.take k) :=
 ⟨by rw [List.length_take]; have := h.1; omega, h.2.1, fun e he => h.2.2.1 e (List.mem_of_mem_take he), fun i e he => h.2.2.2 i e (by
  rw [List.getElem?_take] at he
  split at he
  · exact he
  · cases he)⟩
theorem Sle.drop (h : Sle W a c es) (hk : k ≤ es.length) (hb : b = if c = k then a else a.map (fun x : Addr => x.add (k * 9))) : Sle W b (c - k) (es.drop k) :=
 ⟨by rw [List.length_drop]; have := h.1; omega, by have := h.2.1; omega, fun e he => h.2.2.1 e (List.mem_of_mem_drop he), fun i e he => by
  rw [List.getElem?_drop] at he
  have hlt : k + i < es.length := (List.getElem?_eq_some_iff.1 he).1
  obtain ⟨g, o, ha, hg, hat⟩ := h.2.2.2 (k + i) e he
  have hc : ¬ c = k := by have := h.1; omega
  refine ⟨g, o + k * 9, ?_, hg, ?_⟩
  · rw [hb, if_neg hc, ha, Option.map_some, addr_addo]
  · rw [show o + k * 9 + i * 9 = o + (k + i) * 9 by rw [Nat.add_mul]; omega]; exact hat⟩
theorem Fes.take (h : Fes W zs es) : Fes W (zs.take k) (es.take k) :=
 ⟨by rw [List.length_take, List.length_take, h.1], fun i z e hz he => by
  rw [List.getElem?_take] at hz he
  split at hz
  · rename_i hi
    rw [if_pos hi] at he
    exact h.2 i z e hz he
  · cases hz⟩
theorem Fes.drop (h : Fes W zs es) : Fes W (zs.drop k) (es.drop k) :=
 ⟨by rw [List.length_drop, List.length_drop, h.1], fun i z e hz he => by
  rw [List.getElem?_drop] at hz he
  exact h.2 _ z e hz he⟩
theorem thr_twoC {m n : Mq} {r : Yq} : (n.mul m).thr r = n.thr (m.thr r) := by
 apply Yq.ext2 <;> simp only [Mq.mul, Mq.thr] <;> grind
theorem bench_cut (zs : List Eq) (k : Nat) : (benchM (zs.drop k)).mul (benchM (zs.take k)) = benchM zs := by rw [← benchM_app, List.take_append_drop]
end
theorem b_MatrixL {a : Option Addr} {c n : Nat} {es : List Ev} {zs : List Eq} {w : World} (S : Sle w a c es) (hF : Fes w zs es) (hn : es.length ≤ 4096) (hx : es.length = n) :
  Calls Tryz.prog 10 #[.slice a n c] w (fun e w' => ∃ (f : Mv) (e1 : Int), e = .returned (.tuple #[mv f, .int .i64 e1]) ∧ MIs w' (benchM zs) f e1 ∧ Below w.heap.size w w') := by subst hx; exact b_Matrix S hF hn
theorem b_MatrixAny {a : Option Addr} {c n : Nat} {es : List Ev} {w : World} (S : Sle w a c es) (hx : es.length = n) :
  Calls Tryz.prog 10 #[.slice a n c] w (fun e w' => ∃ (f : Mv) (e1 : Int), e = .returned (.tuple #[mv f, .int .i64 e1]) ∧ Below w.heap.size w w') := by
 subst hx
 by_cases hM : es.length ≤ 4096 ∧ MayL w es
 · obtain ⟨zs, F⟩ := hM.2.fes
   exact (b_Matrix S F hM.1).mono fun e w' ⟨f, e1, he, _, hb⟩ => ⟨f, e1, he, hb⟩
 · exact (b_MatrixNo S hM).mono fun e w' ⟨f, e1, he, _, hb⟩ => ⟨f, e1, he, hb⟩
theorem wrapN {n : Nat} (h : n ≤ 9223372036854775807) : (wrap64 ((n : Int) + 1) = n + 1 ∧ n < 9223372036854775807) ∨ (n = 9223372036854775807 ∧ wrap64 ((n : Int) + 1) = -9223372036854775808) := by
 unfold wrap64
 rcases Nat.lt_or_ge n 9223372036854775807 with h1 | h1
 · exact .inl ⟨by omega, h1⟩
 · exact .inr ⟨by omega, by omega⟩
set_option maxHeartbeats 8000000 in
theorem t_counted {X N : Int} {n : Nat} {w : World} (hN : (N = n + 1 ∧ n < 9223372036854775807) ∨ (n = 9223372036854775807 ∧ N = -9223372036854775808)) :
  Calls Tryz.prog 21 #[.int .i64 X, .int .i64 N] w (fun e w' => ∃ k : Nat, e = .returned (.int .i64 (k : Int)) ∧ k ≤ n ∧ Below w.heap.size w w') := by
 have hN0 : ¬ N = 0 := by omega
 have h1 : (X.tmod N).natAbs < N.natAbs := by rw [Int.natAbs_tmod]; exact Nat.mod_lt _ (by omega)
 obtain ⟨T, hT⟩ : ∃ T, X.tmod N = T := ⟨_, rfl⟩
 rw [hT] at h1
 have BW : Below w.heap.size w w := Below.refl _ _
 by_cases hneg : T < 0
 · obtain ⟨k, hk⟩ : ∃ k : Nat, (k : Int) = IntKind.i64.wrap (T + N) := ⟨(IntKind.i64.wrap (T + N)).toNat, by rw [IntKind.wrap_i64]; omega⟩
   have hkn : k ≤ n := by rw [IntKind.wrap_i64] at hk; omega
   go_enter Tryz.func21, Tryz.ntmps21
   go_wp2
   refine bodyPost_ret (v := .int .i64 (wrap64 (T + N))) (by simp [results, Tryz.results21, go_sem]) rfl ⟨k, ?_, hkn, BW⟩
   rw [hk, i64_left]
 · obtain ⟨k, rfl⟩ : ∃ k : Nat, (k : Int) = T := ⟨T.toNat, by omega⟩
   have hkn : k ≤ n := by omega
   go_enter Tryz.func21, Tryz.ntmps21
   go_wp2
   go_ret
   exact ⟨k, rfl, hkn, BW⟩
end Go.Proofs.YtjamfkafgfpobaaGreatDoor
