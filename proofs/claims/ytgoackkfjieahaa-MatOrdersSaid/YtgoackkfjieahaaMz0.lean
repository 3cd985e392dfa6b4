/-
  What the statements on mat call: lengths, texts of lists, the document's powers. No conditions.
-/
import Derived.Test.YtgoackkfjieahaaMd2
import Derived.Test.YtgoackkfjieahaaMq0
namespace Go.Proofs.Ytgoackkfjieahaa
open Go.RowKit
theorem snoc_map {α : Type} {f : α → List Value} {l : List α} {i : Nat} {x : α} (h : l[i]? = some x) : (l.take (i + 1)).flatMap f = (l.take i).flatMap f ++ f x := by
  obtain ⟨hi, rfl⟩ := List.getElem?_eq_some_iff.1 h
  rw [List.take_succ_eq_append_getElem hi, List.flatMap_append]; simp
theorem nameH {P : Program} {ops : Array Oper} {Q : Exit → Act → World → Prop} {S : World → Prop} {fuel : Nat} {listed : Array Bool} {a : Act} {w : World}
    (h : ∀ (ops' : Array Oper) (Q' : Exit → Act → World → Prop) (a' : Act), ops' = ops → Q' = Q → a' = a → wpAnyH P .any ops' Q' S fuel listed a' w) : wpAnyH P .any ops Q S fuel listed a w := h _ _ _ rfl rfl rfl
section
variable {P : Program} {ops : Array Oper} {Q : Exit → Act → World → Prop} {md : Region.Mode} {S : World → Prop}
theorem pR4 (i j k l : Nat) {o p q r : Oper} {fuel : Nat} {listed : Array Bool} {a : Act} {w : World}
    (h0 : ∀ K' : Act → World → Prop, Shut (∀ a w, S w → (S w → wpAnyH P md ops Q S fuel (listed.setIfInBounds i true) a w) → K' a w) → if Region.wanted o (yielded ops a.tmps) = true then Oper.wp P o a w K' Q else K' (a.put (o).dst undef) w)
    (h1 : ∀ K' : Act → World → Prop, Shut (∀ a w, S w → (S w → wpAnyH P md ops Q S fuel (listed.setIfInBounds j true) a w) → K' a w) → if Region.wanted p (yielded ops a.tmps) = true then Oper.wp P p a w K' Q else K' (a.put (p).dst undef) w)
    (h2 : ∀ K' : Act → World → Prop, Shut (∀ a w, S w → (S w → wpAnyH P md ops Q S fuel (listed.setIfInBounds k true) a w) → K' a w) → if Region.wanted q (yielded ops a.tmps) = true then Oper.wp P q a w K' Q else K' (a.put (q).dst undef) w)
    (h3 : ∀ K' : Act → World → Prop, Shut (∀ a w, S w → (S w → wpAnyH P md ops Q S fuel (listed.setIfInBounds l true) a w) → K' a w) → if Region.wanted r (yielded ops a.tmps) = true then Oper.wp P r a w K' Q else K' (a.put (r).dst undef) w)
    (e0 : ops[i]? = some o := by (simp only [List.getElem?_toArray, List.getElem?_cons_succ, List.getElem?_cons_zero]; rfl))
    (e1 : ops[j]? = some p := by (simp only [List.getElem?_toArray, List.getElem?_cons_succ, List.getElem?_cons_zero]; rfl))
    (e2 : ops[k]? = some q := by (simp only [List.getElem?_toArray, List.getElem?_cons_succ, List.getElem?_cons_zero]; rfl))
    (e3 : ops[l]? = some r := by (simp only [List.getElem?_toArray, List.getElem?_cons_succ, List.getElem?_cons_zero]; rfl))
    (hr : Region.ready md ops listed = [i, j, k, l] := by kernel_rfl) : wpAnyH P md ops Q S (fuel + 1) listed a w :=
  wpAnyH_ready hr (by simp) (AllReadyH.cons e0 h0 (AllReadyH.cons e1 h1 (AllReadyH.cons e2 h2 (AllReadyH.cons e3 h3 AllReadyH.nil))))
end
theorem castL {P : Program} {md : Region.Mode} {ops : Array Oper} {Q : Exit → Act → World → Prop} {S : World → Prop} {fuel : Nat} {l l' : Array Bool} {a : Act} {w : World} (e : l' = l) (h : wpAnyH P md ops Q S fuel l a w) : wpAnyH P md ops Q S fuel l' a w := e ▸ h
theorem beyond_yes {nb : Int} {g : Nat} {w : World} (_hg : g < w.heap.size) (h0 : w.cell? ⟨g, 0, none⟩ = some (.int .i64 nb)) (h : 1048576 < nb) (hb1 : nb ≤ 268435456) :
    Calls Try.prog 9 #[.slice (some ⟨g, 0, none⟩) 1 1] w fun e w' => e = .returned (.bool true) ∧ Below w.heap.size w w' := by
  go_enter Try.func9, Try.ntmps9
  go_wp2
  refine wp_loop_rounds 2 ?_
  rw [rounds_succ]
  go_wp2
  go_ret; exact ⟨rfl, by go_grown⟩
theorem beyond_no {nb : Int} {g : Nat} {w : World} (_hg : g < w.heap.size) (h0 : w.cell? ⟨g, 0, none⟩ = some (.int .i64 nb)) (hb0 : 0 ≤ nb) (h : nb ≤ 1048576) :
    Calls Try.prog 9 #[.slice (some ⟨g, 0, none⟩) 1 1] w fun e w' => e = .returned (.bool false) ∧ Below w.heap.size w w' := by
  go_enter Try.func9, Try.ntmps9
  go_wp2
  refine wp_loop_rounds 2 ?_
  rw [rounds_succ]
  go_wp2
  rw [rounds_succ]
  go_wp2
  go_ret; exact ⟨rfl, by go_grown⟩
namespace D
theorem rpowI {kk : Int} {R : Rg} (H : RefR kk R) {x y : Mz} {n : Nat} {v : Int} {w : World} (hv : v = (n : Int)) (hn : (n : Int) ≤ 18446744073709551615) : Calls Try.prog 22 #[tm kk x, tm kk y, .int .u64 v] w (fun e w' => e = .returned (tm kk (R.pow x y n)) ∧ Below w.heap.size w w') := hv ▸ rpow0 H x y n (by omega) w
theorem tcv_one (kk : Int) (x : Mz) : ∀ u ∈ tcv kk x, u.oneCell' = true := by
  intro u hu
  simp only [tcv, List.mem_cons, List.not_mem_nil, or_false] at hu
  rcases hu with rfl | rfl | rfl | rfl | rfl | rfl | rfl | rfl | rfl | rfl | rfl | rfl <;> rfl
theorem field_any (kk x : Int) (w : World) : (Instr.field 35 (tv kk x) 1).run Try.prog w = .ok (.int .i64 x) w := by kernel_rfl
theorem lkm_self (x : Mz) : lkm x x = true := by simp [lkm]
theorem infoD : ∃ i : TypeInfo, Try.prog.info? 37 = some i ∧ i.zero = some (.agg #[.int .i64 0, .int .i64 0, .complex .f64 0 0, .int .i64 0, .int .i64 0, .complex .f64 0 0, .int .i64 0, .int .i64 0, .complex .f64 0 0, .int .i64 0, .int .i64 0, .complex .f64 0 0]) ∧ i.size = 12 ∧ i.bytes = 128 := by
  have h : (Try.prog.info? 37).map (fun i => (i.zero, i.size, i.bytes)) = some (some (.agg #[.int .i64 0, .int .i64 0, .complex .f64 0 0, .int .i64 0, .int .i64 0, .complex .f64 0 0, .int .i64 0, .int .i64 0, .complex .f64 0 0, .int .i64 0, .int .i64 0, .complex .f64 0 0]), 12, 128) := by kernel_rfl
  cases hi : Try.prog.info? 37 with
  | none => rw [hi] at h; cases h
  | some i =>
    rw [hi] at h
    simp only [Option.map_some, Option.some.injEq, Prod.mk.injEq] at h
    exact ⟨i, rfl, h.1, h.2.1, h.2.2⟩
end D
end Go.Proofs.Ytgoackkfjieahaa
