/-
  What bench.Parts wants. Conditions: as each theorem states.
-/
import Derived.Test.YtjamfkafgfpobaaGreatBe8
import Derived.Deep.RegionHeld3
import Derived.Deep.DeepCutAuto
import Derived.BigRegion
namespace Go.Proofs.YtjamfkafgfpobaaGreat
open Go.RowKit Nb
theorem flatP_one (es : List Pv) : ∀ u ∈ es.flatMap pcs, u.oneCell' = true := fun u hu => by
 rw [List.mem_flatMap] at hu
 obtain ⟨e, _, he⟩ := hu
 have h : (pcs e).all (·.oneCell') = true := rfl
 exact List.all_eq_true.1 h u he
theorem rowP_newZ (W : World) (xs : List Pv) (k : Nat) : ∃ V : World, V = W.drew.alloc (.cells ((xs.flatMap pcs).toArray ++ Builtin.zeroCells (pv p0v).cells k) 113) ∧ Below W.heap.size W V ∧ Box V W.heap.size ((xs ++ List.replicate k p0v).flatMap pcs) ∧ Fz V W.heap.size := by
 obtain ⟨V, hV, hb, K, Z, _⟩ := alloc_new W.drew ((xs ++ List.replicate k p0v).flatMap pcs) 113
 refine ⟨V, ?_, ((Below.refl _ _).drew).trans hb, K, Z⟩
 rw [hV]
 have hz : Builtin.zeroCells (pv p0v).cells k = ((List.replicate k p0v).flatMap pcs).toArray := by
  apply Array.toList_inj.1
  have := made_list (pv p0v).cells k (by decide)
  rw [rep_flatP] at this
  exact this
 rw [hz, List.flatMap_append]
 simp
end Go.Proofs.YtjamfkafgfpobaaGreat
namespace Go.Proofs.YtjamfkafgfpobaaGreat
open Go.RowKit Nb
theorem Gps.snoc {W : World} {zs : List (Int × Rat)} {xs : List Pv} {C : Nat} {z : Int × Rat} {x : Pv} (h : Gps W zs xs C) (k : z.1 = x.k ∧ Fq W z.2 x.P C) : Gps W (zs ++ [z]) (xs ++ [x]) C := by
 have hl := h.1
 refine ⟨by simp [h.1], fun i y u h1 h2 => ?_⟩
 by_cases hi : i < xs.length
 · rw [List.getElem?_append_left (by omega)] at h1
   rw [List.getElem?_append_left hi] at h2
   exact h.2 i y u h1 h2
 · have h3 : i < (xs ++ [x]).length := (List.getElem?_eq_some_iff.1 h2).1
   simp only [List.length_append, List.length_cons, List.length_nil] at h3
   obtain rfl : i = xs.length := by omega
   rw [List.getElem?_append_right (by omega)] at h1 h2
   simp only [hl, Nat.sub_self, List.getElem?_cons_zero, Option.some.injEq] at h1 h2
   subst h1
   subst h2
   exact k
theorem at_row {W : World} {g i : Nat} {xs ys : List Pv} {x : Pv} (K : Box W g ((xs ++ ys).flatMap pcs)) (h : xs[i]? = some x) : AtB W g (i * 5) (pcs x) := fun j v hv => by
 have hi : i < xs.length := (List.getElem?_eq_some_iff.1 h).1
 have hj : j < 5 := by have := (List.getElem?_eq_some_iff.1 hv).1; rw [pcs_len] at this; exact this
 have e1 : xs ++ ys = xs.take i ++ (x :: (xs.drop (i + 1) ++ ys)) := by
  conv => lhs; rw [← List.take_append_drop i xs]
  rw [List.drop_eq_getElem_cons hi, List.append_assoc, (List.getElem?_eq_some_iff.1 h).2]
  rfl
 refine K.c (i * 5 + j) v ?_
 rw [e1, List.flatMap_append, List.flatMap_cons, List.getElem?_append_right (by rw [flat_len pcs_len, List.length_take]; omega), flat_len pcs_len, List.length_take, Nat.min_eq_left (by omega), Nat.add_sub_cancel_left, List.getElem?_append_left (by rw [pcs_len]; omega)]
 exact hv
theorem wpList_appQ {ops : Array Oper} {rest : List Oper} {op : Oper} {ac : Act} {Q : Exit → Act → World → Prop} {W W' : World} {s x : Operand} {vs vx v' : Value} (hgd : op.guard = none) (ho : op.op = .call { callee := .builtin .append, args := #[s, x], argTypes := #[111, 111] }) (hs : ac.eval s = vs) (hx : ac.eval x = vx)
  (hr : (Builtin.append_ #[111, 111] op.type #[vs, vx]).run Tryz.prog W = .ok v' W') (h : wpList Tryz.prog ops Q rest (ac.put op.dst v') W') : wpList Tryz.prog ops Q (op :: rest) ac W :=
 wpList_plain hgd fun _ hK => by
  unfold Oper.wp execOp
  simp only [ho, resolve, invoke, builtin, Sem.run_bind, Sem.run_pure, Result.andThen_ok, List.map_toArray, List.map_cons, List.map_nil, hs, hx, hr]
  exact hK _ _ h
end Go.Proofs.YtjamfkafgfpobaaGreat
