/-
  A matrix is loaded at a place within a block, loaded under a guard, and read as a function's result. No conditions.
-/
import Derived.Test.YtfhleccodbjfbaaGreatRla
namespace Go.Proofs.YtfhleccodbjfbaaGreat
open Go.RowKit Nb
theorem addr_addo (p o j : Nat) : (⟨p, o, none⟩ : Addr).add j = ⟨p, o + j, none⟩ := by unfold Addr.add; split <;> simp_all
section
variable {W : World} {p o : Nat} {us vs : List Value}
/-- Cells of a block from a place on. -/
def AtB (W : World) (p o : Nat) (vs : List Value) : Prop := ∀ (j : Nat) (v : Value), vs[j]? = some v → W.cell? ⟨p, o + j, none⟩ = some v
theorem Box.atB (K : Box W p us) (h : ∀ j, j < vs.length → us[o + j]? = vs[j]?) : AtB W p o vs := fun j v e => K.c _ _ (by rw [h j (List.getElem?_eq_some_iff.1 e).1]; exact e)
theorem Box.at_mid {l r : List Value} (K : Box W p (l ++ (us ++ r))) (hl : l.length = o) : AtB W p o us := K.atB fun j hj => by
 rw [List.getElem?_append_right (by omega), show o + j - l.length = j by omega, List.getElem?_append_left hj]
theorem run_load_at {P : Program} (K : AtB W p o us) (ty : TypeId) (d : TypeDesc) (hu : P.underlying ty = some d) (hd : (match d with | .struct _ | .array _ _ => true | _ => false) = true) (hi : (P.info? ty).map (·.size) = some us.length) :
  (loadVar ty ⟨p, o, none⟩).run P W = .ok (.agg us.toArray) W := by
 have hl : (loadCells ⟨p, o, none⟩ us.length).run P W = .ok us.toArray W :=
  run_loadCells_list (P := P) W ⟨p, o, none⟩ us (fun j v hv => by rw [addr_addo]; exact K j v hv)
 cases hq : P.info? ty with
 | none => simp [hq] at hi
 | some i =>
  have hs : i.size = us.length := by simpa [hq] using hi
  have hagg : (isAgg ty).run P W = .ok true W := by
   unfold isAgg
   rw [Sem.run_bind, run_underlying hu W]
   cases d <;> simp_all
  simp [loadVar, Sem.run_bind, hagg, sizeOf, typeInfo, hq, hs, hl]
theorem wpList_ldG {ops : Array Oper} {rest : List Oper} {o : Oper} {a : Act} {Q : Exit → Act → World → Prop} {x : Operand} (hw : Region.wanted o (yielded ops a.tmps) = true) (ho : o.op = .load 28 x) (hx : a.eval x = .pointer (some ⟨p, 0, none⟩)) (K : Box W p us) (hl : us.length = 16)
  (h : wpList Tryz.prog ops Q rest (a.put o.dst (.agg us.toArray)) W) : wpList Tryz.prog ops Q (o :: rest) a W :=
 wpList_step fun _ hK => by
  rw [if_pos hw]
  have hr := run_load_box (P := Tryz.prog) K 28 _ Tryz.underlying28 rfl (by rw [infoM, hl])
  unfold Oper.wp execOp
  simp only [ho, hx, Instr.loadAt, Instr.sureAddr, Sem.run_bind, Sem.run_pure, Result.andThen_ok, hr]
  exact hK _ _ h
theorem wpList_ldO {ops : Array Oper} {rest : List Oper} {op : Oper} {a : Act} {Q : Exit → Act → World → Prop} {x : Operand} (hw : Region.wanted op (yielded ops a.tmps) = true) (ho : op.op = .load 28 x) (hx : a.eval x = .pointer (some ⟨p, o, none⟩)) (K : AtB W p o us) (hl : us.length = 16)
  (h : wpList Tryz.prog ops Q rest (a.put op.dst (.agg us.toArray)) W) : wpList Tryz.prog ops Q (op :: rest) a W :=
 wpList_step fun _ hK => by
  rw [if_pos hw]
  have hr := run_load_at (P := Tryz.prog) K 28 _ Tryz.underlying28 rfl (by rw [infoM, hl])
  unfold Oper.wp execOp
  simp only [ho, hx, Instr.loadAt, Instr.sureAddr, Sem.run_bind, Sem.run_pure, Result.andThen_ok, hr]
  exact hK _ _ h
/-- A matrix in a cell is a function's one result. -/
theorem res_M {fn : Func} {tmps : Array Value} {s : Nat} (hr : fn.results = #[.cell s 28]) (ht : tmps.getD s undef = .pointer (some ⟨p, 0, none⟩)) (K : Box W p us) (hl : us.length = 16) :
  (results fn tmps).run Tryz.prog W = .ok (.agg us.toArray) W := by
 have h := run_load_box (P := Tryz.prog) K 28 _ Tryz.underlying28 rfl (by rw [infoM, hl])
 unfold results
 rw [hr]
 have ht2 : tmps[s]?.getD undef = .pointer (some ⟨p, 0, none⟩) := by rw [← Array.getD_eq_getD_getElem?]; exact ht
 simp [ht2, asAddr, h]
end
end Go.Proofs.YtfhleccodbjfbaaGreat
