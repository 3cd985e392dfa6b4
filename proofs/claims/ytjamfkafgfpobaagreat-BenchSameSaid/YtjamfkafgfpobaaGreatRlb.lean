/-
  A matrix is loaded at a place within a block, loaded under a guard, and read as a function's result. No conditions.
-/
import Derived.Test.YtjamfkafgfpobaaGreatRm0
import Derived.Laws.Rows
import Derived.Laws.Tables
namespace Go.Proofs.YtjamfkafgfpobaaGreat
open Go.RowKit Nb
theorem addr_add0 (p j : Nat) : (⟨p, 0, none⟩ : Addr).add j = ⟨p, j, none⟩ := by unfold Addr.add; split <;> simp_all
section
variable {W : World} {p : Nat} {us vs : List Value}
theorem run_load_box {P : Program} (K : Box W p us) (ty : TypeId) (d : TypeDesc) (hu : P.underlying ty = some d) (hd : (match d with | .struct _ | .array _ _ => true | _ => false) = true) (hi : (P.info? ty).map (·.size) = some us.length) :
  (loadVar ty ⟨p, 0, none⟩).run P W = .ok (.agg us.toArray) W := by
 have hl : (loadCells ⟨p, 0, none⟩ us.length).run P W = .ok us.toArray W :=
  run_loadCells_list (P := P) W ⟨p, 0, none⟩ us (fun j v hv => by rw [addr_add0]; exact K.c j v hv)
 cases hq : P.info? ty with
 | none => simp [hq] at hi
 | some i =>
  have hs : i.size = us.length := by simpa [hq] using hi
  have hagg : (isAgg ty).run P W = .ok true W := by
   unfold isAgg
   rw [Sem.run_bind, run_underlying hu W]
   cases d <;> simp_all
  simp [loadVar, Sem.run_bind, hagg, sizeOf, typeInfo, hq, hs, hl]
theorem run_storeCells_box {P : Program} : ∀ (vs : List Value) (i : Nat) (W : World), (∀ j, j < vs.length → (W.cell? ⟨p, i + j, none⟩).isSome = true) → (∀ j : Nat, W.frozen? ⟨p, j, none⟩ = false) → (∀ v ∈ vs, v.oneCell' = true) →
  (storeCells ⟨p, 0, none⟩ vs i).run P W = .ok () (W.setCells p i vs)
 | [], i, W, _, _, _ => rfl
 | v :: r, i, W, hc, hf, h1 => by
  have hst : (store ((⟨p, 0, none⟩ : Addr).add i) v).run P W = .ok () (W.setCell ⟨p, i, none⟩ v) := by
   rw [addr_add0, run_store P W _ v _ (h1 v (by simp))]
   obtain ⟨u, hu⟩ := Option.isSome_iff_exists.1 (hc 0 (by simp))
   rw [Nat.add_zero] at hu
   rw [hu]
   simp [hf i]
  have ih := run_storeCells_box (P := P) r (i + 1) (W.setCell ⟨p, i, none⟩ v) (fun j hj => by
    have h2 := hc (j + 1) (by simp; omega)
    rw [show i + (j + 1) = i + 1 + j by omega] at h2
    rw [World.cell?_setCell_other _ _ _ _ (fun e => by injection e with _ e2 _; omega)]
    exact h2) (fun j => by simpa using hf j) (fun x hx => h1 x (by simp [hx]))
  simp only [storeCells, Sem.run_bind, hst, Result.andThen_ok, ih, World.setCells]
theorem run_store_box {P : Program} (K : Box W p us) (Z : Fz W p) (ty : TypeId) (hi : (P.info? ty).map (·.size) = some vs.length) (hl : vs.length = us.length) (h1 : vs.all (·.oneCell') = true) :
  (storeVar ty ⟨p, 0, none⟩ (.agg vs.toArray)).run P W = .ok () (W.setCells p 0 vs) := by
 have := run_storeCells_box (P := P) (p := p) vs 0 W (fun j hj => by rw [Nat.zero_add, K.c j _ (List.getElem?_eq_getElem (by omega))]; rfl) Z.2 (List.all_eq_true.1 h1)
 cases hq : P.info? ty with
 | none => simp [hq] at hi
 | some i =>
  have hs : vs.length = i.size := by simp [hq] at hi; omega
  simp [storeVar, sizeOf, typeInfo, hq, Value.cells, hs, this]
theorem st16 {P : Program} (K : Box W p us) (Z : Fz W p) (hl : vs.length = us.length) (h1 : vs.all (·.oneCell') = true) : (storeCells ⟨p, 0, none⟩ vs).run P W = .ok () (W.setCells p 0 vs) :=
 run_storeCells_box (P := P) (p := p) vs 0 W (fun j hj => by rw [Nat.zero_add, K.c j _ (List.getElem?_eq_getElem (by omega))]; rfl) Z.2 (List.all_eq_true.1 h1)
theorem infoM : (Tryz.prog.info? 31).map (·.size) = some 16 := by kernel_rfl
/-- A load of a matrix in a drawn region. -/
theorem ldM {ev : Operand → Value} {oi : Oper} {x : Operand} (ho : oi.op = .load 31 x) (hx : ev x = .pointer (some ⟨p, 0, none⟩)) (K : Box W p us) (hl : us.length = 16 := by rfl) : (execOp ev oi).run Tryz.prog W = .ok (.value (.agg us.toArray)) W := by
 have hr := run_load_box (P := Tryz.prog) K 31 _ Tryz.underlying31 rfl (by rw [infoM, hl])
 unfold execOp
 simp only [ho, hx, Instr.loadAt, Instr.sureAddr, Sem.run_bind, Sem.run_pure, Result.andThen_ok, hr]
theorem wpList_ldM {ops : Array Oper} {rest : List Oper} {o : Oper} {a : Act} {Q : Exit → Act → World → Prop} {x : Operand} (hgd : o.guard = none) (ho : o.op = .load 31 x) (hx : a.eval x = .pointer (some ⟨p, 0, none⟩)) (K : Box W p us) (hl : us.length = 16)
  (h : wpList Tryz.prog ops Q rest (a.put o.dst (.agg us.toArray)) W) : wpList Tryz.prog ops Q (o :: rest) a W :=
 wpList_plain hgd fun _ hK => by
  have hr := run_load_box (P := Tryz.prog) K 31 _ Tryz.underlying31 rfl (by rw [infoM, hl])
  unfold Oper.wp execOp
  simp only [ho, hx, Instr.loadAt, Instr.sureAddr, Sem.run_bind, Sem.run_pure, Result.andThen_ok, hr]
  exact hK _ _ h
theorem wp_stM {o : Oper} {a : Act} {K : Act → World → Prop} {Q : Exit → Act → World → Prop} {x y : Operand} (ho : o.op = .store 31 x y) (hx : a.eval x = .pointer (some ⟨p, 0, none⟩)) (hy : a.eval y = .agg vs.toArray) (B : Box W p us) (Z : Fz W p) (hl : us.length = 16) (hv : vs.length = 16) (h1 : vs.all (·.oneCell') = true)
  (h : K (a.put o.dst undef) (W.setCells p 0 vs)) : o.wp Tryz.prog a W K Q := by
 have hr := run_store_box (P := Tryz.prog) (vs := vs) B Z 31 (by rw [infoM, hv]) (by rw [hl, hv]) h1
 unfold Oper.wp execOp
 simp only [ho, hx, hy, Instr.storeAt, Instr.sureAddr, Sem.run_bind, Sem.run_pure, Result.andThen_ok, hr]
 exact h
theorem ite_yes {c : Prop} [Decidable c] {A B : Prop} (h : c) (a : A) : if c then A else B := by rw [if_pos h]; exact a
end
end Go.Proofs.YtjamfkafgfpobaaGreat
namespace Go.Proofs.YtjamfkafgfpobaaGreat
open Go.RowKit Nb
theorem addr_addo (p o j : Nat) : (⟨p, o, none⟩ : Addr).add j = ⟨p, o + j, none⟩ := by unfold Addr.add; split <;> simp_all
section
variable {W : World} {p o : Nat} {us vs : List Value}
/-- Cells of a block from a place on. -/
def AtB (W : World) (p o : Nat) (vs : List Value) : Prop := ∀ (j : Nat) (v : Value), vs[j]? = some v → W.cell? ⟨p, o + j, none⟩ = some v
theorem Box.atB (K : Box W p us) (h : ∀ j, j < vs.length → us[o + j]? = vs[j]?) : AtB W p o vs := fun j v e => K.c _ _ (by rw [h j (List.getElem?_eq_some_iff.1 e).1]; exact e)
theorem run_load_at {P : Program} (K : AtB W p o us) (ty : TypeId) (d : TypeDesc) (hu : P.underlying ty = some d) (hd : (match d with | .struct _ | .array _ _ => true | _ => false) = true) (hi : (P.info? ty).map (·.size) = some us.length) :
  (loadVar ty ⟨p, o, none⟩).run P W = .ok (.agg us.toArray) W := by
 have hl : (loadCells ⟨p, o, none⟩ us.length).run P W = .ok us.toArray W :=
  run_loadCells_list (P := P) W ⟨p, o, none⟩ us (fun j v hv => by rw [addr_addo]; exact K j v hv)
 cases hq : P.info? ty with
 | none => simp [hq] at hi
 | some i =>
  have hs : i.size = us.length := by simpa [hq] using hi
  have hagg : (isAgg ty).run P W = .ok true W := by
   unfold isAgg
   rw [Sem.run_bind, run_underlying hu W]
   cases d <;> simp_all
  simp [loadVar, Sem.run_bind, hagg, sizeOf, typeInfo, hq, hs, hl]
theorem wpList_ldG {ops : Array Oper} {rest : List Oper} {o : Oper} {a : Act} {Q : Exit → Act → World → Prop} {x : Operand} (hw : Region.wanted o (yielded ops a.tmps) = true) (ho : o.op = .load 31 x) (hx : a.eval x = .pointer (some ⟨p, 0, none⟩)) (K : Box W p us) (hl : us.length = 16)
  (h : wpList Tryz.prog ops Q rest (a.put o.dst (.agg us.toArray)) W) : wpList Tryz.prog ops Q (o :: rest) a W :=
 wpList_step fun _ hK => by
  rw [if_pos hw]
  have hr := run_load_box (P := Tryz.prog) K 31 _ Tryz.underlying31 rfl (by rw [infoM, hl])
  unfold Oper.wp execOp
  simp only [ho, hx, Instr.loadAt, Instr.sureAddr, Sem.run_bind, Sem.run_pure, Result.andThen_ok, hr]
  exact hK _ _ h
end
end Go.Proofs.YtjamfkafgfpobaaGreat
