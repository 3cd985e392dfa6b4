/-
  Matrices of any size, rows of structs. Conditions: as each theorem states.
-/
import Derived.Test.YtjamfkafgfpobaaGreatRlb
import Derived.Test.YtjamfkafgfpobaaGreatXtra
import Derived.Test.YtjamfkafgfpobaaGreatRc0
import Derived.Test.YtjamfkafgfpobaaGreatRf
import Derived.Laws.MakeOwn
namespace Go.Proofs.YtjamfkafgfpobaaGreat
open Go.RowKit Nb
section
variable {W : World} {p o : Nat} {us vs : List Value}
theorem infoL : (Tryz.prog.info? 76).map (·.size) = some 16 := by kernel_rfl
/-- A load of a matrix in a drawn region. -/
theorem ldL {ev : Operand → Value} {oi : Oper} {x : Operand} (ho : oi.op = .load 76 x) (hx : ev x = .pointer (some ⟨p, 0, none⟩)) (K : Box W p us) (hl : us.length = 16 := by rfl) : (execOp ev oi).run Tryz.prog W = .ok (.value (.agg us.toArray)) W := by
 have hr := run_load_box (P := Tryz.prog) K 76 _ Tryz.underlying76 rfl (by rw [infoL, hl])
 unfold execOp
 simp only [ho, hx, Instr.loadAt, Instr.sureAddr, Sem.run_bind, Sem.run_pure, Result.andThen_ok, hr]
theorem wpList_ldL {ops : Array Oper} {rest : List Oper} {o : Oper} {a : Act} {Q : Exit → Act → World → Prop} {x : Operand} (hgd : o.guard = none) (ho : o.op = .load 76 x) (hx : a.eval x = .pointer (some ⟨p, 0, none⟩)) (K : Box W p us) (hl : us.length = 16)
  (h : wpList Tryz.prog ops Q rest (a.put o.dst (.agg us.toArray)) W) : wpList Tryz.prog ops Q (o :: rest) a W :=
 wpList_plain hgd fun _ hK => by
  have hr := run_load_box (P := Tryz.prog) K 76 _ Tryz.underlying76 rfl (by rw [infoL, hl])
  unfold Oper.wp execOp
  simp only [ho, hx, Instr.loadAt, Instr.sureAddr, Sem.run_bind, Sem.run_pure, Result.andThen_ok, hr]
  exact hK _ _ h
theorem wp_stL {o : Oper} {a : Act} {K : Act → World → Prop} {Q : Exit → Act → World → Prop} {x y : Operand} (ho : o.op = .store 76 x y) (hx : a.eval x = .pointer (some ⟨p, 0, none⟩)) (hy : a.eval y = .agg vs.toArray) (B : Box W p us) (Z : Fz W p) (hl : us.length = 16) (hv : vs.length = 16) (h1 : vs.all (·.oneCell') = true)
  (h : K (a.put o.dst undef) (W.setCells p 0 vs)) : o.wp Tryz.prog a W K Q := by
 have hr := run_store_box (P := Tryz.prog) (vs := vs) B Z 76 (by rw [infoL, hv]) (by rw [hl, hv]) h1
 unfold Oper.wp execOp
 simp only [ho, hx, hy, Instr.storeAt, Instr.sureAddr, Sem.run_bind, Sem.run_pure, Result.andThen_ok, hr]
 exact h
theorem wpList_ldLO {ops : Array Oper} {rest : List Oper} {op : Oper} {a : Act} {Q : Exit → Act → World → Prop} {x : Operand} (hw : Region.wanted op (yielded ops a.tmps) = true) (ho : op.op = .load 76 x) (hx : a.eval x = .pointer (some ⟨p, o, none⟩)) (K : AtB W p o us) (hl : us.length = 16)
  (h : wpList Tryz.prog ops Q rest (a.put op.dst (.agg us.toArray)) W) : wpList Tryz.prog ops Q (op :: rest) a W :=
 wpList_step fun _ hK => by
  rw [if_pos hw]
  have hr := run_load_at (P := Tryz.prog) K 76 _ Tryz.underlying76 rfl (by rw [infoL, hl])
  unfold Oper.wp execOp
  simp only [ho, hx, Instr.loadAt, Instr.sureAddr, Sem.run_bind, Sem.run_pure, Result.andThen_ok, hr]
  exact hK _ _ h
/-- A matrix in a cell is a function's one result. -/
theorem res_L {fn : Func} {tmps : Array Value} {s : Nat} (hr : fn.results = #[.cell s 76]) (ht : tmps.getD s undef = .pointer (some ⟨p, 0, none⟩)) (K : Box W p us) (hl : us.length = 16) :
  (results fn tmps).run Tryz.prog W = .ok (.agg us.toArray) W := by
 have h := run_load_box (P := Tryz.prog) K 76 _ Tryz.underlying76 rfl (by rw [infoL, hl])
 unfold results
 rw [hr]
 have ht2 : tmps[s]?.getD undef = .pointer (some ⟨p, 0, none⟩) := by rw [← Array.getD_eq_getD_getElem?]; exact ht
 simp [ht2, asAddr, h]
end
end Go.Proofs.YtjamfkafgfpobaaGreat
namespace Go.Proofs.YtjamfkafgfpobaaGreat
open Go.RowKit Nb
def Gm (W : World) (q : Mq) (m : Mv) (C : Nat) : Prop := Fq W q.a m.A C ∧ Fq W q.b m.B C ∧ Fq W q.c m.C C ∧ Fq W q.d m.D C
def Gy (W : World) (r : Yq) (y : Yv) (C : Nat) : Prop := Fq W r.y y.Y C ∧ Fq W r.u y.U C
def GMx (w : World) (q : Mq) (C : Nat) (e : Ending) (w' : World) : Prop := ∃ m : Mv, e = .returned (mv m) ∧ Gm w' q m C ∧ Below w.heap.size w w'
def GYx (w : World) (r : Yq) (C : Nat) (e : Ending) (w' : World) : Prop := ∃ y : Yv, e = .returned (yv y) ∧ Gy w' r y C ∧ Below w.heap.size w w'
section
variable {W W' : World} {q p : Mq} {r s : Yq} {m : Mv} {y : Yv} {C D : Nat}
theorem Gm.gA (h : Gm W q m C) : Fq W q.a m.A C := h.1
theorem Gm.gB (h : Gm W q m C) : Fq W q.b m.B C := h.2.1
theorem Gm.gC (h : Gm W q m C) : Fq W q.c m.C C := h.2.2.1
theorem Gm.gD (h : Gm W q m C) : Fq W q.d m.D C := h.2.2.2
theorem Gy.gY (h : Gy W r y C) : Fq W r.y y.Y C := h.1
theorem Gy.gU (h : Gy W r y C) : Fq W r.u y.U C := h.2
theorem Gm.kp (h : Gm W q m C) (k : Kept W W') : Gm W' q m C := ⟨h.1.kp k, h.2.1.kp k, h.2.2.1.kp k, h.2.2.2.kp k⟩
theorem Gy.kp (h : Gy W r y C) (k : Kept W W') : Gy W' r y C := ⟨h.1.kp k, h.2.kp k⟩
theorem Gm.mono (h : Gm W q m C) (hC : C ≤ D) : Gm W q m D := ⟨h.1.mono hC, h.2.1.mono hC, h.2.2.1.mono hC, h.2.2.2.mono hC⟩
theorem Gy.mono (h : Gy W r y C) (hC : C ≤ D) : Gy W r y D := ⟨h.1.mono hC, h.2.mono hC⟩
theorem Gm.col1 (h : Gm W q m C) : Gy W ⟨q.a, q.c⟩ ⟨m.A, m.C⟩ C := ⟨h.1, h.2.2.1⟩
theorem Gm.col2 (h : Gm W q m C) : Gy W ⟨q.b, q.d⟩ ⟨m.B, m.D⟩ C := ⟨h.2.1, h.2.2.2⟩
theorem Gm.to (h : Gm W q m C) (e : q = p) : Gm W p m C := e ▸ h
theorem Gy.to (h : Gy W r y C) (e : r = s) : Gy W s y C := e ▸ h
end
def Mq.neg (m : Mq) : Mq := ⟨-m.a, -m.b, -m.c, -m.d⟩
def Mq.space (p : Rat) : Mq := ⟨1, p, 0, 1⟩
def Mq.lens (p : Rat) : Mq := ⟨1, 0, -p, 1⟩
/-- An element: its kind, its two fractions. -/
structure Ev where
 k : Int
 P : Fv
 Q : Fv
/-- An element in fractions. -/
structure Eq where
 k : Int
 p : Rat
 q : Rat
def ecs (e : Ev) : List Value := [.int .u8 e.k, .bool e.P.n, .slice e.P.A e.P.xs.length e.P.c, .bool e.P.m, .slice e.P.B e.P.ds.length e.P.d, .bool e.Q.n, .slice e.Q.A e.Q.xs.length e.Q.c, .bool e.Q.m, .slice e.Q.B e.Q.ds.length e.Q.d]
abbrev ev (e : Ev) : Value := .agg #[.int .u8 e.k, .bool e.P.n, .slice e.P.A e.P.xs.length e.P.c, .bool e.P.m, .slice e.P.B e.P.ds.length e.P.d, .bool e.Q.n, .slice e.Q.A e.Q.xs.length e.Q.c, .bool e.Q.m, .slice e.Q.B e.Q.ds.length e.Q.d]
/-- May it be? -/
def Eq.may (e : Eq) : Prop := (e.k = 1 ∧ 0 ≤ e.p ∧ e.q = 0) ∨ (e.k = 2 ∧ e.q = 0) ∨ (e.k = 3 ∧ 0 ≤ e.p ∧ 0 < e.q) ∨ e.k = 4 ∨ (e.k = 5 ∧ e.p = 0 ∧ e.q = 0)
def Eq.mat (e : Eq) : Mq :=
 if e.k = 1 then .space e.p else if e.k = 2 then .lens e.p else if e.k = 3 then .space (e.p / e.q) else if e.k = 4 then .lens (e.p * e.q) else (Mq.lens 0).neg
/-- Where an element's words lie; what it is worth. -/
def Xe (W : World) (e : Ev) : Prop := (0 ≤ e.k ∧ e.k ≤ 255) ∧ Fx W e.P ∧ Fx W e.Q
def Fe (W : World) (z : Eq) (e : Ev) : Prop := z.k = e.k ∧ Ff W z.p e.P ∧ Ff W z.q e.Q
/-- The element may be. -/
def MayE (W : World) (e : Ev) : Prop := ∃ z : Eq, Fe W z e ∧ z.may
section
variable {W W' : World} {e : Ev} {z : Eq}
theorem Xe.kp (h : Xe W e) (k : Kept W W') : Xe W' e := ⟨h.1, h.2.1.kp k, h.2.2.kp k⟩
theorem Fe.kp (h : Fe W z e) (k : Kept W W') : Fe W' z e := ⟨h.1, h.2.1.kp k, h.2.2.kp k⟩
theorem Fe.fP (h : Fe W z e) : Ff W z.p e.P := h.2.1
theorem Fe.fQ (h : Fe W z e) : Ff W z.q e.Q := h.2.2
theorem MayE.kp (h : MayE W e) (k : Kept W W') : MayE W' e := by obtain ⟨z, h1, h2⟩ := h; exact ⟨z, h1.kp k, h2⟩
theorem Mq.det_space {p : Rat} : (Mq.space p).det = 1 := by simp only [Mq.space, Mq.det]; grind
theorem Mq.det_lens {p : Rat} : (Mq.lens p).det = 1 := by simp only [Mq.lens, Mq.det]; grind
theorem Mq.det_neg {m : Mq} : m.neg.det = m.det := by simp only [Mq.neg, Mq.det]; grind
theorem Eq.det (z : Eq) : z.mat.det = 1 := by
 unfold Eq.mat
 split
 ·exact Mq.det_space
 ·split
  ·exact Mq.det_lens
  ·split
   ·exact Mq.det_space
   ·split
    ·exact Mq.det_lens
    ·rw [Mq.det_neg]; exact Mq.det_lens
end
/-- The matrix of a row of matrices: the last one ahead. -/
def chainM : List Mq → Mq
 | [] => .one
 | m :: r => (chainM r).mul m
theorem chainM_app (l r : List Mq) : chainM (l ++ r) = (chainM r).mul (chainM l) := by
 induction l with
 | nil => exact Mq.mul_one.symm
 | cons m l ih => rw [List.cons_append, chainM, ih, chainM, Mq.mul_assoc]
theorem chainM_one (m : Mq) : chainM [m] = m := Mq.one_mul
/-- How many words what is put together of so many halves may have. -/
def grow : Nat → Nat → Nat
 | 0, C => C
 | d + 1, C => 4 * grow d C + 8
theorem grow_mono (C : Nat) : ∀ d e, d ≤ e → grow d C ≤ grow e C := by
 intro d e h
 induction e with
 | zero => have : d = 0 := by omega
           subst this; exact Nat.le_refl _
 | succ e ih =>
  by_cases hd : d = e + 1
  ·subst hd; exact Nat.le_refl _
  ·have := ih (by omega)
   have h2 : grow (e + 1) C = 4 * grow e C + 8 := rfl
   omega
theorem grow_ge (C d : Nat) : C ≤ grow d C := grow_mono C 0 d (by omega)
end Go.Proofs.YtjamfkafgfpobaaGreat
namespace Go.Proofs.YtjamfkafgfpobaaGreat
open Go.RowKit Nb
section
variable {W V : World} {p o g : Nat} {us vs : List Value}
theorem infoE : (Tryz.prog.info? 58).map (·.size) = some 9 := by kernel_rfl
/-- A load of an element of a bench at its place. -/
theorem wpList_ldE {ops : Array Oper} {rest : List Oper} {op : Oper} {a : Act} {Q : Exit → Act → World → Prop} {x : Operand} (hw : Region.wanted op (yielded ops a.tmps) = true) (ho : op.op = .load 58 x) (hx : a.eval x = .pointer (some ⟨p, o, none⟩)) (K : AtB W p o us) (hl : us.length = 9)
  (h : wpList Tryz.prog ops Q rest (a.put op.dst (.agg us.toArray)) W) : wpList Tryz.prog ops Q (op :: rest) a W :=
 wpList_step fun _ hK => by
  rw [if_pos hw]
  have hr := run_load_at (P := Tryz.prog) K 58 _ Tryz.underlying58 rfl (by rw [infoE, hl])
  unfold Oper.wp execOp
  simp only [ho, hx, Instr.loadAt, Instr.sureAddr, Sem.run_bind, Sem.run_pure, Result.andThen_ok, hr]
  exact hK _ _ h
theorem run_storeCells_at {P : Program} : ∀ (vs : List Value) (i : Nat) (W : World), (∀ j, j < vs.length → (W.cell? ⟨p, o + i + j, none⟩).isSome = true) → (∀ j : Nat, W.frozen? ⟨p, j, none⟩ = false) → (∀ v ∈ vs, v.oneCell' = true) →
  (storeCells ⟨p, o, none⟩ vs i).run P W = .ok () (W.setCells p (o + i) vs)
 | [], i, W, _, _, _ => rfl
 | v :: r, i, W, hc, hf, h1 => by
  have hst : (store ((⟨p, o, none⟩ : Addr).add i) v).run P W = .ok () (W.setCell ⟨p, o + i, none⟩ v) := by
   rw [addr_addo, run_store P W _ v _ (h1 v (by simp))]
   obtain ⟨u, hu⟩ := Option.isSome_iff_exists.1 (hc 0 (by simp))
   rw [Nat.add_zero] at hu
   rw [hu]
   simp [hf (o + i)]
  have ih := run_storeCells_at (P := P) r (i + 1) (W.setCell ⟨p, o + i, none⟩ v) (fun j hj => by
    have h2 := hc (j + 1) (by simp; omega)
    rw [show o + i + (j + 1) = o + (i + 1) + j by omega] at h2
    rw [World.cell?_setCell_other _ _ _ _ (fun e => by injection e with _ e2 _; omega)]
    exact h2) (fun j => by simpa using hf j) (fun x hx => h1 x (by simp [hx]))
  rw [show o + (i + 1) = o + i + 1 by omega] at ih
  simp only [storeCells, Sem.run_bind, hst, Result.andThen_ok, ih, World.setCells]
theorem run_store_at {P : Program} (K : Box W p us) (Z : Fz W p) (ty : TypeId) (hi : (P.info? ty).map (·.size) = some vs.length) (hl : o + vs.length ≤ us.length) (h1 : vs.all (·.oneCell') = true) :
  (storeVar ty ⟨p, o, none⟩ (.agg vs.toArray)).run P W = .ok () (W.setCells p o vs) := by
 have := run_storeCells_at (P := P) (p := p) (o := o) vs 0 W (fun j hj => by rw [K.c (o + 0 + j) _ (List.getElem?_eq_getElem (by omega))]; rfl) Z.2 (List.all_eq_true.1 h1)
 rw [Nat.add_zero] at this
 cases hq : P.info? ty with
 | none => simp [hq] at hi
 | some i =>
  have hs : vs.length = i.size := by simp [hq] at hi; omega
  simp [storeVar, sizeOf, typeInfo, hq, Value.cells, hs, this]
theorem wpList_stLO {ops : Array Oper} {rest : List Oper} {op : Oper} {a : Act} {Q : Exit → Act → World → Prop} {x y : Operand} (hgd : op.guard = none) (ho : op.op = .store 76 x y) (hx : a.eval x = .pointer (some ⟨p, o, none⟩)) (hy : a.eval y = .agg vs.toArray) (B : Box W p us) (Z : Fz W p) (hl : o + vs.length ≤ us.length) (hv : vs.length = 16) (h1 : vs.all (·.oneCell') = true)
  (h : wpList Tryz.prog ops Q rest (a.put op.dst undef) (W.setCells p o vs)) : wpList Tryz.prog ops Q (op :: rest) a W :=
 wpList_plain hgd fun _ hK => by
  have hr := run_store_at (P := Tryz.prog) (vs := vs) B Z 76 (by rw [infoL, hv]) hl h1
  unfold Oper.wp execOp
  simp only [ho, hx, hy, Instr.storeAt, Instr.sureAddr, Sem.run_bind, Sem.run_pure, Result.andThen_ok, hr]
  exact hK _ _ h
end
/-- The cells of a row, one put anew. -/
theorem flat_set {α : Type} {f : α → List Value} {s : Nat} (hs : ∀ x, (f x).length = s) (m : α) : ∀ (xs : List α) (i : Nat), i < xs.length → (xs.set i m).flatMap f = (xs.flatMap f).take (i * s) ++ (f m ++ (xs.flatMap f).drop (i * s + (f m).length))
 | [], i, h => by simp at h
 | x :: r, 0, _ => by
  rw [List.set_cons_zero, List.flatMap_cons, List.flatMap_cons, Nat.zero_mul, List.take_zero, List.nil_append, Nat.zero_add, hs, List.drop_left' (hs x)]
 | x :: r, i + 1, h => by
  have ih := flat_set hs m r i (by simpa using h)
  rw [List.set_cons_succ, List.flatMap_cons, ih, List.flatMap_cons, List.take_append, List.drop_append, hs, hs]
  have t1 : (f x).take ((i + 1) * s) = f x := List.take_of_length_le (by rw [hs, Nat.add_mul]; omega)
  have t2 : (f x).drop ((i + 1) * s + s) = [] := List.drop_of_length_le (by rw [hs, Nat.add_mul]; omega)
  rw [t1, t2, show (i + 1) * s - s = i * s by rw [Nat.add_mul]; omega, show (i + 1) * s + s - s = i * s + s by rw [Nat.add_mul]; omega, List.nil_append, List.append_assoc]
theorem flat_len {α : Type} {f : α → List Value} {s : Nat} (hs : ∀ x, (f x).length = s) : ∀ (xs : List α), (xs.flatMap f).length = xs.length * s
 | [] => by simp
 | x :: r => by rw [List.flatMap_cons, List.length_append, hs, flat_len hs r, List.length_cons, Nat.add_mul]; omega
theorem flat_soft {α : Type} {f : α → List Value} (hs : ∀ x, (f x).all soft = true) (xs : List α) : (xs.flatMap f).all soft = true := by
 rw [List.all_eq_true]
 intro v hv
 obtain ⟨x, _, hx⟩ := List.mem_flatMap.1 hv
 exact List.all_eq_true.1 (hs x) v hx
theorem flat_at {α : Type} {f : α → List Value} {s : Nat} (hs : ∀ x, (f x).length = s) {xs : List α} {k : Nat} {m : α} (hm : xs[k]? = some m) : ∀ j, j < (f m).length → (xs.flatMap f)[k * s + j]? = (f m)[j]? := by
 induction xs generalizing k with
 | nil => simp at hm
 | cons x r ih =>
  intro j hj
  cases k with
  | zero =>
   simp at hm; subst hm
   rw [Nat.zero_mul, Nat.zero_add, List.flatMap_cons, List.getElem?_append_left hj]
  | succ k =>
   rw [List.flatMap_cons, List.getElem?_append_right (by rw [hs, Nat.add_mul]; omega), hs, show (k + 1) * s + j - s = k * s + j by rw [Nat.add_mul]; omega]
   exact ih (by simpa using hm) j hj
theorem mcs_len (m : Mv) : (mcs m).length = 16 := rfl
theorem ecs_len (e : Ev) : (ecs e).length = 9 := rfl
theorem mcs_soft (m : Mv) : (mcs m).all soft = true := rfl
theorem ecs_soft (e : Ev) : (ecs e).all soft = true := rfl
section
variable {W V : World} {g : Nat} {xs : List Mv} {k : Nat} {m : Mv}
theorem rowM_set (K : Box W g (xs.flatMap mcs)) (hk : k < xs.length) (e : V = W.setCells g (k * 16) (mcs m)) : Box V g ((xs.set k m).flatMap mcs) ∧ Kept W V :=
 have hl : k * 16 + (mcs m).length ≤ (xs.flatMap mcs).length := by rw [flat_len mcs_len, mcs_len]; omega
 ⟨K.part e (flat_set mcs_len m xs k hk) hl, Kept.overE e K (flat_soft mcs_soft xs) hl⟩
end
theorem made_list (z : Array Value) (n : Nat) (_hz : 0 < z.size) : (madeCells z (n * z.size)).toList = (List.replicate n z.toList).flatten := by
 induction n with
 | zero => simp [madeCells]
 | succ n ih =>
  rw [List.replicate_succ, List.flatten_cons, ← ih]
  have hf : ∀ j, z[(z.size + j) % z.size]! = z[j % z.size]! := fun j => by rw [Nat.add_mod_left]
  unfold madeCells
  simp only [Array.toList_map, Array.toList_range]
  rw [show (n + 1) * z.size = z.size + n * z.size by rw [Nat.add_mul]; omega, List.range_add, List.map_append, List.map_map]
  congr 1
  · apply List.ext_getElem
    · simp
    · intro i h1 h2
      simp at h1
      simp [Nat.mod_eq_of_lt h1, h1]
  · apply List.map_congr_left
    intro j _
    exact hf j
theorem rep_flat : ∀ n : Nat, (List.replicate n (mv mv0).cells.toList).flatten = (List.replicate n mv0).flatMap mcs
 | 0 => rfl
 | n + 1 => by rw [List.replicate_succ, List.flatten_cons, rep_flat n, List.replicate_succ, List.flatMap_cons]; rfl
theorem wpList_makeL {W : World} {ops : Array Oper} {rest : List Oper} {op : Oper} {a : Act} {Q : Exit → Act → World → Prop} {l c : Operand} {n : Nat} (hgd : op.guard = none) (ho : op.op = Op.makeSlice 120 l c) (hl : a.eval l = .int .i64 (n : Int)) (hc : a.eval c = .int .i64 (n : Int)) (hn : n ≤ 4096)
  (h : ∀ V : World, Below W.heap.size W V → Box V W.heap.size ((List.replicate n mv0).flatMap mcs) → Fz V W.heap.size → V.heap.size = W.heap.size + 1 → wpList Tryz.prog ops Q rest (a.put op.dst (.slice (some ⟨W.heap.size, 0, none⟩) n n)) V) : wpList Tryz.prog ops Q (op :: rest) a W :=
 wpList_plain hgd fun _ hK => by
  have hi : (Tryz.prog.info? 76).map (fun i => (i.zero, i.size, i.bytes)) = some (some (mv mv0), 16, 256) := by kernel_rfl
  cases hq : Tryz.prog.info? 76 with
  | none => rw [hq] at hi; cases hi
  | some i =>
   rw [hq] at hi
   simp only [Option.map_some, Option.some.injEq, Prod.mk.injEq] at hi
   obtain ⟨hz, hs, hby⟩ := hi
   have hr := run_make (P := Tryz.prog) W 120 76 i (mv mv0) Tryz.underlying120 hq hz .i64 .i64 n n (by omega) (by omega) (by rw [hby]; omega) (by omega)
   simp only [Int.toNat_natCast, hs] at hr
   have hm : (madeCells (mv mv0).cells (n * 16)).toList = (List.replicate n mv0).flatMap mcs := by
    have := made_list (mv mv0).cells n (by decide)
    rw [show (mv mv0).cells.size = 16 from rfl] at this
    rw [this]
    exact rep_flat n
   obtain ⟨V, hV, hb, K, Z, hsz⟩ := alloc_new W (madeCells (mv mv0).cells (n * 16)).toList 76
   rw [Array.toArray_toList] at hV
   rw [hm] at K
   unfold Oper.wp execOp
   simp only [ho, hl, hc, hr, Sem.run_bind, Sem.run_pure, Result.andThen_ok, ← hV]
   exact hK _ _ (h V hb K Z hsz)
end Go.Proofs.YtjamfkafgfpobaaGreat
namespace Go.Proofs.YtjamfkafgfpobaaGreat
open Go.RowKit Nb
theorem size_L : Tryz.prog.info? (Tryz.prog.elem 120) = Tryz.prog.info? 76 := by kernel_rfl
theorem und_L : Tryz.prog.underlying 120 = some (.slice (Tryz.prog.elem 120)) := by kernel_rfl
theorem size_L16 (W : World) : (sizeOf (Tryz.prog.elem 120)).run Tryz.prog W = .ok 16 W := by
 have hi := infoL
 unfold sizeOf typeInfo
 rw [← size_L] at hi
 cases hq : Tryz.prog.info? (Tryz.prog.elem 120) with
 | none => rw [hq] at hi; cases hi
 | some i =>
  rw [hq] at hi
  have hs : i.size = 16 := by simpa using hi
  simp [Sem.run_bind, hq, hs]
section
variable {W : World} {g o n c h : Nat}
theorem slH {ev : Operand → Value} {oi : Oper} {x y : Operand} (ho : oi.op = .slice 120 x none (some y) none) (hx : ev x = .slice (some ⟨g, o, none⟩) n c) (hy : ev y = .int .i64 (h : Int)) (hh : h ≤ c) :
  (execOp ev oi).run Tryz.prog W = .ok (.value (.slice (some ⟨g, o, none⟩) h c)) W := by
 have h1 := run_slice_h (P := Tryz.prog) W 120 (some ⟨g, o, none⟩) n c und_L .i64 (h : Int) (by omega) (by omega)
 have h2 := run_sliceAt_slice (P := Tryz.prog) W 120 (.slice (some ⟨g, o, none⟩) n c) none (some (.int .i64 (h : Int))) none und_L
 unfold execOp
 simp only [ho, hx, hy, Option.map_some, Option.map_none, Sem.run_bind, Sem.run_pure]
 rw [h2, h1, size_L16]
 simp [Result.andThen, sliced, addr_addo]
theorem slL {ev : Operand → Value} {oi : Oper} {x y : Operand} (ho : oi.op = .slice 120 x (some y) none none) (hx : ev x = .slice (some ⟨g, o, none⟩) n c) (hy : ev y = .int .i64 (h : Int)) (hh : h ≤ n) (hc : h < c) :
  (execOp ev oi).run Tryz.prog W = .ok (.value (.slice (some ⟨g, o + h * 16, none⟩) (n - h) (c - h))) W := by
 have h1 := run_slice_l (P := Tryz.prog) W 120 (some ⟨g, o, none⟩) n c und_L .i64 (h : Int) (by omega) (by omega)
 have h2 := run_sliceAt_slice (P := Tryz.prog) W 120 (.slice (some ⟨g, o, none⟩) n c) (some (.int .i64 (h : Int))) none none und_L
 unfold execOp
 simp only [ho, hx, hy, Option.map_some, Option.map_none, Sem.run_bind, Sem.run_pure]
 rw [h2, h1, size_L16]
 have hne : ¬ c = h := by omega
 simp [Result.andThen, sliced, addr_addo, hne]
/-- A matrix in a cell, and an error, are a function's results. -/
theorem res_M2 {p : Nat} {us : List Value} {fn : Func} {tmps : Array Value} {s t : Nat} {v : Value} (hr : fn.results = #[.cell s 31, .tmp t]) (ht : tmps.getD s undef = .pointer (some ⟨p, 0, none⟩)) (hv : tmps.getD t undef = v) (K : Box W p us) (hl : us.length = 16) :
  (results fn tmps).run Tryz.prog W = .ok (.tuple #[.agg us.toArray, v]) W := by
 have h := run_load_box (P := Tryz.prog) K 31 _ Tryz.underlying31 rfl (by rw [infoM, hl])
 unfold results
 rw [hr]
 have ht2 : tmps[s]?.getD undef = .pointer (some ⟨p, 0, none⟩) := by rw [← Array.getD_eq_getD_getElem?]; exact ht
 have hv2 : tmps[t]?.getD undef = v := by rw [← Array.getD_eq_getD_getElem?]; exact hv
 simp [ht2, hv2, asAddr, h]
/-- Four fractions are made. -/
theorem wpList_makeF4 {ops : Array Oper} {rest : List Oper} {op : Oper} {a : Act} {Q : Exit → Act → World → Prop} {l c : Operand} (hgd : op.guard = none) (ho : op.op = Op.makeSlice 125 l c) (hl : a.eval l = .int .i64 4) (hc : a.eval c = .int .i64 4)
  (h : wpList Tryz.prog ops Q rest (a.put op.dst (.slice (some ⟨W.heap.size, 0, none⟩) 4 4)) (W.alloc (.cells #[.bool false, .slice none 0 0, .bool false, .slice none 0 0, .bool false, .slice none 0 0, .bool false, .slice none 0 0, .bool false, .slice none 0 0, .bool false, .slice none 0 0, .bool false, .slice none 0 0, .bool false, .slice none 0 0] 29))) : wpList Tryz.prog ops Q (op :: rest) a W :=
 wpList_plain hgd fun _ hK => by
  have hi : (Tryz.prog.info? 29).map (fun i => (i.zero, i.size, i.bytes)) = some (some (fv fv0), 4, 64) := by kernel_rfl
  cases hq : Tryz.prog.info? 29 with
  | none => rw [hq] at hi; cases hi
  | some i =>
   rw [hq] at hi
   simp only [Option.map_some, Option.some.injEq, Prod.mk.injEq] at hi
   obtain ⟨hz, hs, hby⟩ := hi
   have hr := run_make (P := Tryz.prog) W 125 29 i (fv fv0) Tryz.underlying125 hq hz .i64 .i64 4 4 (by omega) (by omega) (by rw [hby]; omega) (by omega)
   simp only [hs] at hr
   have hm : madeCells (fv fv0).cells (Int.toNat 4 * 4) = zcs16.toArray := by
    apply Array.toList_inj.1
    have := made_list (fv fv0).cells 4 (by decide)
    exact this
   rw [hm] at hr
   unfold Oper.wp execOp
   simp only [ho, hl, hc, hr, Sem.run_bind, Sem.run_pure, Result.andThen_ok]
   exact hK _ _ h
/-- Two parts of a row. -/
theorem AtB.split {p o : Nat} {xs ys : List Mv} (K : AtB W p o ((xs ++ ys).flatMap mcs)) : AtB W p o (xs.flatMap mcs) ∧ AtB W p (o + xs.length * 16) (ys.flatMap mcs) := by
 rw [List.flatMap_append] at K
 refine ⟨fun j v e => K j v (by rw [List.getElem?_append_left (List.getElem?_eq_some_iff.1 e).1]; exact e), fun j v e => ?_⟩
 have h1 := K (xs.length * 16 + j) v (by rw [List.getElem?_append_right (by rw [flat_len mcs_len]; omega), flat_len mcs_len, Nat.add_sub_cancel_left]; exact e)
 rwa [show o + (xs.length * 16 + j) = o + xs.length * 16 + j by omega] at h1
end
end Go.Proofs.YtjamfkafgfpobaaGreat
