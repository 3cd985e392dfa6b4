/-
  Matrices of any size, rows of structs. Conditions: as each theorem states.
-/
import Derived.Test.YtplgheabhekedaaGreatRlb
import Derived.Test.YtplgheabhekedaaGreatXtra
import Derived.Test.YtplgheabhekedaaGreatRc0
import Derived.Test.YtplgheabhekedaaGreatRf
import Derived.Laws.MakeOwn
namespace Go.Proofs.YtplgheabhekedaaGreat
open Go.RowKit Nb
section
variable {W : World} {p o : Nat} {us vs : List Value}
theorem infoL : (Tryz.prog.info? 90).map (·.size) = some 16 := by kernel_rfl
/-- A load of a matrix in a drawn region. -/
theorem ldL {ev : Operand → Value} {oi : Oper} {x : Operand} (ho : oi.op = .load 90 x) (hx : ev x = .pointer (some ⟨p, 0, none⟩)) (K : Box W p us) (hl : us.length = 16 := by rfl) : (execOp ev oi).run Tryz.prog W = .ok (.value (.agg us.toArray)) W := by
 have hr := run_load_box (P := Tryz.prog) K 90 _ Tryz.underlying90 rfl (by rw [infoL, hl])
 unfold execOp
 simp only [ho, hx, Instr.loadAt, Instr.sureAddr, Sem.run_bind, Sem.run_pure, Result.andThen_ok, hr]
theorem wp_stL {o : Oper} {a : Act} {K : Act → World → Prop} {Q : Exit → Act → World → Prop} {x y : Operand} (ho : o.op = .store 90 x y) (hx : a.eval x = .pointer (some ⟨p, 0, none⟩)) (hy : a.eval y = .agg vs.toArray) (B : Box W p us) (Z : Fz W p) (hl : us.length = 16) (hv : vs.length = 16) (h1 : vs.all (·.oneCell') = true)
  (h : K (a.put o.dst undef) (W.setCells p 0 vs)) : o.wp Tryz.prog a W K Q := by
 have hr := run_store_box (P := Tryz.prog) (vs := vs) B Z 90 (by rw [infoL, hv]) (by rw [hl, hv]) h1
 unfold Oper.wp execOp
 simp only [ho, hx, hy, Instr.storeAt, Instr.sureAddr, Sem.run_bind, Sem.run_pure, Result.andThen_ok, hr]
 exact h
/-- A matrix in a cell is a function's one result. -/
theorem res_L {fn : Func} {tmps : Array Value} {s : Nat} (hr : fn.results = #[.cell s 90]) (ht : tmps.getD s undef = .pointer (some ⟨p, 0, none⟩)) (K : Box W p us) (hl : us.length = 16) :
  (results fn tmps).run Tryz.prog W = .ok (.agg us.toArray) W := by
 have h := run_load_box (P := Tryz.prog) K 90 _ Tryz.underlying90 rfl (by rw [infoL, hl])
 unfold results
 rw [hr]
 have ht2 : tmps[s]?.getD undef = .pointer (some ⟨p, 0, none⟩) := by rw [← Array.getD_eq_getD_getElem?]; exact ht
 simp [ht2, asAddr, h]
end
end Go.Proofs.YtplgheabhekedaaGreat
namespace Go.Proofs.YtplgheabhekedaaGreat
open Go.RowKit Nb
def Gm (W : World) (q : Mq) (m : Mv) (C : Nat) : Prop := Fq W q.a m.A C ∧ Fq W q.b m.B C ∧ Fq W q.c m.C C ∧ Fq W q.d m.D C
def Gy (W : World) (r : Yq) (y : Yv) (C : Nat) : Prop := Fq W r.y y.Y C ∧ Fq W r.u y.U C
def GMx (w : World) (q : Mq) (C : Nat) (e : Ending) (w' : World) : Prop := ∃ m : Mv, e = .returned (mv m) ∧ Gm w' q m C ∧ Below w.heap.size w w'
def GYx (w : World) (r : Yq) (C : Nat) (e : Ending) (w' : World) : Prop := ∃ y : Yv, e = .returned (yv y) ∧ Gy w' r y C ∧ Below w.heap.size w w'
section
variable {W W' : World} {q p : Mq} {r s : Yq} {m : Mv} {y : Yv} {C D : Nat}
theorem Gm.gA (h : Gm W q m C) : Fq W q.a m.A C := h.1
theorem Gm.gB (h : Gm W q m C) : Fq W q.b m.B C := h.2.1
theorem Gm.gC (h : Gm W q m C) : Fq W q.c m.C C := h.2.2.1
theorem Gm.gD (h : Gm W q m C) : Fq W q.d m.D C := h.2.2.2
theorem Gy.gY (h : Gy W r y C) : Fq W r.y y.Y C := h.1
theorem Gy.gU (h : Gy W r y C) : Fq W r.u y.U C := h.2
theorem Gm.kp (h : Gm W q m C) (k : Kept W W') : Gm W' q m C := ⟨h.1.kp k, h.2.1.kp k, h.2.2.1.kp k, h.2.2.2.kp k⟩
theorem Gy.kp (h : Gy W r y C) (k : Kept W W') : Gy W' r y C := ⟨h.1.kp k, h.2.kp k⟩
theorem Gm.mono (h : Gm W q m C) (hC : C ≤ D) : Gm W q m D := ⟨h.1.mono hC, h.2.1.mono hC, h.2.2.1.mono hC, h.2.2.2.mono hC⟩
theorem Gy.mono (h : Gy W r y C) (hC : C ≤ D) : Gy W r y D := ⟨h.1.mono hC, h.2.mono hC⟩
theorem Gm.col1 (h : Gm W q m C) : Gy W ⟨q.a, q.c⟩ ⟨m.A, m.C⟩ C := ⟨h.1, h.2.2.1⟩
theorem Gm.col2 (h : Gm W q m C) : Gy W ⟨q.b, q.d⟩ ⟨m.B, m.D⟩ C := ⟨h.2.1, h.2.2.2⟩
theorem Gm.to (h : Gm W q m C) (e : q = p) : Gm W p m C := e ▸ h
theorem Gy.to (h : Gy W r y C) (e : r = s) : Gy W s y C := e ▸ h
end
def Mq.neg (m : Mq) : Mq := ⟨-m.a, -m.b, -m.c, -m.d⟩
def Mq.space (p : Rat) : Mq := ⟨1, p, 0, 1⟩
def Mq.lens (p : Rat) : Mq := ⟨1, 0, -p, 1⟩
/-- An element: its kind, its two fractions. -/
structure Ev where
 k : Int
 P : Fv
 Q : Fv
/-- An element in fractions. -/
structure Eq where
 k : Int
 p : Rat
 q : Rat
/-- May it be? -/
def Eq.may (e : Eq) : Prop := (e.k = 1 ∧ 0 ≤ e.p ∧ e.q = 0) ∨ (e.k = 2 ∧ e.q = 0) ∨ (e.k = 3 ∧ 0 ≤ e.p ∧ 0 < e.q) ∨ e.k = 4 ∨ (e.k = 5 ∧ e.p = 0 ∧ e.q = 0)
def Eq.mat (e : Eq) : Mq :=
 if e.k = 1 then .space e.p else if e.k = 2 then .lens e.p else if e.k = 3 then .space (e.p / e.q) else if e.k = 4 then .lens (e.p * e.q) else (Mq.lens 0).neg
/-- Where an element's words lie; what it is worth. -/
def Xe (W : World) (e : Ev) : Prop := (0 ≤ e.k ∧ e.k ≤ 255) ∧ Fx W e.P ∧ Fx W e.Q
def Fe (W : World) (z : Eq) (e : Ev) : Prop := z.k = e.k ∧ Ff W z.p e.P ∧ Ff W z.q e.Q
/-- The element may be. -/
def MayE (W : World) (e : Ev) : Prop := ∃ z : Eq, Fe W z e ∧ z.may
section
variable {W W' : World} {e : Ev} {z : Eq}
theorem Xe.kp (h : Xe W e) (k : Kept W W') : Xe W' e := ⟨h.1, h.2.1.kp k, h.2.2.kp k⟩
theorem Fe.kp (h : Fe W z e) (k : Kept W W') : Fe W' z e := ⟨h.1, h.2.1.kp k, h.2.2.kp k⟩
theorem MayE.kp (h : MayE W e) (k : Kept W W') : MayE W' e := by obtain ⟨z, h1, h2⟩ := h; exact ⟨z, h1.kp k, h2⟩
theorem Mq.det_space {p : Rat} : (Mq.space p).det = 1 := by simp only [Mq.space, Mq.det]; grind
theorem Mq.det_lens {p : Rat} : (Mq.lens p).det = 1 := by simp only [Mq.lens, Mq.det]; grind
theorem Mq.det_neg {m : Mq} : m.neg.det = m.det := by simp only [Mq.neg, Mq.det]; grind
theorem Eq.det (z : Eq) : z.mat.det = 1 := by
 unfold Eq.mat
 split
 ·exact Mq.det_space
 ·split
  ·exact Mq.det_lens
  ·split
   ·exact Mq.det_space
   ·split
    ·exact Mq.det_lens
    ·rw [Mq.det_neg]; exact Mq.det_lens
end
end Go.Proofs.YtplgheabhekedaaGreat
namespace Go.Proofs.YtplgheabhekedaaGreat
open Go.RowKit Nb
section
variable {W V : World} {p o g : Nat} {us vs : List Value}
end
theorem flat_len {α : Type} {f : α → List Value} {s : Nat} (hs : ∀ x, (f x).length = s) : ∀ (xs : List α), (xs.flatMap f).length = xs.length * s
 | [] => by simp
 | x :: r => by rw [List.flatMap_cons, List.length_append, hs, flat_len hs r, List.length_cons, Nat.add_mul]; omega
theorem mcs_len (m : Mv) : (mcs m).length = 16 := rfl
section
variable {W V : World} {g : Nat} {xs : List Mv} {k : Nat} {m : Mv}
end
end Go.Proofs.YtplgheabhekedaaGreat
namespace Go.Proofs.YtplgheabhekedaaGreat
open Go.RowKit Nb
section
variable {W : World} {g o n c h : Nat}
/-- A matrix in a cell, and an error, are a function's results. -/
theorem res_M2 {p : Nat} {us : List Value} {fn : Func} {tmps : Array Value} {s t : Nat} {v : Value} (hr : fn.results = #[.cell s 31, .tmp t]) (ht : tmps.getD s undef = .pointer (some ⟨p, 0, none⟩)) (hv : tmps.getD t undef = v) (K : Box W p us) (hl : us.length = 16) :
  (results fn tmps).run Tryz.prog W = .ok (.tuple #[.agg us.toArray, v]) W := by
 have h := run_load_box (P := Tryz.prog) K 31 _ Tryz.underlying31 rfl (by rw [infoM, hl])
 unfold results
 rw [hr]
 have ht2 : tmps[s]?.getD undef = .pointer (some ⟨p, 0, none⟩) := by rw [← Array.getD_eq_getD_getElem?]; exact ht
 have hv2 : tmps[t]?.getD undef = v := by rw [← Array.getD_eq_getD_getElem?]; exact hv
 simp [ht2, hv2, asAddr, h]
/-- Two parts of a row. -/
theorem AtB.split {p o : Nat} {xs ys : List Mv} (K : AtB W p o ((xs ++ ys).flatMap mcs)) : AtB W p o (xs.flatMap mcs) ∧ AtB W p (o + xs.length * 16) (ys.flatMap mcs) := by
 rw [List.flatMap_append] at K
 refine ⟨fun j v e => K j v (by rw [List.getElem?_append_left (List.getElem?_eq_some_iff.1 e).1]; exact e), fun j v e => ?_⟩
 have h1 := K (xs.length * 16 + j) v (by rw [List.getElem?_append_right (by rw [flat_len mcs_len]; omega), flat_len mcs_len, Nat.add_sub_cancel_left]; exact e)
 rwa [show o + (xs.length * 16 + j) = o + xs.length * 16 + j by omega] at h1
end
end Go.Proofs.YtplgheabhekedaaGreat
