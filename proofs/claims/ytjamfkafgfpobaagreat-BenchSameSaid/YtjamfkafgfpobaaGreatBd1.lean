/-
  A bench the other way round; benches that are the same. Conditions: as each theorem states.
-/
import Derived.Test.YtjamfkafgfpobaaGreatBc3
import Derived.Deep.RegionHeld3
import Derived.Deep.DeepCutAuto
import Derived.BigRegion
namespace Go.Proofs.YtjamfkafgfpobaaGreat
open Go.RowKit Nb
section
variable {W V : World} {p o g : Nat} {us vs : List Value}
theorem wp_stE {op : Oper} {a : Act} {K : Act → World → Prop} {Q : Exit → Act → World → Prop} {x y : Operand} (ho : op.op = .store 58 x y) (hx : a.eval x = .pointer (some ⟨p, o, none⟩)) (hy : a.eval y = .agg vs.toArray) (B : Box W p us) (Z : Fz W p) (hl : o + vs.length ≤ us.length) (hv : vs.length = 9) (h1 : vs.all (·.oneCell') = true)
  (h : K (a.put op.dst undef) (W.setCells p o vs)) : op.wp Tryz.prog a W K Q := by
 have hr := run_store_at (P := Tryz.prog) (vs := vs) B Z 58 (by rw [infoE, hv]) hl h1
 unfold Oper.wp execOp
 simp only [ho, hx, hy, Instr.storeAt, Instr.sureAddr, Sem.run_bind, Sem.run_pure, Result.andThen_ok, hr]
 exact h
theorem ixH {ev : Operand → Value} {oi : Oper} {x y : Operand} {n c i : Nat} (ho : oi.op = .indexAddr 22 x y) (hx : ev x = .slice (some ⟨g, 0, none⟩) n c) (hy : ev y = .int .i64 (i : Int)) (hi : i < n) : (execOp ev oi).run Tryz.prog W = .ok (.value (.pointer (some ⟨g, i * 9, none⟩))) W := by
 have h1 : (i : Int) < (n : Int) := by omega
 have h0 : (0 : Int) ≤ (i : Int) := by omega
 unfold execOp
 simp only [ho, hx, hy, Sem.run_bind, Sem.run_pure]
 go_simp
theorem wpList_makeE {ops : Array Oper} {rest : List Oper} {op : Oper} {a : Act} {Q : Exit → Act → World → Prop} {l c : Operand} {n : Nat} (hgd : op.guard = none) (ho : op.op = Op.makeSlice 22 l c) (hl : a.eval l = .int .i64 (n : Int)) (hc : a.eval c = .int .i64 (n : Int)) (hn : n ≤ 4096)
  (h : ∀ V : World, Below W.heap.size W V → Box V W.heap.size ((List.replicate n e0).flatMap ecs) → Fz V W.heap.size → V.heap.size = W.heap.size + 1 → wpList Tryz.prog ops Q rest (a.put op.dst (.slice (some ⟨W.heap.size, 0, none⟩) n n)) V) : wpList Tryz.prog ops Q (op :: rest) a W :=
 wpList_plain hgd fun _ hK => by
  have hi := infoE3
  cases hq : Tryz.prog.info? 58 with
  | none => rw [hq] at hi; cases hi
  | some i =>
   rw [hq] at hi
   simp only [Option.map_some, Option.some.injEq, Prod.mk.injEq] at hi
   obtain ⟨hz, hs, hby⟩ := hi
   have hr := run_make (P := Tryz.prog) W 22 58 i (ev e0) Tryz.underlying22 hq hz .i64 .i64 n n (by omega) (by omega) (by rw [hby]; omega) (by omega)
   simp only [Int.toNat_natCast, hs] at hr
   have hm : (madeCells (ev e0).cells (n * 9)).toList = (List.replicate n e0).flatMap ecs := by
    have := made_list (ev e0).cells n (by decide)
    rw [show (ev e0).cells.size = 9 from rfl] at this
    rw [this]
    exact rep_flatE n
   obtain ⟨V, hV, hb, K, Z, hsz⟩ := alloc_new W (madeCells (ev e0).cells (n * 9)).toList 58
   rw [Array.toArray_toList] at hV
   rw [hm] at K
   unfold Oper.wp execOp
   simp only [ho, hl, hc, hr, Sem.run_bind, Sem.run_pure, Result.andThen_ok, ← hV]
   exact hK _ _ (h V hb K Z hsz)
theorem rowE_set {xs : List Ev} {k : Nat} {e : Ev} (K : Box W g (xs.flatMap ecs)) (hk : k < xs.length) (h : V = W.setCells g (k * 9) (ecs e)) : Box V g ((xs.set k e).flatMap ecs) ∧ Kept W V :=
 have hl : k * 9 + (ecs e).length ≤ (xs.flatMap ecs).length := by rw [flat_len ecs_len, ecs_len]; omega
 ⟨K.part h (flat_set ecs_len e xs k hk) hl, Kept.overE h K (flat_soft ecs_soft xs) hl⟩
theorem Fe.xe {z : Eq} {e : Ev} (h : Fe W z e) (hm : z.may) : Xe W e := ⟨by have := h.1; rcases hm with ⟨h, _⟩ | ⟨h, _⟩ | ⟨h, _⟩ | h | ⟨h, _⟩ <;> omega, h.2.1.fx, h.2.2.fx⟩
theorem Fes.xe {zs : List Eq} {es : List Ev} (h : Fes W zs es) : ∀ e ∈ es, Xe W e := fun e he => by
 obtain ⟨i, hi, rfl⟩ := List.getElem_of_mem he
 have := h.2 i (zs[i]'(by rw [h.1]; exact hi)) _ (List.getElem?_eq_getElem _) (List.getElem?_eq_getElem hi)
 exact this.1.xe this.2
end
end Go.Proofs.YtjamfkafgfpobaaGreat
namespace Go.Proofs.YtjamfkafgfpobaaGreat
open Go.RowKit Nb
/-- Cells of a block from a place on; the block is there. -/
def AtC (W : World) (p o : Nat) (vs : List Value) : Prop := p < W.heap.size ∧ AtB W p o vs
section
variable {W W' : World} {p o g : Nat} {us vs : List Value}
theorem AtC.on (h : AtC W p o us) (hb : Below W.heap.size W W') : AtC W' p o us := ⟨Nat.lt_of_lt_of_le h.1 hb.size, h.2.on h.1 hb⟩
end
end Go.Proofs.YtjamfkafgfpobaaGreat
