/-
  A row of rays: its cells, how it is made, read and written; where a ray is behind each element. No conditions.
-/
import Derived.Test.YtjamfkafgfpobaaGreatBm7
import Derived.Test.YtjamfkafgfpobaaGreatRst
import Derived.Test.YtjamfkafgfpobaaGreatBd1
import Derived.Test.YtjamfkafgfpobaaGreatXtb
namespace Go.Proofs.YtjamfkafgfpobaaGreat
open Go.RowKit Nb
theorem infoY : (Tryz.prog.info? 40).map (·.size) = some 8 := by kernel_rfl
theorem infoY3 : (Tryz.prog.info? 40).map (fun i => (i.zero, i.size, i.bytes)) = some (some (yv yv0), 8, 128) := by kernel_rfl
theorem ycs_len (y : Yv) : (ycs y).length = 8 := rfl
theorem ycs_soft (y : Yv) : (ycs y).all soft = true := rfl
theorem rep_flatY : ∀ n : Nat, (List.replicate n (yv yv0).cells.toList).flatten = (List.replicate n yv0).flatMap ycs
 | 0 => rfl
 | n + 1 => by rw [List.replicate_succ, List.flatten_cons, rep_flatY n, List.replicate_succ, List.flatMap_cons]; rfl
section
variable {W V w : World} {p o g : Nat} {us vs : List Value} {xs : List Yv} {zs ys : List Eq} {r : Yq} {y : Yv}
theorem wpList_ldY {ops : Array Oper} {rest : List Oper} {op : Oper} {a : Act} {Q : Exit → Act → World → Prop} {x : Operand} (hw : Region.wanted op (yielded ops a.tmps) = true) (ho : op.op = .load 40 x) (hx : a.eval x = .pointer (some ⟨p, o, none⟩)) (K : AtB W p o us) (hl : us.length = 8)
  (h : wpList Tryz.prog ops Q rest (a.put op.dst (.agg us.toArray)) W) : wpList Tryz.prog ops Q (op :: rest) a W :=
 wpList_step fun _ hK => by
  rw [if_pos hw]
  have hr := run_load_at (P := Tryz.prog) K 40 _ Tryz.underlying40 rfl (by rw [infoY, hl])
  unfold Oper.wp execOp
  simp only [ho, hx, Instr.loadAt, Instr.sureAddr, Sem.run_bind, Sem.run_pure, Result.andThen_ok, hr]
  exact hK _ _ h
theorem ldYC {ev : Operand → Value} {oi : Oper} {x : Operand} (ho : oi.op = .load 40 x) (hx : ev x = .pointer (some ⟨p, o, none⟩)) (K : AtC W p o us) (hl : us.length = 8) : (execOp ev oi).run Tryz.prog W = .ok (.value (.agg us.toArray)) W := by
 have hr := run_load_at (P := Tryz.prog) K.2 40 _ Tryz.underlying40 rfl (by rw [infoY, hl])
 unfold execOp
 simp only [ho, hx, Instr.loadAt, Instr.sureAddr, Sem.run_bind, Sem.run_pure, Result.andThen_ok, hr]
theorem wpList_stYO {ops : Array Oper} {rest : List Oper} {op : Oper} {a : Act} {Q : Exit → Act → World → Prop} {x z : Operand} (hgd : op.guard = none) (ho : op.op = .store 40 x z) (hx : a.eval x = .pointer (some ⟨p, o, none⟩)) (hy : a.eval z = .agg vs.toArray) (B : Box W p us) (Z : Fz W p) (hl : o + vs.length ≤ us.length) (hv : vs.length = 8) (h1 : vs.all (·.oneCell') = true)
  (h : wpList Tryz.prog ops Q rest (a.put op.dst undef) (W.setCells p o vs)) : wpList Tryz.prog ops Q (op :: rest) a W :=
 wpList_plain hgd fun _ hK => by
  have hr := run_store_at (P := Tryz.prog) (vs := vs) B Z 40 (by rw [infoY, hv]) hl h1
  unfold Oper.wp execOp
  simp only [ho, hx, hy, Instr.storeAt, Instr.sureAddr, Sem.run_bind, Sem.run_pure, Result.andThen_ok, hr]
  exact hK _ _ h
theorem ixY {ev : Operand → Value} {oi : Oper} {x y : Operand} {n c i : Nat} (ho : oi.op = .indexAddr 53 x y) (hx : ev x = .slice (some ⟨g, o, none⟩) n c) (hy : ev y = .int .i64 (i : Int)) (hi : i < n) : (execOp ev oi).run Tryz.prog W = .ok (.value (.pointer (some ⟨g, o + i * 8, none⟩))) W := by
 have h1 : (i : Int) < (n : Int) := by omega
 have h0 : (0 : Int) ≤ (i : Int) := by omega
 unfold execOp
 simp only [ho, hx, hy, Sem.run_bind, Sem.run_pure]
 go_simp
theorem wpList_makeY {ops : Array Oper} {rest : List Oper} {op : Oper} {a : Act} {Q : Exit → Act → World → Prop} {l c : Operand} {n : Nat} (hgd : op.guard = none) (ho : op.op = Op.makeSlice 53 l c) (hl : a.eval l = .int .i64 (n : Int)) (hc : a.eval c = .int .i64 (n : Int)) (hn : n ≤ 4096)
  (h : ∀ V : World, Below W.heap.size W V → Box V W.heap.size ((List.replicate n yv0).flatMap ycs) → Fz V W.heap.size → V.heap.size = W.heap.size + 1 → wpList Tryz.prog ops Q rest (a.put op.dst (.slice (some ⟨W.heap.size, 0, none⟩) n n)) V) : wpList Tryz.prog ops Q (op :: rest) a W :=
 wpList_plain hgd fun _ hK => by
  have hi := infoY3
  cases hq : Tryz.prog.info? 40 with
  | none => rw [hq] at hi; cases hi
  | some i =>
   rw [hq] at hi
   simp only [Option.map_some, Option.some.injEq, Prod.mk.injEq] at hi
   obtain ⟨hz, hs, hby⟩ := hi
   have hr := run_make (P := Tryz.prog) W 53 40 i (yv yv0) Tryz.underlying53 hq hz .i64 .i64 n n (by omega) (by omega) (by rw [hby]; omega) (by omega)
   simp only [Int.toNat_natCast, hs] at hr
   have hm : (madeCells (yv yv0).cells (n * 8)).toList = (List.replicate n yv0).flatMap ycs := by
    have := made_list (yv yv0).cells n (by decide)
    rw [show (yv yv0).cells.size = 8 from rfl] at this
    rw [this]
    exact rep_flatY n
   obtain ⟨V, hV, hb, K, Z, hsz⟩ := alloc_new W (madeCells (yv yv0).cells (n * 8)).toList 40
   rw [Array.toArray_toList] at hV
   rw [hm] at K
   unfold Oper.wp execOp
   simp only [ho, hl, hc, hr, Sem.run_bind, Sem.run_pure, Result.andThen_ok, ← hV]
   exact hK _ _ (h V hb K Z hsz)
theorem rowY_set {k : Nat} (K : Box W g (xs.flatMap ycs)) (hk : k < xs.length) (h : V = W.setCells g (k * 8) (ycs y)) : Box V g ((xs.set k y).flatMap ycs) ∧ Kept W V :=
 have hl : k * 8 + (ycs y).length ≤ (xs.flatMap ycs).length := by rw [flat_len ycs_len, ycs_len]; omega
 ⟨K.part h (flat_set ycs_len y xs k hk) hl, Kept.overE h K (flat_soft ycs_soft xs) hl⟩
theorem rowY_at {k : Nat} (K : Box W g (xs.flatMap ycs)) (h : xs[k]? = some y) : AtC W g (k * 8) (ycs y) := ⟨K.lt, K.atB (flat_at ycs_len h)⟩
/-- Where the ray is behind k elements. -/
def rayAt (zs : List Eq) (r : Yq) (k : Nat) : Yq := (benchM (zs.take k)).thr r
theorem Mq.thr_two {m n : Mq} {r : Yq} : (n.mul m).thr r = n.thr (m.thr r) := by
 apply Yq.ext2 <;> simp only [Mq.mul, Mq.thr] <;> grind
theorem Mq.thr_one {r : Yq} : Mq.one.thr r = r := by
 apply Yq.ext2 <;> simp only [Mq.one, Mq.thr] <;> grind
theorem benchM_nil : benchM [] = Mq.one := rfl
theorem benchM_one (z : Eq) : benchM [z] = z.mat := by unfold benchM; exact chainM_one _
theorem rayAt_zero : rayAt zs r 0 = r := by unfold rayAt; rw [List.take_zero, benchM_nil, Mq.thr_one]
theorem rayAt_succ {k : Nat} {z : Eq} (h : zs[k]? = some z) : rayAt zs r (k + 1) = z.mat.thr (rayAt zs r k) := by
 unfold rayAt
 rw [List.take_add_one, h, Option.toList_some, benchM_app, benchM_one, Mq.thr_two]
theorem rayAt_all : rayAt zs r zs.length = (benchM zs).thr r := by unfold rayAt; rw [List.take_length]
theorem rayAt_app {k : Nat} : rayAt (zs ++ ys) r (zs.length + k) = rayAt ys (rayAt zs r zs.length) k := by
 unfold rayAt
 rw [List.take_length, List.take_length_add_append, benchM_app, Mq.thr_two]
/-- The first rays of a row are those behind the first elements. -/
def RaysAt (W : World) (zs : List Eq) (r : Yq) (xs : List Yv) (k : Nat) : Prop := ∀ (i : Nat) (y : Yv), i < k → xs[i]? = some y → Fy W (rayAt zs r (i + 1)) y
theorem RaysAt.kp {W' : World} {k : Nat} (h : RaysAt W zs r xs k) (kp : Kept W W') : RaysAt W' zs r xs k := fun i y hi hy => (h i y hi hy).kp kp
theorem RaysAt.step {k : Nat} (h : RaysAt W zs r xs k) (kp : Kept W V) (hf : Fy V (rayAt zs r (k + 1)) y) : RaysAt V zs r (xs.set k y) (k + 1) := fun i x hi hx => by
 by_cases he : i = k
 ·subst he
  have hl : i < xs.length := by
   have := (List.getElem?_eq_some_iff.1 hx).1
   rwa [List.length_set] at this
  rw [List.getElem?_set_self hl] at hx
  cases hx
  exact hf
 ·rw [List.getElem?_set_ne (fun e => he e.symm)] at hx
  exact (h i x (by omega) hx).kp kp
theorem Gy.reset {C : Nat} (h : Gy W r y C) (hf : FitsY r) : Gy W r y 1024 := ⟨h.1.reset hf.1, h.2.reset hf.2⟩
end
end Go.Proofs.YtjamfkafgfpobaaGreat
namespace Go.Proofs.YtjamfkafgfpobaaGreat
open Go.RowKit Nb
section
variable {W : World}
theorem wp_makeY {op : Oper} {a : Act} {K : Act → World → Prop} {Q : Exit → Act → World → Prop} {l c : Operand} {n : Nat} (ho : op.op = Op.makeSlice 53 l c) (hl : a.eval l = .int .i64 (n : Int)) (hc : a.eval c = .int .i64 (n : Int)) (hn : n ≤ 4096)
  (h : ∀ V : World, Below W.heap.size W V → Box V W.heap.size ((List.replicate n yv0).flatMap ycs) → Fz V W.heap.size → V.heap.size = W.heap.size + 1 → K (a.put op.dst (.slice (some ⟨W.heap.size, 0, none⟩) n n)) V) : op.wp Tryz.prog a W K Q := by
 have hi := infoY3
 cases hq : Tryz.prog.info? 40 with
 | none => rw [hq] at hi; cases hi
 | some i =>
  rw [hq] at hi
  simp only [Option.map_some, Option.some.injEq, Prod.mk.injEq] at hi
  obtain ⟨hz, hs, hby⟩ := hi
  have hr := run_make (P := Tryz.prog) W 53 40 i (yv yv0) Tryz.underlying53 hq hz .i64 .i64 n n (by omega) (by omega) (by rw [hby]; omega) (by omega)
  simp only [Int.toNat_natCast, hs] at hr
  have hm : (madeCells (yv yv0).cells (n * 8)).toList = (List.replicate n yv0).flatMap ycs := by
   have := made_list (yv yv0).cells n (by decide)
   rw [show (yv yv0).cells.size = 8 from rfl] at this
   rw [this]
   exact rep_flatY n
  obtain ⟨V, hV, hb, K, Z, hsz⟩ := alloc_new W (madeCells (yv yv0).cells (n * 8)).toList 40
  rw [Array.toArray_toList] at hV
  rw [hm] at K
  unfold Oper.wp execOp
  simp only [ho, hl, hc, hr, Sem.run_bind, Sem.run_pure, Result.andThen_ok, ← hV]
  exact h V hb K Z hsz
/-- What a trace answers: the rays, or the refusal. -/
def TrIs (W : World) (zs : List Eq) (r : Yq) (n : Nat) (v : Value) (e : Int) : Prop := (e = 0 ∧ ∃ (g : Nat) (xs : List Yv), v = .slice (some ⟨g, 0, none⟩) n n ∧ xs.length = n ∧ RaysAt W zs r xs n ∧ Box W g (xs.flatMap ycs)) ∨ (e = 4 ∧ v = .slice none 0 0 ∧ ∃ k, k < n ∧ ¬ FitsY (rayAt zs r (k + 1)))
end
end Go.Proofs.YtjamfkafgfpobaaGreat
