/-
  Rays in a row; a ray handed on; bench.Trace. Conditions: as each theorem states.
-/
import Derived.Test.YtjamfkafgfpobaaGreatDoorBm7
import Derived.Test.YtjamfkafgfpobaaGreatDoorRst
import Derived.Test.YtjamfkafgfpobaaGreatDoorTpr
import Derived.Test.YtjamfkafgfpobaaGreatDoorBm5
import Derived.Test.YtjamfkafgfpobaaGreatDoorRsy
import Derived.Test.YtjamfkafgfpobaaGreatDoorBl2
import Derived.Deep.RegionHeld3
import Derived.Deep.DeepCutAuto
import Derived.BigRegion
namespace Go.Proofs.YtjamfkafgfpobaaGreatDoor
open Go.RowKit Nb
theorem infoY : (Tryz.prog.info? 29).map (·.size) = some 8 := by kernel_rfl
theorem infoY3 : (Tryz.prog.info? 29).map (fun i => (i.zero, i.size, i.bytes)) = some (some (yv yv0), 8, 128) := by kernel_rfl
theorem ycs_len (y : Yv) : (ycs y).length = 8 := rfl
theorem ycs_soft (y : Yv) : (ycs y).all soft = true := rfl
theorem rep_flatY : ∀ n : Nat, (List.replicate n (yv yv0).cells.toList).flatten = (List.replicate n yv0).flatMap ycs
 | 0 => rfl
 | n + 1 => by rw [List.replicate_succ, List.flatten_cons, rep_flatY n, List.replicate_succ, List.flatMap_cons]; rfl
section
variable {W V w : World} {p o g : Nat} {us vs : List Value} {xs : List Yv} {zs ys : List Eq} {r : Yq} {y : Yv}
theorem wpList_ldY {ops : Array Oper} {rest : List Oper} {op : Oper} {a : Act} {Q : Exit → Act → World → Prop} {x : Operand} (hw : Region.wanted op (yielded ops a.tmps) = true) (ho : op.op = .load 29 x) (hx : a.eval x = .pointer (some ⟨p, o, none⟩)) (K : AtB W p o us) (hl : us.length = 8)
  (h : wpList Tryz.prog ops Q rest (a.put op.dst (.agg us.toArray)) W) : wpList Tryz.prog ops Q (op :: rest) a W :=
 wpList_step fun _ hK => by
  rw [if_pos hw]
  have hr := run_load_at (P := Tryz.prog) K 29 _ Tryz.underlying29 rfl (by rw [infoY, hl])
  unfold Oper.wp execOp
  simp only [ho, hx, Instr.loadAt, Instr.sureAddr, Sem.run_bind, Sem.run_pure, Result.andThen_ok, hr]
  exact hK _ _ h
theorem ldYC {ev : Operand → Value} {oi : Oper} {x : Operand} (ho : oi.op = .load 29 x) (hx : ev x = .pointer (some ⟨p, o, none⟩)) (K : AtC W p o us) (hl : us.length = 8) : (execOp ev oi).run Tryz.prog W = .ok (.value (.agg us.toArray)) W := by
 have hr := run_load_at (P := Tryz.prog) K.2 29 _ Tryz.underlying29 rfl (by rw [infoY, hl])
 unfold execOp
 simp only [ho, hx, Instr.loadAt, Instr.sureAddr, Sem.run_bind, Sem.run_pure, Result.andThen_ok, hr]
theorem wpList_stYO {ops : Array Oper} {rest : List Oper} {op : Oper} {a : Act} {Q : Exit → Act → World → Prop} {x z : Operand} (hgd : op.guard = none) (ho : op.op = .store 29 x z) (hx : a.eval x = .pointer (some ⟨p, o, none⟩)) (hy : a.eval z = .agg vs.toArray) (B : Box W p us) (Z : Fz W p) (hl : o + vs.length ≤ us.length) (hv : vs.length = 8) (h1 : vs.all (·.oneCell') = true)
  (h : wpList Tryz.prog ops Q rest (a.put op.dst undef) (W.setCells p o vs)) : wpList Tryz.prog ops Q (op :: rest) a W :=
 wpList_plain hgd fun _ hK => by
  have hr := run_store_at (P := Tryz.prog) (vs := vs) B Z 29 (by rw [infoY, hv]) hl h1
  unfold Oper.wp execOp
  simp only [ho, hx, hy, Instr.storeAt, Instr.sureAddr, Sem.run_bind, Sem.run_pure, Result.andThen_ok, hr]
  exact hK _ _ h
theorem ixY {ev : Operand → Value} {oi : Oper} {x y : Operand} {n c i : Nat} (ho : oi.op = .indexAddr 53 x y) (hx : ev x = .slice (some ⟨g, o, none⟩) n c) (hy : ev y = .int .i64 (i : Int)) (hi : i < n) : (execOp ev oi).run Tryz.prog W = .ok (.value (.pointer (some ⟨g, o + i * 8, none⟩))) W := by
 have h1 : (i : Int) < (n : Int) := by omega
 have h0 : (0 : Int) ≤ (i : Int) := by omega
 unfold execOp
 simp only [ho, hx, hy, Sem.run_bind, Sem.run_pure]
 go_simp
theorem rowY_set {k : Nat} (K : Box W g (xs.flatMap ycs)) (hk : k < xs.length) (h : V = W.setCells g (k * 8) (ycs y)) : Box V g ((xs.set k y).flatMap ycs) ∧ Kept W V :=
 have hl : k * 8 + (ycs y).length ≤ (xs.flatMap ycs).length := by rw [flat_len ycs_len, ycs_len]; omega
 ⟨K.part h (flat_set ycs_len y xs k hk) hl, Kept.overE h K (flat_soft ycs_soft xs) hl⟩
theorem rowY_at {k : Nat} (K : Box W g (xs.flatMap ycs)) (h : xs[k]? = some y) : AtC W g (k * 8) (ycs y) := ⟨K.lt, K.atB (flat_at ycs_len h)⟩
/-- Where the ray is behind k elements. -/
def rayAt (zs : List Eq) (r : Yq) (k : Nat) : Yq := (benchM (zs.take k)).thr r
theorem Mq.thr_two {m n : Mq} {r : Yq} : (n.mul m).thr r = n.thr (m.thr r) := by
 apply Yq.ext2 <;> simp only [Mq.mul, Mq.thr] <;> grind
theorem Mq.thr_one {r : Yq} : Mq.one.thr r = r := by
 apply Yq.ext2 <;> simp only [Mq.one, Mq.thr] <;> grind
theorem benchM_nil : benchM [] = Mq.one := rfl
theorem benchM_one (z : Eq) : benchM [z] = z.mat := by unfold benchM; exact chainM_one _
theorem rayAt_zero : rayAt zs r 0 = r := by unfold rayAt; rw [List.take_zero, benchM_nil, Mq.thr_one]
theorem rayAt_succ {k : Nat} {z : Eq} (h : zs[k]? = some z) : rayAt zs r (k + 1) = z.mat.thr (rayAt zs r k) := by
 unfold rayAt
 rw [List.take_add_one, h, Option.toList_some, benchM_app, benchM_one, Mq.thr_two]
theorem rayAt_all : rayAt zs r zs.length = (benchM zs).thr r := by unfold rayAt; rw [List.take_length]
/-- The first rays of a row are those behind the first elements. -/
def RaysAt (W : World) (zs : List Eq) (r : Yq) (xs : List Yv) (k : Nat) : Prop := ∀ (i : Nat) (y : Yv), i < k → xs[i]? = some y → Fy W (rayAt zs r (i + 1)) y
theorem RaysAt.kp {W' : World} {k : Nat} (h : RaysAt W zs r xs k) (kp : Kept W W') : RaysAt W' zs r xs k := fun i y hi hy => (h i y hi hy).kp kp
theorem RaysAt.step {k : Nat} (h : RaysAt W zs r xs k) (kp : Kept W V) (hf : Fy V (rayAt zs r (k + 1)) y) : RaysAt V zs r (xs.set k y) (k + 1) := fun i x hi hx => by
 by_cases he : i = k
 ·subst he
  have hl : i < xs.length := by
   have := (List.getElem?_eq_some_iff.1 hx).1
   rwa [List.length_set] at this
  rw [List.getElem?_set_self hl] at hx
  cases hx
  exact hf
 ·rw [List.getElem?_set_ne (fun e => he e.symm)] at hx
  exact (h i x (by omega) hx).kp kp
theorem Gy.reset {C : Nat} (h : Gy W r y C) (hf : FitsY r) : Gy W r y 1024 := ⟨h.1.reset hf.1, h.2.reset hf.2⟩
end
end Go.Proofs.YtjamfkafgfpobaaGreatDoor
namespace Go.Proofs.YtjamfkafgfpobaaGreatDoor
open Go.RowKit Nb
section
variable {W : World}
theorem wp_makeY {op : Oper} {a : Act} {K : Act → World → Prop} {Q : Exit → Act → World → Prop} {l c : Operand} {n : Nat} (ho : op.op = Op.makeSlice 53 l c) (hl : a.eval l = .int .i64 (n : Int)) (hc : a.eval c = .int .i64 (n : Int)) (hn : n ≤ 4096)
  (h : ∀ V : World, Below W.heap.size W V → Box V W.heap.size ((List.replicate n yv0).flatMap ycs) → Fz V W.heap.size → V.heap.size = W.heap.size + 1 → K (a.put op.dst (.slice (some ⟨W.heap.size, 0, none⟩) n n)) V) : op.wp Tryz.prog a W K Q := by
 have hi := infoY3
 cases hq : Tryz.prog.info? 29 with
 | none => rw [hq] at hi; cases hi
 | some i =>
  rw [hq] at hi
  simp only [Option.map_some, Option.some.injEq, Prod.mk.injEq] at hi
  obtain ⟨hz, hs, hby⟩ := hi
  have hr := run_make (P := Tryz.prog) W 53 29 i (yv yv0) Tryz.underlying53 hq hz .i64 .i64 n n (by omega) (by omega) (by rw [hby]; omega) (by omega)
  simp only [Int.toNat_natCast, hs] at hr
  have hm : (madeCells (yv yv0).cells (n * 8)).toList = (List.replicate n yv0).flatMap ycs := by
   have := made_list (yv yv0).cells n (by decide)
   rw [show (yv yv0).cells.size = 8 from rfl] at this
   rw [this]
   exact rep_flatY n
  obtain ⟨V, hV, hb, K, Z, hsz⟩ := alloc_new W (madeCells (yv yv0).cells (n * 8)).toList 29
  rw [Array.toArray_toList] at hV
  rw [hm] at K
  unfold Oper.wp execOp
  simp only [ho, hl, hc, hr, Sem.run_bind, Sem.run_pure, Result.andThen_ok, ← hV]
  exact h V hb K Z hsz
/-- What a trace answers: the rays, or the refusal. -/
def TrIs (W : World) (zs : List Eq) (r : Yq) (n : Nat) (v : Value) (e : Int) : Prop := (e = 0 ∧ ∃ (g : Nat) (xs : List Yv), v = .slice (some ⟨g, 0, none⟩) n n ∧ xs.length = n ∧ RaysAt W zs r xs n ∧ Box W g (xs.flatMap ycs)) ∨ (e = 4 ∧ v = .slice none 0 0 ∧ ∃ k, k < n ∧ ¬ FitsY (rayAt zs r (k + 1)))
end
end Go.Proofs.YtjamfkafgfpobaaGreatDoor
namespace Go.Proofs.YtjamfkafgfpobaaGreatDoor
open Go.RowKit Nb
section
variable {W : World}
theorem wpList_makeF2 {ops : Array Oper} {rest : List Oper} {op : Oper} {a : Act} {Q : Exit → Act → World → Prop} {l c : Operand} (hgd : op.guard = none) (ho : op.op = Op.makeSlice 115 l c) (hl : a.eval l = .int .i64 2) (hc : a.eval c = .int .i64 2)
  (h : wpList Tryz.prog ops Q rest (a.put op.dst (.slice (some ⟨W.heap.size, 0, none⟩) 2 2)) (W.alloc (.cells #[.bool false, .slice none 0 0, .bool false, .slice none 0 0, .bool false, .slice none 0 0, .bool false, .slice none 0 0] 27))) : wpList Tryz.prog ops Q (op :: rest) a W :=
 wpList_plain hgd fun _ hK => by
  have hi : (Tryz.prog.info? 27).map (fun i => (i.zero, i.size, i.bytes)) = some (some (fv fv0), 4, 64) := by kernel_rfl
  cases hq : Tryz.prog.info? 27 with
  | none => rw [hq] at hi; cases hi
  | some i =>
   rw [hq] at hi
   simp only [Option.map_some, Option.some.injEq, Prod.mk.injEq] at hi
   obtain ⟨hz, hs, hby⟩ := hi
   have hr := run_make (P := Tryz.prog) W 115 27 i (fv fv0) Tryz.underlying115 hq hz .i64 .i64 2 2 (by omega) (by omega) (by rw [hby]; omega) (by omega)
   simp only [hs] at hr
   have hm : madeCells (fv fv0).cells (Int.toNat 2 * 4) = #[.bool false, .slice none 0 0, .bool false, .slice none 0 0, .bool false, .slice none 0 0, .bool false, .slice none 0 0] := by
    apply Array.toList_inj.1
    have := made_list (fv fv0).cells 2 (by decide)
    exact this
   rw [hm] at hr
   unfold Oper.wp execOp
   simp only [ho, hl, hc, hr, Sem.run_bind, Sem.run_pure, Result.andThen_ok]
   exact hK _ _ h
end
set_option maxHeartbeats 16000000 in
set_option maxRecDepth 100000 in
theorem b_fit2 {q : Yq} {m : Yv} {C g : Nat} {w : World} (G : Gy w q m C) (Kg : Box w g (ycs m)) (hC : C ≤ 1759218604390) :
    Calls Tryz.prog 65 #[.slice (some ⟨g, 0, none⟩) 2 2] w (fun e w' => ∃ (v : Value) (er : Int), e = .returned (.tuple #[v, .int .i64 er]) ∧ ((er = 0 ∧ FitsY q ∧ ∃ (f : Yv) (h : Nat), v = .slice (some ⟨h, 0, none⟩) 2 2 ∧ Fy w' q f ∧ Box w' h (ycs f) ∧ w.heap.size ≤ h) ∨ (er = 4 ∧ ¬ FitsY q ∧ v = .slice none 0 0)) ∧ Below w.heap.size w w') := by
 have BW : Below w.heap.size w w := Below.refl _ _
 obtain ⟨V1, e2, hb3, K4, Z5, -⟩ := alloc_new w [.bool false, .slice none 0 0, .bool false, .slice none 0 0, .bool false, .slice none 0 0, .bool false, .slice none 0 0] 27
 replace K4 : Box V1 (w.heap.size) (zcs8) := K4
 have n6 : g ≠ w.heap.size := Nat.ne_of_lt (Kg.lt)
 have g7 : w.heap.size ≤ w.heap.size := BW.size
 replace Kg := Kg.on hb3
 replace G := G.kp (Kept.of hb3)
 replace BW := BW.trans (hb3.mono BW.size)
 clear hb3
 go_enter Tryz.func65, Tryz.ntmps65
 go_wp2_with (first | (refine wpList_makeF2 (by rfl) (by rfl) (by rfl) (by rfl) ?_))
 rw [← e2]
 clear e2
 have gz : w.heap.size ≤ w.heap.size := Nat.le_refl _
 refine wp_loop_rounds 3 ?_
 rw [rounds_succ]
 obtain ⟨c8, c9, c10, c11, c12, c13, c14, c15⟩ := Kg.c8
 obtain ⟨V16, e17, hb18, K19, Z20, -⟩ := alloc_new V1 [.bool m.Y.n, .slice m.Y.A m.Y.xs.length m.Y.c, .bool m.Y.m, .slice m.Y.B m.Y.ds.length m.Y.d] 74
 have n21 : g ≠ V1.heap.size := Nat.ne_of_lt (Kg.lt)
 have n22 : w.heap.size ≠ V1.heap.size := Nat.ne_of_lt (K4.lt)
 have g23 : w.heap.size ≤ V1.heap.size := BW.size
 replace Kg := Kg.on hb18
 replace K4 := K4.on hb18
 replace Z5 := Z5.on hb18
 replace G := G.kp (Kept.of hb18)
 replace BW := BW.trans (hb18.mono BW.size)
 clear hb18
 go_wp2_with fail
 clear c8 c9 c10 c11 c12 c13 c14 c15
 rw [← e17]
 clear e17
 generalize V1.heap.size = b24 at *
 obtain ⟨c25, c26, c27, c28⟩ := K19.c4
 go_wp2_with fail
 clear c25 c26 c27 c28
 refine (q_fit G.gY hC).mono ?_
 rintro _ w29 ⟨f0, er0, rfl, k0, hb⟩
 replace Kg := Kg.on hb
 replace K4 := K4.on hb
 replace K19 := K19.on hb
 replace Z5 := Z5.on hb
 replace G := G.kp (Kept.of hb)
 replace BW := BW.trans (hb.mono BW.size)
 clear hb
 rcases k0 with ⟨_, F0, rfl, L0⟩ | ⟨⟨hh, _⟩ | ⟨_, N0, rfl⟩, -⟩
 ·obtain ⟨c30, c31, c32, c33, c34, c35, c36, c37⟩ := K4.c8
  obtain ⟨c38, c39, c40, c41, c42, c43, c44, c45⟩ := Z5.f8
  obtain ⟨V46, hk48⟩ : ∃ V46, V46 = w29.setCells (w.heap.size) 0 [.bool f0.n, .slice f0.A f0.xs.length f0.c, .bool f0.m, .slice f0.B f0.ds.length f0.d] := ⟨_, rfl⟩
  have e47 := hk48
  simp only [World.setCells, Nat.zero_add, Nat.reduceAdd] at e47
  have hk49 := Kept.overE hk48 K4 rfl (Nat.le_of_ble_eq_true rfl)
  replace Kg := Kg.awayE hk48 n6
  replace K4 := K4.part (us' := [.bool f0.n, .slice f0.A f0.xs.length f0.c, .bool f0.m, .slice f0.B f0.ds.length f0.d, .bool false, .slice none 0 0, .bool false, .slice none 0 0]) hk48 rfl (Nat.le_of_ble_eq_true rfl)
  replace K19 := K19.awayE hk48 n22.symm
  replace Z5 := Z5.putE hk48
  replace G := G.kp hk49
  replace L0 := L0.kp hk49
  replace BW := Below.putE BW hk48 gz
  clear hk48 hk49
  go_wp2_with fail
  clear c30 c31 c32 c33 c34 c35 c36 c37 c38 c39 c40 c41 c42 c43 c44 c45
  rw [← e47]
  clear e47
  rw [rounds_succ]
  obtain ⟨c50, c51, c52, c53, c54, c55, c56, c57⟩ := Kg.c8
  obtain ⟨V58, e59, hb60, K61, Z62, -⟩ := alloc_new V46 [.bool m.U.n, .slice m.U.A m.U.xs.length m.U.c, .bool m.U.m, .slice m.U.B m.U.ds.length m.U.d] 74
  have n63 : g ≠ V46.heap.size := Nat.ne_of_lt (Kg.lt)
  have n64 : w.heap.size ≠ V46.heap.size := Nat.ne_of_lt (K4.lt)
  have n65 : b24 ≠ V46.heap.size := Nat.ne_of_lt (K19.lt)
  have g66 : w.heap.size ≤ V46.heap.size := BW.size
  replace K4 := K4.on hb60
  replace Z5 := Z5.on hb60
  replace G := G.kp (Kept.of hb60)
  replace L0 := L0.kp (Kept.of hb60)
  replace BW := BW.trans (hb60.mono BW.size)
  clear hb60
  go_wp2_with fail
  clear c50 c51 c52 c53 c54 c55 c56 c57
  rw [← e59]
  clear e59
  generalize V46.heap.size = b67 at *
  obtain ⟨c68, c69, c70, c71⟩ := K61.c4
  go_wp2_with fail
  clear c68 c69 c70 c71
  refine (q_fit G.gU hC).mono ?_
  rintro _ w72 ⟨f1, er1, rfl, k1, hb⟩
  replace K4 := K4.on hb
  replace Z5 := Z5.on hb
  replace L0 := L0.kp (Kept.of hb)
  replace BW := BW.trans (hb.mono BW.size)
  clear hb
  rcases k1 with ⟨_, F1, rfl, L1⟩ | ⟨⟨hh, _⟩ | ⟨_, N1, rfl⟩, -⟩
  ·obtain ⟨c73, c74, c75, c76, c77, c78, c79, c80⟩ := K4.c8
   obtain ⟨c81, c82, c83, c84, c85, c86, c87, c88⟩ := Z5.f8
   obtain ⟨V89, hk91⟩ : ∃ V89, V89 = w72.setCells (w.heap.size) 4 [.bool f1.n, .slice f1.A f1.xs.length f1.c, .bool f1.m, .slice f1.B f1.ds.length f1.d] := ⟨_, rfl⟩
   have e90 := hk91
   simp only [World.setCells, Nat.reduceAdd] at e90
   have hk92 := Kept.overE hk91 K4 rfl (Nat.le_of_ble_eq_true rfl)
   replace K4 := K4.part (us' := [.bool f0.n, .slice f0.A f0.xs.length f0.c, .bool f0.m, .slice f0.B f0.ds.length f0.d, .bool f1.n, .slice f1.A f1.xs.length f1.c, .bool f1.m, .slice f1.B f1.ds.length f1.d]) hk91 rfl (Nat.le_of_ble_eq_true rfl)
   replace L0 := L0.kp hk92
   replace L1 := L1.kp hk92
   replace BW := Below.putE BW hk91 gz
   clear hk91 hk92
   go_wp2_with fail
   clear c73 c74 c75 c76 c77 c78 c79 c80 c81 c82 c83 c84 c85 c86 c87 c88
   rw [← e90]
   clear e90
   rw [rounds_succ]
   go_wp2_with fail
   exact bodyPost_ret (v := .tuple #[.slice (some ⟨w.heap.size, 0, none⟩) 2 2, .int .i64 0]) (by simp [results, Tryz.results65, go_sem]) rfl ⟨_, _, rfl, .inl ⟨rfl, ⟨F0, F1⟩, ⟨f0, f1⟩, w.heap.size, rfl, ⟨L0, L1⟩, K4, Nat.le_refl _⟩, BW⟩
  ·exact hh.elim
  ·obtain ⟨c73, c74, c75, c76, c77, c78, c79, c80⟩ := K4.c8
   obtain ⟨c81, c82, c83, c84, c85, c86, c87, c88⟩ := Z5.f8
   obtain ⟨V89, hk91⟩ : ∃ V89, V89 = w72.setCells (w.heap.size) 4 [.bool f1.n, .slice f1.A f1.xs.length f1.c, .bool f1.m, .slice f1.B f1.ds.length f1.d] := ⟨_, rfl⟩
   have e90 := hk91
   simp only [World.setCells, Nat.reduceAdd] at e90
   have hk92 := Kept.overE hk91 K4 rfl (Nat.le_of_ble_eq_true rfl)
   replace K4 := K4.part (us' := [.bool f0.n, .slice f0.A f0.xs.length f0.c, .bool f0.m, .slice f0.B f0.ds.length f0.d, .bool f1.n, .slice f1.A f1.xs.length f1.c, .bool f1.m, .slice f1.B f1.ds.length f1.d]) hk91 rfl (Nat.le_of_ble_eq_true rfl)
   replace BW := Below.putE BW hk91 gz
   clear hk91 hk92
   go_wp2_with fail
   clear c73 c74 c75 c76 c77 c78 c79 c80 c81 c82 c83 c84 c85 c86 c87 c88
   rw [← e90]
   clear e90
   exact bodyPost_ret (v := .tuple #[.slice none 0 0, .int .i64 4]) (by simp [results, Tryz.results65, go_sem]) rfl ⟨_, _, rfl, .inr ⟨rfl, fun h => N1 h.2, rfl⟩, BW⟩
 ·exact hh.elim
 ·obtain ⟨c30, c31, c32, c33, c34, c35, c36, c37⟩ := K4.c8
  obtain ⟨c38, c39, c40, c41, c42, c43, c44, c45⟩ := Z5.f8
  obtain ⟨V46, hk48⟩ : ∃ V46, V46 = w29.setCells (w.heap.size) 0 [.bool f0.n, .slice f0.A f0.xs.length f0.c, .bool f0.m, .slice f0.B f0.ds.length f0.d] := ⟨_, rfl⟩
  have e47 := hk48
  simp only [World.setCells, Nat.zero_add, Nat.reduceAdd] at e47
  have hk49 := Kept.overE hk48 K4 rfl (Nat.le_of_ble_eq_true rfl)
  replace K4 := K4.part (us' := [.bool f0.n, .slice f0.A f0.xs.length f0.c, .bool f0.m, .slice f0.B f0.ds.length f0.d, .bool false, .slice none 0 0, .bool false, .slice none 0 0]) hk48 rfl (Nat.le_of_ble_eq_true rfl)
  replace BW := Below.putE BW hk48 gz
  clear hk48 hk49
  go_wp2_with fail
  clear c30 c31 c32 c33 c34 c35 c36 c37 c38 c39 c40 c41 c42 c43 c44 c45
  rw [← e47]
  clear e47
  exact bodyPost_ret (v := .tuple #[.slice none 0 0, .int .i64 4]) (by simp [results, Tryz.results65, go_sem]) rfl ⟨_, _, rfl, .inr ⟨rfl, fun h => N0 h.1, rfl⟩, BW⟩
set_option maxHeartbeats 16000000 in
set_option maxRecDepth 100000 in
theorem b_fitY {q : Yq} {m : Yv} {C : Nat} {w : World} (G : Gy w q m C) (hC : C ≤ 1759218604390) :
    Calls Tryz.prog 52 #[yv m] w (fun e w' => ∃ (f : Yv) (e1 : Int), e = .returned (.tuple #[yv f, .int .i64 e1]) ∧ YIs w' q f e1 ∧ Below w.heap.size w w') := by
 have BW : Below w.heap.size w w := Below.refl _ _
 obtain ⟨V2, e3, hb4, K5, Z6, z1⟩ := alloc_new w [.bool m.Y.n, .slice m.Y.A m.Y.xs.length m.Y.c, .bool m.Y.m, .slice m.Y.B m.Y.ds.length m.Y.d, .bool m.U.n, .slice m.U.A m.U.xs.length m.U.c, .bool m.U.m, .slice m.U.B m.U.ds.length m.U.d] 100
 replace K5 : Box V2 (w.heap.size) (ycs m) := K5
 have g7 : w.heap.size ≤ w.heap.size := BW.size
 replace G := G.kp (Kept.of hb4)
 replace BW := BW.trans (hb4.mono BW.size)
 clear hb4
 obtain ⟨V9, e10, hb11, K12, Z13, z8⟩ := alloc_new V2 [.bool false, .slice none 0 0, .bool false, .slice none 0 0, .bool false, .slice none 0 0, .bool false, .slice none 0 0] 29
 rw [z1] at K12 Z13 z8
 replace K12 : Box V9 (w.heap.size + 1) (zcs8) := K12
 have n14 : w.heap.size ≠ w.heap.size + 1 := Nat.ne_of_lt (z1 ▸ K5.lt)
 have g15 : w.heap.size ≤ w.heap.size + 1 := z1 ▸ BW.size
 replace K5 := K5.on hb11
 replace G := G.kp (Kept.of hb11)
 replace BW := BW.trans (hb11.mono BW.size)
 clear hb11
 obtain ⟨V16, e17, hb18, K19, Z20, -⟩ := alloc_new V9 [.bool m.Y.n, .slice m.Y.A m.Y.xs.length m.Y.c, .bool m.Y.m, .slice m.Y.B m.Y.ds.length m.Y.d, .bool m.U.n, .slice m.U.A m.U.xs.length m.U.c, .bool m.U.m, .slice m.U.B m.U.ds.length m.U.d] 74
 rw [z8] at K19 Z20
 replace K19 : Box V16 (w.heap.size + 1 + 1) (ycs m) := K19
 have n21 : w.heap.size ≠ w.heap.size + 1 + 1 := Nat.ne_of_lt (z8 ▸ K5.lt)
 have n22 : w.heap.size + 1 ≠ w.heap.size + 1 + 1 := Nat.ne_of_lt (z8 ▸ K12.lt)
 have g23 : w.heap.size ≤ w.heap.size + 1 + 1 := z8 ▸ BW.size
 replace K12 := K12.on hb18
 replace Z13 := Z13.on hb18
 replace G := G.kp (Kept.of hb18)
 replace BW := BW.trans (hb18.mono BW.size)
 clear hb18
 clear z1 z8
 go_enter Tryz.func52, Tryz.ntmps52
 go_wp2_with fail
 rw [← e3, ← e10, ← e17]
 clear e3 e10 e17
 have hl0 := K12.lt
 refine (b_fit2 G K19 hC).mono ?_
 rintro _ w24 ⟨v, er, rfl, hv, hb⟩
 replace K12 := K12.on hb
 replace Z13 := Z13.on hb
 replace BW := BW.trans (hb.mono BW.size)
 clear hb
 rcases hv with ⟨rfl, hF, f, h, rfl, L, Kh, hge⟩ | ⟨rfl, hN, rfl⟩
 · go_wp2_with fail
   have gz : w.heap.size ≤ w.heap.size + 1 := by omega
   have nh : h ≠ w.heap.size + 1 := by omega
   refine wp_region_noPanic ?_
   have hb : Below w24.heap.size w24 w24.drew := (Below.refl _ _).drew
   replace K12 := K12.on hb
   replace Kh := Kh.on hb
   replace Z13 := Z13.on hb
   replace L := L.kp (Kept.of hb)
   replace BW := BW.trans (hb.mono BW.size)
   clear hb
   refine wp_region_held_drew (S := (fun wx => Cs wx (h) 0 [.bool f.Y.n, .slice f.Y.A f.Y.xs.length f.Y.c, .bool f.Y.m, .slice f.Y.B f.Y.ds.length f.Y.d, .bool f.U.n, .slice f.U.A f.U.xs.length f.U.c, .bool f.U.m, .slice f.U.B f.U.ds.length f.U.d])) (by kernel_rfl) (by exact Kh.cs) (fun hHeld => ?_)
   generalize w24.drew = Vd25 at *
   refine pT 0 ?_
   (try simp only [p0, p1, p2, p3])
   refine pT 1 ?_
   (try simp only [p0, p1, p2, p3])
   refine pT 2 ?_
   (try simp only [p0, p1, p2, p3])
   refine pT 3 ?_
   (try simp only [p0, p1, p2, p3])
   refine pT 4 ?_
   (try simp only [p0, p1, p2, p3])
   refine pT 5 ?_
   (try simp only [p0, p1, p2, p3])
   refine pT 6 ?_
   (try simp only [p0, p1, p2, p3])
   refine pR1 7 (fun K hK => ?_)
   obtain ⟨c26, c27, c28, c29, c30, c31, c32, c33⟩ := K12.c8
   obtain ⟨c34, c35, c36, c37, c38, c39, c40, c41⟩ := Z13.f8
   go_simp
   clear c26 c27 c28 c29 c30 c31 c32 c33 c34 c35 c36 c37 c38 c39 c40 c41
   obtain ⟨V42, hk44⟩ : ∃ V42, V42 = Vd25.setCells (w.heap.size + 1) 0 [.bool f.Y.n, .slice f.Y.A f.Y.xs.length f.Y.c, .bool f.Y.m, .slice f.Y.B f.Y.ds.length f.Y.d, .bool f.U.n, .slice f.U.A f.U.xs.length f.U.c, .bool f.U.m, .slice f.U.B f.U.ds.length f.U.d] := ⟨_, rfl⟩
   have e43 := hk44
   simp only [World.setCells, Nat.zero_add, Nat.reduceAdd] at e43
   have hk45 := Kept.overE hk44 K12 rfl (Nat.le_of_ble_eq_true rfl)
   replace K12 := K12.overE hk44 rfl
   replace Kh := Kh.awayE hk44 nh
   replace L := L.kp hk45
   replace BW := Below.putE BW hk44 gz
   clear hk44 hk45
   replace K12 : Box V42 (w.heap.size + 1) (ycs f) := K12
   rw [← e43]
   clear e43
   clear hHeld
   refine hK.out _ _ (by exact Kh.cs) (fun hHeld => ?_)
   clear hK
   (try simp only [p0, p1, p2, p3])
   refine pT 8 ?_
   (try simp only [p0, p1, p2, p3])
   refine wpAnyH_done (by kernel_rfl) (NoPanic.normal ?_) _
   go_wp2
   obtain ⟨c46, c47, c48, c49, c50, c51, c52, c53⟩ := K12.c8
   exact bodyPost_ret (v := .tuple #[yv f, .int .i64 0]) (by simp [results, Tryz.results52, go_sem, c46, c47, c48, c49, c50, c51, c52, c53]) rfl ⟨f, 0, rfl, .inl ⟨rfl, hF, L⟩, BW⟩
 · obtain ⟨c25, c26, c27, c28, c29, c30, c31, c32⟩ := K12.c8
   obtain ⟨c33, c34, c35, c36, c37, c38, c39, c40⟩ := Z13.f8
   obtain ⟨V41, hk43⟩ : ∃ V41, V41 = w24.setCells (w.heap.size + 1) 0 [.bool false, .slice none 0 0, .bool false, .slice none 0 0, .bool false, .slice none 0 0, .bool false, .slice none 0 0] := ⟨_, rfl⟩
   have e42 := hk43
   simp only [World.setCells, Nat.zero_add, Nat.reduceAdd] at e42
   have hk44 := Kept.overE hk43 K12 rfl (Nat.le_of_ble_eq_true rfl)
   replace K12 := K12.overE hk43 rfl
   replace BW := Below.putE BW hk43 g15
   clear hk43 hk44
   replace K12 : Box V41 (w.heap.size + 1) (zcs8) := K12
   go_wp2_with fail
   clear c25 c26 c27 c28 c29 c30 c31 c32 c33 c34 c35 c36 c37 c38 c39 c40
   rw [← e42]
   clear e42
   obtain ⟨c45, c46, c47, c48, c49, c50, c51, c52⟩ := K12.c8
   exact bodyPost_ret (v := .tuple #[.agg #[.bool false, .slice none 0 0, .bool false, .slice none 0 0, .bool false, .slice none 0 0, .bool false, .slice none 0 0], .int .i64 4]) (by simp [results, Tryz.results52, go_sem, c45, c46, c47, c48, c49, c50, c51, c52]) rfl ⟨yv0, 4, rfl, .inr ⟨rfl, hN⟩, BW⟩
end Go.Proofs.YtjamfkafgfpobaaGreatDoor
namespace Go.Proofs.YtjamfkafgfpobaaGreatDoor
open Go.RowKit Nb
set_option maxHeartbeats 8000000 in
set_option maxRecDepth 20000 in
theorem b_fromY {r : Yq} {y : Yv} {w : World} (Y : Fy w r y) :
    Calls Tryz.prog 49 #[yv y] w (GYx w (r) (1024)) := by
 have BW : Below w.heap.size w w := Below.refl _ _
 obtain ⟨V2, e3, hb4, K5, Z6, z1⟩ := alloc_new w [.bool y.Y.n, .slice y.Y.A y.Y.xs.length y.Y.c, .bool y.Y.m, .slice y.Y.B y.Y.ds.length y.Y.d, .bool y.U.n, .slice y.U.A y.U.xs.length y.U.c, .bool y.U.m, .slice y.U.B y.U.ds.length y.U.d] 29
 replace K5 : Box V2 (w.heap.size) (ycs y) := K5
 have g7 : w.heap.size ≤ w.heap.size := BW.size
 replace Y := Y.kp (Kept.of hb4)
 replace BW := BW.trans (hb4.mono BW.size)
 clear hb4
 obtain ⟨V8, e9, hb10, K11, Z12, -⟩ := alloc_new V2 [.bool false, .slice none 0 0, .bool false, .slice none 0 0, .bool false, .slice none 0 0, .bool false, .slice none 0 0] 100
 rw [z1] at K11 Z12
 replace K11 : Box V8 (w.heap.size + 1) (zcs8) := K11
 have n13 : w.heap.size ≠ w.heap.size + 1 := Nat.ne_of_lt (z1 ▸ K5.lt)
 have g14 : w.heap.size ≤ w.heap.size + 1 := z1 ▸ BW.size
 replace K5 := K5.on hb10
 replace Y := Y.kp (Kept.of hb10)
 replace BW := BW.trans (hb10.mono BW.size)
 clear hb10
 clear z1
 go_enter Tryz.func49, Tryz.ntmps49
 go_wp2_with fail
 rw [← e3, ← e9]
 clear e3 e9
 refine wp_region_noPanic ?_
 have hb : Below V8.heap.size V8 V8.drew := (Below.refl _ _).drew
 replace K5 := K5.on hb
 replace K11 := K11.on hb
 replace Z12 := Z12.on hb
 replace Y := Y.kp (Kept.of hb)
 replace BW := BW.trans (hb.mono BW.size)
 clear hb
 refine wp_region_held_drew (S := (fun wx => Cs wx (w.heap.size) 0 [.bool y.Y.n, .slice y.Y.A y.Y.xs.length y.Y.c, .bool y.Y.m, .slice y.Y.B y.Y.ds.length y.Y.d, .bool y.U.n, .slice y.U.A y.U.xs.length y.U.c, .bool y.U.m, .slice y.U.B y.U.ds.length y.U.d])) (by kernel_rfl) (by exact K5.cs) (fun hHeld => ?_)
 generalize V8.drew = Vd15 at *
 refine pT 0 ?_
 (try simp only [p0, p1, p2, p3])
 refine pT 1 ?_
 (try simp only [p0, p1, p2, p3])
 refine pT 3 ?_
 (try simp only [p0, p1, p2, p3])
 refine pT 4 ?_
 (try simp only [p0, p1, p2, p3])
 refine pR1 2 (fun K hK => ?_)
 go_simp
 (go_at_call 36; with_reducible refine (q_from Y.fY).mono ?_)
 rintro _ w16 ⟨f1, rfl, L1, hb⟩
 (try go_wp2_with fail)
 replace K5 := K5.on hb
 replace K11 := K11.on hb
 replace Z12 := Z12.on hb
 replace Y := Y.kp (Kept.of hb)
 replace BW := BW.trans (hb.mono BW.size)
 clear hb
 clear hHeld
 refine hK.out _ _ (by exact K5.cs) (fun hHeld => ?_)
 clear hK
 (try simp only [p0, p1, p2, p3])
 refine pR1 5 (fun K hK => ?_)
 go_simp
 (go_at_call 36; with_reducible refine (q_from Y.fU).mono ?_)
 rintro _ w17 ⟨f2, rfl, L2, hb⟩
 (try go_wp2_with fail)
 replace K5 := K5.on hb
 replace K11 := K11.on hb
 replace Z12 := Z12.on hb
 replace L1 := L1.kp (Kept.of hb)
 replace BW := BW.trans (hb.mono BW.size)
 clear hb
 clear hHeld
 refine hK.out _ _ (by exact K5.cs) (fun hHeld => ?_)
 clear hK
 (try simp only [p0, p1, p2, p3])
 refine pT 6 ?_
 (try simp only [p0, p1, p2, p3])
 refine pR1 7 (fun K hK => ?_)
 obtain ⟨c18, c19, c20, c21, c22, c23, c24, c25⟩ := K11.c8
 obtain ⟨c26, c27, c28, c29, c30, c31, c32, c33⟩ := Z12.f8
 go_simp
 clear c18 c19 c20 c21 c22 c23 c24 c25 c26 c27 c28 c29 c30 c31 c32 c33
 obtain ⟨V34, hk36⟩ : ∃ V34, V34 = w17.setCells (w.heap.size + 1) 0 [.bool f1.n, .slice f1.A f1.xs.length f1.c, .bool f1.m, .slice f1.B f1.ds.length f1.d, .bool f2.n, .slice f2.A f2.xs.length f2.c, .bool f2.m, .slice f2.B f2.ds.length f2.d] := ⟨_, rfl⟩
 have e35 := hk36
 simp only [World.setCells, Nat.zero_add, Nat.reduceAdd] at e35
 have hk37 := Kept.overE hk36 K11 rfl (Nat.le_of_ble_eq_true rfl)
 replace K5 := K5.awayE hk36 n13
 replace K11 := K11.overE hk36 rfl
 replace L1 := L1.kp hk37
 replace L2 := L2.kp hk37
 replace BW := Below.putE BW hk36 g14
 clear hk36 hk37
 rw [← e35]
 clear e35
 clear hHeld
 refine hK.out _ _ (by exact K5.cs) (fun hHeld => ?_)
 clear hK
 (try simp only [p0, p1, p2, p3])
 refine wpAnyH_done (by kernel_rfl) (NoPanic.normal ?_) _
 go_wp2
 obtain ⟨c38, c39, c40, c41, c42, c43, c44, c45⟩ := K11.c8
 exact bodyPost_ret (v := yv ⟨f1, f2⟩) (by simp [results, Tryz.results49, go_sem, c38, c39, c40, c41, c42, c43, c44, c45]) rfl ⟨⟨f1, f2⟩, rfl, ⟨L1, L2⟩, BW⟩
set_option maxHeartbeats 16000000 in
set_option maxRecDepth 100000 in
theorem b_Trace {a : Option Addr} {c : Nat} {es : List Ev} {zs : List Eq} {r : Yq} {y : Yv} {w : World} (S : Sle w a c es) (hF : Fes w zs es) (hn : es.length ≤ 4096) (Y : Fy w r y) :
    Calls Tryz.prog 19 #[.slice a es.length c, yv y] w (fun e w' => ∃ (v : Value) (er : Int), e = .returned (.tuple #[v, .int .i64 er]) ∧ TrIs w' zs r es.length v er ∧ Below w.heap.size w w') := by
 have HS := Lib.hid S
 have HF := Lib.hid hF
 have hn2 : (es.length : Int) ≤ 4096 := by omega
 clear S hF hn
 have BW : Below w.heap.size w w := Below.refl _ _
 obtain ⟨V1, e2, hb3, K4, Z5, -⟩ := alloc_new w [.bool y.Y.n, .slice y.Y.A y.Y.xs.length y.Y.c, .bool y.Y.m, .slice y.Y.B y.Y.ds.length y.Y.d, .bool y.U.n, .slice y.U.A y.U.xs.length y.U.c, .bool y.U.m, .slice y.U.B y.U.ds.length y.U.d] 29
 replace K4 : Box V1 (w.heap.size) (ycs y) := K4
 have g6 : w.heap.size ≤ w.heap.size := BW.size
 replace Y := Y.kp (Kept.of hb3)
 replace BW := BW.trans (hb3.mono BW.size)
 clear hb3
 go_enter Tryz.func19, Tryz.ntmps19
 go_wp2_with fail
 rw [← e2]
 clear e2
 have BW0 := Lib.hid BW
 refine (b_check (HS.out.on BW)).mono ?_
 rintro _ w7 ⟨r0, rfl, hr, hb⟩
 replace K4 := K4.on hb
 replace Y := Y.kp (Kept.of hb)
 replace BW := BW.trans (hb.mono BW.size)
 clear hb
 obtain rfl : r0 = 0 := hr.yes (by omega) (HF.out.kp (Kept.of BW0.out)).may
 clear hr
 obtain ⟨c8, c9, c10, c11, c12, c13, c14, c15⟩ := K4.c8
 go_wp2_with fail
 clear c8 c9 c10 c11 c12 c13 c14 c15
 refine (r_check Y.fY.fx).mono ?_
 rintro _ w16 ⟨rfl, hb⟩
 replace K4 := K4.on hb
 replace Y := Y.kp (Kept.of hb)
 replace BW := BW.trans (hb.mono BW.size)
 clear hb
 rw [chkv_ok Y.fY.okv]
 obtain ⟨c17, c18, c19, c20, c21, c22, c23, c24⟩ := K4.c8
 go_wp2_with fail
 clear c17 c18 c19 c20 c21 c22 c23 c24
 refine (r_check Y.fU.fx).mono ?_
 rintro _ w25 ⟨rfl, hb⟩
 replace K4 := K4.on hb
 replace Y := Y.kp (Kept.of hb)
 replace BW := BW.trans (hb.mono BW.size)
 clear hb
 rw [chkv_ok Y.fU.okv]
 go_wp2_with fail
 go_cut [7, 8] (fun s7 s8 wx => ∃ (h g : Nat) (y1 : Yv), s7 = .slice (some ⟨h, 0, none⟩) es.length es.length ∧ s8 = .pointer (some ⟨g, 0, none⟩) ∧ Below w.heap.size w wx ∧ Gy wx r y1 1024 ∧ Box wx h ((List.replicate es.length yv0).flatMap ycs) ∧ Fz wx h ∧ w.heap.size ≤ h ∧ Box wx g (ycs y1) ∧ Fz wx g ∧ w.heap.size ≤ g ∧ h ≠ g)
 case first =>
  refine wp_region_noPanic ?_
  have hb : Below w25.heap.size w25 w25.drew := (Below.refl _ _).drew
  replace K4 := K4.on hb
  replace Y := Y.kp (Kept.of hb)
  replace BW := BW.trans (hb.mono BW.size)
  clear hb
  refine wp_region_held_drew (S := (fun wx => Cs wx (w.heap.size) 0 [.bool y.Y.n, .slice y.Y.A y.Y.xs.length y.Y.c, .bool y.Y.m, .slice y.Y.B y.Y.ds.length y.Y.d, .bool y.U.n, .slice y.U.A y.U.xs.length y.U.c, .bool y.U.m, .slice y.U.B y.U.ds.length y.U.d])) (by kernel_rfl) (by exact K4.cs) (fun hHeld => ?_)
  generalize w25.drew = Vd26 at *
  refine pT 0 ?_
  (try simp only [p0, p1, p2, p3])
  refine pT 1 ?_
  (try simp only [p0, p1, p2, p3])
  refine pT 3 ?_
  (try simp only [p0, p1, p2, p3])
  refine pR3 2 4 5 (fun K hK => ?_) (fun K hK => ?_) (fun K hK => ?_)
  ·refine ite_yes (by rfl) (wp_makeY (n := es.length) rfl rfl rfl (by omega) ?_)
   intro V8 hbV KH ZH hzV
   have gh : w.heap.size ≤ Vd26.heap.size := BW.size
   have n27 : w.heap.size ≠ Vd26.heap.size := Nat.ne_of_lt K4.lt
   replace K4 := K4.on hbV
   replace Y := Y.kp (Kept.of hbV)
   replace BW := BW.trans (hbV.mono BW.size)
   clear hbV hzV
   generalize Vd26.heap.size = h at *
   clear hHeld
   refine hK.out _ _ (by exact K4.cs) (fun hHeld => ?_)
   clear hK
   (try simp only [p0, p1, p2, p3])
   refine pR2 4 5 (fun K hK => ?_) (fun K hK => ?_)
   ·go_simp
    (go_at_call 49; with_reducible refine (b_fromY Y).mono ?_)
    rintro _ w28 ⟨y1, rfl, L1, hb⟩
    (try go_wp2_with fail)
    replace K4 := K4.on hb
    replace KH := KH.on hb
    replace ZH := ZH.on hb
    replace Y := Y.kp (Kept.of hb)
    replace BW := BW.trans (hb.mono BW.size)
    clear hb
    clear hHeld
    refine hK.out _ _ (by exact K4.cs) (fun hHeld => ?_)
    clear hK
    (try simp only [p0, p1, p2, p3])
    refine pR1 5 (fun K hK => ?_)
    go_simp
    obtain ⟨V29, e30, hb31, K32, Z33, -⟩ := alloc_new w28 [.bool false, .slice none 0 0, .bool false, .slice none 0 0, .bool false, .slice none 0 0, .bool false, .slice none 0 0] 100
    replace K32 : Box V29 (w28.heap.size) (zcs8) := K32
    have n34 : w.heap.size ≠ w28.heap.size := Nat.ne_of_lt (K4.lt)
    have n35 : h ≠ w28.heap.size := Nat.ne_of_lt (KH.lt)
    have g36 : w.heap.size ≤ w28.heap.size := BW.size
    replace K4 := K4.on hb31
    replace KH := KH.on hb31
    replace ZH := ZH.on hb31
    replace Y := Y.kp (Kept.of hb31)
    replace L1 := L1.kp (Kept.of hb31)
    replace BW := BW.trans (hb31.mono BW.size)
    clear hb31
    rw [← e30]
    clear e30
    generalize w28.heap.size = b37 at *
    clear hHeld
    refine hK.out _ _ (by exact K4.cs) (fun hHeld => ?_)
    clear hK
    (try simp only [p0, p1, p2, p3])
    refine pT 6 ?_
    (try simp only [p0, p1, p2, p3])
    refine pR1 7 (fun K hK => ?_)
    obtain ⟨c38, c39, c40, c41, c42, c43, c44, c45⟩ := K32.c8
    obtain ⟨c46, c47, c48, c49, c50, c51, c52, c53⟩ := Z33.f8
    go_simp
    clear c38 c39 c40 c41 c42 c43 c44 c45 c46 c47 c48 c49 c50 c51 c52 c53
    obtain ⟨V54, hk56⟩ : ∃ V54, V54 = V29.setCells (b37) 0 [.bool y1.Y.n, .slice y1.Y.A y1.Y.xs.length y1.Y.c, .bool y1.Y.m, .slice y1.Y.B y1.Y.ds.length y1.Y.d, .bool y1.U.n, .slice y1.U.A y1.U.xs.length y1.U.c, .bool y1.U.m, .slice y1.U.B y1.U.ds.length y1.U.d] := ⟨_, rfl⟩
    have e55 := hk56
    simp only [World.setCells, Nat.zero_add, Nat.reduceAdd] at e55
    have hk57 := Kept.overE hk56 K32 rfl (Nat.le_of_ble_eq_true rfl)
    replace K4 := K4.awayE hk56 n34
    replace KH := KH.awayE hk56 n35
    replace K32 := K32.overE hk56 rfl
    replace ZH := ZH.putE hk56
    replace Z33 := Z33.putE hk56
    replace L1 := L1.kp hk57
    replace BW := Below.putE BW hk56 g36
    clear hk56 hk57
    replace K32 : Box V54 (b37) (ycs y1) := K32
    rw [← e55]
    clear e55
    clear hHeld
    refine hK.out _ _ (by exact K4.cs) (fun hHeld => ?_)
    clear hK
    (try simp only [p0, p1, p2, p3])
    refine wpAnyH_done (by kernel_rfl) (NoPanic.normal ?_) _
    go_wp2
    go_meet
    exact ⟨h, b37, y1, rfl, rfl, BW, L1, KH, ZH, gh, K32, Z33, g36, n35⟩
   ·go_simp
    obtain ⟨V28, e29, hb30, K31, Z32, -⟩ := alloc_new V8 [.bool false, .slice none 0 0, .bool false, .slice none 0 0, .bool false, .slice none 0 0, .bool false, .slice none 0 0] 100
    replace K31 : Box V28 (V8.heap.size) (zcs8) := K31
    have n33 : w.heap.size ≠ V8.heap.size := Nat.ne_of_lt (K4.lt)
    have n34 : h ≠ V8.heap.size := Nat.ne_of_lt (KH.lt)
    have g35 : w.heap.size ≤ V8.heap.size := BW.size
    replace K4 := K4.on hb30
    replace KH := KH.on hb30
    replace ZH := ZH.on hb30
    replace Y := Y.kp (Kept.of hb30)
    replace BW := BW.trans (hb30.mono BW.size)
    clear hb30
    rw [← e29]
    clear e29
    generalize V8.heap.size = b36 at *
    clear hHeld
    refine hK.out _ _ (by exact K4.cs) (fun hHeld => ?_)
    clear hK
    (try simp only [p0, p1, p2, p3])
    refine pR1 4 (fun K hK => ?_)
    go_simp
    (go_at_call 49; with_reducible refine (b_fromY Y).mono ?_)
    rintro _ w37 ⟨y1, rfl, L1, hb⟩
    (try go_wp2_with fail)
    replace K4 := K4.on hb
    replace KH := KH.on hb
    replace K31 := K31.on hb
    replace ZH := ZH.on hb
    replace Z32 := Z32.on hb
    replace Y := Y.kp (Kept.of hb)
    replace BW := BW.trans (hb.mono BW.size)
    clear hb
    clear hHeld
    refine hK.out _ _ (by exact K4.cs) (fun hHeld => ?_)
    clear hK
    (try simp only [p0, p1, p2, p3])
    refine pT 6 ?_
    (try simp only [p0, p1, p2, p3])
    refine pR1 7 (fun K hK => ?_)
    obtain ⟨c38, c39, c40, c41, c42, c43, c44, c45⟩ := K31.c8
    obtain ⟨c46, c47, c48, c49, c50, c51, c52, c53⟩ := Z32.f8
    go_simp
    clear c38 c39 c40 c41 c42 c43 c44 c45 c46 c47 c48 c49 c50 c51 c52 c53
    obtain ⟨V54, hk56⟩ : ∃ V54, V54 = w37.setCells (b36) 0 [.bool y1.Y.n, .slice y1.Y.A y1.Y.xs.length y1.Y.c, .bool y1.Y.m, .slice y1.Y.B y1.Y.ds.length y1.Y.d, .bool y1.U.n, .slice y1.U.A y1.U.xs.length y1.U.c, .bool y1.U.m, .slice y1.U.B y1.U.ds.length y1.U.d] := ⟨_, rfl⟩
    have e55 := hk56
    simp only [World.setCells, Nat.zero_add, Nat.reduceAdd] at e55
    have hk57 := Kept.overE hk56 K31 rfl (Nat.le_of_ble_eq_true rfl)
    replace K4 := K4.awayE hk56 n33
    replace KH := KH.awayE hk56 n34
    replace K31 := K31.overE hk56 rfl
    replace ZH := ZH.putE hk56
    replace Z32 := Z32.putE hk56
    replace L1 := L1.kp hk57
    replace BW := Below.putE BW hk56 g35
    clear hk56 hk57
    replace K31 : Box V54 (b36) (ycs y1) := K31
    rw [← e55]
    clear e55
    clear hHeld
    refine hK.out _ _ (by exact K4.cs) (fun hHeld => ?_)
    clear hK
    (try simp only [p0, p1, p2, p3])
    refine wpAnyH_done (by kernel_rfl) (NoPanic.normal ?_) _
    go_wp2
    go_meet
    exact ⟨h, b36, y1, rfl, rfl, BW, L1, KH, ZH, gh, K31, Z32, g35, n34⟩
  ·go_simp
   (go_at_call 49; with_reducible refine (b_fromY Y).mono ?_)
   rintro _ w27 ⟨y1, rfl, L1, hb⟩
   (try go_wp2_with fail)
   replace K4 := K4.on hb
   replace Y := Y.kp (Kept.of hb)
   replace BW := BW.trans (hb.mono BW.size)
   clear hb
   clear hHeld
   refine hK.out _ _ (by exact K4.cs) (fun hHeld => ?_)
   clear hK
   (try simp only [p0, p1, p2, p3])
   refine pR2 2 5 (fun K hK => ?_) (fun K hK => ?_)
   ·refine ite_yes (by rfl) (wp_makeY (n := es.length) rfl rfl rfl (by omega) ?_)
    intro V8 hbV KH ZH hzV
    have gh : w.heap.size ≤ w27.heap.size := BW.size
    have n28 : w.heap.size ≠ w27.heap.size := Nat.ne_of_lt K4.lt
    replace K4 := K4.on hbV
    replace Y := Y.kp (Kept.of hbV)
    replace L1 := L1.kp (Kept.of hbV)
    replace BW := BW.trans (hbV.mono BW.size)
    clear hbV hzV
    generalize w27.heap.size = h at *
    clear hHeld
    refine hK.out _ _ (by exact K4.cs) (fun hHeld => ?_)
    clear hK
    (try simp only [p0, p1, p2, p3])
    refine pR1 5 (fun K hK => ?_)
    go_simp
    obtain ⟨V29, e30, hb31, K32, Z33, -⟩ := alloc_new V8 [.bool false, .slice none 0 0, .bool false, .slice none 0 0, .bool false, .slice none 0 0, .bool false, .slice none 0 0] 100
    replace K32 : Box V29 (V8.heap.size) (zcs8) := K32
    have n34 : w.heap.size ≠ V8.heap.size := Nat.ne_of_lt (K4.lt)
    have n35 : h ≠ V8.heap.size := Nat.ne_of_lt (KH.lt)
    have g36 : w.heap.size ≤ V8.heap.size := BW.size
    replace K4 := K4.on hb31
    replace KH := KH.on hb31
    replace ZH := ZH.on hb31
    replace Y := Y.kp (Kept.of hb31)
    replace L1 := L1.kp (Kept.of hb31)
    replace BW := BW.trans (hb31.mono BW.size)
    clear hb31
    rw [← e30]
    clear e30
    generalize V8.heap.size = b37 at *
    clear hHeld
    refine hK.out _ _ (by exact K4.cs) (fun hHeld => ?_)
    clear hK
    (try simp only [p0, p1, p2, p3])
    refine pT 6 ?_
    (try simp only [p0, p1, p2, p3])
    refine pR1 7 (fun K hK => ?_)
    obtain ⟨c38, c39, c40, c41, c42, c43, c44, c45⟩ := K32.c8
    obtain ⟨c46, c47, c48, c49, c50, c51, c52, c53⟩ := Z33.f8
    go_simp
    clear c38 c39 c40 c41 c42 c43 c44 c45 c46 c47 c48 c49 c50 c51 c52 c53
    obtain ⟨V54, hk56⟩ : ∃ V54, V54 = V29.setCells (b37) 0 [.bool y1.Y.n, .slice y1.Y.A y1.Y.xs.length y1.Y.c, .bool y1.Y.m, .slice y1.Y.B y1.Y.ds.length y1.Y.d, .bool y1.U.n, .slice y1.U.A y1.U.xs.length y1.U.c, .bool y1.U.m, .slice y1.U.B y1.U.ds.length y1.U.d] := ⟨_, rfl⟩
    have e55 := hk56
    simp only [World.setCells, Nat.zero_add, Nat.reduceAdd] at e55
    have hk57 := Kept.overE hk56 K32 rfl (Nat.le_of_ble_eq_true rfl)
    replace K4 := K4.awayE hk56 n34
    replace KH := KH.awayE hk56 n35
    replace K32 := K32.overE hk56 rfl
    replace ZH := ZH.putE hk56
    replace Z33 := Z33.putE hk56
    replace L1 := L1.kp hk57
    replace BW := Below.putE BW hk56 g36
    clear hk56 hk57
    replace K32 : Box V54 (b37) (ycs y1) := K32
    rw [← e55]
    clear e55
    clear hHeld
    refine hK.out _ _ (by exact K4.cs) (fun hHeld => ?_)
    clear hK
    (try simp only [p0, p1, p2, p3])
    refine wpAnyH_done (by kernel_rfl) (NoPanic.normal ?_) _
    go_wp2
    go_meet
    exact ⟨h, b37, y1, rfl, rfl, BW, L1, KH, ZH, gh, K32, Z33, g36, n35⟩
   ·go_simp
    obtain ⟨V28, e29, hb30, K31, Z32, -⟩ := alloc_new w27 [.bool false, .slice none 0 0, .bool false, .slice none 0 0, .bool false, .slice none 0 0, .bool false, .slice none 0 0] 100
    replace K31 : Box V28 (w27.heap.size) (zcs8) := K31
    have n33 : w.heap.size ≠ w27.heap.size := Nat.ne_of_lt (K4.lt)
    have g34 : w.heap.size ≤ w27.heap.size := BW.size
    replace K4 := K4.on hb30
    replace Y := Y.kp (Kept.of hb30)
    replace L1 := L1.kp (Kept.of hb30)
    replace BW := BW.trans (hb30.mono BW.size)
    clear hb30
    rw [← e29]
    clear e29
    generalize w27.heap.size = b35 at *
    clear hHeld
    refine hK.out _ _ (by exact K4.cs) (fun hHeld => ?_)
    clear hK
    (try simp only [p0, p1, p2, p3])
    refine pR1 2 (fun K hK => ?_)
    refine ite_yes (by rfl) (wp_makeY (n := es.length) rfl rfl rfl (by omega) ?_)
    intro V8 hbV KH ZH hzV
    have gh : w.heap.size ≤ V28.heap.size := BW.size
    have n36 : w.heap.size ≠ V28.heap.size := Nat.ne_of_lt K4.lt
    have n37 : b35 ≠ V28.heap.size := Nat.ne_of_lt K31.lt
    replace K4 := K4.on hbV
    replace K31 := K31.on hbV
    replace Z32 := Z32.on hbV
    replace Y := Y.kp (Kept.of hbV)
    replace L1 := L1.kp (Kept.of hbV)
    replace BW := BW.trans (hbV.mono BW.size)
    clear hbV hzV
    generalize V28.heap.size = h at *
    clear hHeld
    refine hK.out _ _ (by exact K4.cs) (fun hHeld => ?_)
    clear hK
    (try simp only [p0, p1, p2, p3])
    refine pT 6 ?_
    (try simp only [p0, p1, p2, p3])
    refine pR1 7 (fun K hK => ?_)
    obtain ⟨c38, c39, c40, c41, c42, c43, c44, c45⟩ := K31.c8
    obtain ⟨c46, c47, c48, c49, c50, c51, c52, c53⟩ := Z32.f8
    go_simp
    clear c38 c39 c40 c41 c42 c43 c44 c45 c46 c47 c48 c49 c50 c51 c52 c53
    obtain ⟨V54, hk56⟩ : ∃ V54, V54 = V8.setCells (b35) 0 [.bool y1.Y.n, .slice y1.Y.A y1.Y.xs.length y1.Y.c, .bool y1.Y.m, .slice y1.Y.B y1.Y.ds.length y1.Y.d, .bool y1.U.n, .slice y1.U.A y1.U.xs.length y1.U.c, .bool y1.U.m, .slice y1.U.B y1.U.ds.length y1.U.d] := ⟨_, rfl⟩
    have e55 := hk56
    simp only [World.setCells, Nat.zero_add, Nat.reduceAdd] at e55
    have hk57 := Kept.overE hk56 K31 rfl (Nat.le_of_ble_eq_true rfl)
    replace K4 := K4.awayE hk56 n33
    replace K31 := K31.overE hk56 rfl
    replace KH := KH.awayE hk56 n37.symm
    replace Z32 := Z32.putE hk56
    replace ZH := ZH.putE hk56
    replace L1 := L1.kp hk57
    replace BW := Below.putE BW hk56 g34
    clear hk56 hk57
    replace K31 : Box V54 (b35) (ycs y1) := K31
    rw [← e55]
    clear e55
    clear hHeld
    refine hK.out _ _ (by exact K4.cs) (fun hHeld => ?_)
    clear hK
    (try simp only [p0, p1, p2, p3])
    refine wpAnyH_done (by kernel_rfl) (NoPanic.normal ?_) _
    go_wp2
    go_meet
    exact ⟨h, b35, y1, rfl, rfl, BW, L1, KH, ZH, gh, K31, Z32, g34, n37.symm⟩
  ·go_simp
   obtain ⟨V27, e28, hb29, K30, Z31, -⟩ := alloc_new Vd26 [.bool false, .slice none 0 0, .bool false, .slice none 0 0, .bool false, .slice none 0 0, .bool false, .slice none 0 0] 100
   replace K30 : Box V27 (Vd26.heap.size) (zcs8) := K30
   have n32 : w.heap.size ≠ Vd26.heap.size := Nat.ne_of_lt (K4.lt)
   have g33 : w.heap.size ≤ Vd26.heap.size := BW.size
   replace K4 := K4.on hb29
   replace Y := Y.kp (Kept.of hb29)
   replace BW := BW.trans (hb29.mono BW.size)
   clear hb29
   rw [← e28]
   clear e28
   generalize Vd26.heap.size = b34 at *
   clear hHeld
   refine hK.out _ _ (by exact K4.cs) (fun hHeld => ?_)
   clear hK
   (try simp only [p0, p1, p2, p3])
   refine pR2 2 4 (fun K hK => ?_) (fun K hK => ?_)
   ·refine ite_yes (by rfl) (wp_makeY (n := es.length) rfl rfl rfl (by omega) ?_)
    intro V8 hbV KH ZH hzV
    have gh : w.heap.size ≤ V27.heap.size := BW.size
    have n35 : w.heap.size ≠ V27.heap.size := Nat.ne_of_lt K4.lt
    have n36 : b34 ≠ V27.heap.size := Nat.ne_of_lt K30.lt
    replace K4 := K4.on hbV
    replace K30 := K30.on hbV
    replace Z31 := Z31.on hbV
    replace Y := Y.kp (Kept.of hbV)
    replace BW := BW.trans (hbV.mono BW.size)
    clear hbV hzV
    generalize V27.heap.size = h at *
    clear hHeld
    refine hK.out _ _ (by exact K4.cs) (fun hHeld => ?_)
    clear hK
    (try simp only [p0, p1, p2, p3])
    refine pR1 4 (fun K hK => ?_)
    go_simp
    (go_at_call 49; with_reducible refine (b_fromY Y).mono ?_)
    rintro _ w37 ⟨y1, rfl, L1, hb⟩
    (try go_wp2_with fail)
    replace K4 := K4.on hb
    replace K30 := K30.on hb
    replace KH := KH.on hb
    replace Z31 := Z31.on hb
    replace ZH := ZH.on hb
    replace Y := Y.kp (Kept.of hb)
    replace BW := BW.trans (hb.mono BW.size)
    clear hb
    clear hHeld
    refine hK.out _ _ (by exact K4.cs) (fun hHeld => ?_)
    clear hK
    (try simp only [p0, p1, p2, p3])
    refine pT 6 ?_
    (try simp only [p0, p1, p2, p3])
    refine pR1 7 (fun K hK => ?_)
    obtain ⟨c38, c39, c40, c41, c42, c43, c44, c45⟩ := K30.c8
    obtain ⟨c46, c47, c48, c49, c50, c51, c52, c53⟩ := Z31.f8
    go_simp
    clear c38 c39 c40 c41 c42 c43 c44 c45 c46 c47 c48 c49 c50 c51 c52 c53
    obtain ⟨V54, hk56⟩ : ∃ V54, V54 = w37.setCells (b34) 0 [.bool y1.Y.n, .slice y1.Y.A y1.Y.xs.length y1.Y.c, .bool y1.Y.m, .slice y1.Y.B y1.Y.ds.length y1.Y.d, .bool y1.U.n, .slice y1.U.A y1.U.xs.length y1.U.c, .bool y1.U.m, .slice y1.U.B y1.U.ds.length y1.U.d] := ⟨_, rfl⟩
    have e55 := hk56
    simp only [World.setCells, Nat.zero_add, Nat.reduceAdd] at e55
    have hk57 := Kept.overE hk56 K30 rfl (Nat.le_of_ble_eq_true rfl)
    replace K4 := K4.awayE hk56 n32
    replace K30 := K30.overE hk56 rfl
    replace KH := KH.awayE hk56 n36.symm
    replace Z31 := Z31.putE hk56
    replace ZH := ZH.putE hk56
    replace L1 := L1.kp hk57
    replace BW := Below.putE BW hk56 g33
    clear hk56 hk57
    replace K30 : Box V54 (b34) (ycs y1) := K30
    rw [← e55]
    clear e55
    clear hHeld
    refine hK.out _ _ (by exact K4.cs) (fun hHeld => ?_)
    clear hK
    (try simp only [p0, p1, p2, p3])
    refine wpAnyH_done (by kernel_rfl) (NoPanic.normal ?_) _
    go_wp2
    go_meet
    exact ⟨h, b34, y1, rfl, rfl, BW, L1, KH, ZH, gh, K30, Z31, g33, n36.symm⟩
   ·go_simp
    (go_at_call 49; with_reducible refine (b_fromY Y).mono ?_)
    rintro _ w35 ⟨y1, rfl, L1, hb⟩
    (try go_wp2_with fail)
    replace K4 := K4.on hb
    replace K30 := K30.on hb
    replace Z31 := Z31.on hb
    replace Y := Y.kp (Kept.of hb)
    replace BW := BW.trans (hb.mono BW.size)
    clear hb
    clear hHeld
    refine hK.out _ _ (by exact K4.cs) (fun hHeld => ?_)
    clear hK
    (try simp only [p0, p1, p2, p3])
    refine pR1 2 (fun K hK => ?_)
    refine ite_yes (by rfl) (wp_makeY (n := es.length) rfl rfl rfl (by omega) ?_)
    intro V8 hbV KH ZH hzV
    have gh : w.heap.size ≤ w35.heap.size := BW.size
    have n36 : w.heap.size ≠ w35.heap.size := Nat.ne_of_lt K4.lt
    have n37 : b34 ≠ w35.heap.size := Nat.ne_of_lt K30.lt
    replace K4 := K4.on hbV
    replace K30 := K30.on hbV
    replace Z31 := Z31.on hbV
    replace Y := Y.kp (Kept.of hbV)
    replace L1 := L1.kp (Kept.of hbV)
    replace BW := BW.trans (hbV.mono BW.size)
    clear hbV hzV
    generalize w35.heap.size = h at *
    clear hHeld
    refine hK.out _ _ (by exact K4.cs) (fun hHeld => ?_)
    clear hK
    (try simp only [p0, p1, p2, p3])
    refine pT 6 ?_
    (try simp only [p0, p1, p2, p3])
    refine pR1 7 (fun K hK => ?_)
    obtain ⟨c38, c39, c40, c41, c42, c43, c44, c45⟩ := K30.c8
    obtain ⟨c46, c47, c48, c49, c50, c51, c52, c53⟩ := Z31.f8
    go_simp
    clear c38 c39 c40 c41 c42 c43 c44 c45 c46 c47 c48 c49 c50 c51 c52 c53
    obtain ⟨V54, hk56⟩ : ∃ V54, V54 = V8.setCells (b34) 0 [.bool y1.Y.n, .slice y1.Y.A y1.Y.xs.length y1.Y.c, .bool y1.Y.m, .slice y1.Y.B y1.Y.ds.length y1.Y.d, .bool y1.U.n, .slice y1.U.A y1.U.xs.length y1.U.c, .bool y1.U.m, .slice y1.U.B y1.U.ds.length y1.U.d] := ⟨_, rfl⟩
    have e55 := hk56
    simp only [World.setCells, Nat.zero_add, Nat.reduceAdd] at e55
    have hk57 := Kept.overE hk56 K30 rfl (Nat.le_of_ble_eq_true rfl)
    replace K4 := K4.awayE hk56 n32
    replace K30 := K30.overE hk56 rfl
    replace KH := KH.awayE hk56 n37.symm
    replace Z31 := Z31.putE hk56
    replace ZH := ZH.putE hk56
    replace L1 := L1.kp hk57
    replace BW := Below.putE BW hk56 g33
    clear hk56 hk57
    replace K30 : Box V54 (b34) (ycs y1) := K30
    rw [← e55]
    clear e55
    clear hHeld
    refine hK.out _ _ (by exact K4.cs) (fun hHeld => ?_)
    clear hK
    (try simp only [p0, p1, p2, p3])
    refine wpAnyH_done (by kernel_rfl) (NoPanic.normal ?_) _
    go_wp2
    go_meet
    exact ⟨h, b34, y1, rfl, rfl, BW, L1, KH, ZH, gh, K30, Z31, g33, n37.symm⟩
 case rest =>
  obtain ⟨h, g, y1, rfl, rfl, BW, L1, KH, ZH, gh, KG, ZG, gg, hgn⟩ := hcut
  go_wp2_with fail
  go_loopw [34] (fun iv wr => ∃ (k : Nat) (xs : List Yv) (yk : Yv), iv = .int .i64 (k : Nat) ∧ k ≤ es.length ∧ xs.length = es.length ∧ RaysAt wr zs r xs k ∧ Box wr h (xs.flatMap ycs) ∧ Fz wr h ∧ Gy wr (rayAt zs r k) yk 2050 ∧ Box wr g (ycs yk) ∧ Fz wr g ∧ Below w.heap.size w wr) (fun iv _ => es.length - (intOf iv).toNat)
  case atStart => exact ⟨0, List.replicate es.length yv0, y1, rfl, by omega, by simp, fun i y hi => by omega, KH, ZH, (by rw [rayAt_zero]; exact L1.mono (by decide)), KG, ZG, BW⟩
  case round =>
   obtain ⟨k, xs, yk, rfl, hk, hxl, hG, KH, ZH, LY, KG, ZG, BW⟩ := hrel
   have HG := Lib.hid hG
   have HXL := Lib.hid hxl
   clear hG hxl
   by_cases hlt : k < es.length
   ·have h2 : (k : Int) < (es.length : Int) := by omega
    obtain ⟨e, he⟩ : ∃ e, es[k]? = some e := ⟨_, List.getElem?_eq_getElem hlt⟩
    obtain ⟨z, hz⟩ : ∃ z, zs[k]? = some z := ⟨_, List.getElem?_eq_getElem (by rw [HF.out.1]; exact hlt)⟩
    obtain ⟨ge, o, ha, hge, hat0⟩ := HS.out.2.2.2 k e he
    have hat : AtB wr ge (o + k * 9) [.int .u8 e.k, .bool e.P.n, .slice e.P.A e.P.xs.length e.P.c, .bool e.P.m, .slice e.P.B e.P.ds.length e.P.d, .bool e.Q.n, .slice e.Q.A e.Q.xs.length e.Q.c, .bool e.Q.m, .slice e.Q.B e.Q.ds.length e.Q.d] := hat0.on hge BW
    have X := (HF.out.2 k z e hz he).1.kp (Kept.of BW)
    have HM := Lib.hid (HF.out.2 k z e hz he).2
    have HZ := Lib.hid hz
    clear hat0 he hz
    subst ha
    have KP : Kept wr wr := Kept.of (Below.refl _ _)
    obtain ⟨V501, e502, hb503, K504, -, -⟩ := alloc_new wr [.int .u8 e.k, .bool e.P.n, .slice e.P.A e.P.xs.length e.P.c, .bool e.P.m, .slice e.P.B e.P.ds.length e.P.d, .bool e.Q.n, .slice e.Q.A e.Q.xs.length e.Q.c, .bool e.Q.m, .slice e.Q.B e.Q.ds.length e.Q.d] 65
    have n505 : h ≠ wr.heap.size := Nat.ne_of_lt (KH.lt)
    have n506 : g ≠ wr.heap.size := Nat.ne_of_lt (KG.lt)
    replace KH := KH.on hb503
    replace KG := KG.on hb503
    replace ZH := ZH.on hb503
    replace ZG := ZG.on hb503
    replace X := X.kp (Kept.of hb503)
    replace KP := KP.kp (Kept.of hb503)
    replace LY := LY.kp (Kept.of hb503)
    replace BW := BW.trans (hb503.mono BW.size)
    clear hb503
    go_wp2_with (first | (refine wpList_ldE (by rfl) (by rfl) (by rfl) hat (by rfl) ?_))
    rw [← e502]
    clear e502
    generalize wr.heap.size = b507 at *
    go_wp2_with fail
    go_cut [] (fun wx => ∃ (y2 : Yv), Below w.heap.size w wx ∧ Kept wr wx ∧ Gy wx (rayAt zs r (k + 1)) y2 8208 ∧ Box wx h (xs.flatMap ycs) ∧ Fz wx h ∧ Box wx g (ycs y2) ∧ Fz wx g)
    case first =>
     refine wp_region_noPanic ?_
     have hb : Below V501.heap.size V501 V501.drew := (Below.refl _ _).drew
     replace KH := KH.on hb
     replace KG := KG.on hb
     replace K504 := K504.on hb
     replace ZH := ZH.on hb
     replace ZG := ZG.on hb
     replace X := X.kp (Kept.of hb)
     replace KP := KP.kp (Kept.of hb)
     replace LY := LY.kp (Kept.of hb)
     replace BW := BW.trans (hb.mono BW.size)
     clear hb
     refine wp_region_held_drew (S := (fun wx => Cs wx (b507) 0 [.int .u8 e.k, .bool e.P.n, .slice e.P.A e.P.xs.length e.P.c, .bool e.P.m, .slice e.P.B e.P.ds.length e.P.d, .bool e.Q.n, .slice e.Q.A e.Q.xs.length e.Q.c, .bool e.Q.m, .slice e.Q.B e.Q.ds.length e.Q.d])) (by kernel_rfl) (by exact K504.cs) (fun hHeld => ?_)
     generalize V501.drew = Vd508 at *
     refine pT 0 ?_
     (try simp only [p0, p1, p2, p3])
     refine pR2 1 2 (fun K hK => ?_) (fun K hK => ?_)
     ·go_simp
      (go_at_call 50; with_reducible refine (b_matrix X HM.out).mono ?_)
      rintro _ w509 ⟨f, rfl, L, hb⟩
      (try go_wp2_with fail)
      replace KH := KH.on hb
      replace KG := KG.on hb
      replace K504 := K504.on hb
      replace ZH := ZH.on hb
      replace ZG := ZG.on hb
      replace KP := KP.kp (Kept.of hb)
      replace LY := LY.kp (Kept.of hb)
      replace BW := BW.trans (hb.mono BW.size)
      clear hb
      clear hHeld
      refine hK.out _ _ (by exact K504.cs) (fun hHeld => ?_)
      clear hK
      (try simp only [p0, p1, p2, p3])
      refine pR1 2 (fun K hK => ?_)
      obtain ⟨c510, c511, c512, c513, c514, c515, c516, c517⟩ := KG.c8
      go_simp
      clear c510 c511 c512 c513 c514 c515 c516 c517
      clear hHeld
      refine hK.out _ _ (by exact K504.cs) (fun hHeld => ?_)
      clear hK
      (try simp only [p0, p1, p2, p3])
      refine pR1 3 (fun K hK => ?_)
      go_simp
      (go_at_call 51; with_reducible refine (b_thr L LY (by decide)).mono ?_)
      rintro _ w518 ⟨y2, rfl, L2, hb⟩
      (try go_wp2_with fail)
      replace KH := KH.on hb
      replace KG := KG.on hb
      replace K504 := K504.on hb
      replace ZH := ZH.on hb
      replace ZG := ZG.on hb
      replace KP := KP.kp (Kept.of hb)
      replace BW := BW.trans (hb.mono BW.size)
      clear hb
      clear hHeld
      refine hK.out _ _ (by exact K504.cs) (fun hHeld => ?_)
      clear hK
      (try simp only [p0, p1, p2, p3])
      refine pR1 4 (fun K hK => ?_)
      obtain ⟨c519, c520, c521, c522, c523, c524, c525, c526⟩ := KG.c8
      obtain ⟨c527, c528, c529, c530, c531, c532, c533, c534⟩ := ZG.f8
      go_simp
      clear c519 c520 c521 c522 c523 c524 c525 c526 c527 c528 c529 c530 c531 c532 c533 c534
      obtain ⟨V535, hk537⟩ : ∃ V535, V535 = w518.setCells (g) 0 [.bool y2.Y.n, .slice y2.Y.A y2.Y.xs.length y2.Y.c, .bool y2.Y.m, .slice y2.Y.B y2.Y.ds.length y2.Y.d, .bool y2.U.n, .slice y2.U.A y2.U.xs.length y2.U.c, .bool y2.U.m, .slice y2.U.B y2.U.ds.length y2.U.d] := ⟨_, rfl⟩
      have e536 := hk537
      simp only [World.setCells, Nat.zero_add, Nat.reduceAdd] at e536
      have hk538 := Kept.overE hk537 KG rfl (Nat.le_of_ble_eq_true rfl)
      replace KH := KH.awayE hk537 hgn
      replace KG := KG.overE hk537 rfl
      replace K504 := K504.awayE hk537 n506.symm
      replace ZH := ZH.putE hk537
      replace ZG := ZG.putE hk537
      replace KP := KP.kp hk538
      replace L2 := L2.kp hk538
      replace BW := Below.putE BW hk537 gg
      clear hk537 hk538
      replace KG : Box V535 (g) (ycs y2) := KG
      rw [← e536]
      clear e536
      clear hHeld
      refine hK.out _ _ (by exact K504.cs) (fun hHeld => ?_)
      clear hK
      (try simp only [p0, p1, p2, p3])
      refine wpAnyH_done (by kernel_rfl) (NoPanic.normal ?_) _
      go_wp2
      go_meet
      exact ⟨y2, BW, KP, (by rw [rayAt_succ HZ.out]; exact L2.mono (by decide)), KH, ZH, KG, ZG⟩
     ·obtain ⟨c509, c510, c511, c512, c513, c514, c515, c516⟩ := KG.c8
      go_simp
      clear c509 c510 c511 c512 c513 c514 c515 c516
      clear hHeld
      refine hK.out _ _ (by exact K504.cs) (fun hHeld => ?_)
      clear hK
      (try simp only [p0, p1, p2, p3])
      refine pR1 1 (fun K hK => ?_)
      go_simp
      (go_at_call 50; with_reducible refine (b_matrix X HM.out).mono ?_)
      rintro _ w517 ⟨f, rfl, L, hb⟩
      (try go_wp2_with fail)
      replace KH := KH.on hb
      replace KG := KG.on hb
      replace K504 := K504.on hb
      replace ZH := ZH.on hb
      replace ZG := ZG.on hb
      replace KP := KP.kp (Kept.of hb)
      replace LY := LY.kp (Kept.of hb)
      replace BW := BW.trans (hb.mono BW.size)
      clear hb
      clear hHeld
      refine hK.out _ _ (by exact K504.cs) (fun hHeld => ?_)
      clear hK
      (try simp only [p0, p1, p2, p3])
      refine pR1 3 (fun K hK => ?_)
      go_simp
      (go_at_call 51; with_reducible refine (b_thr L LY (by decide)).mono ?_)
      rintro _ w518 ⟨y2, rfl, L2, hb⟩
      (try go_wp2_with fail)
      replace KH := KH.on hb
      replace KG := KG.on hb
      replace K504 := K504.on hb
      replace ZH := ZH.on hb
      replace ZG := ZG.on hb
      replace KP := KP.kp (Kept.of hb)
      replace BW := BW.trans (hb.mono BW.size)
      clear hb
      clear hHeld
      refine hK.out _ _ (by exact K504.cs) (fun hHeld => ?_)
      clear hK
      (try simp only [p0, p1, p2, p3])
      refine pR1 4 (fun K hK => ?_)
      obtain ⟨c519, c520, c521, c522, c523, c524, c525, c526⟩ := KG.c8
      obtain ⟨c527, c528, c529, c530, c531, c532, c533, c534⟩ := ZG.f8
      go_simp
      clear c519 c520 c521 c522 c523 c524 c525 c526 c527 c528 c529 c530 c531 c532 c533 c534
      obtain ⟨V535, hk537⟩ : ∃ V535, V535 = w518.setCells (g) 0 [.bool y2.Y.n, .slice y2.Y.A y2.Y.xs.length y2.Y.c, .bool y2.Y.m, .slice y2.Y.B y2.Y.ds.length y2.Y.d, .bool y2.U.n, .slice y2.U.A y2.U.xs.length y2.U.c, .bool y2.U.m, .slice y2.U.B y2.U.ds.length y2.U.d] := ⟨_, rfl⟩
      have e536 := hk537
      simp only [World.setCells, Nat.zero_add, Nat.reduceAdd] at e536
      have hk538 := Kept.overE hk537 KG rfl (Nat.le_of_ble_eq_true rfl)
      replace KH := KH.awayE hk537 hgn
      replace KG := KG.overE hk537 rfl
      replace K504 := K504.awayE hk537 n506.symm
      replace ZH := ZH.putE hk537
      replace ZG := ZG.putE hk537
      replace KP := KP.kp hk538
      replace L2 := L2.kp hk538
      replace BW := Below.putE BW hk537 gg
      clear hk537 hk538
      replace KG : Box V535 (g) (ycs y2) := KG
      rw [← e536]
      clear e536
      clear hHeld
      refine hK.out _ _ (by exact K504.cs) (fun hHeld => ?_)
      clear hK
      (try simp only [p0, p1, p2, p3])
      refine wpAnyH_done (by kernel_rfl) (NoPanic.normal ?_) _
      go_wp2
      go_meet
      exact ⟨y2, BW, KP, (by rw [rayAt_succ HZ.out]; exact L2.mono (by decide)), KH, ZH, KG, ZG⟩
    case rest =>
     obtain ⟨y2, BW, KP, LY, KH, ZH, KG, ZG⟩ := hcut
     obtain ⟨c801, c802, c803, c804, c805, c806, c807, c808⟩ := KG.c8
     go_wp2_with fail
     clear c801 c802 c803 c804 c805 c806 c807 c808
     refine (b_fitY LY (by decide)).mono ?_
     rintro _ w809 ⟨f, e1, rfl, hy, hb⟩
     replace KH := KH.on hb
     replace KG := KG.on hb
     replace ZH := ZH.on hb
     replace ZG := ZG.on hb
     replace KP := KP.kp (Kept.of hb)
     replace LY := LY.kp (Kept.of hb)
     replace BW := BW.trans (hb.mono BW.size)
     clear hb
     have hl8 : k * 8 + (ycs f).length ≤ (xs.flatMap ycs).length := by rw [flat_len ycs_len, ycs_len, HXL.out]; omega
     obtain ⟨V9, hk9⟩ : ∃ V9, V9 = w809.setCells h (k * 8) (ycs f) := ⟨_, rfl⟩
     have HK9 := Lib.hid hk9
     have KH0 := KH
     have ZH0 := ZH
     obtain ⟨KH9, kp9⟩ := rowY_set (xs := xs) (k := k) KH (by rw [HXL.out]; exact hlt) hk9
     replace ZH := ZH.putE hk9
     replace KG := KG.awayE hk9 hgn.symm
     replace ZG := ZG.putE hk9
     replace BW := Below.putE BW hk9 gh
     rcases hy with ⟨rfl, hF, Ly⟩ | ⟨rfl, hN⟩
     ·have hf1 := (show FitsY (rayAt zs r (k + 1)) from hF)
      have LYn := ((LY.kp kp9).reset hf1).mono (show 1024 ≤ 2050 by decide)
      have HG9 := Lib.hid (RaysAt.step (k := k) HG.out (KP.trans kp9) (Ly.kp kp9))
      clear hk9 kp9 LY KP Ly hF hf1
      go_wp2_with (first | (refine wpList_stYO (vs := ycs f) (by rfl) (by rfl) (by rfl) (by rfl) KH0 ZH0 hl8 (by rfl) (by rfl) ?_; rw [← HK9.out]))
      go_roundw
      case rel => exact ⟨k + 1, xs.set k f, y2, by go_num, by omega, by rw [List.length_set]; exact HXL.out, HG9.out, KH9, ZH, LYn, KG, ZG, BW⟩
      case measure => simp [intOf]; omega
     ·clear hk9 kp9 LY KP
      go_wp2_with (first | (refine wpList_stYO (vs := ycs f) (by rfl) (by rfl) (by rfl) (by rfl) KH0 ZH0 hl8 (by rfl) (by rfl) ?_; rw [← HK9.out]))
      exact bodyPost_ret (v := .tuple #[.slice none 0 0, .int .i64 4]) (by simp [results, Tryz.results19, go_sem]) rfl ⟨_, _, rfl, .inr ⟨rfl, rfl, k, hlt, hN⟩, BW⟩
   ·obtain rfl : k = es.length := by omega
    go_wp2_with fail
    exact bodyPost_ret (v := .tuple #[.slice (some ⟨h, 0, none⟩) es.length es.length, .int .i64 0]) (by simp [results, Tryz.results19, go_sem]) rfl ⟨_, _, rfl, .inl ⟨rfl, h, xs, rfl, HXL.out, HG.out, KH⟩, BW⟩
end Go.Proofs.YtjamfkafgfpobaaGreatDoor
