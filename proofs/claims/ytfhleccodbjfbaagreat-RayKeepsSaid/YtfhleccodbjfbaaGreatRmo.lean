/-
  Fractions, matrices and rays that are handed in, opened. No conditions.
-/
import Derived.Test.YtfhleccodbjfbaaGreatBase
import Derived.ProofKit
import Derived.OpenShut
import Derived.SizedLaws
import Derived.Lib.SmallJoins
import Derived.Carry
import Derived.Test.YtfhleccodbjfbaaGreatHt0
import Derived.Test.YtfhleccodbjfbaaGreatRows
import Derived.Test.YtfhleccodbjfbaaGreatRm0
namespace Go.Proofs.YtfhleccodbjfbaaGreat
open Go.ChangeShapes Go.WideShapes Go.ChangeAt Go.RowKit Go.Deep Go.Joins Nb
set_option maxRecDepth 100000 in
theorem laidOut : laidOutB Tryz.prog = true := by kernel_rfl
set_option maxRecDepth 100000 in
theorem intFields : ∃ f0 f1 : Field, Tryz.prog.underlying 24 = some (.struct #[f0, f1]) ∧ oneCellFields Tryz.prog #[f0, f1] = true ∧ f0.type = 4 ∧ f1.type = 22 := ⟨_, _, Tryz.underlying24, by kernel_rfl, rfl, rfl⟩
end Go.Proofs.YtfhleccodbjfbaaGreat
/-! ### Fop -/
namespace Go.Proofs.YtfhleccodbjfbaaGreat
open Go.ChangeShapes Go.WideShapes Go.ChangeAt Go.RowKit Go.Deep Go.Joins Nb
set_option maxRecDepth 100000 in
theorem int_cells : Tryz.prog.cellsOf 24 = 2 := by kernel_rfl
set_option maxRecDepth 100000 in
theorem frac_cells : Tryz.prog.cellsOf 26 = 4 := by kernel_rfl
set_option maxRecDepth 100000 in
theorem fracFields : ∃ f0 f1 : Field, Tryz.prog.underlying 26 = some (.struct #[f0, f1]) ∧ f0.offset = 0 ∧ f1.offset = 2 ∧ f0.type = 24 ∧ f1.type = 24 := ⟨_, _, Tryz.underlying26, rfl, rfl, rfl, rfl⟩
set_option maxRecDepth 100000 in
theorem open_int_cells {H : Type} {enc : TypeId × Value → H} {W : World} {n : Nat} {c0 c1 : Value} {y : DataW H × List MemPlace}
    (h : DataW.trod enc Tryz.prog W 0 (fun _ => true) true n 24 [c0, c1] = some y) (hlt : ∀ x ∈ y.2, x.block < W.heap.size)
    (hw : ∀ k ∈ y.1.weights Tryz.prog 24, k ≤ reachBytes) :
    ∃ (neg : Bool) (A : Option Addr) (xs : List Nat) (c : Nat), c0 = .bool neg ∧ c1 = .slice A xs.length c ∧ Rl W A xs := by
  obtain ⟨f0, f1, hs, hone, ht0, ht1⟩ := intFields
  obtain ⟨y0, y1, k, rfl, _, t0, t1⟩ := trod_struct2 hs h
  obtain ⟨o0, k0⟩ := hone_of hone 0 f0 rfl
  obtain ⟨o1, k1⟩ := hone_of hone 1 f1 rfl
  simp only [o0, k0, o1, k1, List.drop_zero, List.drop_succ_cons, List.take_succ_cons, List.take_zero] at t0 t1
  rw [ht0] at t0
  rw [ht1] at t1
  obtain ⟨b, e0, rfl⟩ := DataW.trod_bool Tryz.underlying4 t0
  injection e0 with e0
  subst e0
  rcases open_ints Tryz.underlying22 Tryz.underlying141 (by kernel_rfl) t1 with ⟨e1, rfl⟩ | ⟨a, len, cap, zs, e1, _, hl, hm, hz, rfl, hcell, hwz⟩
  · injection e1 with e1
    subst e1
    exact ⟨b, none, [], 0, rfl, rfl, Sl.none_, Dig.nil _, by simp⟩
  · injection e1 with e1
    subst e1
    simp only [if_true] at hz
    have hlen : len ≤ zs.length := by omega
    refine ⟨b, some a, (zs.take len).map Int.toNat, cap, rfl, by simp [Nat.min_eq_left hlen], ?_, ?_, ?_⟩
    · intro hn
      have hpos : 0 < zs.length := by simp at hn; omega
      refine ⟨a, rfl, ?_, fun j hj => ?_⟩
      · have hmem : MemPlace.cell a.block a.off ∈ MemPlace.row a zs.length := MemPlace.mem_row.2 ⟨0, hpos, by simp⟩
        exact hlt _ (by simpa using hmem)
      · simp at hj
        rw [hcell j (by omega)]
        have hzj : zs.getD j 0 = zs[j] := by rw [List.getD_eq_getElem?_getD, List.getElem?_eq_getElem (by omega)]; rfl
        have hwf := hwz zs[j] (List.getElem_mem _)
        simp [Lit.wf, IntKind.min, IntKind.max, IntKind.signed, IntKind.bits] at hwf
        rw [hzj]
        simp
        omega
    · intro x hx
      simp only [List.mem_map] at hx
      obtain ⟨z, hz2, rfl⟩ := hx
      have hwf := hwz z (List.mem_of_mem_take hz2)
      simp [Lit.wf, IntKind.min, IntKind.max, IntKind.signed, IntKind.bits] at hwf
      show z.toNat < 4294967296
      omega
    · have h4 : Tryz.prog.bytesOf 141 = 4 := by kernel_rfl
      have := hw ((((lits (H := H) .u32 (zs.take len)).length + (lits (H := H) .u32 (zs.drop len)).length) * Tryz.prog.bytesOf 141)) (by simp [DataW.weights, hs, ht1, Tryz.underlying22, DataW.weightsEach])
      rw [h4] at this
      simp [lits, reachBytes] at this
      simp
      omega
end Go.Proofs.YtfhleccodbjfbaaGreat
/-! ### Fv -/
namespace Go.Proofs.YtfhleccodbjfbaaGreat
open Go.ChangeShapes Go.WideShapes Go.ChangeAt Go.RowKit Go.Deep Go.Joins Nb
theorem own : ownKnob Tryz.prog.godebug = none := by kernel_rfl
end Go.Proofs.YtfhleccodbjfbaaGreat

namespace Go.Proofs.YtfhleccodbjfbaaGreat
open Go.ChangeShapes Go.WideShapes Go.ChangeAt Go.RowKit Go.Deep Go.Joins Nb
set_option maxRecDepth 100000 in
theorem open_frac_cells {H : Type} {enc : TypeId × Value → H} {W : World} {n : Nat} {c0 c1 c2 c3 : Value} {y : DataW H × List MemPlace}
    (h : DataW.trod enc Tryz.prog W 0 (fun _ => true) true n 26 [c0, c1, c2, c3] = some y) (hlt : ∀ x ∈ y.2, x.block < W.heap.size)
    (hw : ∀ k ∈ y.1.weights Tryz.prog 26, k ≤ reachBytes) :
    ∃ f : Fv, c0 = .bool f.n ∧ c1 = .slice f.A f.xs.length f.c ∧ c2 = .bool f.m ∧ c3 = .slice f.B f.ds.length f.d ∧ Fx W f := by
  obtain ⟨f0, f1, hs, o0, o1, ht0, ht1⟩ := fracFields
  obtain ⟨y0, y1, k, rfl, _, t0, t1⟩ := trod_struct2 hs h
  simp only [o0, o1, ht0, ht1, int_cells, List.drop_zero, List.drop_succ_cons, List.take_succ_cons, List.take_zero] at t0 t1
  have hwt : ∀ k, k ∈ y0.1.weights Tryz.prog 24 ∨ k ∈ y1.1.weights Tryz.prog 24 → k ≤ reachBytes := fun k hk => hw k (by
    simp only [DataW.weights, hs, DataW.weightsEach, ht0, ht1, List.map_cons, List.map_nil, List.mem_append]
    rcases hk with hk | hk
    · exact .inl hk
    · exact .inr (.inl hk))
  obtain ⟨n1, A, xs, c, rfl, rfl, r1⟩ := open_int_cells t0 (fun x hx => hlt x (List.mem_append.2 (.inl hx))) (fun k hk => hwt k (.inl hk))
  obtain ⟨m1, B, ds, d', rfl, rfl, r2⟩ := open_int_cells t1 (fun x hx => hlt x (List.mem_append.2 (.inr hx))) (fun k hk => hwt k (.inr hk))
  exact ⟨⟨n1, A, xs, c, m1, B, ds, d'⟩, rfl, rfl, rfl, rfl, r1, r2⟩
set_option maxRecDepth 100000 in
theorem mat_cells : Tryz.prog.cellsOf 28 = 16 := by kernel_rfl
set_option maxRecDepth 100000 in
theorem matFields : ∃ f0 f1 f2 f3 : Field, Tryz.prog.underlying 28 = some (.struct #[f0, f1, f2, f3]) ∧ f0.offset = 0 ∧ f1.offset = 4 ∧ f2.offset = 8 ∧ f3.offset = 12 ∧ f0.type = 26 ∧ f1.type = 26 ∧ f2.type = 26 ∧ f3.type = 26 := ⟨_, _, _, _, Tryz.underlying28, rfl, rfl, rfl, rfl, rfl, rfl, rfl, rfl⟩
set_option maxRecDepth 100000 in
theorem ray_cells : Tryz.prog.cellsOf 44 = 8 := by kernel_rfl
set_option maxRecDepth 100000 in
theorem rayFields : ∃ f0 f1 : Field, Tryz.prog.underlying 44 = some (.struct #[f0, f1]) ∧ f0.offset = 0 ∧ f1.offset = 4 ∧ f0.type = 26 ∧ f1.type = 26 := ⟨_, _, Tryz.underlying44, rfl, rfl, rfl, rfl⟩
set_option maxRecDepth 100000 in
theorem mtwo_cells : Tryz.prog.cellsOf 42 = 32 := by kernel_rfl
set_option maxRecDepth 100000 in
theorem mtwoFields : ∃ f0 f1 : Field, Tryz.prog.underlying 42 = some (.struct #[f0, f1]) ∧ f0.offset = 0 ∧ f1.offset = 16 ∧ f0.type = 28 ∧ f1.type = 28 := ⟨_, _, Tryz.underlying42, rfl, rfl, rfl, rfl⟩
set_option maxRecDepth 100000 in
theorem rpair_cells : Tryz.prog.cellsOf 46 = 16 := by kernel_rfl
set_option maxRecDepth 100000 in
theorem rpairFields : ∃ f0 f1 : Field, Tryz.prog.underlying 46 = some (.struct #[f0, f1]) ∧ f0.offset = 0 ∧ f1.offset = 8 ∧ f0.type = 44 ∧ f1.type = 44 := ⟨_, _, Tryz.underlying46, rfl, rfl, rfl, rfl⟩
/-- Two matrices, two rays. -/
structure Mv2 where
 M : Mv
 N : Mv
structure Yv2 where
 R : Yv
 S : Yv
def Xm2 (W : World) (t : Mv2) : Prop := Xm W t.M ∧ Xm W t.N
def Xy2 (W : World) (t : Yv2) : Prop := Xy W t.R ∧ Xy W t.S
set_option maxRecDepth 100000 in
theorem open_mat_cells {H : Type} {enc : TypeId × Value → H} {W : World} {n : Nat} {c0 c1 c2 c3 c4 c5 c6 c7 c8 c9 c10 c11 c12 c13 c14 c15 : Value} {y : DataW H × List MemPlace}
    (h : DataW.trod enc Tryz.prog W 0 (fun _ => true) true n 28 [c0, c1, c2, c3, c4, c5, c6, c7, c8, c9, c10, c11, c12, c13, c14, c15] = some y) (hlt : ∀ x ∈ y.2, x.block < W.heap.size)
    (hw : ∀ k ∈ y.1.weights Tryz.prog 28, k ≤ reachBytes) :
    ∃ m : Mv, c0 = .bool m.A.n ∧ c1 = .slice m.A.A m.A.xs.length m.A.c ∧ c2 = .bool m.A.m ∧ c3 = .slice m.A.B m.A.ds.length m.A.d ∧ c4 = .bool m.B.n ∧ c5 = .slice m.B.A m.B.xs.length m.B.c ∧ c6 = .bool m.B.m ∧ c7 = .slice m.B.B m.B.ds.length m.B.d ∧ c8 = .bool m.C.n ∧ c9 = .slice m.C.A m.C.xs.length m.C.c ∧ c10 = .bool m.C.m ∧ c11 = .slice m.C.B m.C.ds.length m.C.d ∧ c12 = .bool m.D.n ∧ c13 = .slice m.D.A m.D.xs.length m.D.c ∧ c14 = .bool m.D.m ∧ c15 = .slice m.D.B m.D.ds.length m.D.d ∧ Xm W m := by
  obtain ⟨f0, f1, f2, f3, hs, o0, o1, o2, o3, ht0, ht1, ht2, ht3⟩ := matFields
  obtain ⟨y0, y1, y2, y3, k, rfl, _, t0, t1, t2, t3⟩ := trod_struct4 hs h
  simp only [o0, o1, o2, o3, ht0, ht1, ht2, ht3, frac_cells, List.drop_zero, List.drop_succ_cons, List.take_succ_cons, List.take_zero] at t0 t1 t2 t3
  have hwt : ∀ k, k ∈ y0.1.weights Tryz.prog 26 ∨ k ∈ y1.1.weights Tryz.prog 26 ∨ k ∈ y2.1.weights Tryz.prog 26 ∨ k ∈ y3.1.weights Tryz.prog 26 → k ≤ reachBytes := fun k hk => hw k (by
    simp only [DataW.weights, hs, DataW.weightsEach, ht0, ht1, ht2, ht3, List.map_cons, List.map_nil, List.mem_append]
    rcases hk with hk | hk | hk | hk
    · exact .inl hk
    · exact .inr (.inl hk)
    · exact .inr (.inr (.inl hk))
    · exact .inr (.inr (.inr (.inl hk))))
  obtain ⟨m0, rfl, rfl, rfl, rfl, r0⟩ := open_frac_cells t0 (fun x hx => hlt x (by simp only [List.mem_append]; first | exact .inl (.inl (.inl hx)) | exact .inl (.inl (.inr hx)) | exact .inl (.inr hx) | exact .inr hx | simp [hx])) (fun k hk => hwt k (.inl hk))
  obtain ⟨m1, rfl, rfl, rfl, rfl, r1⟩ := open_frac_cells t1 (fun x hx => hlt x (by simp only [List.mem_append]; first | exact .inl (.inl (.inl hx)) | exact .inl (.inl (.inr hx)) | exact .inl (.inr hx) | exact .inr hx | simp [hx])) (fun k hk => hwt k (.inr (.inl hk)))
  obtain ⟨m2, rfl, rfl, rfl, rfl, r2⟩ := open_frac_cells t2 (fun x hx => hlt x (by simp only [List.mem_append]; first | exact .inl (.inl (.inl hx)) | exact .inl (.inl (.inr hx)) | exact .inl (.inr hx) | exact .inr hx | simp [hx])) (fun k hk => hwt k (.inr (.inr (.inl hk))))
  obtain ⟨m3, rfl, rfl, rfl, rfl, r3⟩ := open_frac_cells t3 (fun x hx => hlt x (by simp only [List.mem_append]; first | exact .inl (.inl (.inl hx)) | exact .inl (.inl (.inr hx)) | exact .inl (.inr hx) | exact .inr hx | simp [hx])) (fun k hk => hwt k (.inr (.inr (.inr hk))))
  exact ⟨⟨m0, m1, m2, m3⟩, rfl, rfl, rfl, rfl, rfl, rfl, rfl, rfl, rfl, rfl, rfl, rfl, rfl, rfl, rfl, rfl, r0, r1, r2, r3⟩
set_option maxRecDepth 100000 in
theorem open_mat {H : Type} {enc : TypeId × Value → H} {W : World} {r : Reach} {b0 : Nat} {v : Value} {d : DataW H} {p : List MemPlace}
    (hv : Value.okWide Tryz.prog W r b0 28 v) (h : DataW.Trod enc Tryz.prog W 0 (fun _ => true) true 28 v d p) (hlt : ∀ x ∈ p, x.block < W.heap.size)
    (hw : ∀ n ∈ d.weights Tryz.prog 28, n ≤ reachBytes) : ∃ m : Mv, v = .agg #[.bool m.A.n, .slice m.A.A m.A.xs.length m.A.c, .bool m.A.m, .slice m.A.B m.A.ds.length m.A.d, .bool m.B.n, .slice m.B.A m.B.xs.length m.B.c, .bool m.B.m, .slice m.B.B m.B.ds.length m.B.d, .bool m.C.n, .slice m.C.A m.C.xs.length m.C.c, .bool m.C.m, .slice m.C.B m.C.ds.length m.C.d, .bool m.D.n, .slice m.D.A m.D.xs.length m.D.c, .bool m.D.m, .slice m.D.B m.D.ds.length m.D.d] ∧ Xm W m := by
  obtain ⟨f0, f1, f2, f3, hs, o0, o1, o2, o3, ht0, ht1, ht2, ht3⟩ := matFields
  obtain ⟨cs, rfl, hsz⟩ := okWide_struct hs hv
  rw [mat_cells] at hsz
  obtain ⟨fuel, hf⟩ := h
  obtain ⟨l⟩ := cs
  match l, hsz with
  | [c0, c1, c2, c3, c4, c5, c6, c7, c8, c9, c10, c11, c12, c13, c14, c15], _ =>
    obtain ⟨m, rfl, rfl, rfl, rfl, rfl, rfl, rfl, rfl, rfl, rfl, rfl, rfl, rfl, rfl, rfl, rfl, r⟩ := open_mat_cells (y := (d, p)) hf hlt hw
    exact ⟨m, rfl, r⟩
set_option maxRecDepth 100000 in
theorem open_ray_cells {H : Type} {enc : TypeId × Value → H} {W : World} {n : Nat} {c0 c1 c2 c3 c4 c5 c6 c7 : Value} {y : DataW H × List MemPlace}
    (h : DataW.trod enc Tryz.prog W 0 (fun _ => true) true n 44 [c0, c1, c2, c3, c4, c5, c6, c7] = some y) (hlt : ∀ x ∈ y.2, x.block < W.heap.size)
    (hw : ∀ k ∈ y.1.weights Tryz.prog 44, k ≤ reachBytes) :
    ∃ m : Yv, c0 = .bool m.Y.n ∧ c1 = .slice m.Y.A m.Y.xs.length m.Y.c ∧ c2 = .bool m.Y.m ∧ c3 = .slice m.Y.B m.Y.ds.length m.Y.d ∧ c4 = .bool m.U.n ∧ c5 = .slice m.U.A m.U.xs.length m.U.c ∧ c6 = .bool m.U.m ∧ c7 = .slice m.U.B m.U.ds.length m.U.d ∧ Xy W m := by
  obtain ⟨f0, f1, hs, o0, o1, ht0, ht1⟩ := rayFields
  obtain ⟨y0, y1, k, rfl, _, t0, t1⟩ := trod_struct2 hs h
  simp only [o0, o1, ht0, ht1, frac_cells, List.drop_zero, List.drop_succ_cons, List.take_succ_cons, List.take_zero] at t0 t1
  have hwt : ∀ k, k ∈ y0.1.weights Tryz.prog 26 ∨ k ∈ y1.1.weights Tryz.prog 26 → k ≤ reachBytes := fun k hk => hw k (by
    simp only [DataW.weights, hs, DataW.weightsEach, ht0, ht1, List.map_cons, List.map_nil, List.mem_append]
    rcases hk with hk | hk
    · exact .inl hk
    · exact .inr (.inl hk))
  obtain ⟨m0, rfl, rfl, rfl, rfl, r0⟩ := open_frac_cells t0 (fun x hx => hlt x (List.mem_append.2 (.inl hx))) (fun k hk => hwt k (.inl hk))
  obtain ⟨m1, rfl, rfl, rfl, rfl, r1⟩ := open_frac_cells t1 (fun x hx => hlt x (List.mem_append.2 (.inr hx))) (fun k hk => hwt k (.inr hk))
  exact ⟨⟨m0, m1⟩, rfl, rfl, rfl, rfl, rfl, rfl, rfl, rfl, r0, r1⟩
set_option maxRecDepth 100000 in
theorem open_mtwo_cells {H : Type} {enc : TypeId × Value → H} {W : World} {n : Nat} {c0 c1 c2 c3 c4 c5 c6 c7 c8 c9 c10 c11 c12 c13 c14 c15 c16 c17 c18 c19 c20 c21 c22 c23 c24 c25 c26 c27 c28 c29 c30 c31 : Value} {y : DataW H × List MemPlace}
    (h : DataW.trod enc Tryz.prog W 0 (fun _ => true) true n 42 [c0, c1, c2, c3, c4, c5, c6, c7, c8, c9, c10, c11, c12, c13, c14, c15, c16, c17, c18, c19, c20, c21, c22, c23, c24, c25, c26, c27, c28, c29, c30, c31] = some y) (hlt : ∀ x ∈ y.2, x.block < W.heap.size)
    (hw : ∀ k ∈ y.1.weights Tryz.prog 42, k ≤ reachBytes) :
    ∃ m : Mv2, c0 = .bool m.M.A.n ∧ c1 = .slice m.M.A.A m.M.A.xs.length m.M.A.c ∧ c2 = .bool m.M.A.m ∧ c3 = .slice m.M.A.B m.M.A.ds.length m.M.A.d ∧ c4 = .bool m.M.B.n ∧ c5 = .slice m.M.B.A m.M.B.xs.length m.M.B.c ∧ c6 = .bool m.M.B.m ∧ c7 = .slice m.M.B.B m.M.B.ds.length m.M.B.d ∧ c8 = .bool m.M.C.n ∧ c9 = .slice m.M.C.A m.M.C.xs.length m.M.C.c ∧ c10 = .bool m.M.C.m ∧ c11 = .slice m.M.C.B m.M.C.ds.length m.M.C.d ∧ c12 = .bool m.M.D.n ∧ c13 = .slice m.M.D.A m.M.D.xs.length m.M.D.c ∧ c14 = .bool m.M.D.m ∧ c15 = .slice m.M.D.B m.M.D.ds.length m.M.D.d ∧ c16 = .bool m.N.A.n ∧ c17 = .slice m.N.A.A m.N.A.xs.length m.N.A.c ∧ c18 = .bool m.N.A.m ∧ c19 = .slice m.N.A.B m.N.A.ds.length m.N.A.d ∧ c20 = .bool m.N.B.n ∧ c21 = .slice m.N.B.A m.N.B.xs.length m.N.B.c ∧ c22 = .bool m.N.B.m ∧ c23 = .slice m.N.B.B m.N.B.ds.length m.N.B.d ∧ c24 = .bool m.N.C.n ∧ c25 = .slice m.N.C.A m.N.C.xs.length m.N.C.c ∧ c26 = .bool m.N.C.m ∧ c27 = .slice m.N.C.B m.N.C.ds.length m.N.C.d ∧ c28 = .bool m.N.D.n ∧ c29 = .slice m.N.D.A m.N.D.xs.length m.N.D.c ∧ c30 = .bool m.N.D.m ∧ c31 = .slice m.N.D.B m.N.D.ds.length m.N.D.d ∧ Xm2 W m := by
  obtain ⟨f0, f1, hs, o0, o1, ht0, ht1⟩ := mtwoFields
  obtain ⟨y0, y1, k, rfl, _, t0, t1⟩ := trod_struct2 hs h
  simp only [o0, o1, ht0, ht1, mat_cells, List.drop_zero, List.drop_succ_cons, List.take_succ_cons, List.take_zero] at t0 t1
  have hwt : ∀ k, k ∈ y0.1.weights Tryz.prog 28 ∨ k ∈ y1.1.weights Tryz.prog 28 → k ≤ reachBytes := fun k hk => hw k (by
    simp only [DataW.weights, hs, DataW.weightsEach, ht0, ht1, List.map_cons, List.map_nil, List.mem_append]
    rcases hk with hk | hk
    · exact .inl hk
    · exact .inr (.inl hk))
  obtain ⟨m0, rfl, rfl, rfl, rfl, rfl, rfl, rfl, rfl, rfl, rfl, rfl, rfl, rfl, rfl, rfl, rfl, r0⟩ := open_mat_cells t0 (fun x hx => hlt x (List.mem_append.2 (.inl hx))) (fun k hk => hwt k (.inl hk))
  obtain ⟨m1, rfl, rfl, rfl, rfl, rfl, rfl, rfl, rfl, rfl, rfl, rfl, rfl, rfl, rfl, rfl, rfl, r1⟩ := open_mat_cells t1 (fun x hx => hlt x (List.mem_append.2 (.inr hx))) (fun k hk => hwt k (.inr hk))
  exact ⟨⟨m0, m1⟩, rfl, rfl, rfl, rfl, rfl, rfl, rfl, rfl, rfl, rfl, rfl, rfl, rfl, rfl, rfl, rfl, rfl, rfl, rfl, rfl, rfl, rfl, rfl, rfl, rfl, rfl, rfl, rfl, rfl, rfl, rfl, rfl, r0, r1⟩
set_option maxRecDepth 100000 in
theorem open_mtwo {H : Type} {enc : TypeId × Value → H} {W : World} {r : Reach} {b0 : Nat} {v : Value} {d : DataW H} {p : List MemPlace}
    (hv : Value.okWide Tryz.prog W r b0 42 v) (h : DataW.Trod enc Tryz.prog W 0 (fun _ => true) true 42 v d p) (hlt : ∀ x ∈ p, x.block < W.heap.size)
    (hw : ∀ n ∈ d.weights Tryz.prog 42, n ≤ reachBytes) : ∃ m : Mv2, v = .agg #[.bool m.M.A.n, .slice m.M.A.A m.M.A.xs.length m.M.A.c, .bool m.M.A.m, .slice m.M.A.B m.M.A.ds.length m.M.A.d, .bool m.M.B.n, .slice m.M.B.A m.M.B.xs.length m.M.B.c, .bool m.M.B.m, .slice m.M.B.B m.M.B.ds.length m.M.B.d, .bool m.M.C.n, .slice m.M.C.A m.M.C.xs.length m.M.C.c, .bool m.M.C.m, .slice m.M.C.B m.M.C.ds.length m.M.C.d, .bool m.M.D.n, .slice m.M.D.A m.M.D.xs.length m.M.D.c, .bool m.M.D.m, .slice m.M.D.B m.M.D.ds.length m.M.D.d, .bool m.N.A.n, .slice m.N.A.A m.N.A.xs.length m.N.A.c, .bool m.N.A.m, .slice m.N.A.B m.N.A.ds.length m.N.A.d, .bool m.N.B.n, .slice m.N.B.A m.N.B.xs.length m.N.B.c, .bool m.N.B.m, .slice m.N.B.B m.N.B.ds.length m.N.B.d, .bool m.N.C.n, .slice m.N.C.A m.N.C.xs.length m.N.C.c, .bool m.N.C.m, .slice m.N.C.B m.N.C.ds.length m.N.C.d, .bool m.N.D.n, .slice m.N.D.A m.N.D.xs.length m.N.D.c, .bool m.N.D.m, .slice m.N.D.B m.N.D.ds.length m.N.D.d] ∧ Xm2 W m := by
  obtain ⟨f0, f1, hs, o0, o1, ht0, ht1⟩ := mtwoFields
  obtain ⟨cs, rfl, hsz⟩ := okWide_struct hs hv
  rw [mtwo_cells] at hsz
  obtain ⟨fuel, hf⟩ := h
  obtain ⟨l⟩ := cs
  match l, hsz with
  | [c0, c1, c2, c3, c4, c5, c6, c7, c8, c9, c10, c11, c12, c13, c14, c15, c16, c17, c18, c19, c20, c21, c22, c23, c24, c25, c26, c27, c28, c29, c30, c31], _ =>
    obtain ⟨m, rfl, rfl, rfl, rfl, rfl, rfl, rfl, rfl, rfl, rfl, rfl, rfl, rfl, rfl, rfl, rfl, rfl, rfl, rfl, rfl, rfl, rfl, rfl, rfl, rfl, rfl, rfl, rfl, rfl, rfl, rfl, rfl, r⟩ := open_mtwo_cells (y := (d, p)) hf hlt hw
    exact ⟨m, rfl, r⟩
set_option maxRecDepth 100000 in
theorem open_rpair_cells {H : Type} {enc : TypeId × Value → H} {W : World} {n : Nat} {c0 c1 c2 c3 c4 c5 c6 c7 c8 c9 c10 c11 c12 c13 c14 c15 : Value} {y : DataW H × List MemPlace}
    (h : DataW.trod enc Tryz.prog W 0 (fun _ => true) true n 46 [c0, c1, c2, c3, c4, c5, c6, c7, c8, c9, c10, c11, c12, c13, c14, c15] = some y) (hlt : ∀ x ∈ y.2, x.block < W.heap.size)
    (hw : ∀ k ∈ y.1.weights Tryz.prog 46, k ≤ reachBytes) :
    ∃ m : Yv2, c0 = .bool m.R.Y.n ∧ c1 = .slice m.R.Y.A m.R.Y.xs.length m.R.Y.c ∧ c2 = .bool m.R.Y.m ∧ c3 = .slice m.R.Y.B m.R.Y.ds.length m.R.Y.d ∧ c4 = .bool m.R.U.n ∧ c5 = .slice m.R.U.A m.R.U.xs.length m.R.U.c ∧ c6 = .bool m.R.U.m ∧ c7 = .slice m.R.U.B m.R.U.ds.length m.R.U.d ∧ c8 = .bool m.S.Y.n ∧ c9 = .slice m.S.Y.A m.S.Y.xs.length m.S.Y.c ∧ c10 = .bool m.S.Y.m ∧ c11 = .slice m.S.Y.B m.S.Y.ds.length m.S.Y.d ∧ c12 = .bool m.S.U.n ∧ c13 = .slice m.S.U.A m.S.U.xs.length m.S.U.c ∧ c14 = .bool m.S.U.m ∧ c15 = .slice m.S.U.B m.S.U.ds.length m.S.U.d ∧ Xy2 W m := by
  obtain ⟨f0, f1, hs, o0, o1, ht0, ht1⟩ := rpairFields
  obtain ⟨y0, y1, k, rfl, _, t0, t1⟩ := trod_struct2 hs h
  simp only [o0, o1, ht0, ht1, ray_cells, List.drop_zero, List.drop_succ_cons, List.take_succ_cons, List.take_zero] at t0 t1
  have hwt : ∀ k, k ∈ y0.1.weights Tryz.prog 44 ∨ k ∈ y1.1.weights Tryz.prog 44 → k ≤ reachBytes := fun k hk => hw k (by
    simp only [DataW.weights, hs, DataW.weightsEach, ht0, ht1, List.map_cons, List.map_nil, List.mem_append]
    rcases hk with hk | hk
    · exact .inl hk
    · exact .inr (.inl hk))
  obtain ⟨m0, rfl, rfl, rfl, rfl, rfl, rfl, rfl, rfl, r0⟩ := open_ray_cells t0 (fun x hx => hlt x (List.mem_append.2 (.inl hx))) (fun k hk => hwt k (.inl hk))
  obtain ⟨m1, rfl, rfl, rfl, rfl, rfl, rfl, rfl, rfl, r1⟩ := open_ray_cells t1 (fun x hx => hlt x (List.mem_append.2 (.inr hx))) (fun k hk => hwt k (.inr hk))
  exact ⟨⟨m0, m1⟩, rfl, rfl, rfl, rfl, rfl, rfl, rfl, rfl, rfl, rfl, rfl, rfl, rfl, rfl, rfl, rfl, r0, r1⟩
set_option maxRecDepth 100000 in
theorem open_rpair {H : Type} {enc : TypeId × Value → H} {W : World} {r : Reach} {b0 : Nat} {v : Value} {d : DataW H} {p : List MemPlace}
    (hv : Value.okWide Tryz.prog W r b0 46 v) (h : DataW.Trod enc Tryz.prog W 0 (fun _ => true) true 46 v d p) (hlt : ∀ x ∈ p, x.block < W.heap.size)
    (hw : ∀ n ∈ d.weights Tryz.prog 46, n ≤ reachBytes) : ∃ m : Yv2, v = .agg #[.bool m.R.Y.n, .slice m.R.Y.A m.R.Y.xs.length m.R.Y.c, .bool m.R.Y.m, .slice m.R.Y.B m.R.Y.ds.length m.R.Y.d, .bool m.R.U.n, .slice m.R.U.A m.R.U.xs.length m.R.U.c, .bool m.R.U.m, .slice m.R.U.B m.R.U.ds.length m.R.U.d, .bool m.S.Y.n, .slice m.S.Y.A m.S.Y.xs.length m.S.Y.c, .bool m.S.Y.m, .slice m.S.Y.B m.S.Y.ds.length m.S.Y.d, .bool m.S.U.n, .slice m.S.U.A m.S.U.xs.length m.S.U.c, .bool m.S.U.m, .slice m.S.U.B m.S.U.ds.length m.S.U.d] ∧ Xy2 W m := by
  obtain ⟨f0, f1, hs, o0, o1, ht0, ht1⟩ := rpairFields
  obtain ⟨cs, rfl, hsz⟩ := okWide_struct hs hv
  rw [rpair_cells] at hsz
  obtain ⟨fuel, hf⟩ := h
  obtain ⟨l⟩ := cs
  match l, hsz with
  | [c0, c1, c2, c3, c4, c5, c6, c7, c8, c9, c10, c11, c12, c13, c14, c15], _ =>
    obtain ⟨m, rfl, rfl, rfl, rfl, rfl, rfl, rfl, rfl, rfl, rfl, rfl, rfl, rfl, rfl, rfl, rfl, r⟩ := open_rpair_cells (y := (d, p)) hf hlt hw
    exact ⟨m, rfl, r⟩
end Go.Proofs.YtfhleccodbjfbaaGreat
