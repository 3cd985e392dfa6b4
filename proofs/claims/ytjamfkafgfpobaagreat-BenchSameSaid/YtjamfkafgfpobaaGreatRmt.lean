/-
  Fractions, matrices and rays that are handed in, opened. No conditions.
-/
import Derived.Test.YtjamfkafgfpobaaGreatBase
import Derived.Test.YtjamfkafgfpobaaGreatXtra
import Derived.ProofKit
import Derived.OpenShut
import Derived.SizedLaws
import Derived.Lib.SmallJoins
import Derived.Carry
import Derived.Test.YtjamfkafgfpobaaGreatRm0
import Derived.Test.YtjamfkafgfpobaaGreatRows
namespace Go.Proofs.YtjamfkafgfpobaaGreat
open Go.ChangeShapes Go.WideShapes Go.ChangeAt Go.RowKit Go.Deep Go.Joins Nb
set_option maxRecDepth 100000 in
theorem laidOut : laidOutB Tryz.prog = true := by kernel_rfl
set_option maxRecDepth 100000 in
theorem intFields : ∃ f0 f1 : Field, Tryz.prog.underlying 27 = some (.struct #[f0, f1]) ∧ oneCellFields Tryz.prog #[f0, f1] = true ∧ f0.type = 4 ∧ f1.type = 25 := ⟨_, _, Tryz.underlying27, by kernel_rfl, rfl, rfl⟩
end Go.Proofs.YtjamfkafgfpobaaGreat
/-! ### Fop -/
namespace Go.Proofs.YtjamfkafgfpobaaGreat
open Go.ChangeShapes Go.WideShapes Go.ChangeAt Go.RowKit Go.Deep Go.Joins Nb
set_option maxRecDepth 100000 in
theorem int_cells : Tryz.prog.cellsOf 27 = 2 := by kernel_rfl
set_option maxRecDepth 100000 in
theorem frac_cells : Tryz.prog.cellsOf 29 = 4 := by kernel_rfl
set_option maxRecDepth 100000 in
theorem fracFields : ∃ f0 f1 : Field, Tryz.prog.underlying 29 = some (.struct #[f0, f1]) ∧ f0.offset = 0 ∧ f1.offset = 2 ∧ f0.type = 27 ∧ f1.type = 27 := ⟨_, _, Tryz.underlying29, rfl, rfl, rfl, rfl⟩
set_option maxRecDepth 100000 in
theorem open_int_cells {H : Type} {enc : TypeId × Value → H} {W : World} {n : Nat} {c0 c1 : Value} {y : DataW H × List MemPlace}
    (h : DataW.trod enc Tryz.prog W 0 (fun _ => true) true n 27 [c0, c1] = some y) (hlt : ∀ x ∈ y.2, x.block < W.heap.size)
    (hw : ∀ k ∈ y.1.weights Tryz.prog 27, k ≤ reachBytes) :
    ∃ (neg : Bool) (A : Option Addr) (xs : List Nat) (c : Nat), c0 = .bool neg ∧ c1 = .slice A xs.length c ∧ Rl W A xs := by
  obtain ⟨f0, f1, hs, hone, ht0, ht1⟩ := intFields
  obtain ⟨y0, y1, k, rfl, _, t0, t1⟩ := trod_struct2 hs h
  obtain ⟨o0, k0⟩ := hone_of hone 0 f0 rfl
  obtain ⟨o1, k1⟩ := hone_of hone 1 f1 rfl
  simp only [o0, k0, o1, k1, List.drop_zero, List.drop_succ_cons, List.take_succ_cons, List.take_zero] at t0 t1
  rw [ht0] at t0
  rw [ht1] at t1
  obtain ⟨b, e0, rfl⟩ := DataW.trod_bool Tryz.underlying4 t0
  injection e0 with e0
  subst e0
  rcases open_ints Tryz.underlying25 Tryz.underlying143 (by kernel_rfl) t1 with ⟨e1, rfl⟩ | ⟨a, len, cap, zs, e1, _, hl, hm, hz, rfl, hcell, hwz⟩
  · injection e1 with e1
    subst e1
    exact ⟨b, none, [], 0, rfl, rfl, Sl.none_, Dig.nil _, by simp⟩
  · injection e1 with e1
    subst e1
    simp only [if_true] at hz
    have hlen : len ≤ zs.length := by omega
    refine ⟨b, some a, (zs.take len).map Int.toNat, cap, rfl, by simp [Nat.min_eq_left hlen], ?_, ?_, ?_⟩
    · intro hn
      have hpos : 0 < zs.length := by simp at hn; omega
      refine ⟨a, rfl, ?_, fun j hj => ?_⟩
      · have hmem : MemPlace.cell a.block a.off ∈ MemPlace.row a zs.length := MemPlace.mem_row.2 ⟨0, hpos, by simp⟩
        exact hlt _ (by simpa using hmem)
      · simp at hj
        rw [hcell j (by omega)]
        have hzj : zs.getD j 0 = zs[j] := by rw [List.getD_eq_getElem?_getD, List.getElem?_eq_getElem (by omega)]; rfl
        have hwf := hwz zs[j] (List.getElem_mem _)
        simp [Lit.wf, IntKind.min, IntKind.max, IntKind.signed, IntKind.bits] at hwf
        rw [hzj]
        simp
        omega
    · intro x hx
      simp only [List.mem_map] at hx
      obtain ⟨z, hz2, rfl⟩ := hx
      have hwf := hwz z (List.mem_of_mem_take hz2)
      simp [Lit.wf, IntKind.min, IntKind.max, IntKind.signed, IntKind.bits] at hwf
      show z.toNat < 4294967296
      omega
    · have h4 : Tryz.prog.bytesOf 143 = 4 := by kernel_rfl
      have := hw ((((lits (H := H) .u32 (zs.take len)).length + (lits (H := H) .u32 (zs.drop len)).length) * Tryz.prog.bytesOf 143)) (by simp [DataW.weights, hs, ht1, Tryz.underlying25, DataW.weightsEach])
      rw [h4] at this
      simp [lits, reachBytes] at this
      simp
      omega
end Go.Proofs.YtjamfkafgfpobaaGreat
/-! ### Fv -/
namespace Go.Proofs.YtjamfkafgfpobaaGreat
open Go.ChangeShapes Go.WideShapes Go.ChangeAt Go.RowKit Go.Deep Go.Joins Nb
theorem own : ownKnob Tryz.prog.godebug = none := by kernel_rfl
end Go.Proofs.YtjamfkafgfpobaaGreat
namespace Go.Proofs.YtjamfkafgfpobaaGreat
open Go.ChangeShapes Go.WideShapes Go.ChangeAt Go.RowKit Go.Deep Go.Joins Nb
set_option maxRecDepth 100000 in
theorem open_frac_cells {H : Type} {enc : TypeId × Value → H} {W : World} {n : Nat} {c0 c1 c2 c3 : Value} {y : DataW H × List MemPlace}
    (h : DataW.trod enc Tryz.prog W 0 (fun _ => true) true n 29 [c0, c1, c2, c3] = some y) (hlt : ∀ x ∈ y.2, x.block < W.heap.size)
    (hw : ∀ k ∈ y.1.weights Tryz.prog 29, k ≤ reachBytes) :
    ∃ f : Fv, c0 = .bool f.n ∧ c1 = .slice f.A f.xs.length f.c ∧ c2 = .bool f.m ∧ c3 = .slice f.B f.ds.length f.d ∧ Fx W f := by
  obtain ⟨f0, f1, hs, o0, o1, ht0, ht1⟩ := fracFields
  obtain ⟨y0, y1, k, rfl, _, t0, t1⟩ := trod_struct2 hs h
  simp only [o0, o1, ht0, ht1, int_cells, List.drop_zero, List.drop_succ_cons, List.take_succ_cons, List.take_zero] at t0 t1
  have hwt : ∀ k, k ∈ y0.1.weights Tryz.prog 27 ∨ k ∈ y1.1.weights Tryz.prog 27 → k ≤ reachBytes := fun k hk => hw k (by
    simp only [DataW.weights, hs, DataW.weightsEach, ht0, ht1, List.map_cons, List.map_nil, List.mem_append]
    rcases hk with hk | hk
    · exact .inl hk
    · exact .inr (.inl hk))
  obtain ⟨n1, A, xs, c, rfl, rfl, r1⟩ := open_int_cells t0 (fun x hx => hlt x (List.mem_append.2 (.inl hx))) (fun k hk => hwt k (.inl hk))
  obtain ⟨m1, B, ds, d', rfl, rfl, r2⟩ := open_int_cells t1 (fun x hx => hlt x (List.mem_append.2 (.inr hx))) (fun k hk => hwt k (.inr hk))
  exact ⟨⟨n1, A, xs, c, m1, B, ds, d'⟩, rfl, rfl, rfl, rfl, r1, r2⟩
end Go.Proofs.YtjamfkafgfpobaaGreat
