/-
  Fractions that are handed in, opened. No conditions.
-/
import Derived.Test.YtfhleccodbjfbaaBase
import Derived.ProofKit
import Derived.OpenShut
import Derived.SizedLaws
import Derived.Lib.SmallJoins
import Derived.Carry
import Derived.Test.YtfhleccodbjfbaaHt0
import Derived.Test.YtfhleccodbjfbaaRows
namespace Go.Proofs.Ytfhleccodbjfbaa
open Go.ChangeShapes Go.WideShapes Go.ChangeAt Go.RowKit Go.Deep Go.Joins Nb
set_option maxRecDepth 100000 in
theorem laidOut : laidOutB Try.prog = true := by kernel_rfl
set_option maxRecDepth 100000 in
theorem intFields : ∃ f0 f1 : Field, Try.prog.underlying 24 = some (.struct #[f0, f1]) ∧ oneCellFields Try.prog #[f0, f1] = true ∧ f0.type = 4 ∧ f1.type = 22 := ⟨_, _, Try.underlying24, by kernel_rfl, rfl, rfl⟩
end Go.Proofs.Ytfhleccodbjfbaa
/-! ### Fop -/
namespace Go.Proofs.Ytfhleccodbjfbaa
open Go.ChangeShapes Go.WideShapes Go.ChangeAt Go.RowKit Go.Deep Go.Joins Nb
set_option maxRecDepth 100000 in
theorem int_cells : Try.prog.cellsOf 24 = 2 := by kernel_rfl
set_option maxRecDepth 100000 in
theorem frac_cells : Try.prog.cellsOf 26 = 4 := by kernel_rfl
set_option maxRecDepth 100000 in
theorem fracFields : ∃ f0 f1 : Field, Try.prog.underlying 26 = some (.struct #[f0, f1]) ∧ f0.offset = 0 ∧ f1.offset = 2 ∧ f0.type = 24 ∧ f1.type = 24 := ⟨_, _, Try.underlying26, rfl, rfl, rfl, rfl⟩
set_option maxRecDepth 100000 in
theorem open_int_cells {H : Type} {enc : TypeId × Value → H} {W : World} {n : Nat} {c0 c1 : Value} {y : DataW H × List MemPlace}
    (h : DataW.trod enc Try.prog W 0 (fun _ => true) true n 24 [c0, c1] = some y) (hlt : ∀ x ∈ y.2, x.block < W.heap.size)
    (hw : ∀ k ∈ y.1.weights Try.prog 24, k ≤ reachBytes) :
    ∃ (neg : Bool) (A : Option Addr) (xs : List Nat) (c : Nat), c0 = .bool neg ∧ c1 = .slice A xs.length c ∧ Rl W A xs := by
  obtain ⟨f0, f1, hs, hone, ht0, ht1⟩ := intFields
  obtain ⟨y0, y1, k, rfl, _, t0, t1⟩ := trod_struct2 hs h
  obtain ⟨o0, k0⟩ := hone_of hone 0 f0 rfl
  obtain ⟨o1, k1⟩ := hone_of hone 1 f1 rfl
  simp only [o0, k0, o1, k1, List.drop_zero, List.drop_succ_cons, List.take_succ_cons, List.take_zero] at t0 t1
  rw [ht0] at t0
  rw [ht1] at t1
  obtain ⟨b, e0, rfl⟩ := DataW.trod_bool Try.underlying4 t0
  injection e0 with e0
  subst e0
  rcases open_ints Try.underlying22 Try.underlying92 (by kernel_rfl) t1 with ⟨e1, rfl⟩ | ⟨a, len, cap, zs, e1, _, hl, hm, hz, rfl, hcell, hwz⟩
  · injection e1 with e1
    subst e1
    exact ⟨b, none, [], 0, rfl, rfl, Sl.none_, Dig.nil _, by simp⟩
  · injection e1 with e1
    subst e1
    simp only [if_true] at hz
    have hlen : len ≤ zs.length := by omega
    refine ⟨b, some a, (zs.take len).map Int.toNat, cap, rfl, by simp [Nat.min_eq_left hlen], ?_, ?_, ?_⟩
    · intro hn
      have hpos : 0 < zs.length := by simp at hn; omega
      refine ⟨a, rfl, ?_, fun j hj => ?_⟩
      · have hmem : MemPlace.cell a.block a.off ∈ MemPlace.row a zs.length := MemPlace.mem_row.2 ⟨0, hpos, by simp⟩
        exact hlt _ (by simpa using hmem)
      · simp at hj
        rw [hcell j (by omega)]
        have hzj : zs.getD j 0 = zs[j] := by rw [List.getD_eq_getElem?_getD, List.getElem?_eq_getElem (by omega)]; rfl
        have hwf := hwz zs[j] (List.getElem_mem _)
        simp [Lit.wf, IntKind.min, IntKind.max, IntKind.signed, IntKind.bits] at hwf
        rw [hzj]
        simp
        omega
    · intro x hx
      simp only [List.mem_map] at hx
      obtain ⟨z, hz2, rfl⟩ := hx
      have hwf := hwz z (List.mem_of_mem_take hz2)
      simp [Lit.wf, IntKind.min, IntKind.max, IntKind.signed, IntKind.bits] at hwf
      show z.toNat < 4294967296
      omega
    · have h4 : Try.prog.bytesOf 92 = 4 := by kernel_rfl
      have := hw ((((lits (H := H) .u32 (zs.take len)).length + (lits (H := H) .u32 (zs.drop len)).length) * Try.prog.bytesOf 92)) (by simp [DataW.weights, hs, ht1, Try.underlying22, DataW.weightsEach])
      rw [h4] at this
      simp [lits, reachBytes] at this
      simp
      omega
end Go.Proofs.Ytfhleccodbjfbaa
/-! ### Fv -/
namespace Go.Proofs.Ytfhleccodbjfbaa
open Go.ChangeShapes Go.WideShapes Go.ChangeAt Go.RowKit Go.Deep Go.Joins Nb
theorem own : ownKnob Try.prog.godebug = none := by kernel_rfl
end Go.Proofs.Ytfhleccodbjfbaa
