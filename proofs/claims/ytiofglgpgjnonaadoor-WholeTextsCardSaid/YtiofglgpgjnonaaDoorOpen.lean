/-
  A number that is handed in, opened: its sign, its limbs, and where they lie. No conditions.
-/
import Derived.Test.YtiofglgpgjnonaaDoorBase
import Derived.ProofKit
import Derived.OpenShut
import Derived.SizedLaws
import Derived.Lib.SmallJoins
import Derived.Carry
namespace Go.Proofs.YtiofglgpgjnonaaDoor
open Go.ChangeShapes Go.WideShapes Go.ChangeAt Go.RowKit Go.Deep Go.Joins Nb

set_option maxRecDepth 100000 in
theorem laidOut : laidOutB Tryd.prog = true := by kernel_rfl
set_option maxRecDepth 100000 in
theorem intFields : ∃ f0 f1 : Field, Tryd.prog.underlying 24 = some (.struct #[f0, f1]) ∧ oneCellFields Tryd.prog #[f0, f1] = true ∧ f0.type = 4 ∧ f1.type = 22 := ⟨_, _, Tryd.underlying24, by kernel_rfl, rfl, rfl⟩

set_option maxRecDepth 100000 in
theorem open_bigint {H : Type} {enc : TypeId × Value → H} {W : World} {r : Reach} {b0 : Nat} {v : Value} {d : DataW H} {p : List MemPlace}
    (hv : Value.okWide Tryd.prog W r b0 24 v) (h : DataW.Trod enc Tryd.prog W 0 (fun _ => true) true 24 v d p) (hlt : ∀ x ∈ p, x.block < W.heap.size)
    (hw : ∀ n ∈ d.weights Tryd.prog 24, n ≤ reachBytes) :
    ∃ (neg : Bool) (A : Option Addr) (xs : List Nat) (c : Nat), v = .agg #[.bool neg, .slice A xs.length c] ∧ Sl .u32 W W.heap.size A xs ∧ Dig 4294967296 xs ∧ (A = none → xs = [] ∧ c = 0) ∧ xs.length * 4 ≤ 140737488351232 := by
  obtain ⟨f0, f1, hs, hone, ht0, ht1⟩ := intFields
  obtain ⟨v0, v1, y0, y1, n, rfl, rfl, rfl, t0, t1⟩ := Joins.open_agg2 hs hone (by kernel_rfl) hv h
  rw [ht0] at t0
  rw [ht1] at t1
  obtain ⟨b, e0, rfl⟩ := DataW.trod_bool Tryd.underlying4 t0
  injection e0 with e0
  subst e0
  rcases open_ints Tryd.underlying22 Tryd.underlying54 (by kernel_rfl) t1 with ⟨e1, rfl⟩ | ⟨a, len, cap, zs, e1, _, hl, hm, hz, rfl, hcell, hwz⟩
  · injection e1 with e1
    subst e1
    exact ⟨b, none, [], 0, rfl, Sl.none_, Dig.nil _, fun _ => ⟨rfl, rfl⟩, by simp⟩
  · injection e1 with e1
    subst e1
    simp only [if_true] at hz
    have hlen : len ≤ zs.length := by omega
    refine ⟨b, some a, (zs.take len).map Int.toNat, cap, by simp [Nat.min_eq_left hlen], ?_, ?_, (fun h => by cases h), ?_⟩
    · intro hn
      have hpos : 0 < zs.length := by simp at hn; omega
      refine ⟨a, rfl, ?_, fun j hj => ?_⟩
      · have hmem : MemPlace.cell a.block a.off ∈ MemPlace.row a zs.length := MemPlace.mem_row.2 ⟨0, hpos, by simp⟩
        exact hlt _ (by simpa using hmem)
      · simp at hj
        rw [hcell j (by omega)]
        have hzj : zs.getD j 0 = zs[j] := by rw [List.getD_eq_getElem?_getD, List.getElem?_eq_getElem (by omega)]; rfl
        have hwf := hwz zs[j] (List.getElem_mem _)
        simp [Lit.wf, IntKind.min, IntKind.max, IntKind.signed, IntKind.bits] at hwf
        rw [hzj]
        simp
        omega
    · intro x hx
      simp only [List.mem_map] at hx
      obtain ⟨z, hz2, rfl⟩ := hx
      have hwf := hwz z (List.mem_of_mem_take hz2)
      simp [Lit.wf, IntKind.min, IntKind.max, IntKind.signed, IntKind.bits] at hwf
      omega
    · have hb : (((lits (H := H) .u32 (zs.take len)).length + (lits (H := H) .u32 (zs.drop len)).length) * Tryd.prog.bytesOf 22) = 0 ∨ True := .inr trivial
      have h4 : Tryd.prog.bytesOf 54 = 4 := by kernel_rfl
      have := hw ((((lits (H := H) .u32 (zs.take len)).length + (lits (H := H) .u32 (zs.drop len)).length) * Tryd.prog.bytesOf 54)) (by simp [DataW.weights, hs, ht1, Tryd.underlying22, DataW.weightsEach])
      rw [h4] at this
      simp [lits, reachBytes] at this
      simp
      omega
end Go.Proofs.YtiofglgpgjnonaaDoor
