/-
  Matrices that are handed in, opened. No conditions.
-/
import Derived.Test.YtgoackkfjieahaaMrw
import Derived.ProofKit
import Derived.OpenShut
import Derived.SizedLaws
import Derived.Lib.SmallJoins
import Derived.Carry
namespace Go.Proofs.Ytgoackkfjieahaa.W
open Go.ChangeShapes Go.WideShapes Go.ChangeAt Go.RowKit Go.Deep Go.Joins
theorem own : ownKnob Try.prog.godebug = none := by kernel_rfl
theorem laidOut : laidOutB Try.prog = true := by kernel_rfl
theorem fourFields : ∃ f0 f1 f2 f3 : Field, Try.prog.underlying 23 = some (.struct #[f0, f1, f2, f3]) ∧ oneCellFields Try.prog #[f0, f1, f2, f3] = true ∧ f0.type = 2 ∧ f1.type = 2 ∧ f2.type = 2 ∧ f3.type = 2 :=
  ⟨_, _, _, _, Try.underlying23, by kernel_rfl, rfl, rfl, rfl, rfl⟩
theorem wz_wf {n : Int} (h : (Lit.int .i64 n).wf = true) : wz 9223372036854775808 n = n := by
  have := bounds_i64 h
  exact w_id (by omega) (by omega)
set_option maxRecDepth 100000 in
theorem open_four {H : Type} {enc : TypeId × Value → H} {W : World} {r : Reach} {b0 : Nat} {v : Value} {d : DataW H} {p : List MemPlace}
    (hv : Value.okWide Try.prog W r b0 23 v) (h : DataW.Trod enc Try.prog W 0 (fun _ => true) true 23 v d p) :
    ∃ x : Mz, v = mv x ∧ x.Ok 9223372036854775808 := by
  obtain ⟨f0, f1, f2, f3, hs, hone, ht0, ht1, ht2, ht3⟩ := fourFields
  obtain ⟨v0, v1, v2, v3, y0, y1, y2, y3, n, rfl, rfl, rfl, t0, t1, t2, t3⟩ := Joins.open_agg4 hs hone (by kernel_rfl) hv h
  rw [ht0] at t0
  rw [ht1] at t1
  rw [ht2] at t2
  rw [ht3] at t3
  obtain ⟨a, e0, rfl, k0⟩ := Go.DataW.trod_int Try.underlying2 t0
  obtain ⟨b, e1, rfl, k1⟩ := Go.DataW.trod_int Try.underlying2 t1
  obtain ⟨c, e2, rfl, k2⟩ := Go.DataW.trod_int Try.underlying2 t2
  obtain ⟨d, e3, rfl, k3⟩ := Go.DataW.trod_int Try.underlying2 t3
  injection e0 with e0
  injection e1 with e1
  injection e2 with e2
  injection e3 with e3
  subst e0
  subst e1
  subst e2
  subst e3
  exact ⟨⟨a, b, c, d⟩, rfl, wz_wf k0, wz_wf k1, wz_wf k2, wz_wf k3⟩
end Go.Proofs.Ytgoackkfjieahaa.W
