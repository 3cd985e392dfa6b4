/-
  A span that is handed in, opened, and handed back. No conditions.
-/
import Derived.Test.YtghcoijinihlnaaSp0
import Derived.Test.YtghcoijinihlnaaPst
import Derived.ProofKit
import Derived.OpenShut
import Derived.SizedLaws
import Derived.Lib.SmallJoins
import Derived.Carry
namespace Go.Proofs.Ytghcoijinihlnaa.Fl
open Go.ChangeShapes Go.WideShapes Go.ChangeAt Go.RowKit Go.Deep Go.Joins
theorem trod_float {H : Type} {enc : TypeId × Value → H} {P : Program} {w : World} {base : Nat} {spare : Nat → Bool} {held : Bool} {fuel : Nat} {t : TypeId} {cs : List Value} {x : DataW H × List MemPlace} {k : FloatKind} (ht : P.underlying t = some (.float k)) (h : DataW.trod enc P w base spare held fuel t cs = some x) : ∃ n, cs = [.float k n] ∧ x = (.lit (.float k n), []) ∧ (Lit.float k n).wf = true := by
  cases fuel with
  | zero => simp [DataW.trod] at h
  | succ n =>
    unfold DataW.trod at h
    rw [ht] at h
    split at h <;> simp_all
set_option maxRecDepth 100000 in
theorem spanFields : ∃ f0 f1 : Field, Try.prog.underlying 24 = some (.struct #[f0, f1]) ∧ oneCellFields Try.prog #[f0, f1] = true ∧ f0.type = 22 ∧ f1.type = 22 := ⟨_, _, Try.underlying24, by kernel_rfl, rfl, rfl⟩
theorem wf64 {b : Nat} (h : (Lit.float .f64 b).wf = true) : b < 18446744073709551616 := by simpa [Lit.wf] using h
theorem wf_of {b : Nat} (h : b < 18446744073709551616) : (Lit.float .f64 b).wf = true := by simpa [Lit.wf] using h
set_option maxRecDepth 100000 in
theorem open_span {H : Type} {enc : TypeId × Value → H} {W : World} {r : Reach} {b0 : Nat} {v : Value} {d : DataW H} {p : List MemPlace}
    (hv : Value.okWide Try.prog W r b0 24 v) (h : DataW.Trod enc Try.prog W 0 (fun _ => true) true 24 v d p) :
    ∃ l u : Nat, v = spv l u ∧ d = .agg [.lit (.float .f64 l), .lit (.float .f64 u)] ∧ p = [] ∧ l < 18446744073709551616 ∧ u < 18446744073709551616 := by
  obtain ⟨f0, f1, hs, hone, ht0, ht1⟩ := spanFields
  obtain ⟨v0, v1, y0, y1, n, rfl, rfl, rfl, t0, t1⟩ := Joins.open_agg2 hs hone (by kernel_rfl) hv h
  rw [ht0] at t0
  rw [ht1] at t1
  obtain ⟨l, e0, rfl, k0⟩ := trod_float Try.underlying22 t0
  obtain ⟨u, e1, rfl, k1⟩ := trod_float Try.underlying22 t1
  injection e0 with e0
  injection e1 with e1
  subst e0
  subst e1
  exact ⟨l, u, rfl, rfl, rfl, wf64 k0, wf64 k1⟩
set_option maxRecDepth 100000 in
theorem shut_span {H : Type} {enc : TypeId × Value → H} {W : World} {base : Nat} {spare : Nat → Bool} {held : Bool} {l u : Nat} (h0 : l < 18446744073709551616) (h1 : u < 18446744073709551616) :
    DataW.Trod enc Try.prog W base spare held 24 (spv l u) (.agg [.lit (.float .f64 l), .lit (.float .f64 u)]) [] := by
  obtain ⟨f0, f1, hs, hone, ht0, ht1⟩ := spanFields
  have k0 : ∃ n, DataW.trod enc Try.prog W base spare held n f0.type [.float .f64 l] = some (.lit (.float .f64 l), []) := by
    rw [ht0]; exact ⟨1, by simp [DataW.trod, Try.underlying22, wf_of h0]⟩
  have k1 : ∃ n, DataW.trod enc Try.prog W base spare held n f1.type [.float .f64 u] = some (.lit (.float .f64 u), []) := by
    rw [ht1]; exact ⟨1, by simp [DataW.trod, Try.underlying22, wf_of h1]⟩
  exact Joins.shut_agg2 hs hone (by kernel_rfl) k0 k1
theorem own : ownKnob Try.prog.godebug = none := by kernel_rfl
end Go.Proofs.Ytghcoijinihlnaa.Fl
