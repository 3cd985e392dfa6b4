/-
  Of whatever numbers two spans have, their sum, difference, product, quotient and square lie in what span answers (SpanHas). No conditions.
-/
import Derived.Test.YtghcoijinihlnaaGreatSqg
import Derived.Test.YtghcoijinihlnaaGreatPst
import Derived.ProofKit
import Derived.OpenShut
import Derived.SizedLaws
import Derived.Lib.SmallJoins
import Derived.Carry
import Derived.Test.YtghcoijinihlnaaGreatShw
namespace Go.Proofs.YtghcoijinihlnaaGreat.Fl
open Go.ChangeShapes Go.WideShapes Go.ChangeAt Go.RowKit Go.Deep Go.Joins
theorem trod_float {H : Type} {enc : TypeId × Value → H} {P : Program} {w : World} {base : Nat} {spare : Nat → Bool} {held : Bool} {fuel : Nat} {t : TypeId} {cs : List Value} {x : DataW H × List MemPlace} {k : FloatKind} (ht : P.underlying t = some (.float k)) (h : DataW.trod enc P w base spare held fuel t cs = some x) : ∃ n, cs = [.float k n] ∧ x = (.lit (.float k n), []) ∧ (Lit.float k n).wf = true := by
  cases fuel with
  | zero => simp [DataW.trod] at h
  | succ n =>
    unfold DataW.trod at h
    rw [ht] at h
    split at h <;> simp_all
set_option maxRecDepth 100000 in
theorem spanFields : ∃ f0 f1 : Field, Tryz.prog.underlying 44 = some (.struct #[f0, f1]) ∧ oneCellFields Tryz.prog #[f0, f1] = true ∧ f0.type = 27 ∧ f1.type = 27 := ⟨_, _, Tryz.underlying44, by kernel_rfl, rfl, rfl⟩
theorem wf64 {b : Nat} (h : (Lit.float .f64 b).wf = true) : b < 18446744073709551616 := by simpa [Lit.wf] using h
theorem wf_of {b : Nat} (h : b < 18446744073709551616) : (Lit.float .f64 b).wf = true := by simpa [Lit.wf] using h
set_option maxRecDepth 100000 in
theorem open_span {H : Type} {enc : TypeId × Value → H} {W : World} {r : Reach} {b0 : Nat} {v : Value} {d : DataW H} {p : List MemPlace}
    (hv : Value.okWide Tryz.prog W r b0 44 v) (h : DataW.Trod enc Tryz.prog W 0 (fun _ => true) true 44 v d p) :
    ∃ l u : Nat, v = spv l u ∧ d = .agg [.lit (.float .f64 l), .lit (.float .f64 u)] ∧ p = [] ∧ l < 18446744073709551616 ∧ u < 18446744073709551616 := by
  obtain ⟨f0, f1, hs, hone, ht0, ht1⟩ := spanFields
  obtain ⟨v0, v1, y0, y1, n, rfl, rfl, rfl, t0, t1⟩ := Joins.open_agg2 hs hone (by kernel_rfl) hv h
  rw [ht0] at t0
  rw [ht1] at t1
  obtain ⟨l, e0, rfl, k0⟩ := trod_float Tryz.underlying27 t0
  obtain ⟨u, e1, rfl, k1⟩ := trod_float Tryz.underlying27 t1
  injection e0 with e0
  injection e1 with e1
  subst e0
  subst e1
  exact ⟨l, u, rfl, rfl, rfl, wf64 k0, wf64 k1⟩
set_option maxRecDepth 100000 in
theorem shut_span {H : Type} {enc : TypeId × Value → H} {W : World} {base : Nat} {spare : Nat → Bool} {held : Bool} {l u : Nat} (h0 : l < 18446744073709551616) (h1 : u < 18446744073709551616) :
    DataW.Trod enc Tryz.prog W base spare held 44 (spv l u) (.agg [.lit (.float .f64 l), .lit (.float .f64 u)]) [] := by
  obtain ⟨f0, f1, hs, hone, ht0, ht1⟩ := spanFields
  have k0 : ∃ n, DataW.trod enc Tryz.prog W base spare held n f0.type [.float .f64 l] = some (.lit (.float .f64 l), []) := by
    rw [ht0]; exact ⟨1, by simp [DataW.trod, Tryz.underlying27, wf_of h0]⟩
  have k1 : ∃ n, DataW.trod enc Tryz.prog W base spare held n f1.type [.float .f64 u] = some (.lit (.float .f64 u), []) := by
    rw [ht1]; exact ⟨1, by simp [DataW.trod, Tryz.underlying27, wf_of h1]⟩
  exact Joins.shut_agg2 hs hone (by kernel_rfl) k0 k1
theorem own : ownKnob Tryz.prog.godebug = none := by kernel_rfl
end Go.Proofs.YtghcoijinihlnaaGreat.Fl

namespace Go.Proofs.YtghcoijinihlnaaGreat.spanHas
open Go.ChangeShapes Go.WideShapes Go.ChangeAt Go.RowKit Nb Fl
set_option linter.unusedVariables false
theorem wfi {n : Int} (h : (Lit.int .i64 n).wf = true) : -9223372036854775808 ≤ n ∧ n ≤ 9223372036854775807 := by
  simp [Lit.wf, IntKind.min, IntKind.max, IntKind.signed, IntKind.bits] at h
  omega
set_option maxRecDepth 100000 in
theorem lifted (os : Os) (started : os.Started) (H : Type) (enc : TypeId × Value → H) :
    ReturnsInHanded {} Tryz.checked os 4 .any (Rows.spanHasSpec.pre6 enc Tryz.prog Tryz.f4 Rows.spanHasRow.domain false) (Rows.spanHasSpec.post enc Tryz.prog Tryz.f4 false true false false) := by
  refine returnsInHanded_of_change_sized (C := Tryz.checked) own started (by kernel_rfl) Tryz.func4
    (ChangeSpec.witness6 (enc := enc) (C := Tryz.checked) false ⟨#[], #[.agg #[.float .f64 0, .float .f64 0], .agg #[.float .f64 0, .float .f64 0], .int .i64 0, .int .i64 0], []⟩ 8 (by kernel_rfl) (by kernel_rfl) (by kernel_rfl) (by kernel_rfl)) ?_
  intro W base args ds gs before hval0 hW _ hsz0 _
  have hsz : (DataW.weightsEach Tryz.prog (Tryz.f4.params.toList ++ Rows.spanHasSpec.plain.varTypes Tryz.prog) (ds ++ gs)).all (· ≤ reachBytes) = true := hsz0
  clear hsz0
  have hval : ∀ (j : Nat) t v, Tryz.f4.params[j]? = some t → args[j]? = some v → Value.okWide Tryz.prog W .any base t v := hval0
  have hW' := hW
  obtain ⟨p, q, hA0, hV, rfl, _, _⟩ := hW
  have hA : DataW.TrodAll enc Tryz.prog W 0 (fun _ => true) true Tryz.f4.params.toList args.toList ds p := hA0
  rw [Tryz.params4] at hA hval hsz
  obtain ⟨v0, v1, v2, v3, d0, d1, d2, d3, p0, p1, p2, p3, rfl, rfl, rfl, h0, h1, h2, h3⟩ := trodAll_four hA
  obtain ⟨rfl, rfl⟩ := trodVars_none hV
  clear hA0
  simp only [List.append_nil] at hW'
  obtain ⟨a0, b0, rfl, rfl, rfl, k0, m0⟩ := open_span (hval 0 44 v0 rfl rfl) h0
  obtain ⟨a1, b1, rfl, rfl, rfl, k1, m1⟩ := open_span (hval 1 44 v1 rfl rfl) h1
  obtain ⟨a2, rfl, rfl, rfl, k2⟩ := open_int Tryz.underlying2 (hval 2 2 v2 rfl rfl) h2
  obtain ⟨a3, rfl, rfl, rfl, k3⟩ := open_int Tryz.underlying2 (hval 3 2 v3 rfl rfl) h3
  refine (spanHas_walk ⟨k0, m0⟩ ⟨k1, m1⟩ (wfi k2) (wfi k3)).mono fun e W' ⟨he, hg⟩ => ?_
  subst he
  refine ⟨_, rfl, _, _, _, [], [] ++ ([] ++ ([] ++ ([]))), [], hW', ?_, ?_, rfl, hg.frame _, fun h => by cases h⟩
  · exact trodAll_cons_mk (shut_bool Tryz.underlying4 _) trodAll_mk0
  · exact trodAll_mk4 (shut_span k0 m0) (shut_span k1 m1) (shut_int Tryz.underlying2 k2) (shut_int Tryz.underlying2 k3)
theorem over : Rows.spanHasRow.holds Tryz.pinned (OpenSpec.ofChange Rows.spanHasSpec) :=
  OpenClaim.holds_of_wide 4 Tryz.f4 rfl rfl rfl rfl rfl rfl rfl ⟨rfl, rfl, rfl, rfl, rfl⟩ rfl rfl rfl rfl rfl (by kernel_rfl) Tryz.func4 (by kernel_rfl)
    (of_decide_eq_true (by kernel_rfl)) (by unfold Func.isWrapper; first | (rw [if_pos (by decide +kernel)]; kernel_rfl) | (rw [if_neg (by decide +kernel)]; exact ⟨rfl, rfl⟩))
    (fun os started H enc _ => lifted os started H enc)
theorem proved : Rows.SpanHasSaid := over
end Go.Proofs.YtghcoijinihlnaaGreat.spanHas
