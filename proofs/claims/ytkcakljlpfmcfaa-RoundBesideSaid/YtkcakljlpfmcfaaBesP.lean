/-
  For any two floats, finite or not, what round's Add, Sub, Mul, Quo and Sqrt answer as down is not above up, both are the same or follow one another, and the own answer is one of them (RoundBeside). No conditions.
-/
import Derived.Test.YtkcakljlpfmcfaaAlv
import Derived.Test.YtkcakljlpfmcfaaPst
import Derived.ProofKit
import Derived.OpenShut
import Derived.SizedLaws
import Derived.Lib.SmallJoins
import Derived.Carry
namespace Go.Proofs.Ytkcakljlpfmcfaa.roundBeside
open Go.ChangeShapes Go.WideShapes Go.ChangeAt Go.RowKit Fl Ieee
set_option linter.unusedVariables false

theorem op_bes {op : BinOp} {a b : Nat} {w : World} {L : Nat → Prop} {d u : Nat} (h : OpIs a b (fop op a b w) L d u) (hf : Pl a ∧ Pl b → ∃ r, floatBits op .f64 a b = some r) (W : World) : BesOk d u (fop op a b W) ∧ d < 18446744073709551616 ∧ u < 18446744073709551616 := by
  have ho := fop_lt op a b w
  rcases h with ⟨_, rfl, rfl⟩ | ⟨h1, h2, l, _, rfl, rfl⟩
  · refine ⟨bes_same ?_, ho, ho⟩
    rcases fop_mg op a b w with ⟨h, r, hr, e, _⟩ | ⟨h, hr⟩
    · left; exact ⟨h, by rw [e, (fop_some hr W).1]⟩
    · right; refine ⟨h, ?_⟩; rw [(fop_none hr W).1]; exact (nanw_is W a b).1
  · obtain ⟨r, hr⟩ := hf ⟨h1, h2⟩
    rw [(fop_some hr W).1]
    rw [(fop_some hr w).1] at ho ⊢
    have hm : mg r ≤ 9218868437227405312 := by
      rcases fop_mg op a b w with ⟨h, r', hr', e, _⟩ | ⟨h, hr'⟩
      · rw [hr] at hr'; cases hr'; rw [e] at h; exact h
      · rw [hr] at hr'; cases hr'
    refine ⟨bes_about l ho hm, ?_⟩
    rcases lohi_cases r l hm with ⟨e1, e2⟩ | ⟨k, hk, _, e1, e2⟩
    · rw [e1, e2]; exact ⟨ho, ho⟩
    · rw [e1, e2]
      have h1 : (ng r).toNat ≤ 1 := Bool.toNat_le _
      have h2 : (!ng r).toNat ≤ 1 := Bool.toNat_le _
      exact ⟨word_lt64 _ _ (by omega), word_lt64 _ _ (by omega)⟩
theorem add_bes {a b : Nat} {w : World} {d u : Nat} (h : AddIs a b (fop .add a b w) d u) (W : World) : BesOk d u (fop .add a b W) ∧ d < 18446744073709551616 ∧ u < 18446744073709551616 := by
  have ho := fop_lt .add a b w
  rcases h with ⟨_, rfl, rfl⟩ | ⟨h1, h2, h3, l, hl, rfl, rfl⟩
  · refine ⟨bes_same ?_, ho, ho⟩
    rcases fop_mg .add a b w with ⟨h, r, hr, e, _⟩ | ⟨h, hr⟩
    · left; exact ⟨h, by rw [e, (fop_some hr W).1]⟩
    · right; refine ⟨h, ?_⟩; rw [(fop_none hr W).1]; exact (nanw_is W a b).1
  · exact op_bes (op := .add) (L := fun _ => True) (.inr ⟨h1, h2, l, trivial, rfl, rfl⟩) (fun h => add_fin h.1.2 h.2.2) W
theorem read_ngf {y : Nat} (hy : y < 18446744073709551616) : double.read (ngf y) = (double.read y).opposite := by
  have h := ngf_is hy
  unfold Format.read
  rw [d_binade, d_inf, d_sw]
  simp only []
  change (if mg (ngf y) < _ then Datum.number (ng (ngf y)) (mg (ngf y)) _ else if mg (ngf y) < 9218868437227405312 then Datum.number (ng (ngf y)) (4503599627370496 + mg (ngf y) % 4503599627370496) (double.leastPlace + (mg (ngf y) / 4503599627370496 - 1 : Nat)) else if mg (ngf y) = 9218868437227405312 then Datum.infinity (ng (ngf y)) else Datum.nan (ng (ngf y)) (mg (ngf y) - 9218868437227405312)) = Datum.opposite (if mg y < _ then Datum.number (ng y) (mg y) _ else if mg y < 9218868437227405312 then Datum.number (ng y) (4503599627370496 + mg y % 4503599627370496) (double.leastPlace + (mg y / 4503599627370496 - 1 : Nat)) else if mg y = 9218868437227405312 then Datum.infinity (ng y) else Datum.nan (ng y) (mg y - 9218868437227405312))
  rw [h.1, h.2]
  split
  · rfl
  · split
    · rfl
    · split <;> rfl
theorem sub_is_add (x : Nat) {y : Nat} (hy : y < 18446744073709551616) : double.sub x y = double.add x (ngf y) := by
  unfold Format.sub Format.add
  rw [read_ngf hy]
theorem fop_sub_add (x : Nat) {y : Nat} (hy : y < 18446744073709551616) (W : World) : (∃ r, fop .sub x y W = r ∧ floatBits .add .f64 x (ngf y) = some r) ∨ floatBits .add .f64 x (ngf y) = none ∧ 9218868437227405312 < mg (fop .sub x y W) := by
  have e : floatBits .sub .f64 x y = floatBits .add .f64 x (ngf y) := sub_is_add x hy
  cases h : floatBits .add .f64 x (ngf y) with
  | some r => left; exact ⟨r, (fop_some (e.trans h) W).1, rfl⟩
  | none => right; refine ⟨rfl, ?_⟩; rw [(fop_none (e.trans h) W).1]; exact (nanw_is W x y).1
theorem bes_swap {d u o o' : Nat} (h : BesOk d u o) (ho : o' = o ∨ (9218868437227405312 < mg o ∧ 9218868437227405312 < mg o')) : BesOk d u o' := by
  rcases ho with rfl | ⟨h1, h2⟩
  · exact h
  · rcases h with ⟨a, b, _⟩ | ⟨_, _, h3, _⟩
    · exact .inl ⟨a, b, h2⟩
    · omega
theorem sub_bes {a b : Nat} {w : World} {d u : Nat} (hb : b < 18446744073709551616) (h : AddIs a (ngf b) (fop .add a (ngf b) w) d u) (W : World) : BesOk d u (fop .sub a b W) ∧ d < 18446744073709551616 ∧ u < 18446744073709551616 := by
  have k := add_bes h W
  refine ⟨bes_swap k.1 ?_, k.2⟩
  rcases fop_sub_add a hb W with ⟨r, e, h⟩ | ⟨h, e⟩
  · left; rw [e, (fop_some h W).1]
  · right; refine ⟨?_, e⟩; rw [(fop_none h W).1]; exact (nanw_is W a _).1
theorem sqrt_bes {a : Nat} {w : World} {d u : Nat} (h : SqrtIs a (sqw a w) d u) (W : World) : BesOk d u (sqw a W) ∧ d < 18446744073709551616 ∧ u < 18446744073709551616 := by
  have ho := sqw_lt a w
  have hc : (∃ r, double.sqrt a = some r ∧ (∀ W, sqw a W = r) ∧ mg r ≤ 9218868437227405312) ∨ double.sqrt a = none ∧ ∀ W, 9218868437227405312 < mg (sqw a W) := by
    cases h : double.sqrt a with
    | some r => left; exact ⟨r, rfl, fun W => by unfold sqw; rw [h]; rfl, (sqrt_told h).1⟩
    | none => right; exact ⟨rfl, fun W => by unfold sqw; rw [h]; exact (nanw_is W a a).1⟩
  rcases h with ⟨_, rfl, rfl⟩ | ⟨h1, h2, l, hl, rfl, rfl⟩
  · refine ⟨bes_same ?_, ho, ho⟩
    rcases hc with ⟨r, _, e, hm⟩ | ⟨_, e⟩
    · left; rw [e, e]; exact ⟨hm, rfl⟩
    · right; exact ⟨e w, e W⟩
  · obtain ⟨r, hr⟩ := sqrt_fin h1.2 (.inl h2)
    rcases hc with ⟨r, _, e, hm⟩ | ⟨e, _⟩
    · rw [e W]
      rw [e w] at ho ⊢
      refine ⟨bes_about l ho hm, ?_⟩
      rcases lohi_cases r l hm with ⟨e1, e2⟩ | ⟨k, hk, _, e1, e2⟩
      · rw [e1, e2]; exact ⟨ho, ho⟩
      · rw [e1, e2]
        have h1 : (ng r).toNat ≤ 1 := Bool.toNat_le _
        have h2 : (!ng r).toNat ≤ 1 := Bool.toNat_le _
        exact ⟨word_lt64 _ _ (by omega), word_lt64 _ _ (by omega)⟩
    · rw [hr] at e; cases e

set_option maxHeartbeats 4000000 in
theorem walk (a b : Nat) (w : World) (ha : a < 18446744073709551616) (hb : b < 18446744073709551616) :
    Calls Try.prog 7 #[.float .f64 a, .float .f64 b] w fun e w' => e = .returned (.bool true) ∧ Below w.heap.size w w' := by
  have HV := Lib.hid (fun W => alive_any W)
  have H1 := Lib.hid (fun W => add_any a b W ha hb)
  have H2 := Lib.hid (fun W => sub_any a b W ha hb)
  have H3 := Lib.hid (fun W => mul_any a b W ha hb)
  have H4 := Lib.hid (fun W => quo_any a b W ha hb)
  have H5 := Lib.hid (fun W => sqrtd_any a W ha)
  have H6 := Lib.hid (fun W => sqrt_any a W)
  have hadd := fun t W => run_add (P := Try.prog) t a b W
  have hsub := fun t W => run_sub (P := Try.prog) t a b W
  have hmul := fun t W => run_mul (P := Try.prog) t a b W
  have hquo := fun t W => run_quo (P := Try.prog) t a b W
  have HB := Lib.hid hb
  clear ha hb
  go_enter Try.func7, Try.ntmps7
  go_wp2_with fail
  refine (HV.out _).mono ?_
  rintro e w1 ⟨rfl, g1⟩
  go_wp2_with fail
  refine (H1.out _).mono ?_
  rintro e w2 ⟨d1, u1, rfl, g2, k1⟩
  have K1 := Lib.hid (fun W => add_bes k1 W); clear k1
  go_wp2_with fail
  refine (H2.out _).mono ?_
  rintro e w3 ⟨d2, u2, rfl, g3, k1⟩
  have K2 := Lib.hid (fun W => sub_bes HB.out k1 W); clear k1
  go_wp2_with fail
  refine (H3.out _).mono ?_
  rintro e w4 ⟨d3, u3, rfl, g4, k1⟩
  have K3 := Lib.hid (fun W => op_bes k1 (fun h => mul_fin h.1.2 h.2.2) W); clear k1
  go_wp2_with fail
  refine (H4.out _).mono ?_
  rintro e w5 ⟨d4, u4, rfl, g5, k1⟩
  have K4 := Lib.hid (fun W => op_bes k1 (fun h => div_fin h.1.2 h.2.2 h.2.1) W); clear k1
  go_wp2_with fail
  refine (H5.out _).mono ?_
  rintro e w6 ⟨d5, u5, rfl, g6, k1⟩
  have K5 := Lib.hid (fun W => sqrt_bes k1 W); clear k1
  have g : Below w.heap.size w w6 := by
    have a2 := g1.trans (g2.mono g1.size)
    have a3 := a2.trans (g3.mono a2.size)
    have a4 := a3.trans (g4.mono a3.size)
    have a5 := a4.trans (g5.mono a4.size)
    exact a5.trans (g6.mono a5.size)
  clear g1 g2 g3 g4 g5 g6
  go_wp2_with fail
  refine (beside_any _ _ _ _ (K1.out _).1 (K1.out w).2.1 (K1.out w).2.2).mono ?_
  rintro e w7 ⟨rfl, rfl⟩
  go_wp2_with fail
  refine (beside_any _ _ _ _ (K2.out _).1 (K2.out w).2.1 (K2.out w).2.2).mono ?_
  rintro e w7 ⟨rfl, rfl⟩
  go_wp2_with fail
  refine (beside_any _ _ _ _ (K3.out _).1 (K3.out w).2.1 (K3.out w).2.2).mono ?_
  rintro e w7 ⟨rfl, rfl⟩
  go_wp2_with fail
  refine (beside_any _ _ _ _ (K4.out _).1 (K4.out w).2.1 (K4.out w).2.2).mono ?_
  rintro e w7 ⟨rfl, rfl⟩
  go_wp2_with fail
  refine (H6.out _).mono ?_
  rintro e w7 ⟨rfl, rfl⟩
  go_wp2_with fail
  refine (beside_any _ _ _ _ (K5.out _).1 (K5.out w).2.1 (K5.out w).2.2).mono ?_
  rintro e w7 ⟨rfl, rfl⟩
  go_wp2
  go_ret
  exact ⟨rfl, by repeat (first | exact g | apply below_dn)⟩

theorem own : ownKnob Try.prog.godebug = none := by kernel_rfl
theorem lt64 {b : Nat} (h : (Lit.float .f64 b).wf = true) : b < 18446744073709551616 := by simpa [Lit.wf] using h

theorem lifted (os : Os) (started : os.Started) (H : Type) (enc : TypeId × Value → H) :
    ReturnsInHanded {} Try.checked os 7 .any (Rows.roundBesideSpec.pre6 enc Try.prog Try.f7 Rows.roundBesideRow.domain false) (Rows.roundBesideSpec.post enc Try.prog Try.f7 false true false false) := by
  refine returnsInHanded_of_change (C := Try.checked) own started (by kernel_rfl) Try.func7
    (ChangeSpec.witness6 (enc := enc) (C := Try.checked) false ⟨#[], #[.float .f64 0, .float .f64 0], []⟩ 8 (by kernel_rfl) (by kernel_rfl) (by kernel_rfl) (by kernel_rfl)) ?_
  intro W base args ds gs before hval0 hW hcnd _
  have hval : ∀ (j : Nat) t v, Try.f7.params[j]? = some t → args[j]? = some v → Value.okWide Try.prog W .any base t v := hval0
  have hW' := hW
  obtain ⟨p, q, hA0, hV, rfl, hfz, hnd⟩ := hW
  have hA : DataW.TrodAll enc Try.prog W 0 (fun _ => true) true Try.f7.params.toList args.toList ds p := hA0
  rw [Try.params7] at hA hval
  obtain ⟨v0, v1, d0, d1, p0, p1, rfl, rfl, rfl, h0, h1⟩ := trodAll_two hA
  obtain ⟨rfl, rfl⟩ := trodVars_none hV
  obtain ⟨a0, rfl, rfl, rfl, w0⟩ := open_float Try.underlying22 (hval 0 22 v0 rfl rfl) h0
  obtain ⟨a1, rfl, rfl, rfl, w1⟩ := open_float Try.underlying22 (hval 1 22 v1 rfl rfl) h1
  clear hA0 hval0
  simp only [List.append_nil] at hW'
  refine (walk a0 a1 W (lt64 w0) (lt64 w1)).mono fun e W' ⟨he, hg⟩ => ?_
  subst he
  exact ⟨_, rfl, post_made (pa := []) (pv := []) hW' hg (fun _ _ _ => (trodAll_cons_mk (shut_bool Try.underlying4 _) trodAll_mk0)) (fun sp _ => trodAll_mk2 (p := []) (p' := []) (shut_float Try.underlying22 w0) (shut_float Try.underlying22 w1)) (fun _ _ => rfl) rfl
    (ok_one (by kernel_rfl) rfl (okWide_bool_mk Try.underlying4 _))⟩

theorem over : Rows.roundBesideRow.holds Try.pinned (OpenSpec.ofChange Rows.roundBesideSpec) :=
  OpenClaim.holds_of_wide 7 Try.f7 rfl rfl rfl rfl rfl rfl rfl ⟨rfl, rfl, rfl, rfl, rfl⟩ rfl rfl rfl rfl rfl (by kernel_rfl) Try.func7 (by kernel_rfl)
    (of_decide_eq_true (by kernel_rfl)) (by unfold Func.isWrapper; first | (rw [if_pos (by decide +kernel)]; kernel_rfl) | (rw [if_neg (by decide +kernel)]; exact ⟨rfl, rfl⟩))
    (fun os started H enc _ => lifted os started H enc)

theorem proved : Rows.RoundBesideSaid := over
end Go.Proofs.Ytkcakljlpfmcfaa.roundBeside
