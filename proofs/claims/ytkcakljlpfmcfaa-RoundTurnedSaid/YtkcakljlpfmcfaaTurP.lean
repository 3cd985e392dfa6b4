/-
  For any two floats, finite or not, round's answers turn round where the signs are turned, do not hang on the order of sums and products, and a difference is the sum with the opposite (RoundTurned). No conditions.
-/
import Derived.Test.YtkcakljlpfmcfaaTur
import Derived.Test.YtkcakljlpfmcfaaAlv
import Derived.Test.YtkcakljlpfmcfaaPst
import Derived.ProofKit
import Derived.OpenShut
import Derived.SizedLaws
import Derived.Lib.SmallJoins
import Derived.Carry
namespace Go.Proofs.Ytkcakljlpfmcfaa.roundTurned
open Go.ChangeShapes Go.WideShapes Go.ChangeAt Go.RowKit Fl Ieee
set_option linter.unusedVariables false

set_option maxHeartbeats 1000000 in
theorem turned_any (d u e v : Nat) (w : World) (h : TurnOk d u e v) (he : e < 18446744073709551616) (hv : v < 18446744073709551616) : Calls Try.prog 27 #[.float .f64 d, .float .f64 u, .float .f64 e, .float .f64 v] w fun x w' => x = .returned (.bool true) ∧ w' = w := by
  have HD := Lib.hid (fun W => isNaN_any d W)
  have HU := Lib.hid (fun W => isNaN_any u W)
  have HE := Lib.hid (fun W => isNaN_any e W)
  have HV := Lib.hid (fun W => isNaN_any v W)
  have hn := run_ngf
  rcases h with ⟨h1, h2, h3, h4⟩ | ⟨h1, h2, h3, h4, h5, h6⟩
  · rw [decide_eq_true h1] at HD
    rw [decide_eq_true h2] at HU
    rw [decide_eq_true h3] at HE
    rw [decide_eq_true h4] at HV
    clear h1 h2 h3 h4 he hv
    go_enter Try.func27, Try.ntmps27
    go_wp2_with (go_at_call 47; first | (with_reducible refine (HD.out _).mono ?_; rintro e w' ⟨rfl, rfl⟩) | (with_reducible refine (HU.out _).mono ?_; rintro e w' ⟨rfl, rfl⟩) | (with_reducible refine (HE.out _).mono ?_; rintro e w' ⟨rfl, rfl⟩) | (with_reducible refine (HV.out _).mono ?_; rintro e w' ⟨rfl, rfl⟩))
    go_ret; exact ⟨rfl, rfl⟩
  · rw [decide_eq_false (by omega)] at HD
    rw [decide_eq_false (by omega)] at HE
    have kn : ∀ x, x < 18446744073709551616 → key (ngf x) = - key x := fun x hx => by
      unfold key; rw [(ngf_is hx).1, (ngf_is hx).2]; cases ng x <;> simp
    have e1 := ord_eq d (ngf v)
    have e2 := ord_eq u (ngf e)
    rw [decide_eq_true ⟨h1, by rw [(ngf_is hv).1]; exact h4, by rw [kn v hv]; exact h5⟩] at e1
    rw [decide_eq_true ⟨h2, by rw [(ngf_is he).1]; exact h3, by rw [kn e he]; exact h6⟩] at e2
    clear h1 h2 h3 h4 h5 h6 he hv kn HU HV
    go_enter Try.func27, Try.ntmps27
    go_wp2_with (go_at_call 47; first | (with_reducible refine (HD.out _).mono ?_; rintro e w' ⟨rfl, rfl⟩) | (with_reducible refine (HE.out _).mono ?_; rintro e w' ⟨rfl, rfl⟩))
    go_ret; exact ⟨rfl, rfl⟩

set_option maxHeartbeats 1000000 in
theorem sameFloat_any (a c : Nat) (w : World) (h : SamOk a c) : Calls Try.prog 37 #[.float .f64 a, .float .f64 c] w fun x w' => x = .returned (.bool true) ∧ w' = w := by
  have hfb := run_bits
  rcases h with rfl | ⟨h1, h2⟩
  · go_enter Try.func37, Try.ntmps37
    go_wp2
    go_ret; exact ⟨rfl, rfl⟩
  · have HA := Lib.hid (fun W => isNaN_any a W)
    have HC := Lib.hid (fun W => isNaN_any c W)
    rw [decide_eq_true h1] at HA
    rw [decide_eq_true h2] at HC
    clear h1 h2
    by_cases hac : a = c
    · subst hac
      go_enter Try.func37, Try.ntmps37
      go_wp2
      go_ret; exact ⟨rfl, rfl⟩
    · have hne : ((a : Int) == (c : Int)) = false := beq_false_of_ne (by omega)
      clear hac
      go_enter Try.func37, Try.ntmps37
      go_wp2_with (go_at_call 47; first | (with_reducible refine (HA.out _).mono ?_; rintro e w' ⟨rfl, rfl⟩) | (with_reducible refine (HC.out _).mono ?_; rintro e w' ⟨rfl, rfl⟩))
      go_ret; exact ⟨rfl, rfl⟩
theorem same_any (a b c d : Nat) (w : World) (h : SamOk a c ∧ SamOk b d) : Calls Try.prog 13 #[.float .f64 a, .float .f64 b, .float .f64 c, .float .f64 d] w fun x w' => x = .returned (.bool true) ∧ w' = w := by
  have H1 := Lib.hid (fun W => sameFloat_any a c W h.1)
  have H2 := Lib.hid (fun W => sameFloat_any b d W h.2)
  clear h
  go_enter Try.func13, Try.ntmps13
  go_wp2_with fail
  refine (H1.out _).mono ?_
  rintro e w1 ⟨rfl, rfl⟩
  go_wp2_with fail
  refine (H2.out _).mono ?_
  rintro e w1 ⟨rfl, rfl⟩
  go_wp2
  go_ret; exact ⟨rfl, rfl⟩

theorem lohi_lt {o : Nat} (l : Nat) (ho : o < 18446744073709551616) (hm : mg o ≤ 9218868437227405312) : lo o l < 18446744073709551616 ∧ hi o l < 18446744073709551616 := by
  rcases lohi_cases o l hm with ⟨e1, e2⟩ | ⟨k, hk, _, e1, e2⟩
  · rw [e1, e2]; exact ⟨ho, ho⟩
  · rw [e1, e2]
    have h1 : (ng o).toNat ≤ 1 := Bool.toNat_le _
    have h2 : (!ng o).toNat ≤ 1 := Bool.toNat_le _
    exact ⟨word_lt64 _ _ (by omega), word_lt64 _ _ (by omega)⟩
theorem add_lt64 {a b d u : Nat} {w : World} (h : AddIs a b (fop .add a b w) d u) : d < 18446744073709551616 ∧ u < 18446744073709551616 := by
  have ho := fop_lt .add a b w
  rcases h with ⟨_, rfl, rfl⟩ | ⟨p, q, _, l, _, rfl, rfl⟩
  · exact ⟨ho, ho⟩
  · obtain ⟨r, hr⟩ := add_fin p.2 q.2
    rw [(add_fop hr w).1] at ho ⊢
    exact lohi_lt l ho (add_told hr).1
theorem op_lt64 {op : BinOp} {a b d u : Nat} {w : World} {L : Nat → Prop} (h : OpIs a b (fop op a b w) L d u) (hf : Pl a ∧ Pl b → ∃ r, floatBits op .f64 a b = some r ∧ mg r ≤ 9218868437227405312) : d < 18446744073709551616 ∧ u < 18446744073709551616 := by
  have ho := fop_lt op a b w
  rcases h with ⟨_, rfl, rfl⟩ | ⟨p, q, l, _, rfl, rfl⟩
  · exact ⟨ho, ho⟩
  · obtain ⟨r, hr, hm⟩ := hf ⟨p, q⟩
    rw [(fop_some hr w).1] at ho ⊢
    exact lohi_lt l ho hm

set_option maxHeartbeats 8000000 in
theorem walk (a b : Nat) (w : World) (ha : a < 18446744073709551616) (hb : b < 18446744073709551616) :
    Calls Try.prog 8 #[.float .f64 a, .float .f64 b] w fun e w' => e = .returned (.bool true) ∧ Below w.heap.size w w' := by
  have na := ngf_lt ha
  have nb := ngf_lt hb
  have HV := Lib.hid (fun W => alive_any W)
  have H1 := Lib.hid (fun W => add_any a b W ha hb)
  have H2 := Lib.hid (fun W => add_any (ngf a) (ngf b) W na nb)
  have H3 := Lib.hid (fun W => add_any b a W hb ha)
  have H4 := Lib.hid (fun W => mul_any a b W ha hb)
  have H5 := Lib.hid (fun W => mul_any (ngf a) b W na hb)
  have H6 := Lib.hid (fun W => mul_any b a W hb ha)
  have H7 := Lib.hid (fun W => quo_any a b W ha hb)
  have H8 := Lib.hid (fun W => quo_any a (ngf b) W ha nb)
  have H9 := Lib.hid (fun W => sub_any a (ngf b) W ha nb)
  rw [ngf_ngf hb] at H9
  have hn := run_ngf
  have HL := Lib.hid (And.intro ha hb)
  clear ha hb na nb
  go_enter Try.func8, Try.ntmps8
  go_wp2_with fail
  refine (HV.out _).mono ?_
  rintro e w0 ⟨rfl, g⟩
  go_wp2_with fail
  refine (H1.out _).mono ?_
  rintro e w1 ⟨d1, u1, rfl, q, k⟩
  have K1 := Lib.hid k
  have g := g.trans (q.mono g.size)
  clear k q H1
  go_wp2_with fail
  refine (H2.out _).mono ?_
  rintro e w2 ⟨d2, u2, rfl, q, k⟩
  have K2 := Lib.hid k
  have g := g.trans (q.mono g.size)
  clear k q H2
  go_wp2_with fail
  refine (H3.out _).mono ?_
  rintro e w3 ⟨d3, u3, rfl, q, k⟩
  have K3 := Lib.hid k
  have g := g.trans (q.mono g.size)
  clear k q H3
  go_wp2_with fail
  refine (H4.out _).mono ?_
  rintro e w4 ⟨d4, u4, rfl, q, k⟩
  have K4 := Lib.hid k
  have g := g.trans (q.mono g.size)
  clear k q H4
  go_wp2_with fail
  refine (H5.out _).mono ?_
  rintro e w5 ⟨d5, u5, rfl, q, k⟩
  have K5 := Lib.hid k
  have g := g.trans (q.mono g.size)
  clear k q H5
  go_wp2_with fail
  refine (H6.out _).mono ?_
  rintro e w6 ⟨d6, u6, rfl, q, k⟩
  have K6 := Lib.hid k
  have g := g.trans (q.mono g.size)
  clear k q H6
  go_wp2_with fail
  refine (H7.out _).mono ?_
  rintro e w7 ⟨d7, u7, rfl, q, k⟩
  have K7 := Lib.hid k
  have g := g.trans (q.mono g.size)
  clear k q H7
  go_wp2_with fail
  refine (H8.out _).mono ?_
  rintro e w8 ⟨d8, u8, rfl, q, k⟩
  have K8 := Lib.hid k
  have g := g.trans (q.mono g.size)
  clear k q H8
  go_wp2_with fail
  refine (H9.out _).mono ?_
  rintro e w9 ⟨d9, u9, rfl, q, k⟩
  have K9 := Lib.hid k
  have g := g.trans (q.mono g.size)
  clear k q H9
  have t1 := add_turn HL.out.1 HL.out.2 K1.out K2.out
  have t2 := mul_turn HL.out.1 HL.out.2 K4.out K5.out
  have t3 := quo_turn HL.out.1 HL.out.2 K7.out K8.out
  have s1 := add_swap HL.out.1 HL.out.2 K1.out K3.out
  have s2 := mul_swap HL.out.1 HL.out.2 K4.out K6.out
  have s3 := add_same K1.out K9.out
  have l1 := add_lt64 K2.out
  have l2 := op_lt64 K5.out (fun h => by obtain ⟨r, hr⟩ := mul_fin h.1.2 h.2.2; exact ⟨r, hr, (mul_told hr).1⟩)
  have l3 := op_lt64 K8.out (fun h => by obtain ⟨r, hr⟩ := div_fin h.1.2 h.2.2 h.2.1; exact ⟨r, hr, (div_told hr).1⟩)
  have T1 := Lib.hid (fun W => turned_any _ _ _ _ W t1 l1.1 l1.2)
  have T2 := Lib.hid (fun W => turned_any _ _ _ _ W t2 l2.1 l2.2)
  have T3 := Lib.hid (fun W => turned_any _ _ _ _ W t3 l3.1 l3.2)
  have S1 := Lib.hid (fun W => same_any _ _ _ _ W s1)
  have S2 := Lib.hid (fun W => same_any _ _ _ _ W s2)
  have S3 := Lib.hid (fun W => same_any _ _ _ _ W s3)
  clear t1 t2 t3 s1 s2 s3 l1 l2 l3 K1 K2 K3 K4 K5 K6 K7 K8 K9
  go_wp2_with fail
  refine (T1.out _).mono ?_
  rintro e w10 ⟨rfl, rfl⟩
  go_wp2_with fail
  refine (T2.out _).mono ?_
  rintro e w10 ⟨rfl, rfl⟩
  go_wp2_with fail
  refine (T3.out _).mono ?_
  rintro e w10 ⟨rfl, rfl⟩
  go_wp2_with fail
  refine (S1.out _).mono ?_
  rintro e w10 ⟨rfl, rfl⟩
  go_wp2_with fail
  refine (S2.out _).mono ?_
  rintro e w10 ⟨rfl, rfl⟩
  go_wp2_with fail
  refine (S3.out _).mono ?_
  rintro e w10 ⟨rfl, rfl⟩
  go_wp2
  go_ret
  exact ⟨rfl, g⟩

theorem own : ownKnob Try.prog.godebug = none := by kernel_rfl
theorem lt64 {b : Nat} (h : (Lit.float .f64 b).wf = true) : b < 18446744073709551616 := by simpa [Lit.wf] using h

theorem lifted (os : Os) (started : os.Started) (H : Type) (enc : TypeId × Value → H) :
    ReturnsInHanded {} Try.checked os 8 .any (Rows.roundTurnedSpec.pre6 enc Try.prog Try.f8 Rows.roundTurnedRow.domain false) (Rows.roundTurnedSpec.post enc Try.prog Try.f8 false true false false) := by
  refine returnsInHanded_of_change (C := Try.checked) own started (by kernel_rfl) Try.func8
    (ChangeSpec.witness6 (enc := enc) (C := Try.checked) false ⟨#[], #[.float .f64 0, .float .f64 0], []⟩ 8 (by kernel_rfl) (by kernel_rfl) (by kernel_rfl) (by kernel_rfl)) ?_
  intro W base args ds gs before hval0 hW hcnd _
  have hval : ∀ (j : Nat) t v, Try.f8.params[j]? = some t → args[j]? = some v → Value.okWide Try.prog W .any base t v := hval0
  have hW' := hW
  obtain ⟨p, q, hA0, hV, rfl, hfz, hnd⟩ := hW
  have hA : DataW.TrodAll enc Try.prog W 0 (fun _ => true) true Try.f8.params.toList args.toList ds p := hA0
  rw [Try.params8] at hA hval
  obtain ⟨v0, v1, d0, d1, p0, p1, rfl, rfl, rfl, h0, h1⟩ := trodAll_two hA
  obtain ⟨rfl, rfl⟩ := trodVars_none hV
  obtain ⟨a0, rfl, rfl, rfl, w0⟩ := open_float Try.underlying22 (hval 0 22 v0 rfl rfl) h0
  obtain ⟨a1, rfl, rfl, rfl, w1⟩ := open_float Try.underlying22 (hval 1 22 v1 rfl rfl) h1
  clear hA0 hval0
  simp only [List.append_nil] at hW'
  refine (walk a0 a1 W (lt64 w0) (lt64 w1)).mono fun e W' ⟨he, hg⟩ => ?_
  subst he
  exact ⟨_, rfl, post_made (pa := []) (pv := []) hW' hg (fun _ _ _ => (trodAll_cons_mk (shut_bool Try.underlying4 _) trodAll_mk0)) (fun sp _ => trodAll_mk2 (p := []) (p' := []) (shut_float Try.underlying22 w0) (shut_float Try.underlying22 w1)) (fun _ _ => rfl) rfl
    (ok_one (by kernel_rfl) rfl (okWide_bool_mk Try.underlying4 _))⟩

theorem over : Rows.roundTurnedRow.holds Try.pinned (OpenSpec.ofChange Rows.roundTurnedSpec) :=
  OpenClaim.holds_of_wide 8 Try.f8 rfl rfl rfl rfl rfl rfl rfl ⟨rfl, rfl, rfl, rfl, rfl⟩ rfl rfl rfl rfl rfl (by kernel_rfl) Try.func8 (by kernel_rfl)
    (of_decide_eq_true (by kernel_rfl)) (by unfold Func.isWrapper; first | (rw [if_pos (by decide +kernel)]; kernel_rfl) | (rw [if_neg (by decide +kernel)]; exact ⟨rfl, rfl⟩))
    (fun os started H enc _ => lifted os started H enc)

theorem proved : Rows.RoundTurnedSaid := over
end Go.Proofs.Ytkcakljlpfmcfaa.roundTurned
