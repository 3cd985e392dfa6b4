/-
  Of any two finite floats the exact sum, difference, product and quotient lie between what round answers, and are these just where both are the same; a root's square likewise (RoundExact). No conditions.
-/
import Derived.Test.YtmcnhgakaodafaaGreatRea
import Derived.Test.YtmcnhgakaodafaaGreatReb
import Derived.Test.YtmcnhgakaodafaaGreatRec
import Derived.Test.YtmcnhgakaodafaaGreatRed
import Derived.Test.YtmcnhgakaodafaaGreatPst
import Derived.ProofKit
import Derived.OpenShut
import Derived.SizedLaws
import Derived.Lib.SmallJoins
import Derived.Carry
namespace Go.Proofs.YtmcnhgakaodafaaGreat
open Go.RowKit Nb Fl Ieee

theorem roundExact_fin {a b : Nat} {w : World} (ha : a < 18446744073709551616) (fa : mg a < 9218868437227405312) (hb : b < 18446744073709551616) (fb : mg b < 9218868437227405312) :
    Calls Tryz.prog 3 #[.float .f64 a, .float .f64 b] w (fun e w' => e = .returned (.bool true) ∧ Below w.heap.size w w') := by
  cases hbz : (FloatKind.f64.format.order b 0 == some .eq)
  · cases hneg : (FloatKind.f64.format.order a 0 == some .lt)
    · exact roundExact_d ha fa hb fb hbz hneg
    · exact roundExact_c ha fa hb fb hbz hneg
  · cases hneg : (FloatKind.f64.format.order a 0 == some .lt)
    · exact roundExact_b ha fa hb fb hbz hneg
    · exact roundExact_a ha fa hb fb hbz hneg
theorem sub_none {s : Nat} (h : 9218868437227405312 ≤ mg s) : double.sub s s = none := by
  unfold Format.sub
  rcases Nat.lt_or_eq_of_le h with k | k
  · rw [read_nan s k]; rfl
  · rw [read_inf s k.symm]
    cases ng s <;> rfl
theorem nan_sub {s : Nat} (h : 9218868437227405312 ≤ mg s) (W X : World) : Calls Tryz.prog 7 #[.float .f64 (fop .sub s s W)] X fun e w' => e = .returned (.bool true) ∧ w' = X := by
  have := isNaN_any (fop .sub s s W) X
  rwa [decide_eq_true (nan_all (op := .sub) (sub_none h) W)] at this
theorem fin_sub {s : Nat} (h : mg s < 9218868437227405312) (W X : World) : Calls Tryz.prog 7 #[.float .f64 (fop .sub s s W)] X fun e w' => e = .returned (.bool false) ∧ w' = X := by
  have h2 := isNaN_any (fop .sub s s W) X
  obtain ⟨r, hr⟩ := sub_fin h h
  have h3 := (sub_told hr).1
  rw [(sub_fop hr W).1] at h2 ⊢
  rwa [decide_eq_false (by omega)] at h2
set_option maxHeartbeats 3200000 in
set_option maxRecDepth 20000 in
theorem roundExact_no {a b : Nat} {w : World} (ha : a < 18446744073709551616) (hb : b < 18446744073709551616) (hn : 9218868437227405312 ≤ mg a ∨ 9218868437227405312 ≤ mg b) :
    Calls Tryz.prog 3 #[.float .f64 a, .float .f64 b] w (fun e w' => e = .returned (.bool true) ∧ Below w.heap.size w w') := by
  have hsub := fun t x y W => run_sub (P := Tryz.prog) t x y W
  obtain ⟨V, e1, hb1, K1, -, -⟩ := alloc_new w [.float .f64 a, .float .f64 b] 22
  have HW := Lib.hid (worth2_no K1 ha hb hn)
  have BW : Below w.heap.size w V := hb1
  clear hb1 K1 ha hb
  rcases Nat.lt_or_ge (mg a) 9218868437227405312 with fa | fa
  · have HT := Lib.hid (fin_sub fa)
    have HU := Lib.hid (nan_sub (s := b) (by omega))
    clear fa hn
    go_enter Tryz.func3, Tryz.ntmps3
    go_wp2_with fail
    rw [← e1]
    clear e1
    refine HW.out.mono ?_
    rintro _ w2 ⟨rfl, hb⟩
    replace BW := BW.trans (hb.mono BW.size)
    clear hb HW
    go_wp2_with fail
    refine (alive_any _).mono ?_
    rintro _ w3 ⟨rfl, hb⟩
    replace BW := BW.trans (hb.mono BW.size)
    clear hb
    go_wp2_with fail
    refine (alive_any _).mono ?_
    rintro _ w4 ⟨rfl, hb⟩
    replace BW := BW.trans (hb.mono BW.size)
    clear hb
    have BD : Hid (∀ n : Nat, Below w.heap.size w (w4.drewN n)) := Lib.hid (fun n => below_dn BW n)
    clear BW
    go_wp2_with fail
    refine (HT.out _ _).mono ?_
    rintro _ w5 ⟨rfl, rfl⟩
    clear HT
    go_wp2_with fail
    refine (HU.out _ _).mono ?_
    rintro _ w6 ⟨rfl, rfl⟩
    clear HU
    go_wp2
    go_ret
    exact ⟨rfl, BD.out _⟩
  · have HT := Lib.hid (nan_sub fa)
    clear fa hn
    go_enter Tryz.func3, Tryz.ntmps3
    go_wp2_with fail
    rw [← e1]
    clear e1
    refine HW.out.mono ?_
    rintro _ w2 ⟨rfl, hb⟩
    replace BW := BW.trans (hb.mono BW.size)
    clear hb HW
    go_wp2_with fail
    refine (alive_any _).mono ?_
    rintro _ w3 ⟨rfl, hb⟩
    replace BW := BW.trans (hb.mono BW.size)
    clear hb
    go_wp2_with fail
    refine (alive_any _).mono ?_
    rintro _ w4 ⟨rfl, hb⟩
    replace BW := BW.trans (hb.mono BW.size)
    clear hb
    have BD : Hid (∀ n : Nat, Below w.heap.size w (w4.drewN n)) := Lib.hid (fun n => below_dn BW n)
    clear BW
    go_wp2_with fail
    refine (HT.out _ _).mono ?_
    rintro _ w5 ⟨rfl, rfl⟩
    clear HT
    go_wp2
    go_ret
    exact ⟨rfl, BD.out _⟩
theorem roundExact_walk (a b : Nat) (w : World) (ha : a < 18446744073709551616) (hb : b < 18446744073709551616) :
    Calls Tryz.prog 3 #[.float .f64 a, .float .f64 b] w (fun e w' => e = .returned (.bool true) ∧ Below w.heap.size w w') := by
  by_cases h : mg a < 9218868437227405312 ∧ mg b < 9218868437227405312
  · exact roundExact_fin ha h.1 hb h.2
  · exact roundExact_no ha hb (by omega)
end Go.Proofs.YtmcnhgakaodafaaGreat

namespace Go.Proofs.YtmcnhgakaodafaaGreat.roundExact
open Go.ChangeShapes Go.WideShapes Go.ChangeAt Go.RowKit Fl
set_option linter.unusedVariables false

theorem own : ownKnob Tryz.prog.godebug = none := by kernel_rfl
theorem wf64 {b : Nat} (h : (Lit.float .f64 b).wf = true) : b < 18446744073709551616 := by simpa [Lit.wf] using h
set_option maxRecDepth 100000 in
theorem lifted (os : Os) (started : os.Started) (H : Type) (enc : TypeId × Value → H) :
    ReturnsInHanded {} Tryz.checked os 3 .any (Rows.roundExactSpec.pre6 enc Tryz.prog Tryz.f3 Rows.roundExactRow.domain false) (Rows.roundExactSpec.post enc Tryz.prog Tryz.f3 false true false false) := by
  refine returnsInHanded_of_change (C := Tryz.checked) own started (by kernel_rfl) Tryz.func3
    (ChangeSpec.witness6 (enc := enc) (C := Tryz.checked) false ⟨#[], #[.float .f64 0, .float .f64 0], []⟩ 8 (by kernel_rfl) (by kernel_rfl) (by kernel_rfl) (by kernel_rfl)) ?_
  intro W base args ds gs before hval0 hW hcnd _
  have hval : ∀ (j : Nat) t v, Tryz.f3.params[j]? = some t → args[j]? = some v → Value.okWide Tryz.prog W .any base t v := hval0
  have hW' := hW
  obtain ⟨p, q, hA0, hV, rfl, hfz, hnd⟩ := hW
  have hA : DataW.TrodAll enc Tryz.prog W 0 (fun _ => true) true Tryz.f3.params.toList args.toList ds p := hA0
  rw [Tryz.params3] at hA hval
  obtain ⟨v0, v1, d0, d1, p0, p1, rfl, rfl, rfl, h0, h1⟩ := trodAll_two hA
  obtain ⟨rfl, rfl⟩ := trodVars_none hV
  obtain ⟨a0, rfl, rfl, rfl, k0⟩ := open_float Tryz.underlying22 (hval 0 22 v0 rfl rfl) h0
  obtain ⟨a1, rfl, rfl, rfl, k1⟩ := open_float Tryz.underlying22 (hval 1 22 v1 rfl rfl) h1
  clear hA0 hval0
  simp only [List.append_nil] at hW'
  refine (roundExact_walk a0 a1 W (wf64 k0) (wf64 k1)).mono fun e W' ⟨he, hg⟩ => ?_
  subst he
  exact ⟨_, rfl, post_made (pa := []) (pv := []) hW' hg (fun _ _ _ => (trodAll_cons_mk (shut_bool Tryz.underlying4 _) trodAll_mk0)) (fun sp _ => trodAll_mk2 (p := []) (p' := []) (shut_float Tryz.underlying22 k0) (shut_float Tryz.underlying22 k1)) (fun _ _ => rfl) rfl
    (ok_one (by kernel_rfl) rfl (okWide_bool_mk Tryz.underlying4 _))⟩

set_option maxRecDepth 100000 in
theorem over : Rows.roundExactRow.holds Tryz.pinned (OpenSpec.ofChange Rows.roundExactSpec) :=
  OpenClaim.holds_of_wide 3 Tryz.f3 rfl rfl rfl rfl rfl rfl rfl ⟨rfl, rfl, rfl, rfl, rfl⟩ rfl rfl rfl rfl rfl (by kernel_rfl) Tryz.func3 (by kernel_rfl)
    (of_decide_eq_true (by kernel_rfl)) (by unfold Func.isWrapper; first | (rw [if_pos (by decide +kernel)]; kernel_rfl) | (rw [if_neg (by decide +kernel)]; exact ⟨rfl, rfl⟩))
    (fun os started H enc _ => lifted os started H enc)

theorem proved : Rows.RoundExactSaid := over
end Go.Proofs.YtmcnhgakaodafaaGreat.roundExact
