/-
  For every number of 64 bits the program's Of, Check, Int64, Sign and Bits answer as the document's plain functions do, and Int64 leads back (WholeSmall). No conditions.
-/
import Derived.Test.YtdfbakdfakijbaaWhole
import Derived.ProofKit
import Derived.OpenShut
import Derived.Deep.RegionHeld3
import Derived.Test.YtdfbakdfakijbaaPost
namespace Go.Proofs.Ytdfbakdfakijbaa.wholeSmall
open Go.ChangeShapes Go.WideShapes Go.ChangeAt Go.RowKit Nb
set_option linter.unusedVariables false

theorem own : ownKnob Try.prog.godebug = none := by kernel_rfl

/-- What stays while the statement's last line is reckoned: both numbers, in their cells. -/
structure Stay (w W : World) (neg : Bool) (A B : Option Addr) (ls : List Nat) (c d : Nat) (p q : Nat) : Prop where
  below : Below w.heap.size w W
  big : q < W.heap.size
  sa : Sl .u32 W W.heap.size A ls
  sb : Sl .u32 W W.heap.size B ls
  a0 : W.cell? ⟨p, 0, none⟩ = some (.bool neg)
  a1 : W.cell? ⟨p, 1, none⟩ = some (.slice A ls.length c)
  b0 : W.cell? ⟨q, 0, none⟩ = some (.bool neg)
  b1 : W.cell? ⟨q, 1, none⟩ = some (.slice B ls.length d)
theorem Stay.on {w W W' : World} {neg : Bool} {A B : Option Addr} {ls : List Nat} {c d p q : Nat} (h : Stay w W neg A B ls c d p q) (hb : Below W.heap.size W W') (hp : p < W.heap.size) : Stay w W' neg A B ls c d p q :=
  ⟨h.below.trans (hb.mono h.below.size), Nat.lt_of_lt_of_le h.big hb.size, (h.sa.below hb).more hb.size, (h.sb.below hb).more hb.size,
   (hb.cell (p := ⟨p, 0, none⟩) hp).trans h.a0, (hb.cell (p := ⟨p, 1, none⟩) hp).trans h.a1, (hb.cell (p := ⟨q, 0, none⟩) h.big).trans h.b0, (hb.cell (p := ⟨q, 1, none⟩) h.big).trans h.b1⟩

theorem Stay.keep {w W W' : World} {neg : Bool} {A B : Option Addr} {ls : List Nat} {c d p q : Nat} (h : Stay w W neg A B ls c d p q) (hb : Below W.heap.size W W') (hp : p < q) :
    Stay w W' neg A B ls c d p q ∧ W'.cell? ⟨p, 0, none⟩ = some (.bool neg) ∧ W'.cell? ⟨p, 1, none⟩ = some (.slice A ls.length c) ∧ W'.cell? ⟨q, 0, none⟩ = some (.bool neg) ∧ W'.cell? ⟨q, 1, none⟩ = some (.slice B ls.length d) :=
  have k := h.on hb (Nat.lt_trans hp h.big)
  ⟨k, k.a0, k.a1, k.b0, k.b1⟩

theorem Stay.keep' {w W W' : World} {neg : Bool} {A B : Option Addr} {ls : List Nat} {c d p q : Nat} {X : Prop} (h : Stay w W neg A B ls c d p q ∧ X) (hb : Below W.heap.size W W') (hp : p < q) :
    Stay w W' neg A B ls c d p q ∧ W'.cell? ⟨p, 0, none⟩ = some (.bool neg) ∧ W'.cell? ⟨p, 1, none⟩ = some (.slice A ls.length c) ∧ W'.cell? ⟨q, 0, none⟩ = some (.bool neg) ∧ W'.cell? ⟨q, 1, none⟩ = some (.slice B ls.length d) := h.1.keep hb hp
theorem Stay.sa' {w W : World} {neg : Bool} {A B : Option Addr} {ls : List Nat} {c d p q : Nat} {X : Prop} (h : Stay w W neg A B ls c d p q ∧ X) : Sl .u32 W W.heap.size A ls := h.1.sa
theorem Stay.sb' {w W : World} {neg : Bool} {A B : Option Addr} {ls : List Nat} {c d p q : Nat} {X : Prop} (h : Stay w W neg A B ls c d p q ∧ X) : Sl .u32 W W.heap.size B ls := h.1.sb
theorem Stay.below' {w W : World} {neg : Bool} {A B : Option Addr} {ls : List Nat} {c d p q : Nat} {X : Prop} (h : Stay w W neg A B ls c d p q ∧ X) : Below w.heap.size w W := h.1.below
theorem lit_bounds {a : Int} (h : (Lit.int .i64 a).wf = true) : -9223372036854775808 ≤ a ∧ a ≤ 9223372036854775807 := by
  simp [Lit.wf, IntKind.min, IntKind.max, IntKind.signed, IntKind.bits] at h; omega

set_option maxHeartbeats 1000000 in
theorem walk (a0 : Int) (w0 : (Lit.int .i64 a0).wf = true) (w : World) :
    Calls Try.prog 3 #[.int .i64 a0] w fun e w' => e = .returned (.bool true) ∧ Below w.heap.size w w' := by
  obtain ⟨h0, h1⟩ := lit_bounds w0
  clear w0
  have hln := ofI_len h0 h1
  have hok := ofI_ok h0 h1
  have hz : a0 = sv (decide (a0 < 0)) (val W32 (ofI a0)) := by
    rw [ofI_val h0 h1]; unfold sv
    by_cases h : a0 < 0
    · simp [h]; omega
    · simp [h]; omega
  have HZ := Lib.hid hz; clear hz
  go_enter Try.func3, Try.ntmps3
  go_wp2_with fail
  refine (of_any a0 _ h0 h1).mono ?_
  rintro e w1 ⟨A, c, rfl, hsA, hcA, hc2, hb1⟩
  go_wp2_with fail
  refine (rof_any a0 _ h0 h1).mono ?_
  rintro e w2 ⟨B, d, rfl, hsB, hcB, hd2, hb2⟩
  have hz1 : w1.heap.size + 1 ≤ w2.heap.size := by have := hb2.size; simpa using this
  have c0 : w2.cell? ⟨w1.heap.size, 0, none⟩ = some (.bool (decide (a0 < 0))) := by rw [hb2.cell (by go_size)]; go_cell
  have c1 : w2.cell? ⟨w1.heap.size, 1, none⟩ = some (.slice A (ofI a0).length c) := by rw [hb2.cell (by go_size)]; go_cell
  have hst : Stay w (w2.alloc (.cells #[.bool (decide (a0 < 0)), .slice B (ofI a0).length d] 24)) (decide (a0 < 0)) A B (ofI a0) c d w1.heap.size w2.heap.size := by
    have hbA : Below w1.heap.size w1 w2 := by refine Below.trans ?_ (hb2.mono (by go_size)); go_grown
    have hb12 := hbA.mono hb1.size
    have hs1 := hb1.size
    refine ⟨(hb1.trans hb12).alloc (by omega) _, by simp, ?_, ?_, ?_, ?_, ?_, ?_⟩
    · exact (((hsA.below hbA).more (by omega)).alloc (Nat.le_refl _) _).more (by simp)
    · exact (hsB.alloc (Nat.le_refl _) _).more (by simp)
    · rw [World.cell?_alloc_lt _ _ _ (by simp; omega)]; exact c0
    · rw [World.cell?_alloc_lt _ _ _ (by simp; omega)]; exact c1
    · go_cell
    · go_cell
  have q0 := hst.a0
  have q1 := hst.a1
  have r0 := hst.b0
  have r1 := hst.b1
  go_wp2_with fail
  generalize w2.alloc (.cells #[.bool (decide (a0 < 0)), .slice B (ofI a0).length d] 24) = W at *
  generalize w1.heap.size = p at *
  generalize w2.heap.size = q at *
  clear hsA hsB hb1 hb2 c0 c1
  refine (wint64_yes _ A (ofI a0) c _ hst.sa (ofI_dig a0) hok a0 HZ.out h0 h1).mono ?_
  rintro e w3 ⟨rfl, hb3⟩
  have hst3 := hst.on hb3 (by have := hst.big; omega)
  clear q0 q1 r0 r1 hst
  have q0 := hst3.a0
  have q1 := hst3.a1
  have r0 := hst3.b0
  have r1 := hst3.b1
  go_wp2_with fail
  have hpq : p < q := by omega
  have hs2 : rsgn (decide (a0 < 0)) (ofI a0) = sgn (decide (a0 < 0)) (ofI a0) := rsgn_ok hok
  have HS2 := Lib.hid hs2; clear hs2
  go_region_held3 (fun w' => Stay w w' (decide (a0 < 0)) A B (ofI a0) c d p q ∧ w'.cell? ⟨p, 0, none⟩ = some (.bool (decide (a0 < 0))) ∧ w'.cell? ⟨p, 1, none⟩ = some (.slice A (ofI a0).length c) ∧ w'.cell? ⟨q, 0, none⟩ = some (.bool (decide (a0 < 0))) ∧ w'.cell? ⟨q, 1, none⟩ = some (.slice B (ofI a0).length d))
    (first | exact ⟨hst3, q0, q1, r0, r1⟩ | exact Stay.keep hst3 ((Below.refl _ _).drew) hpq | exact Stay.keep' (by assumption) (by assumption) hpq | exact Stay.keep' (by assumption) ((Below.refl _ _).drew) hpq)
    (first
      | (go_at_call 8; refine (same_yes (decide (a0 < 0)) A B (ofI a0) c d _ (Stay.sa' (by assumption)) (Stay.sb' (by assumption)) (by omega)).mono ?_; rintro e w' ⟨rfl, hb⟩)
      | (go_at_call 9; refine (check_ok (decide (a0 < 0)) A (ofI a0) c _ (Stay.sa' (by assumption)) hok).mono ?_; rintro e w' ⟨rfl, hb⟩)
      | (go_at_call 10; refine (wsign_ok (decide (a0 < 0)) A (ofI a0) c _ (Stay.sa' (by assumption)) (ofI_dig a0) hok).mono ?_; rintro e w' ⟨rfl, hb⟩)
      | (go_at_call 11; refine (rsign_any (decide (a0 < 0)) B (ofI a0) d _ (by omega)).mono ?_; rw [HS2.out]; rintro e w' ⟨rfl, hb⟩)
      | (go_at_call 12; refine (wbits_ok (decide (a0 < 0)) A (ofI a0) c _ (Stay.sa' (by assumption)) (ofI_dig a0) hok).mono ?_; rintro e w' ⟨rfl, hb⟩)
      | (go_at_call 13; refine (rbits_any (decide (a0 < 0)) B (ofI a0) d _ (Stay.sb' (by assumption)) (ofI_dig a0) hok.norm (by omega)).mono ?_; rintro e w' ⟨rfl, hb⟩))
  go_wp2
  go_ret
  exact ⟨rfl, Stay.below' (by assumption)⟩

set_option maxRecDepth 100000 in
theorem lifted (os : Os) (started : os.Started) (H : Type) (enc : TypeId × Value → H) :
    ReturnsInHanded {} Try.checked os 3 .any (Rows.wholeSmallSpec.pre6 enc Try.prog Try.f3 Rows.wholeSmallRow.domain false) (Rows.wholeSmallSpec.post enc Try.prog Try.f3 false true false false) := by
  refine returnsInHanded_of_change (C := Try.checked) own started (by kernel_rfl) Try.func3
    (ChangeSpec.witness6 (enc := enc) (C := Try.checked) false ⟨#[], #[.int .i64 0], []⟩ 8 (by kernel_rfl) (by kernel_rfl) (by kernel_rfl) (by kernel_rfl)) ?_
  intro W base args ds gs before hval0 hW hcnd _
  have hval : ∀ (j : Nat) t v, Try.f3.params[j]? = some t → args[j]? = some v → Value.okWide Try.prog W .any base t v := hval0
  have hW' := hW
  obtain ⟨p, q, hA0, hV, rfl, hfz, hnd⟩ := hW
  have hA : DataW.TrodAll enc Try.prog W 0 (fun _ => true) true Try.f3.params.toList args.toList ds p := hA0
  rw [Try.params3] at hA hval
  obtain ⟨v0, vs0, d0, ds0, p0, q0, hargs, rfl, rfl, h0, r0⟩ := trodAll_cons hA
  obtain ⟨rfl, rfl, rfl⟩ := trodAll_nil r0
  obtain rfl : args = #[v0] := by cases args; simp_all
  obtain ⟨rfl, rfl⟩ := trodVars_none hV
  obtain ⟨a0, rfl, rfl, rfl, w0⟩ := open_int Try.underlying2 (hval 0 2 v0 rfl rfl) h0
  clear hA0 hval0
  simp only [List.append_nil] at hW'
  refine (walk a0 w0 W).mono fun e W' ⟨he, hg⟩ => ?_
  subst he
  exact ⟨_, rfl, post_made (pa := []) (pv := []) hW' hg (fun _ _ _ => (trodAll_cons_mk (shut_bool Try.underlying4 _) trodAll_mk0)) (fun sp _ => (trodAll_cons_mk (shut_int Try.underlying2 w0) trodAll_mk0)) (fun _ _ => rfl) rfl
    (ok_one (by kernel_rfl) rfl (okWide_bool_mk Try.underlying4 _))⟩

theorem over : Rows.wholeSmallRow.holds Try.pinned (OpenSpec.ofChange Rows.wholeSmallSpec) :=
  OpenClaim.holds_of_wide 3 Try.f3 rfl rfl rfl rfl rfl rfl rfl ⟨rfl, rfl, rfl, rfl, rfl⟩ rfl rfl rfl rfl rfl (by kernel_rfl) Try.func3 (by kernel_rfl)
    (of_decide_eq_true (by kernel_rfl)) (by unfold Func.isWrapper; first | (rw [if_pos (by decide +kernel)]; kernel_rfl) | (rw [if_neg (by decide +kernel)]; exact ⟨rfl, rfl⟩))
    (fun os started H enc _ => lifted os started H enc)

theorem proved : Rows.WholeSmallSaid := over
end Go.Proofs.Ytdfbakdfakijbaa.wholeSmall
