/-
  What the document's own Add and Sub of any two floats return. Condition: floats of 64 bits.
-/
import Derived.Test.YtffjkfjokikhnaaRwi
namespace Go.Proofs.Ytffjkfjokikhnaa.Rb
open Go.RowKit Nb Fl Ieee

/-- What the document's Add answers: the own answer twice, or the floats beside the exact sum. -/
def RaddIs (a b : Nat) (_w : World) (x y : Nat) : Prop :=
  ((mg a < 9218868437227405312 ∧ mg b < 9218868437227405312) ∧ ∃ s, double.add a b = some s ∧ x = addLo (sval a + sval b) s (addD (sval a + sval b)) ∧ y = addHi (sval a + sval b) s) ∨
  (¬ (mg a < 9218868437227405312 ∧ mg b < 9218868437227405312) ∧ ∃ W, x = fop .add a b W ∧ y = fop .add a b W)
theorem finite_hid (x : Nat) (hx : x < 18446744073709551616) : Hid (∀ w : World, Calls Try.prog 46 #[.float .f64 x] w fun e w' => e = .returned (.bool (decide (mg x < 9218868437227405312))) ∧ w' = w) := Lib.hid (fun w => finite_any x w hx)
set_option maxHeartbeats 1000000 in
theorem radd_own (a b : Nat) (w : World) (ha : a < 18446744073709551616) (hb : b < 18446744073709551616) (hf : ¬ (mg a < 9218868437227405312 ∧ mg b < 9218868437227405312)) :
    Calls Try.prog 12 #[.float .f64 a, .float .f64 b] w fun r w' => ∃ x y, r = .returned (.tuple #[.float .f64 x, .float .f64 y]) ∧ RaddIs a b w x y ∧ Below w.heap.size w w' := by
  have HF := finite_hid a ha
  have HG := finite_hid b hb
  have hadd := fun t W => run_add (P := Try.prog) t a b W
  have HI : Hid (∀ W, RaddIs a b w (fop .add a b W) (fop .add a b W)) := Lib.hid (fun W => .inr ⟨hf, W, rfl, rfl⟩)
  clear ha hb
  by_cases h1 : mg a < 9218868437227405312
  · rw [decide_eq_true h1] at HF
    rw [decide_eq_false (fun h => hf ⟨h1, h⟩)] at HG
    clear hf h1
    go_enter Try.func12, Try.ntmps12
    go_wp2_with fail
    refine (HF.out _).mono ?_
    rintro _ w0 ⟨rfl, rfl⟩
    go_wp2_with fail
    refine (HG.out _).mono ?_
    rintro _ w0 ⟨rfl, rfl⟩
    go_wp2
    go_ret2
    exact ⟨_, _, rfl, HI.out _, by (repeat (first | exact below_self _ _ | assumption | refine below_dn ?_ _ | refine Below.drew ?_ | refine Below.setCell ?_ (by (try simp) <;> (try omega)) _ | refine Below.alloc ?_ (by (try simp) <;> (try omega)) _))⟩
  · rw [decide_eq_false h1] at HF
    clear hf h1 HG
    go_enter Try.func12, Try.ntmps12
    go_wp2_with fail
    refine (HF.out _).mono ?_
    rintro _ w0 ⟨rfl, rfl⟩
    go_wp2
    go_ret2
    exact ⟨_, _, rfl, HI.out _, by (repeat (first | exact below_self _ _ | assumption | refine below_dn ?_ _ | refine Below.drew ?_ | refine Below.setCell ?_ (by (try simp) <;> (try omega)) _ | refine Below.alloc ?_ (by (try simp) <;> (try omega)) _))⟩
theorem radd_any (a b : Nat) (w : World) (ha : a < 18446744073709551616) (hb : b < 18446744073709551616) :
    Calls Try.prog 12 #[.float .f64 a, .float .f64 b] w fun r w' => ∃ x y, r = .returned (.tuple #[.float .f64 x, .float .f64 y]) ∧ RaddIs a b w x y ∧ Below w.heap.size w w' := by
  by_cases hf : mg a < 9218868437227405312 ∧ mg b < 9218868437227405312
  · obtain ⟨s, hs⟩ := add_fin hf.1 hf.2
    refine (radd_fin a b s (addD (sval a + sval b)) w ha hb hf.1 hf.2 hs (fun h => addD_is h)).mono ?_
    rintro e w' ⟨rfl, h⟩
    exact ⟨_, _, rfl, .inl ⟨hf, s, hs, rfl, rfl⟩, h⟩
  · exact radd_own a b w ha hb hf

/-- What the document's Sub answers. -/
def RsubIs (a b : Nat) (x y : Nat) : Prop :=
  ((mg a < 9218868437227405312 ∧ mg b < 9218868437227405312) ∧ ∃ s, double.add a (ngf b) = some s ∧ x = addLo (sval a + sval (ngf b)) s (addD (sval a + sval (ngf b))) ∧ y = addHi (sval a + sval (ngf b)) s) ∨
  (¬ (mg a < 9218868437227405312 ∧ mg b < 9218868437227405312) ∧ ∃ W, x = fop .sub a b W ∧ y = fop .sub a b W)
theorem addLo_key {a b s : Nat} (_fa : mg a < 9218868437227405312) (_fb : mg b < 9218868437227405312) (_hs : double.add a b = some s) (h : mg (addLo (sval a + sval b) s (addD (sval a + sval b))) = 0 ∧ mg (addHi (sval a + sval b) s) = 0) : sval a + sval b = 0 := by
  by_cases hS : sval a + sval b = 0
  · exact hS
  · exfalso
    have hp : 0 < (sval a + sval b).natAbs := by omega
    have hov := ovr_bounds hp
    unfold addLo addHi addD at h
    rw [if_neg hS, if_neg hS] at h
    by_cases k : sval a + sval b < 0
    · simp only [if_pos k] at h
      have h1 := h.1
      unfold mg at h1
      omega
    · simp only [if_neg k] at h
      have h1 := h.2
      unfold mg at h1
      omega
set_option maxHeartbeats 1000000 in
theorem rsub_any (a b : Nat) (w : World) (ha : a < 18446744073709551616) (hb : b < 18446744073709551616) :
    Calls Try.prog 14 #[.float .f64 a, .float .f64 b] w fun r w' => ∃ x y, r = .returned (.tuple #[.float .f64 x, .float .f64 y]) ∧ RsubIs a b x y ∧ Below w.heap.size w w' := by
  have HF := finite_hid a ha
  have HG := finite_hid b hb
  have hn := run_ngf
  by_cases hf : mg a < 9218868437227405312 ∧ mg b < 9218868437227405312
  · rw [decide_eq_true hf.1] at HF
    rw [decide_eq_true hf.2] at HG
    have fb : mg (ngf b) < 9218868437227405312 := by rw [(ngf_is hb).1]; exact hf.2
    obtain ⟨s, hs⟩ := add_fin hf.1 fb
    have hsub' : double.sub a b = some s := by
      have : double.sub a b = double.add a (ngf b) := by unfold Format.sub Format.add; rw [read_ngf' hb]
      rw [this]; exact hs
    have hsub : ∀ (t : TypeId) (W : World), (binOp .sub t (.float .f64 a) (.float .f64 b)).run Try.prog W = .ok (.float .f64 s) W := fun t W => by
      rw [run_sub, (fop_some (op := .sub) hsub' W).1, (fop_some (op := .sub) hsub' W).2]; rfl
    have HA : Hid (∀ W, Calls Try.prog 12 #[.float .f64 a, .float .f64 (ngf b)] W fun r w' => r = .returned (.tuple #[.float .f64 (addLo (sval a + sval (ngf b)) s (addD (sval a + sval (ngf b)))), .float .f64 (addHi (sval a + sval (ngf b)) s)]) ∧ Below W.heap.size W w') :=
      Lib.hid (fun W => radd_fin a (ngf b) s (addD (sval a + sval (ngf b))) W ha (ngf_lt hb) hf.1 fb hs (fun h => addD_is h))
    have hk := addLo_key hf.1 fb hs
    have hz : sval a + sval (ngf b) = 0 → s = addLo (sval a + sval (ngf b)) s (addD (sval a + sval (ngf b))) ∧ s = addHi (sval a + sval (ngf b)) s := fun h => by
      have := addLo_nought (s := s) h (addD (sval a + sval (ngf b)))
      exact ⟨this.1.symm, this.2.symm⟩
    have HI : Hid (RsubIs a b (addLo (sval a + sval (ngf b)) s (addD (sval a + sval (ngf b)))) (addHi (sval a + sval (ngf b)) s)) := Lib.hid (.inl ⟨hf, s, hs, rfl, rfl⟩)
    have HZ := Lib.hid (fun h => hz (hk h))
    generalize addLo (sval a + sval (ngf b)) s (addD (sval a + sval (ngf b))) = x at *
    generalize addHi (sval a + sval (ngf b)) s = y at *
    have o1 := eq_zero x
    have o2 := eq_zero y
    have HX := Lib.hid (fun (h1 : decide (mg x = 0) = true) (h2 : decide (mg y = 0) = true) => HZ.out ⟨of_decide_eq_true h1, of_decide_eq_true h2⟩)
    generalize decide (mg x = 0) = p at *
    generalize decide (mg y = 0) = q at *
    clear ha hb hf fb hs hsub' hk hz HZ
    go_enter Try.func14, Try.ntmps14
    go_wp2_with fail
    refine (HF.out _).mono ?_
    rintro _ w0 ⟨rfl, rfl⟩
    go_wp2_with fail
    refine (HG.out _).mono ?_
    rintro _ w0 ⟨rfl, rfl⟩
    go_wp2_with fail
    refine (HA.out _).mono ?_
    rintro _ w1 ⟨rfl, hb⟩
    cases p
    · go_wp2
      go_ret2
      exact ⟨_, _, rfl, HI.out, hb⟩
    · cases q
      · go_wp2
        go_ret2
        exact ⟨_, _, rfl, HI.out, hb⟩
      · have hx := HX.out rfl rfl
        have HI2 : Hid (RsubIs a b s s) := Lib.hid (by have := HI.out; rw [← hx.1, ← hx.2] at this; exact this)
        clear hx HX
        go_wp2
        go_ret2
        exact ⟨_, _, rfl, HI2.out, hb⟩
  · have hsub := fun t W => run_sub (P := Try.prog) t a b W
    have HI : Hid (∀ W, RsubIs a b (fop .sub a b W) (fop .sub a b W)) := Lib.hid (fun W => .inr ⟨hf, W, rfl, rfl⟩)
    clear ha hb
    by_cases h1 : mg a < 9218868437227405312
    · rw [decide_eq_true h1] at HF
      rw [decide_eq_false (fun h => hf ⟨h1, h⟩)] at HG
      clear hf h1
      go_enter Try.func14, Try.ntmps14
      go_wp2_with fail
      refine (HF.out _).mono ?_
      rintro _ w0 ⟨rfl, rfl⟩
      go_wp2_with fail
      refine (HG.out _).mono ?_
      rintro _ w0 ⟨rfl, rfl⟩
      go_wp2
      go_ret2
      exact ⟨_, _, rfl, HI.out _, by (repeat (first | exact below_self _ _ | assumption | refine below_dn ?_ _ | refine Below.drew ?_ | refine Below.setCell ?_ (by (try simp) <;> (try omega)) _ | refine Below.alloc ?_ (by (try simp) <;> (try omega)) _))⟩
    · rw [decide_eq_false h1] at HF
      clear hf h1 HG
      go_enter Try.func14, Try.ntmps14
      go_wp2_with fail
      refine (HF.out _).mono ?_
      rintro _ w0 ⟨rfl, rfl⟩
      go_wp2
      go_ret2
      exact ⟨_, _, rfl, HI.out _, by (repeat (first | exact below_self _ _ | assumption | refine below_dn ?_ _ | refine Below.drew ?_ | refine Below.setCell ?_ (by (try simp) <;> (try omega)) _ | refine Below.alloc ?_ (by (try simp) <;> (try omega)) _))⟩
end Go.Proofs.Ytffjkfjokikhnaa.Rb
