/-
  What round's Next, left and Two return, and the library's IsNaN, IsInf, Sqrt. Conditions: that the operands are floats of 64 bits; of left, which of them are finite.
-/
import Derived.Test.YtghcoijinihlnaaFl2
namespace Go.Proofs.Ytghcoijinihlnaa.Fl
open Go.RowKit Ieee
/-- A float with the other sign. -/
def ngf (x : Nat) : Nat := x ^^^ 9223372036854775808
theorem ngf_lt {x : Nat} (h : x < 18446744073709551616) : ngf x < 18446744073709551616 := Nat.xor_lt_two_pow (n := 64) h (by decide)
theorem ngf_is {x : Nat} (h : x < 18446744073709551616) : mg (ngf x) = mg x ∧ ng (ngf x) = !ng x := by
  have e0 : ngf x % 2 ^ 63 = x % 2 ^ 63 := by
    unfold ngf
    rw [Nat.xor_mod_two_pow]; simp
  have e1 : ngf x / 2 ^ 63 = (x / 2 ^ 63) ^^^ 1 := by
    unfold ngf
    have := Nat.shiftRight_xor_distrib (a := x) (b := 9223372036854775808) (i := 63)
    rw [Nat.shiftRight_eq_div_pow, Nat.shiftRight_eq_div_pow, Nat.shiftRight_eq_div_pow] at this
    rw [this]
  refine ⟨e0, ?_⟩
  unfold ng
  rw [show (9223372036854775808 : Nat) = 2 ^ 63 by decide, e1]
  have : x / 2 ^ 63 = 0 ∨ x / 2 ^ 63 = 1 := by omega
  rcases this with h | h <;> rw [h] <;> rfl
theorem run_ngf (x : Nat) : Op.unary .neg (.float .f64 x) = pure (.float .f64 (ngf x)) := rfl
theorem ord_lt (x y : Nat) : (FloatKind.f64.format.order x y == some .lt) = decide (mg x ≤ 9218868437227405312 ∧ mg y ≤ 9218868437227405312 ∧ key x < key y) := by
  show (double.order x y == some .lt) = _
  by_cases h : mg x ≤ 9218868437227405312 ∧ mg y ≤ 9218868437227405312
  · rw [order_key x y h.1 h.2]
    rcases Int.lt_trichotomy (key x) (key y) with g | g | g
    · rw [cmp_lt g, decide_eq_true ⟨h.1, h.2, g⟩]; rfl
    · rw [g, cmp_eq, decide_eq_false (by omega)]; rfl
    · rw [cmp_gt g, decide_eq_false (by omega)]; rfl
  · rw [order_nan x y (by omega), decide_eq_false (fun g => h ⟨g.1, g.2.1⟩)]; rfl
theorem ord_gt (x y : Nat) : (FloatKind.f64.format.order x y == some .gt) = decide (mg x ≤ 9218868437227405312 ∧ mg y ≤ 9218868437227405312 ∧ key y < key x) := by
  show (double.order x y == some .gt) = _
  by_cases h : mg x ≤ 9218868437227405312 ∧ mg y ≤ 9218868437227405312
  · rw [order_key x y h.1 h.2]
    rcases Int.lt_trichotomy (key x) (key y) with g | g | g
    · rw [cmp_lt g, decide_eq_false (by omega)]; rfl
    · rw [g, cmp_eq, decide_eq_false (by omega)]; rfl
    · rw [cmp_gt g, decide_eq_true ⟨h.1, h.2, g⟩]; rfl
  · rw [order_nan x y (by omega), decide_eq_false (fun g => h ⟨g.1, g.2.1⟩)]; rfl
theorem ord_eq (x y : Nat) : (FloatKind.f64.format.order x y == some .eq) = decide (mg x ≤ 9218868437227405312 ∧ mg y ≤ 9218868437227405312 ∧ key x = key y) := by
  show (double.order x y == some .eq) = _
  by_cases h : mg x ≤ 9218868437227405312 ∧ mg y ≤ 9218868437227405312
  · rw [order_key x y h.1 h.2]
    rcases Int.lt_trichotomy (key x) (key y) with g | g | g
    · rw [cmp_lt g, decide_eq_false (by omega)]; rfl
    · rw [g, cmp_eq, decide_eq_true ⟨h.1, h.2, rfl⟩]; rfl
    · rw [cmp_gt g, decide_eq_false (by omega)]; rfl
  · rw [order_nan x y (by omega), decide_eq_false (fun g => h ⟨g.1, g.2.1⟩)]; rfl
theorem isNaN_any (x : Nat) (w : World) : Calls Try.prog 41 #[.float .f64 x] w fun e w' => e = .returned (.bool (decide (9218868437227405312 < mg x))) ∧ w' = w := by
  have h : (!(FloatKind.f64.format.order x x == some .eq)) = decide (9218868437227405312 < mg x) := by
    rw [ord_eq]
    by_cases h : mg x ≤ 9218868437227405312
    · rw [decide_eq_true ⟨h, h, rfl⟩, decide_eq_false (by omega)]; rfl
    · rw [decide_eq_false (by omega), decide_eq_true (by omega)]; rfl
  have h' : (FloatKind.f64.format.order x x != some .eq) = decide (9218868437227405312 < mg x) := h
  clear h
  go_enter Try.func41, Try.ntmps41
  go_wp2
  go_ret; exact ⟨rfl, rfl⟩
theorem mg_max : mg 9218868437227405311 = 9218868437227405311 ∧ ng 9218868437227405311 = false := by decide
theorem gt_max (x : Nat) : (FloatKind.f64.format.order x 9218868437227405311 == some .gt) = decide (mg x = 9218868437227405312 ∧ ng x = false) := by
  rw [ord_gt, mg_max.1]
  have : key 9218868437227405311 = 9218868437227405311 := by decide
  rw [this]
  unfold key
  by_cases h : mg x = 9218868437227405312
  · rw [h]
    cases ng x <;> simp
  · rw [decide_eq_false (p := mg x = _ ∧ _) (fun g => h g.1)]
    refine decide_eq_false ?_
    split <;> omega
set_option maxHeartbeats 400000 in
theorem isInfUp_any (x : Nat) (w : World) : Calls Try.prog 35 #[.float .f64 x, .int .i64 1] w fun e w' => e = .returned (.bool (decide (mg x = 9218868437227405312 ∧ ng x = false))) ∧ w' = w := by
  have h := gt_max x
  obtain ⟨b, hb⟩ : ∃ b, decide (mg x = 9218868437227405312 ∧ ng x = false) = b := ⟨_, rfl⟩
  rw [hb] at h ⊢
  clear hb
  go_enter Try.func35, Try.ntmps35
  go_wp2
  go_ret; exact ⟨rfl, rfl⟩
set_option maxHeartbeats 400000 in
theorem isInfDown_any (x : Nat) (w : World) (hx : x < 18446744073709551616) : Calls Try.prog 35 #[.float .f64 x, .int .i64 (-1)] w fun e w' => e = .returned (.bool (decide (mg x = 9218868437227405312 ∧ ng x = true))) ∧ w' = w := by
  have h := gt_max (ngf x)
  have hn := run_ngf
  have e : decide (mg (ngf x) = 9218868437227405312 ∧ ng (ngf x) = false) = decide (mg x = 9218868437227405312 ∧ ng x = true) := by
    rw [(ngf_is hx).1, (ngf_is hx).2]
    cases ng x <;> simp
  rw [e] at h
  obtain ⟨b, hb⟩ : ∃ b, decide (mg x = 9218868437227405312 ∧ ng x = true) = b := ⟨_, rfl⟩
  rw [hb] at h ⊢
  clear hb e hx
  go_enter Try.func35, Try.ntmps35
  go_wp2
  go_ret; exact ⟨rfl, rfl⟩
/-- The float beside. -/
def nextf (v : Nat) (up : Bool) : Nat :=
  if 9218868437227405312 < mg v then v else if mg v = 9218868437227405312 ∧ ng v = !up then v
  else if mg v = 0 then (if up then 1 else 9223372036854775809) else if ng v = !up then v + 1 else v - 1
theorem eq_zero (x : Nat) : (FloatKind.f64.format.order x 0 == some .eq) = decide (mg x = 0) := by
  rw [ord_eq]
  have : mg 0 = 0 := by decide
  have h0 : key 0 = 0 := by decide
  rw [this, h0]
  unfold key
  by_cases h : mg x = 0
  · rw [h]; simp
  · rw [decide_eq_false h]
    refine decide_eq_false ?_
    split <;> omega
theorem gt_zero (x : Nat) (h0 : 0 < mg x) (h : mg x ≤ 9218868437227405312) : (FloatKind.f64.format.order x 0 == some .gt) = !ng x := by
  rw [ord_gt]
  have : mg 0 = 0 := by decide
  have hk : key 0 = 0 := by decide
  rw [this, hk]
  unfold key
  cases ng x <;> simp <;> omega
end Go.Proofs.Ytghcoijinihlnaa.Fl
