/-
  What round's Next, left and Two return, and the library's IsNaN, IsInf, Sqrt. Conditions: that the operands are floats of 64 bits; of left, which of them are finite.
-/
import Derived.Test.YtffjkfjokikhnaaFl2
namespace Go.Proofs.Ytffjkfjokikhnaa.Fl
open Go.RowKit Ieee

/-- A float with the other sign. -/
def ngf (x : Nat) : Nat := x ^^^ 9223372036854775808
theorem ngf_lt {x : Nat} (h : x < 18446744073709551616) : ngf x < 18446744073709551616 := Nat.xor_lt_two_pow (n := 64) h (by decide)
theorem ngf_is {x : Nat} (h : x < 18446744073709551616) : mg (ngf x) = mg x ∧ ng (ngf x) = !ng x := by
  have e0 : ngf x % 2 ^ 63 = x % 2 ^ 63 := by
    unfold ngf
    rw [Nat.xor_mod_two_pow]; simp
  have e1 : ngf x / 2 ^ 63 = (x / 2 ^ 63) ^^^ 1 := by
    unfold ngf
    have := Nat.shiftRight_xor_distrib (a := x) (b := 9223372036854775808) (i := 63)
    rw [Nat.shiftRight_eq_div_pow, Nat.shiftRight_eq_div_pow, Nat.shiftRight_eq_div_pow] at this
    rw [this]
  refine ⟨e0, ?_⟩
  unfold ng
  rw [show (9223372036854775808 : Nat) = 2 ^ 63 by decide, e1]
  have : x / 2 ^ 63 = 0 ∨ x / 2 ^ 63 = 1 := by omega
  rcases this with h | h <;> rw [h] <;> rfl
theorem run_ngf (x : Nat) : Op.unary .neg (.float .f64 x) = pure (.float .f64 (ngf x)) := rfl

theorem ord_lt (x y : Nat) : (FloatKind.f64.format.order x y == some .lt) = decide (mg x ≤ 9218868437227405312 ∧ mg y ≤ 9218868437227405312 ∧ key x < key y) := by
  show (double.order x y == some .lt) = _
  by_cases h : mg x ≤ 9218868437227405312 ∧ mg y ≤ 9218868437227405312
  · rw [order_key x y h.1 h.2]
    rcases Int.lt_trichotomy (key x) (key y) with g | g | g
    · rw [cmp_lt g, decide_eq_true ⟨h.1, h.2, g⟩]; rfl
    · rw [g, cmp_eq, decide_eq_false (by omega)]; rfl
    · rw [cmp_gt g, decide_eq_false (by omega)]; rfl
  · rw [order_nan x y (by omega), decide_eq_false (fun g => h ⟨g.1, g.2.1⟩)]; rfl
theorem ord_gt (x y : Nat) : (FloatKind.f64.format.order x y == some .gt) = decide (mg x ≤ 9218868437227405312 ∧ mg y ≤ 9218868437227405312 ∧ key y < key x) := by
  show (double.order x y == some .gt) = _
  by_cases h : mg x ≤ 9218868437227405312 ∧ mg y ≤ 9218868437227405312
  · rw [order_key x y h.1 h.2]
    rcases Int.lt_trichotomy (key x) (key y) with g | g | g
    · rw [cmp_lt g, decide_eq_false (by omega)]; rfl
    · rw [g, cmp_eq, decide_eq_false (by omega)]; rfl
    · rw [cmp_gt g, decide_eq_true ⟨h.1, h.2, g⟩]; rfl
  · rw [order_nan x y (by omega), decide_eq_false (fun g => h ⟨g.1, g.2.1⟩)]; rfl
theorem ord_eq (x y : Nat) : (FloatKind.f64.format.order x y == some .eq) = decide (mg x ≤ 9218868437227405312 ∧ mg y ≤ 9218868437227405312 ∧ key x = key y) := by
  show (double.order x y == some .eq) = _
  by_cases h : mg x ≤ 9218868437227405312 ∧ mg y ≤ 9218868437227405312
  · rw [order_key x y h.1 h.2]
    rcases Int.lt_trichotomy (key x) (key y) with g | g | g
    · rw [cmp_lt g, decide_eq_false (by omega)]; rfl
    · rw [g, cmp_eq, decide_eq_true ⟨h.1, h.2, rfl⟩]; rfl
    · rw [cmp_gt g, decide_eq_false (by omega)]; rfl
  · rw [order_nan x y (by omega), decide_eq_false (fun g => h ⟨g.1, g.2.1⟩)]; rfl

theorem isNaN_any (x : Nat) (w : World) : Calls Try.prog 64 #[.float .f64 x] w fun e w' => e = .returned (.bool (decide (9218868437227405312 < mg x))) ∧ w' = w := by
  have h : (!(FloatKind.f64.format.order x x == some .eq)) = decide (9218868437227405312 < mg x) := by
    rw [ord_eq]
    by_cases h : mg x ≤ 9218868437227405312
    · rw [decide_eq_true ⟨h, h, rfl⟩, decide_eq_false (by omega)]; rfl
    · rw [decide_eq_false (by omega), decide_eq_true (by omega)]; rfl
  have h' : (FloatKind.f64.format.order x x != some .eq) = decide (9218868437227405312 < mg x) := h
  clear h
  go_enter Try.func64, Try.ntmps64
  go_wp2
  go_ret; exact ⟨rfl, rfl⟩

theorem mg_max : mg 9218868437227405311 = 9218868437227405311 ∧ ng 9218868437227405311 = false := by decide
theorem gt_max (x : Nat) : (FloatKind.f64.format.order x 9218868437227405311 == some .gt) = decide (mg x = 9218868437227405312 ∧ ng x = false) := by
  rw [ord_gt, mg_max.1]
  have : key 9218868437227405311 = 9218868437227405311 := by decide
  rw [this]
  unfold key
  by_cases h : mg x = 9218868437227405312
  · rw [h]
    cases ng x <;> simp
  · rw [decide_eq_false (p := mg x = _ ∧ _) (fun g => h g.1)]
    refine decide_eq_false ?_
    split <;> omega
set_option maxHeartbeats 400000 in
theorem isInfUp_any (x : Nat) (w : World) : Calls Try.prog 65 #[.float .f64 x, .int .i64 1] w fun e w' => e = .returned (.bool (decide (mg x = 9218868437227405312 ∧ ng x = false))) ∧ w' = w := by
  have h := gt_max x
  obtain ⟨b, hb⟩ : ∃ b, decide (mg x = 9218868437227405312 ∧ ng x = false) = b := ⟨_, rfl⟩
  rw [hb] at h ⊢
  clear hb
  go_enter Try.func65, Try.ntmps65
  go_wp2
  go_ret; exact ⟨rfl, rfl⟩
set_option maxHeartbeats 400000 in
theorem isInfDown_any (x : Nat) (w : World) (hx : x < 18446744073709551616) : Calls Try.prog 65 #[.float .f64 x, .int .i64 (-1)] w fun e w' => e = .returned (.bool (decide (mg x = 9218868437227405312 ∧ ng x = true))) ∧ w' = w := by
  have h := gt_max (ngf x)
  have hn := run_ngf
  have e : decide (mg (ngf x) = 9218868437227405312 ∧ ng (ngf x) = false) = decide (mg x = 9218868437227405312 ∧ ng x = true) := by
    rw [(ngf_is hx).1, (ngf_is hx).2]
    cases ng x <;> simp
  rw [e] at h
  obtain ⟨b, hb⟩ : ∃ b, decide (mg x = 9218868437227405312 ∧ ng x = true) = b := ⟨_, rfl⟩
  rw [hb] at h ⊢
  clear hb e hx
  go_enter Try.func65, Try.ntmps65
  go_wp2
  go_ret; exact ⟨rfl, rfl⟩

/-- The float beside. -/
def nextf (v : Nat) (up : Bool) : Nat :=
  if 9218868437227405312 < mg v then v else if mg v = 9218868437227405312 ∧ ng v = !up then v
  else if mg v = 0 then (if up then 1 else 9223372036854775809) else if ng v = !up then v + 1 else v - 1

theorem eq_zero (x : Nat) : (FloatKind.f64.format.order x 0 == some .eq) = decide (mg x = 0) := by
  rw [ord_eq]
  have : mg 0 = 0 := by decide
  have h0 : key 0 = 0 := by decide
  rw [this, h0]
  unfold key
  by_cases h : mg x = 0
  · rw [h]; simp
  · rw [decide_eq_false h]
    refine decide_eq_false ?_
    split <;> omega
theorem gt_zero (x : Nat) (h0 : 0 < mg x) (h : mg x ≤ 9218868437227405312) : (FloatKind.f64.format.order x 0 == some .gt) = !ng x := by
  rw [ord_gt]
  have : mg 0 = 0 := by decide
  have hk : key 0 = 0 := by decide
  rw [this, hk]
  unfold key
  cases ng x <;> simp <;> omega

set_option maxHeartbeats 4000000 in
theorem next_any (v : Nat) (up : Bool) (w : World) (hv : v < 18446744073709551616) :
    Calls Try.prog 22 #[.float .f64 v, .bool up] w fun e w' => e = .returned (.float .f64 (nextf v up)) ∧ w' = w := by
  have HN := Lib.hid (fun W => isNaN_any v W)
  have HU := Lib.hid (fun W => isInfUp_any v W)
  have HD := Lib.hid (fun W => isInfDown_any v W hv)
  have hfb := run_bits
  have hff := run_from
  by_cases h1 : 9218868437227405312 < mg v
  · have hf : nextf v up = v := by unfold nextf; rw [if_pos h1]
    rw [hf, ]
    rw [decide_eq_true h1] at HN
    clear h1 hf HU HD hv
    go_enter Try.func22, Try.ntmps22
    go_wp2_with (go_at_call 64; refine (HN.out _).mono ?_; rintro e w' ⟨rfl, rfl⟩)
    go_ret; exact ⟨rfl, rfl⟩
  · rw [decide_eq_false h1] at HN
    by_cases h2 : mg v = 9218868437227405312 ∧ ng v = !up
    · have hf : nextf v up = v := by unfold nextf; rw [if_neg h1, if_pos h2]
      rw [hf]
      cases up
      · rw [decide_eq_true (by simpa using h2)] at HD
        rw [decide_eq_false (by simp [h2])] at HU
        clear h1 hf hv h2
        go_enter Try.func22, Try.ntmps22
        go_wp2_with (first | (go_at_call 64; refine (HN.out _).mono ?_; rintro e w' ⟨rfl, rfl⟩) | (go_at_call 65; with_reducible refine (HU.out _).mono ?_; rintro e w' ⟨rfl, rfl⟩) | (go_at_call 65; with_reducible refine (HD.out _).mono ?_; rintro e w' ⟨rfl, rfl⟩))
        go_ret; exact ⟨rfl, rfl⟩
      · rw [decide_eq_true (by simpa using h2)] at HU
        clear h1 hf hv h2 HD
        go_enter Try.func22, Try.ntmps22
        go_wp2_with (first | (go_at_call 64; refine (HN.out _).mono ?_; rintro e w' ⟨rfl, rfl⟩) | (go_at_call 65; with_reducible refine (HU.out _).mono ?_; rintro e w' ⟨rfl, rfl⟩))
        go_ret; exact ⟨rfl, rfl⟩
    · have hle : mg v ≤ v := Nat.mod_le _ _
      have hvi0 : (0 : Int) ≤ v := by omega
      have hvi : (v : Int) ≤ 18442240474082181120 := by unfold mg at h1; omega
      obtain ⟨p, hp⟩ : ∃ p, decide (mg v = 9218868437227405312 ∧ ng v = false) = p := ⟨_, rfl⟩
      obtain ⟨q, hq⟩ : ∃ q, decide (mg v = 9218868437227405312 ∧ ng v = true) = q := ⟨_, rfl⟩
      have hpu : (up = true → p = false) ∧ (up = false → q = false) := by
        refine ⟨fun h => ?_, fun h => ?_⟩
        · rw [← hp]; refine decide_eq_false (fun g => h2 ⟨g.1, by rw [h]; exact g.2⟩)
        · rw [← hq]; refine decide_eq_false (fun g => h2 ⟨g.1, by rw [h]; exact g.2⟩)
      rw [hp] at HU
      rw [hq] at HD
      have hz := eq_zero v
      by_cases h3 : mg v = 0
      · have hf : nextf v up = if up then 1 else 9223372036854775809 := by unfold nextf; rw [if_neg h1, if_neg h2, if_pos h3]
        rw [hf]
        rw [decide_eq_true h3] at hz
        clear hf h1 h2 h3 hle hv hp hq
        cases up
        · obtain rfl := hpu.2 rfl
          clear hpu
          cases p <;> (
          go_enter Try.func22, Try.ntmps22
          go_wp2_with (first | (go_at_call 64; refine (HN.out _).mono ?_; rintro e w' ⟨rfl, rfl⟩) | (go_at_call 65; with_reducible refine (HU.out _).mono ?_; rintro e w' ⟨rfl, rfl⟩) | (go_at_call 65; with_reducible refine (HD.out _).mono ?_; rintro e w' ⟨rfl, rfl⟩))
          go_ret; exact ⟨rfl, rfl⟩)
        · obtain rfl := hpu.1 rfl
          clear hpu
          cases q <;> (
          go_enter Try.func22, Try.ntmps22
          go_wp2_with (first | (go_at_call 64; refine (HN.out _).mono ?_; rintro e w' ⟨rfl, rfl⟩) | (go_at_call 65; with_reducible refine (HU.out _).mono ?_; rintro e w' ⟨rfl, rfl⟩) | (go_at_call 65; with_reducible refine (HD.out _).mono ?_; rintro e w' ⟨rfl, rfl⟩))
          go_ret; exact ⟨rfl, rfl⟩)
      · have hg := gt_zero v (by omega) (by omega)
        have hf : nextf v up = if ng v = !up then v + 1 else v - 1 := by unfold nextf; rw [if_neg h1, if_neg h2, if_neg h3]
        rw [decide_eq_false h3] at hz
        have hv1 : (1 : Int) ≤ v := by omega
        have HB := Lib.hid hvi
        obtain ⟨s, hs⟩ : ∃ s, ng v = s := ⟨_, rfl⟩
        rw [hs] at hf hg
        clear h1 h2 h3 hle hv hp hq hs
        obtain ⟨r, hr⟩ : ∃ r, nextf v up = r := ⟨_, rfl⟩
        rw [hr] at hf ⊢
        clear hr
        cases up
        · obtain rfl := hpu.2 rfl
          clear hpu
          cases s
          · rw [if_neg (by simp)] at hf
            subst hf
            clear hvi
            cases p <;> (
            go_enter Try.func22, Try.ntmps22
            go_wp2_with (first | (go_at_call 64; refine (HN.out _).mono ?_; rintro e w' ⟨rfl, rfl⟩) | (go_at_call 65; with_reducible refine (HU.out _).mono ?_; rintro e w' ⟨rfl, rfl⟩) | (go_at_call 65; with_reducible refine (HD.out _).mono ?_; rintro e w' ⟨rfl, rfl⟩))
            go_ret; exact ⟨by first | rfl | (have hb := HB.out; simp; rw [IntKind.wrap_u64]; omega), rfl⟩)
          · rw [if_pos (by simp)] at hf
            subst hf
            clear hv1
            cases p <;> (
            go_enter Try.func22, Try.ntmps22
            go_wp2_with (first | (go_at_call 64; refine (HN.out _).mono ?_; rintro e w' ⟨rfl, rfl⟩) | (go_at_call 65; with_reducible refine (HU.out _).mono ?_; rintro e w' ⟨rfl, rfl⟩) | (go_at_call 65; with_reducible refine (HD.out _).mono ?_; rintro e w' ⟨rfl, rfl⟩))
            go_ret; exact ⟨by first | rfl | (have hb := HB.out; simp; rw [IntKind.wrap_u64]; omega), rfl⟩)
        · obtain rfl := hpu.1 rfl
          clear hpu
          cases s
          · rw [if_pos (by simp)] at hf
            subst hf
            clear hv1
            cases q <;> (
            go_enter Try.func22, Try.ntmps22
            go_wp2_with (first | (go_at_call 64; refine (HN.out _).mono ?_; rintro e w' ⟨rfl, rfl⟩) | (go_at_call 65; with_reducible refine (HU.out _).mono ?_; rintro e w' ⟨rfl, rfl⟩) | (go_at_call 65; with_reducible refine (HD.out _).mono ?_; rintro e w' ⟨rfl, rfl⟩))
            go_ret; exact ⟨by first | rfl | (have hb := HB.out; simp; rw [IntKind.wrap_u64]; omega), rfl⟩)
          · rw [if_neg (by simp)] at hf
            subst hf
            clear hvi
            cases q <;> (
            go_enter Try.func22, Try.ntmps22
            go_wp2_with (first | (go_at_call 64; refine (HN.out _).mono ?_; rintro e w' ⟨rfl, rfl⟩) | (go_at_call 65; with_reducible refine (HU.out _).mono ?_; rintro e w' ⟨rfl, rfl⟩) | (go_at_call 65; with_reducible refine (HD.out _).mono ?_; rintro e w' ⟨rfl, rfl⟩))
            go_ret; exact ⟨by first | rfl | (have hb := HB.out; simp; rw [IntKind.wrap_u64]; omega), rfl⟩)
end Go.Proofs.Ytffjkfjokikhnaa.Fl
