/-
  What the library's Nextafter toward plus infinity returns of a finite float, and the statements' 'tight' of a span that is tight. Condition: floats of 64 bits.
-/
import Derived.Test.YtffjkfjokikhnaaSpb
import Derived.Deep.QuietTactic
import Derived.BigQuiet
namespace Go.Proofs.Ytffjkfjokikhnaa.Fl
open Go.RowKit Ieee

theorem inf_any (w : World) : Calls Try.prog 79 #[.int .i64 1] w fun e w' => e = .returned (.float .f64 9218868437227405312) ∧ w' = w := by
  have hff := run_from
  go_enter Try.func79, Try.ntmps79
  go_wp2
  go_ret; exact ⟨rfl, rfl⟩
theorem copysign_one (w : World) : Calls Try.prog 107 #[.float .f64 1, .float .f64 9218868437227405312] w fun e w' => e = .returned (.float .f64 1) ∧ w' = w := by
  have hfb := run_bits
  have hff := run_from
  have h1 : bits .andNot .u64 1 9223372036854775808 = 1 := by decide
  have h2 : bits .and .u64 9218868437227405312 9223372036854775808 = 0 := by decide
  have h3 : bits .or .u64 1 0 = 1 := by decide
  go_enter Try.func107, Try.ntmps107
  go_wp2
  go_ret; exact ⟨rfl, rfl⟩
theorem inf_mg : mg 9218868437227405312 = 9218868437227405312 ∧ key 9218868437227405312 = 9218868437227405312 := by decide
set_option maxHeartbeats 1000000 in
theorem nextafter_any (x : Nat) (w : World) (hx : x < 18446744073709551616) (hm : mg x < 9218868437227405312) :
    Calls Try.prog 78 #[.float .f64 x, .float .f64 9218868437227405312] w fun e w' => e = .returned (.float .f64 (nextf x true)) ∧ w' = w := by
  have HX := Lib.hid (fun W => isNaN_any x W)
  have HI := Lib.hid (fun W => isNaN_any 9218868437227405312 W)
  have HC := Lib.hid (fun W => copysign_one W)
  have hfb := run_bits
  have hff := run_from
  rw [decide_eq_false (by omega)] at HX
  rw [decide_eq_false (by rw [inf_mg.1]; omega)] at HI
  have hk := key_inf (x := x) (by omega)
  have hk2 : key x < 9218868437227405312 := by unfold key; split <;> omega
  have e1 := ord_eq x 9218868437227405312
  rw [decide_eq_false (by rw [inf_mg.2]; omega)] at e1
  have e2 := ord_gt 9218868437227405312 x
  rw [decide_eq_true ⟨by rw [inf_mg.1]; exact Nat.le_refl _, by omega, by rw [inf_mg.2]; exact hk2⟩] at e2
  have e3 := eq_zero x
  by_cases h0 : mg x = 0
  · rw [decide_eq_true h0] at e3
    have hf : nextf x true = 1 := by unfold nextf; rw [if_neg (by omega), if_neg (by omega), if_pos h0, if_pos rfl]
    rw [hf]
    clear h0 hf hx hm hk hk2 e2
    go_enter Try.func78, Try.ntmps78
    go_wp2_with (first | (go_at_call 64; first | (with_reducible refine (HX.out _).mono ?_; rintro e w' ⟨rfl, rfl⟩) | (with_reducible refine (HI.out _).mono ?_; rintro e w' ⟨rfl, rfl⟩)) | (go_at_call 107; with_reducible refine (HC.out _).mono ?_; rintro e w' ⟨rfl, rfl⟩))
    go_ret; exact ⟨rfl, rfl⟩
  · rw [decide_eq_false h0] at e3
    have hg := gt_zero x (by omega) (by omega)
    have hf : nextf x true = if ng x = false then x + 1 else x - 1 := by unfold nextf; rw [if_neg (by omega), if_neg (by omega), if_neg h0]; rfl
    have hle : mg x ≤ x := Nat.mod_le _ _
    have hv1 : (1 : Int) ≤ x := by omega
    have hvi : (x : Int) ≤ 18446744073709551614 := by unfold mg at hm; omega
    have HB := Lib.hid (And.intro hv1 hvi)
    obtain ⟨s, hs⟩ : ∃ s, ng x = s := ⟨_, rfl⟩
    rw [hs] at hf hg
    obtain ⟨r, hr⟩ : ∃ r, nextf x true = r := ⟨_, rfl⟩
    rw [hr] at hf ⊢
    clear h0 hx hm hk hk2 hs hr hle HC
    cases s
    · rw [if_pos rfl] at hf
      subst hf
      clear hv1
      go_enter Try.func78, Try.ntmps78
      go_wp2_with (go_at_call 64; first | (with_reducible refine (HX.out _).mono ?_; rintro e w' ⟨rfl, rfl⟩) | (with_reducible refine (HI.out _).mono ?_; rintro e w' ⟨rfl, rfl⟩))
      go_ret; exact ⟨by first | rfl | (have hb := HB.out; simp; rw [IntKind.wrap_u64]; omega), rfl⟩
    · rw [if_neg (by simp)] at hf
      subst hf
      clear hvi
      go_enter Try.func78, Try.ntmps78
      go_wp2_with (go_at_call 64; first | (with_reducible refine (HX.out _).mono ?_; rintro e w' ⟨rfl, rfl⟩) | (with_reducible refine (HI.out _).mono ?_; rintro e w' ⟨rfl, rfl⟩))
      go_ret; exact ⟨by first | rfl | (have hb := HB.out; simp; rw [IntKind.wrap_u64]; omega), rfl⟩

set_option maxHeartbeats 1000000 in
theorem tight_no (n : Nat) (w : World) :
    Calls Try.prog 37 #[spv 0 0, .int .i64 6, .float .f64 n] w fun e w' => e = .returned (.bool true) ∧ Below w.heap.size w w' := by
  have hst : ∀ w, (binOp .eql 31 (spv 0 0) (.agg #[.float .f64 0, .float .f64 0])).run Try.prog w = .ok (.bool true) w := fun _ => by kernel_rfl
  go_enter Try.func37, Try.ntmps37
  go_wp2
  go_ret
  exact ⟨rfl, by (repeat (first | exact below_self _ _ | assumption | refine below_dn ?_ _ | refine Below.drew ?_ | refine Below.setCell ?_ (by (try simp) <;> (try omega)) _ | refine Below.alloc ?_ (by (try simp) <;> (try omega)) _))⟩

/-- A span that is as narrow as it may be about a float. -/
structure Tight (l h n : Nat) : Prop where
  ll : l < 18446744073709551616
  lh : h < 18446744073709551616
  fl : mg l < 9218868437227405312
  fh : mg h < 9218868437227405312
  fn : mg n < 9218868437227405312
  near : key n = key l ∨ key n = key h
  step : key l = key h ∨ (key l < key h ∧ mg (nextf l true) ≤ 9218868437227405312 ∧ key (nextf l true) = key h)
  sl : mg l = 0 → ng l = false
  sh : mg h = 0 → ng h = false
set_option maxHeartbeats 4000000 in
theorem tight_yes (l h n : Nat) (w : World) (k : Tight l h n) :
    Calls Try.prog 37 #[spv l h, .int .i64 0, .float .f64 n] w fun e w' => e = .returned (.bool true) ∧ Below w.heap.size w w' := by
  have HI := Lib.hid (fun W => inf_any W)
  have HX := Lib.hid (fun W => nextafter_any l W k.ll k.fl)
  have HL := Lib.hid (fun W => signbit_any l W k.ll)
  have HH := Lib.hid (fun W => signbit_any h W k.lh)
  have e1 := ord_eq l h
  have e2 := ord_eq (nextf l true) h
  have e3 := ord_eq n l
  have e4 := ord_eq n h
  have z1 := eq_zero l
  have z2 := eq_zero h
  have s1 := k.sl
  have s2 := k.sh
  have f1 : decide (mg l ≤ 9218868437227405312 ∧ mg h ≤ 9218868437227405312 ∧ key l = key h) = decide (key l = key h) := decide_eq_decide.2 ⟨fun h => h.2.2, fun x => ⟨Nat.le_of_lt k.fl, Nat.le_of_lt k.fh, x⟩⟩
  have f3 : decide (mg n ≤ 9218868437227405312 ∧ mg l ≤ 9218868437227405312 ∧ key n = key l) = decide (key n = key l) := decide_eq_decide.2 ⟨fun h => h.2.2, fun x => ⟨Nat.le_of_lt k.fn, Nat.le_of_lt k.fl, x⟩⟩
  have f4 : decide (mg n ≤ 9218868437227405312 ∧ mg h ≤ 9218868437227405312 ∧ key n = key h) = decide (key n = key h) := decide_eq_decide.2 ⟨fun h => h.2.2, fun x => ⟨Nat.le_of_lt k.fn, Nat.le_of_lt k.fh, x⟩⟩
  rw [f1] at e1
  rw [f3] at e3
  rw [f4] at e4
  have hn : decide (key n = key l) = false → decide (key n = key h) = true := fun a => by
    have := of_decide_eq_false a
    rcases k.near with b | b
    · exact absurd b this
    · exact decide_eq_true b
  have hst : decide (key l = key h) = false → (FloatKind.f64.format.order (nextf l true) h == some .eq) = true := fun a => by
    have := of_decide_eq_false a
    rcases k.step with b | b
    · exact absurd b this
    · rw [e2]; exact decide_eq_true ⟨b.2.1, Nat.le_of_lt k.fh, b.2.2⟩
  have t1 : decide (mg l = 0) = true → ng l = false := fun a => s1 (of_decide_eq_true a)
  have t2 : decide (mg h = 0) = true → ng h = false := fun a => s2 (of_decide_eq_true a)
  generalize decide (key l = key h) = p at *
  generalize decide (key n = key l) = q at *
  generalize decide (key n = key h) = r at *
  generalize decide (mg l = 0) = y1 at *
  generalize decide (mg h = 0) = y2 at *
  generalize ng l = g1 at *
  generalize ng h = g2 at *
  generalize nextf l true = x at *
  clear f1 f3 f4 e2 s1 s2 k
  have e1' : (FloatKind.f64.format.order l h != some .eq) = !p := by rw [← e1]; rfl
  have HQ := Lib.hid hn
  have HS := Lib.hid hst
  have H1 := Lib.hid t1
  have H2 := Lib.hid t2
  clear hn hst t1 t2
  cases p <;> simp only [Bool.not_false, Bool.not_true] at e1'
  · have e2 := HS.out rfl
    have e2' : (FloatKind.f64.format.order x h != some .eq) = false := by
      show (!(FloatKind.f64.format.order x h == some .eq)) = false
      rw [e2]; rfl
    clear HS
    cases y1
    · clear H1 HL
      cases y2
      · clear H2 HH
        cases q
        · obtain rfl := HQ.out rfl
          go_enter Try.func37, Try.ntmps37
          go_wp2_with fail
          go_quiet ((first | (go_at_call 79; exact Calls.quiet_of_same (HI.out _)) | (go_at_call 78; exact Calls.quiet_of_same (HX.out _))))
          go_wp2
          go_ret
          exact ⟨rfl, by (repeat (first | exact below_self _ _ | assumption | refine below_dn ?_ _ | refine Below.drew ?_ | refine Below.setCell ?_ (by (try simp) <;> (try omega)) _ | refine Below.alloc ?_ (by (try simp) <;> (try omega)) _))⟩
        · go_enter Try.func37, Try.ntmps37
          go_wp2_with fail
          go_quiet ((first | (go_at_call 79; exact Calls.quiet_of_same (HI.out _)) | (go_at_call 78; exact Calls.quiet_of_same (HX.out _))))
          go_wp2
          go_ret
          exact ⟨rfl, by (repeat (first | exact below_self _ _ | assumption | refine below_dn ?_ _ | refine Below.drew ?_ | refine Below.setCell ?_ (by (try simp) <;> (try omega)) _ | refine Below.alloc ?_ (by (try simp) <;> (try omega)) _))⟩
      · obtain rfl := H2.out rfl
        clear H2
        cases q
        · obtain rfl := HQ.out rfl
          go_enter Try.func37, Try.ntmps37
          go_wp2_with fail
          go_quiet ((first | (go_at_call 79; exact Calls.quiet_of_same (HI.out _)) | (go_at_call 78; exact Calls.quiet_of_same (HX.out _))))
          go_wp2_with (go_at_call 80; first | (with_reducible refine (HH.out _).mono ?_; rintro e w' ⟨rfl, rfl⟩))
          go_ret
          exact ⟨rfl, by (repeat (first | exact below_self _ _ | assumption | refine below_dn ?_ _ | refine Below.drew ?_ | refine Below.setCell ?_ (by (try simp) <;> (try omega)) _ | refine Below.alloc ?_ (by (try simp) <;> (try omega)) _))⟩
        · go_enter Try.func37, Try.ntmps37
          go_wp2_with fail
          go_quiet ((first | (go_at_call 79; exact Calls.quiet_of_same (HI.out _)) | (go_at_call 78; exact Calls.quiet_of_same (HX.out _))))
          go_wp2_with (go_at_call 80; first | (with_reducible refine (HH.out _).mono ?_; rintro e w' ⟨rfl, rfl⟩))
          go_ret
          exact ⟨rfl, by (repeat (first | exact below_self _ _ | assumption | refine below_dn ?_ _ | refine Below.drew ?_ | refine Below.setCell ?_ (by (try simp) <;> (try omega)) _ | refine Below.alloc ?_ (by (try simp) <;> (try omega)) _))⟩
    · obtain rfl := H1.out rfl
      clear H1
      cases y2
      · clear H2 HH
        cases q
        · obtain rfl := HQ.out rfl
          go_enter Try.func37, Try.ntmps37
          go_wp2_with fail
          go_quiet ((first | (go_at_call 79; exact Calls.quiet_of_same (HI.out _)) | (go_at_call 78; exact Calls.quiet_of_same (HX.out _))))
          go_wp2_with (go_at_call 80; first | (with_reducible refine (HL.out _).mono ?_; rintro e w' ⟨rfl, rfl⟩))
          go_ret
          exact ⟨rfl, by (repeat (first | exact below_self _ _ | assumption | refine below_dn ?_ _ | refine Below.drew ?_ | refine Below.setCell ?_ (by (try simp) <;> (try omega)) _ | refine Below.alloc ?_ (by (try simp) <;> (try omega)) _))⟩
        · go_enter Try.func37, Try.ntmps37
          go_wp2_with fail
          go_quiet ((first | (go_at_call 79; exact Calls.quiet_of_same (HI.out _)) | (go_at_call 78; exact Calls.quiet_of_same (HX.out _))))
          go_wp2_with (go_at_call 80; first | (with_reducible refine (HL.out _).mono ?_; rintro e w' ⟨rfl, rfl⟩))
          go_ret
          exact ⟨rfl, by (repeat (first | exact below_self _ _ | assumption | refine below_dn ?_ _ | refine Below.drew ?_ | refine Below.setCell ?_ (by (try simp) <;> (try omega)) _ | refine Below.alloc ?_ (by (try simp) <;> (try omega)) _))⟩
      · obtain rfl := H2.out rfl
        clear H2
        cases q
        · obtain rfl := HQ.out rfl
          go_enter Try.func37, Try.ntmps37
          go_wp2_with fail
          go_quiet ((first | (go_at_call 79; exact Calls.quiet_of_same (HI.out _)) | (go_at_call 78; exact Calls.quiet_of_same (HX.out _))))
          go_wp2_with (go_at_call 80; first | (with_reducible refine (HL.out _).mono ?_; rintro e w' ⟨rfl, rfl⟩) | (with_reducible refine (HH.out _).mono ?_; rintro e w' ⟨rfl, rfl⟩))
          go_ret
          exact ⟨rfl, by (repeat (first | exact below_self _ _ | assumption | refine below_dn ?_ _ | refine Below.drew ?_ | refine Below.setCell ?_ (by (try simp) <;> (try omega)) _ | refine Below.alloc ?_ (by (try simp) <;> (try omega)) _))⟩
        · go_enter Try.func37, Try.ntmps37
          go_wp2_with fail
          go_quiet ((first | (go_at_call 79; exact Calls.quiet_of_same (HI.out _)) | (go_at_call 78; exact Calls.quiet_of_same (HX.out _))))
          go_wp2_with (go_at_call 80; first | (with_reducible refine (HL.out _).mono ?_; rintro e w' ⟨rfl, rfl⟩) | (with_reducible refine (HH.out _).mono ?_; rintro e w' ⟨rfl, rfl⟩))
          go_ret
          exact ⟨rfl, by (repeat (first | exact below_self _ _ | assumption | refine below_dn ?_ _ | refine Below.drew ?_ | refine Below.setCell ?_ (by (try simp) <;> (try omega)) _ | refine Below.alloc ?_ (by (try simp) <;> (try omega)) _))⟩
  · clear HS HX HI
    cases y1
    · clear H1 HL
      cases y2
      · clear H2 HH
        cases q
        · obtain rfl := HQ.out rfl
          go_enter Try.func37, Try.ntmps37
          go_wp2_with fail
          go_quiet (fail)
          go_wp2
          go_ret
          exact ⟨rfl, by (repeat (first | exact below_self _ _ | assumption | refine below_dn ?_ _ | refine Below.drew ?_ | refine Below.setCell ?_ (by (try simp) <;> (try omega)) _ | refine Below.alloc ?_ (by (try simp) <;> (try omega)) _))⟩
        · go_enter Try.func37, Try.ntmps37
          go_wp2_with fail
          go_quiet (fail)
          go_wp2
          go_ret
          exact ⟨rfl, by (repeat (first | exact below_self _ _ | assumption | refine below_dn ?_ _ | refine Below.drew ?_ | refine Below.setCell ?_ (by (try simp) <;> (try omega)) _ | refine Below.alloc ?_ (by (try simp) <;> (try omega)) _))⟩
      · obtain rfl := H2.out rfl
        clear H2
        cases q
        · obtain rfl := HQ.out rfl
          go_enter Try.func37, Try.ntmps37
          go_wp2_with fail
          go_quiet (fail)
          go_wp2_with (go_at_call 80; first | (with_reducible refine (HH.out _).mono ?_; rintro e w' ⟨rfl, rfl⟩))
          go_ret
          exact ⟨rfl, by (repeat (first | exact below_self _ _ | assumption | refine below_dn ?_ _ | refine Below.drew ?_ | refine Below.setCell ?_ (by (try simp) <;> (try omega)) _ | refine Below.alloc ?_ (by (try simp) <;> (try omega)) _))⟩
        · go_enter Try.func37, Try.ntmps37
          go_wp2_with fail
          go_quiet (fail)
          go_wp2_with (go_at_call 80; first | (with_reducible refine (HH.out _).mono ?_; rintro e w' ⟨rfl, rfl⟩))
          go_ret
          exact ⟨rfl, by (repeat (first | exact below_self _ _ | assumption | refine below_dn ?_ _ | refine Below.drew ?_ | refine Below.setCell ?_ (by (try simp) <;> (try omega)) _ | refine Below.alloc ?_ (by (try simp) <;> (try omega)) _))⟩
    · obtain rfl := H1.out rfl
      clear H1
      cases y2
      · clear H2 HH
        cases q
        · obtain rfl := HQ.out rfl
          go_enter Try.func37, Try.ntmps37
          go_wp2_with fail
          go_quiet (fail)
          go_wp2_with (go_at_call 80; first | (with_reducible refine (HL.out _).mono ?_; rintro e w' ⟨rfl, rfl⟩))
          go_ret
          exact ⟨rfl, by (repeat (first | exact below_self _ _ | assumption | refine below_dn ?_ _ | refine Below.drew ?_ | refine Below.setCell ?_ (by (try simp) <;> (try omega)) _ | refine Below.alloc ?_ (by (try simp) <;> (try omega)) _))⟩
        · go_enter Try.func37, Try.ntmps37
          go_wp2_with fail
          go_quiet (fail)
          go_wp2_with (go_at_call 80; first | (with_reducible refine (HL.out _).mono ?_; rintro e w' ⟨rfl, rfl⟩))
          go_ret
          exact ⟨rfl, by (repeat (first | exact below_self _ _ | assumption | refine below_dn ?_ _ | refine Below.drew ?_ | refine Below.setCell ?_ (by (try simp) <;> (try omega)) _ | refine Below.alloc ?_ (by (try simp) <;> (try omega)) _))⟩
      · obtain rfl := H2.out rfl
        clear H2
        cases q
        · obtain rfl := HQ.out rfl
          go_enter Try.func37, Try.ntmps37
          go_wp2_with fail
          go_quiet (fail)
          go_wp2_with (go_at_call 80; first | (with_reducible refine (HL.out _).mono ?_; rintro e w' ⟨rfl, rfl⟩) | (with_reducible refine (HH.out _).mono ?_; rintro e w' ⟨rfl, rfl⟩))
          go_ret
          exact ⟨rfl, by (repeat (first | exact below_self _ _ | assumption | refine below_dn ?_ _ | refine Below.drew ?_ | refine Below.setCell ?_ (by (try simp) <;> (try omega)) _ | refine Below.alloc ?_ (by (try simp) <;> (try omega)) _))⟩
        · go_enter Try.func37, Try.ntmps37
          go_wp2_with fail
          go_quiet (fail)
          go_wp2_with (go_at_call 80; first | (with_reducible refine (HL.out _).mono ?_; rintro e w' ⟨rfl, rfl⟩) | (with_reducible refine (HH.out _).mono ?_; rintro e w' ⟨rfl, rfl⟩))
          go_ret
          exact ⟨rfl, by (repeat (first | exact below_self _ _ | assumption | refine below_dn ?_ _ | refine Below.drew ?_ | refine Below.setCell ?_ (by (try simp) <;> (try omega)) _ | refine Below.alloc ?_ (by (try simp) <;> (try omega)) _))⟩
end Go.Proofs.Ytffjkfjokikhnaa.Fl
