/-
  Complex numbers at the few places that MatNames names: the product of i with itself, its opposite, which are alike. No conditions.
-/
import Derived.Test.YtgoackkfjieahaaMrl
import Derived.Test.YtgoackkfjieahaaMrs
import Derived.WalkSpells
import Derived.WalkLawsBesides
import Derived.Deep.Draws
import Derived.OwnWalk
import Derived.Laws.Rows
import Derived.Laws.Externs
import Derived.Laws.BitsAllLaws
namespace Go.Proofs.Ytgoackkfjieahaa.C
open Go.RowKit
theorem run_bits (x : Nat) (w : World) : (callFunc 70 #[.float .f64 x]).run Try.prog w = .ok (.value (.int .u64 x)) w := by
  rw [run_callFunc_extern Try.func70 (by kernel_rfl) (by kernel_rfl) (by kernel_rfl) (e := Extern.MathFloatBits.float64bits) (by kernel_rfl)]
  rfl
theorem run_from (n : Int) (w : World) : (callFunc 75 #[.int .u64 n]).run Try.prog w = .ok (.value (.float .f64 n.toNat)) w := by
  rw [run_callFunc_extern Try.func75 (by kernel_rfl) (by kernel_rfl) (by kernel_rfl) (e := Extern.MathFloatBits.float64frombits) (by kernel_rfl)]
  rfl
theorem isnan_no (b : Nat) (h : (FloatKind.f64.format.order b b == some .eq) = true) (w : World) : Calls Try.prog 71 #[.float .f64 b] w fun e w' => e = .returned (.bool false) ∧ w = w' := by
  have h' : (FloatKind.f64.format.order b b != some .eq) = false := by show (!(FloatKind.f64.format.order b b == some .eq)) = false; rw [h]; rfl
  clear h
  go_enter Try.func71, Try.ntmps71
  go_wp2
  go_ret; exact ⟨rfl, rfl⟩
theorem told_no (b : Nat) (h : (FloatKind.f64.format.order b b == some .eq) = true) (w : World) : Calls Try.prog 72 #[.float .f64 b] w fun e w' => e = .returned (.int .u64 b) ∧ w = w' := by
  have hfb := run_bits
  have H := Lib.hid (fun W => isnan_no b h W)
  clear h
  go_enter Try.func72, Try.ntmps72
  go_wp2_with (go_at_call 71; refine (H.out _).mono ?_; rintro e w' ⟨rfl, rfl⟩)
  go_ret; exact ⟨rfl, rfl⟩
theorem o_0 : (FloatKind.f64.format.order 0 0 == some .eq) = true := by decide +kernel
theorem o_1 : (FloatKind.f64.format.order 4607182418800017408 4607182418800017408 == some .eq) = true := by decide +kernel
theorem o_m0 : (FloatKind.f64.format.order 9223372036854775808 9223372036854775808 == some .eq) = true := by decide +kernel
theorem o_m1 : (FloatKind.f64.format.order 13830554455654793216 13830554455654793216 == some .eq) = true := by decide +kernel
/-- A float's sign turned. -/
theorem minus_c (b c : Nat) (h : bits .xor .u64 (b : Int) 9223372036854775808 = (c : Int)) (w : World) : Calls Try.prog 73 #[.float .f64 b] w fun e w' => e = .returned (.float .f64 c) ∧ w = w' := by
  have hfb := run_bits
  have hff := run_from
  go_enter Try.func73, Try.ntmps73
  go_wp2
  go_ret; exact ⟨rfl, rfl⟩
theorem x_0 : bits .xor .u64 ((0 : Nat) : Int) 9223372036854775808 = ((9223372036854775808 : Nat) : Int) := by decide +kernel
theorem x_1 : bits .xor .u64 ((4607182418800017408 : Nat) : Int) 9223372036854775808 = ((13830554455654793216 : Nat) : Int) := by decide +kernel
theorem turn_i (w : World) : Calls Try.prog 65 #[.complex .f64 0 4607182418800017408, .int .i64 2] w fun e w' => e = .returned (.complex .f64 9223372036854775808 13830554455654793216) ∧ w = w' := by
  have e1 : bits .and .i64 2 3 = 2 := by decide +kernel
  go_enter Try.func65, Try.ntmps65
  go_wp2_with (first | (go_at_call 73; with_reducible refine (minus_c 0 _ x_0 _).mono ?_; rintro e w' ⟨rfl, rfl⟩) | (go_at_call 73; with_reducible refine (minus_c 4607182418800017408 _ x_1 _).mono ?_; rintro e w' ⟨rfl, rfl⟩))
  go_ret; exact ⟨rfl, rfl⟩
end Go.Proofs.Ytgoackkfjieahaa.C
