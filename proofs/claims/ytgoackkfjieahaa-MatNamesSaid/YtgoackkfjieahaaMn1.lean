/-
  The product of i with itself, and which complex numbers are alike, at the places that MatNames names. No conditions.
-/
import Derived.Test.YtgoackkfjieahaaMn0
namespace Go.Proofs.Ytgoackkfjieahaa.C
open Go.RowKit
theorem mul_ii (w : World) : Calls Try.prog 63 #[.complex .f64 0 4607182418800017408, .complex .f64 0 4607182418800017408] w fun e w' => e = .returned (.complex .f64 13830554455654793216 0) ∧ w = w' := by
  have q1 : ∀ w : World, (binOp .mul 106 (.float .f64 0) (.float .f64 0)).run Try.prog w = .ok (.float .f64 0) w := fun _ => by kernel_rfl
  have q2 : ∀ w : World, (binOp .mul 106 (.float .f64 4607182418800017408) (.float .f64 4607182418800017408)).run Try.prog w = .ok (.float .f64 4607182418800017408) w := fun _ => by kernel_rfl
  have q3 : ∀ w : World, (binOp .sub 106 (.float .f64 0) (.float .f64 4607182418800017408)).run Try.prog w = .ok (.float .f64 13830554455654793216) w := fun _ => by kernel_rfl
  have q4 : ∀ w : World, (binOp .mul 106 (.float .f64 0) (.float .f64 4607182418800017408)).run Try.prog w = .ok (.float .f64 0) w := fun _ => by kernel_rfl
  have q5 : ∀ w : World, (binOp .mul 106 (.float .f64 4607182418800017408) (.float .f64 0)).run Try.prog w = .ok (.float .f64 0) w := fun _ => by kernel_rfl
  have q6 : ∀ w : World, (binOp .add 106 (.float .f64 0) (.float .f64 0)).run Try.prog w = .ok (.float .f64 0) w := fun _ => by kernel_rfl
  go_enter Try.func63, Try.ntmps63
  go_wp2
  go_ret; exact ⟨rfl, rfl⟩
theorem same_ii (w : World) : Calls Try.prog 64 #[.complex .f64 0 4607182418800017408, .complex .f64 0 4607182418800017408] w fun e w' => e = .returned (.bool true) ∧ w = w' := by
  go_enter Try.func64, Try.ntmps64
  go_wp2_with (go_at_call 72; first | (with_reducible refine (told_no 0 o_0 _).mono ?_; rintro e w' ⟨rfl, rfl⟩) | (with_reducible refine (told_no 4607182418800017408 o_1 _).mono ?_; rintro e w' ⟨rfl, rfl⟩))
  go_ret; exact ⟨rfl, rfl⟩
theorem same_im (w : World) : Calls Try.prog 64 #[.complex .f64 0 4607182418800017408, .complex .f64 9223372036854775808 13830554455654793216] w fun e w' => e = .returned (.bool false) ∧ w = w' := by
  go_enter Try.func64, Try.ntmps64
  go_wp2_with (go_at_call 72; first | (with_reducible refine (told_no 0 o_0 _).mono ?_; rintro e w' ⟨rfl, rfl⟩) | (with_reducible refine (told_no 9223372036854775808 o_m0 _).mono ?_; rintro e w' ⟨rfl, rfl⟩))
  go_ret; exact ⟨rfl, rfl⟩
theorem samef (b : Nat) (w : World) : Calls Try.prog 62 #[.float .f64 b, .float .f64 b] w fun e w' => e = .returned (.bool true) ∧ w = w' := by
  have hfb := run_bits
  go_enter Try.func62, Try.ntmps62
  go_wp2
  go_ret; exact ⟨rfl, rfl⟩
theorem samec (b c : Nat) (w : World) : Calls Try.prog 50 #[.complex .f64 b c, .complex .f64 b c] w fun e w' => e = .returned (.bool true) ∧ w = w' := by
  go_enter Try.func50, Try.ntmps50
  go_wp2_with (go_at_call 62; first | (with_reducible refine (samef b _).mono ?_; rintro e w' ⟨rfl, rfl⟩) | (with_reducible refine (samef c _).mono ?_; rintro e w' ⟨rfl, rfl⟩))
  go_ret; exact ⟨rfl, rfl⟩
theorem wmul (w : World) : Calls Try.prog 51 #[.complex .f64 0 4607182418800017408, .complex .f64 0 4607182418800017408] w fun e w' => e = .returned (.complex .f64 13830554455654793216 0) ∧ w = w' := by
  go_enter Try.func51, Try.ntmps51
  go_wp2_with (go_at_call 63; refine (mul_ii _).mono ?_; rintro e w' ⟨rfl, rfl⟩)
  go_ret; exact ⟨rfl, rfl⟩
theorem wneg (w : World) : Calls Try.prog 53 #[.complex .f64 0 4607182418800017408] w fun e w' => e = .returned (.complex .f64 9223372036854775808 13830554455654793216) ∧ w = w' := by
  go_enter Try.func53, Try.ntmps53
  go_wp2_with (go_at_call 65; refine (turn_i _).mono ?_; rintro e w' ⟨rfl, rfl⟩)
  go_ret; exact ⟨rfl, rfl⟩
theorem wlike (w : World) : Calls Try.prog 52 #[.complex .f64 0 4607182418800017408, .complex .f64 0 4607182418800017408] w fun e w' => e = .returned (.bool true) ∧ w = w' := by
  go_enter Try.func52, Try.ntmps52
  go_wp2_with (go_at_call 64; refine (same_ii _).mono ?_; rintro e w' ⟨rfl, rfl⟩)
  go_ret; exact ⟨rfl, rfl⟩
theorem wunlike (w : World) : Calls Try.prog 52 #[.complex .f64 0 4607182418800017408, .complex .f64 9223372036854775808 13830554455654793216] w fun e w' => e = .returned (.bool false) ∧ w = w' := by
  go_enter Try.func52, Try.ntmps52
  go_wp2_with (go_at_call 64; refine (same_im _).mono ?_; rintro e w' ⟨rfl, rfl⟩)
  go_ret; exact ⟨rfl, rfl⟩
end Go.Proofs.Ytgoackkfjieahaa.C
