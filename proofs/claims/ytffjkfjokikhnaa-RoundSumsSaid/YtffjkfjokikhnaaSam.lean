/-
  Are two floats the same, by their bits, or are both no numbers: what the statements' SameFloat returns. No conditions.
-/
import Derived.Test.YtffjkfjokikhnaaTur
namespace Go.Proofs.Ytffjkfjokikhnaa.Fl
open Go.RowKit Ieee


set_option maxHeartbeats 1000000 in
theorem sameFloat_any (a c : Nat) (w : World) (h : SamOk a c) : Calls Try.prog 53 #[.float .f64 a, .float .f64 c] w fun x w' => x = .returned (.bool true) ∧ w' = w := by
  have hfb := run_bits
  rcases h with rfl | ⟨h1, h2⟩
  · go_enter Try.func53, Try.ntmps53
    go_wp2
    go_ret; exact ⟨rfl, rfl⟩
  · have HA := Lib.hid (fun W => isNaN_any a W)
    have HC := Lib.hid (fun W => isNaN_any c W)
    rw [decide_eq_true h1] at HA
    rw [decide_eq_true h2] at HC
    clear h1 h2
    by_cases hac : a = c
    · subst hac
      go_enter Try.func53, Try.ntmps53
      go_wp2
      go_ret; exact ⟨rfl, rfl⟩
    · have hne : ((a : Int) == (c : Int)) = false := beq_false_of_ne (by omega)
      clear hac
      go_enter Try.func53, Try.ntmps53
      go_wp2_with (go_at_call 64; first | (with_reducible refine (HA.out _).mono ?_; rintro e w' ⟨rfl, rfl⟩) | (with_reducible refine (HC.out _).mono ?_; rintro e w' ⟨rfl, rfl⟩))
      go_ret; exact ⟨rfl, rfl⟩
end Go.Proofs.Ytffjkfjokikhnaa.Fl
