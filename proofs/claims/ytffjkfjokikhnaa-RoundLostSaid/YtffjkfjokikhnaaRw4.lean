/-
  What the document's own minus, finite return. Condition: that the float is a word.
-/
import Derived.Test.YtffjkfjokikhnaaRw1
import Derived.Deep.QuietTactic
import Derived.BigQuiet
namespace Go.Proofs.Ytffjkfjokikhnaa.Rb
open Go.RowKit Nb Fl
theorem or63 (m : Nat) (h : m < 9223372036854775808) : bits .or .u64 (m : Int) 9223372036854775808 = ((m + 9223372036854775808 : Nat) : Int) := by
  have h1 := u64_or_nat m 9223372036854775808 (by omega) (by omega)
  rw [show ((9223372036854775808 : Nat) : Int) = 9223372036854775808 from rfl] at h1
  rw [h1]
  congr 1
  rw [Nat.or_comm, nat_join 63 _ _ (by decide) h, Nat.add_comm]
set_option maxHeartbeats 400000 in
theorem minus_any (v : Nat) (w : World) (hv : v < 18446744073709551616) :
    Calls Try.prog 103 #[.float .f64 v] w fun e w' => e = .returned (.float .f64 (mg v + 9223372036854775808 : Nat)) ∧ w' = w := by
  have hfb := run_bits
  have hff := run_from
  have hmv : mg v < 9223372036854775808 := Nat.mod_lt _ (by omega)
  have h1 := andNot63 v hv
  have h3 := or63 (mg v) hmv
  have h2 : bits .and .u64 (13830554455654793216 : Int) 9223372036854775808 = 9223372036854775808 := by decide
  have HC : Hid (∀ w : World, Calls Try.prog 107 #[.float .f64 v, .float .f64 13830554455654793216] w fun e w' => e = .returned (.float .f64 (mg v + 9223372036854775808 : Nat)) ∧ w' = w) := Lib.hid (fun w => by
    generalize mg v = m at *
    generalize m + 9223372036854775808 = k at *
    go_enter Try.func107, Try.ntmps107
    go_wp2
    go_ret
    exact ⟨rfl, rfl⟩)
  clear hfb hff h1 h2 h3
  go_enter Try.func103, Try.ntmps103
  go_wp2_with fail
  refine (HC.out _).mono ?_
  rintro e w1 ⟨rfl, rfl⟩
  go_wp2
  go_ret
  exact ⟨rfl, rfl⟩
end Go.Proofs.Ytffjkfjokikhnaa.Rb
