/-
  What bits.Len64 returns: how many binary digits a number of 64 bits has. No conditions.
-/
import Derived.Test.YtjamfkafgfpobaaGreatChecked
import Derived.Lib.Strings
import Derived.Lib.Slices
import Derived.Lib.Small
import Derived.Lib.Walk
import Derived.Lib.BitFns
import Derived.Laws.MathBits
namespace Go.Proofs.YtjamfkafgfpobaaGreat
/-! ### bits.Len64 -/
theorem len8_is : ∀ n : Fin 256, Lib.len8 (n.val : Int) = (bitLen n.val : Int) := by decide +kernel
theorem len_fin (b K : Nat) (hK : K = 2 ^ b) (x : Nat) (y : Int) (hy : y = ((x / K : Nat) : Int)) (h1 : x / K < 256) (h2 : x / K ≠ 0) : Lib.len8 y = (bitLen x : Int) - b := by
  subst hy
  have h := len8_is ⟨x / K, h1⟩
  have s := bitLen_shift x b (by rw [← hK]; exact h2)
  rw [← hK] at s
  simp only at h
  rw [h]; omega
theorem len_fin0 (x : Nat) (y : Int) (hy : y = (x : Int)) (h1 : x < 256) : Lib.len8 y = (bitLen x : Int) := by
  subst hy; exact len8_is ⟨x, h1⟩
theorem len_le64 (x : Nat) (hx : x < 18446744073709551616) : bitLen x ≤ 64 := by
  have := bitLen_spec x
  rcases Nat.lt_or_ge 64 (bitLen x) with h | h
  · have h2 := Nat.pow_le_pow_right (n := 2) (by omega) (show 64 ≤ bitLen x - 1 by omega)
    have : x ≠ 0 := by intro e; subst e; revert h; decide
    omega
  · omega
set_option maxHeartbeats 1000000 in
set_option maxRecDepth 100000 in
theorem len64_int (x : Int) (w : World) (h0 : 0 ≤ x) (h1 : x ≤ 18446744073709551615) :
    Calls Tryz.prog 157 #[.int .u64 x] w fun e w' => e = .returned (.int .i64 (bitLen x.toNat)) ∧ w' = w := by
  go_enter Tryz.func157, Tryz.ntmps157
  go_wp2
  all_goals (go_ret; refine ⟨congrArg Ending.returned (congrArg (Value.int IntKind.i64) ?_), rfl⟩)
  all_goals have hb := len_le64 x.toNat (by omega)
  all_goals first
    | (have := len_fin 56 72057594037927936 (by decide) x.toNat (x / 4294967296 / 65536 / 256 % 256) (by omega) (by omega) (by omega); omega)
    | (have := len_fin 48 281474976710656 (by decide) x.toNat (x / 4294967296 / 65536 % 256) (by omega) (by omega) (by omega); omega)
    | (have := len_fin 40 1099511627776 (by decide) x.toNat (x / 4294967296 / 256 % 256) (by omega) (by omega) (by omega); omega)
    | (have := len_fin 32 4294967296 (by decide) x.toNat (x / 4294967296 % 256) (by omega) (by omega) (by omega); omega)
    | (have := len_fin 24 16777216 (by decide) x.toNat (x / 65536 / 256 % 256) (by omega) (by omega) (by omega); omega)
    | (have := len_fin 16 65536 (by decide) x.toNat (x / 65536 % 256) (by omega) (by omega) (by omega); omega)
    | (have := len_fin 8 256 (by decide) x.toNat (x / 256 % 256) (by omega) (by omega) (by omega); omega)
    | (have := len_fin0 x.toNat (x % 256) (by omega) (by omega); omega)
end Go.Proofs.YtjamfkafgfpobaaGreat
