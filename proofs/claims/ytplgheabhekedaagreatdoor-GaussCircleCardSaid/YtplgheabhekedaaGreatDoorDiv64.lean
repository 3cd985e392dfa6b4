/-
  What bits.Div64 returns where the divisor is above the high word: the quotient of two words by one, and what is left. Condition: hi < y.
-/
import Derived.Test.YtplgheabhekedaaGreatDoorProd2
import Derived.Test.YtplgheabhekedaaGreatDoorNums
import Derived.Deep.CutBlock
import Derived.Deep.DeepCutAuto
namespace Go.Proofs.YtplgheabhekedaaGreatDoor
open Go.RowKit Nb

theorem lz64_ex (y : Nat) (hy : 0 < y) (hy2 : y < W64) : ∃ s : Nat, (∀ w, Calls Tryz.prog 176 #[.int .u64 y] w fun e w' => e = .returned (.int .i64 s) ∧ w = w') ∧ s ≤ 63 ∧ 9223372036854775808 ≤ y * 2 ^ s ∧ y * 2 ^ s < W64 := by
  have hb := bitLen_spec y
  have hp := bitLen_pos (x := y) (by omega)
  have hl := bitLen_le64 y hy2
  refine ⟨64 - bitLen y, fun w => ?_, by omega, ?_, ?_⟩
  · have hx := len64_any y w hy2
    have he : ((64 : Int) - (bitLen y : Nat)) = ((64 - bitLen y : Nat) : Int) := by omega
    have HE := Lib.hid he
    clear hb hp he hy
    go_enter Tryz.func176, Tryz.ntmps176
    go_wp2_with (go_at_call 195; refine hx.mono ?_; rintro e w' ⟨rfl, rfl⟩)
    go_ret
    exact ⟨by rw [← HE.out]; rfl, rfl⟩
  · have h1 := hb.2 (by omega)
    have h2 : 2 ^ (bitLen y - 1) * 2 ^ (64 - bitLen y) ≤ y * 2 ^ (64 - bitLen y) := Nat.mul_le_mul_right _ h1
    rw [← Nat.pow_add, show bitLen y - 1 + (64 - bitLen y) = 63 by omega] at h2
    exact h2
  · have h2 : y * 2 ^ (64 - bitLen y) < 2 ^ bitLen y * 2 ^ (64 - bitLen y) := Nat.mul_lt_mul_of_pos_right hb.1 (Nat.pow_pos (by decide))
    rw [← Nat.pow_add, show bitLen y + (64 - bitLen y) = 64 by omega] at h2
    exact h2


theorem natmod (t : Nat) : (t : Int) % 18446744073709551616 = ((t % W64 : Nat) : Int) := by
  show (t : Int) % 18446744073709551616 = ((t % 18446744073709551616 : Nat) : Int)
  omega
theorem wmul (a b : Nat) : IntKind.u64.wrap ((a : Int) * (b : Int)) = ((a * b % W64 : Nat) : Int) := by rw [IntKind.wrap_u64, ← Int.natCast_mul, natmod]
theorem wmulK (a : Nat) : IntKind.u64.wrap ((a : Int) * 4294967296) = ((a * 4294967296 % W64 : Nat) : Int) := wmul a 4294967296
theorem wKmul (a : Nat) : IntKind.u64.wrap (4294967296 * (a : Int)) = ((4294967296 * a % W64 : Nat) : Int) := wmul 4294967296 a
theorem wadd (a b : Nat) : IntKind.u64.wrap ((a : Int) + (b : Int)) = (((a + b) % W64 : Nat) : Int) := by rw [IntKind.wrap_u64, ← Int.natCast_add, natmod]
theorem wsub {a b r : Nat} (hr : r < W64) (h : (r + b) % W64 = a % W64) : IntKind.u64.wrap ((a : Int) - (b : Int)) = (r : Int) := by
  rw [IntKind.wrap_u64]; simp only [W64] at *; omega
theorem wpow (a s : Nat) : IntKind.u64.wrap ((a : Int) * 2 ^ s) = ((a * 2 ^ s % W64 : Nat) : Int) := by
  rw [show ((2 : Int) ^ s) = ((2 ^ s : Nat) : Int) by rw [Int.natCast_pow]; rfl]
  exact wmul a (2 ^ s)
theorem wdiv {a b : Nat} (ha : a < W64) : IntKind.u64.wrap ((a : Int) / (b : Int)) = ((a / b : Nat) : Int) := by
  have : a / b ≤ a := Nat.div_le_self a b
  rw [IntKind.wrap_u64, ← Int.natCast_ediv, natmod, Nat.mod_eq_of_lt (by omega)]
theorem and_mask (a : Nat) (ha : a < W64) : bits .and .u64 (a : Int) 4294967295 = ((a % 4294967296 : Nat) : Int) := by
  have h := u64_and_nat a 4294967295 ha (by decide)
  rw [show a &&& 4294967295 = a % 4294967296 from Nat.and_two_pow_sub_one_eq_mod a 32] at h
  exact h
theorem or_parts {hi lo s : Nat} (hs : s ≤ 63) (hlo : lo < W64) (hh : hi * 2 ^ s < W64) : bits .or .u64 ((hi * 2 ^ s : Nat) : Int) ((lo : Int) / 2 ^ (64 - s)) = ((hi * 2 ^ s + lo / 2 ^ (64 - s) : Nat) : Int) := by
  have hl : lo / 2 ^ (64 - s) < 2 ^ s := by
    refine (Nat.div_lt_iff_lt_mul (Nat.pow_pos (by decide))).2 ?_
    rw [← Nat.pow_add, show s + (64 - s) = 64 by omega]; exact hlo
  have hl2 : lo / 2 ^ (64 - s) < W64 := Nat.lt_of_le_of_lt (Nat.div_le_self _ _) hlo
  have h1 := u64_or_nat (hi * 2 ^ s) (lo / 2 ^ (64 - s)) hh hl2
  have h2 := nat_join s (hi * 2 ^ s) (lo / 2 ^ (64 - s)) (Nat.mul_mod_left _ _) hl
  rw [h2] at h1
  rw [← h1]
  congr 1
/-- Two words by one, both shifted: what Div64 reckons with. -/
theorem div_plan {N y s : Nat} (hy : 0 < y) (hN : N < y * W64) (_hY : y * 2 ^ s < W64) :
    N * 2 ^ s / W64 < y * 2 ^ s ∧
    N / y = ((N * 2 ^ s / W64) * 4294967296 + N * 2 ^ s % W64 / 4294967296) / (y * 2 ^ s) * 4294967296 + (((N * 2 ^ s / W64) * 4294967296 + N * 2 ^ s % W64 / 4294967296) % (y * 2 ^ s) * 4294967296 + N * 2 ^ s % W64 % 4294967296) / (y * 2 ^ s) ∧
    (N % y) * 2 ^ s = (((N * 2 ^ s / W64) * 4294967296 + N * 2 ^ s % W64 / 4294967296) % (y * 2 ^ s) * 4294967296 + N * 2 ^ s % W64 % 4294967296) % (y * 2 ^ s) := by
  have hp : 0 < 2 ^ s := Nat.pow_pos (by decide)
  have hU : N * 2 ^ s = ((N * 2 ^ s / W64) * 4294967296 + N * 2 ^ s % W64 / 4294967296) * 4294967296 + N * 2 ^ s % W64 % 4294967296 := by
    generalize N * 2 ^ s = U
    simp only [W64]; omega
  refine ⟨?_, ?_, ?_⟩
  · refine (Nat.div_lt_iff_lt_mul (by decide)).2 ?_
    have := Nat.mul_lt_mul_of_pos_right hN hp
    rw [Nat.mul_right_comm] at this
    exact this
  · rw [← long_quo _ _ _ _ (Nat.mul_pos hy hp), ← hU, Nat.mul_div_mul_right _ _ hp]
  · rw [← long_rem, ← hU, Nat.mul_mod_mul_right]
theorem gs_bound {u y1 y0 : Nat} (hy1 : 2147483648 ≤ y1) (hy0 : y0 < 4294967296) (hu : u < y1 * 4294967296 + y0) : u / y1 ≤ 4294967297 := by
  have h : u / y1 < 4294967298 := (Nat.div_lt_iff_lt_mul (by omega)).2 (by omega)
  omega
end Go.Proofs.YtplgheabhekedaaGreatDoor
