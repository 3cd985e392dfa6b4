/-
  The operations on floats as a walk takes them, what is no number among their answers too; the library's small functions on floats. No conditions.
-/
import Derived.Test.YtghcoijinihlnaaFl0
import Derived.WalkKit
import Derived.WalkSpells
import Derived.WalkLawsBesides
import Derived.Deep.Draws
import Derived.Lib.Hide
import Derived.Handy
import Derived.OwnWalk
import Derived.Laws.Rows
import Derived.Laws.Externs
import Derived.Laws.BitsAllLaws
namespace Go.Proofs.Ytghcoijinihlnaa.Fl
open Go.RowKit Ieee
/-- The NaN that is drawn. -/
def nanw (w : World) (x y : Nat) : Nat := Question.cut (.nanBits .f64 x y) (w.tape w.drawn (.nanBits .f64 x y))
theorem nanw_is (w : World) (x y : Nat) : 9218868437227405312 < mg (nanw w x y) ∧ nanw w x y < 18446744073709551616 := by
  unfold nanw Question.cut mg
  generalize w.tape w.drawn (.nanBits .f64 x y) = t
  show 9218868437227405312 < (t % 2 * 9223372036854775808 + 9218868437227405312 + 1 + t / 2 % 4503599627370495) % 9223372036854775808 ∧ t % 2 * 9223372036854775808 + 9218868437227405312 + 1 + t / 2 % 4503599627370495 < 18446744073709551616
  have h1 : t / 2 % 4503599627370495 < 4503599627370495 := Nat.mod_lt _ (by omega)
  generalize t / 2 % 4503599627370495 = u at *
  rcases Nat.mod_two_eq_zero_or_one t with h | h <;> rw [h] <;> omega
/-- What an operation answers in a world. -/
def fop (op : BinOp) (x y : Nat) (w : World) : Nat := (floatBits op .f64 x y).getD (nanw w x y)
/-- How many draws it takes. -/
def nd (op : BinOp) (x y : Nat) : Nat := if (floatBits op .f64 x y).isSome then 0 else 1
theorem run_fop {P : Program} (op : BinOp) (ho : op = .add ∨ op = .sub ∨ op = .mul ∨ op = .quo) (t : TypeId) (x y : Nat) (w : World) : (binOp op t (.float .f64 x) (.float .f64 y)).run P w = .ok (.float .f64 (fop op x y w)) (w.drewN (nd op x y)) := by
  unfold fop nd
  cases h : floatBits op .f64 x y with
  | some r => exact run_float_arith w op t .f64 x y r h
  | none =>
    rcases ho with rfl | rfl | rfl | rfl <;> (
      simp only [floatBits] at h
      simp [binOp, Op.floatArith, h, nanw, Question.forced]
      rfl)
theorem run_add {P : Program} (t : TypeId) (x y : Nat) (w : World) : (binOp .add t (.float .f64 x) (.float .f64 y)).run P w = .ok (.float .f64 (fop .add x y w)) (w.drewN (nd .add x y)) := run_fop .add (.inl rfl) t x y w
theorem run_sub {P : Program} (t : TypeId) (x y : Nat) (w : World) : (binOp .sub t (.float .f64 x) (.float .f64 y)).run P w = .ok (.float .f64 (fop .sub x y w)) (w.drewN (nd .sub x y)) := run_fop .sub (.inr (.inl rfl)) t x y w
theorem run_mul {P : Program} (t : TypeId) (x y : Nat) (w : World) : (binOp .mul t (.float .f64 x) (.float .f64 y)).run P w = .ok (.float .f64 (fop .mul x y w)) (w.drewN (nd .mul x y)) := run_fop .mul (.inr (.inr (.inl rfl))) t x y w
theorem run_quo {P : Program} (t : TypeId) (x y : Nat) (w : World) : (binOp .quo t (.float .f64 x) (.float .f64 y)).run P w = .ok (.float .f64 (fop .quo x y w)) (w.drewN (nd .quo x y)) := run_fop .quo (.inr (.inr (.inr rfl))) t x y w
theorem fop_some {op : BinOp} {x y r : Nat} (h : floatBits op .f64 x y = some r) (w : World) : fop op x y w = r ∧ nd op x y = 0 := by simp [fop, nd, h]
theorem fop_none {op : BinOp} {x y : Nat} (h : floatBits op .f64 x y = none) (w : World) : fop op x y w = nanw w x y ∧ nd op x y = 1 := by simp [fop, nd, h]
theorem andNot63 (x : Nat) (h : x < 18446744073709551616) : bits .andNot .u64 (x : Int) 9223372036854775808 = (mg x : Int) := by
  have h1 := u64_andNot_nat x 9223372036854775808 h (by omega)
  rw [show ((9223372036854775808 : Nat) : Int) = 9223372036854775808 from rfl] at h1
  rw [h1]
  congr 1
  show x &&& (2 ^ 63 - 1) = x % 9223372036854775808
  rw [Nat.and_two_pow_sub_one_eq_mod]
theorem run_bits (x : Nat) (w : World) : (callFunc 27 #[.float .f64 x]).run Try.prog w = .ok (.value (.int .u64 x)) w := by
  rw [run_callFunc_extern Try.func27 (by kernel_rfl) (by kernel_rfl) (by kernel_rfl) (e := Extern.MathFloatBits.float64bits) (by kernel_rfl)]
  rfl
theorem run_from (n : Int) (w : World) : (callFunc 26 #[.int .u64 n]).run Try.prog w = .ok (.value (.float .f64 n.toNat)) w := by
  rw [run_callFunc_extern Try.func26 (by kernel_rfl) (by kernel_rfl) (by kernel_rfl) (e := Extern.MathFloatBits.float64frombits) (by kernel_rfl)]
  rfl
/-- Which kind: nought, finite, beyond. -/
def kd (x : Nat) : Int := if mg x = 0 then 0 else if mg x < 9218868437227405312 then 1 else 2
set_option maxHeartbeats 400000 in
theorem kindOf_any (x : Nat) (w : World) (h : x < 18446744073709551616) : Calls Try.prog 45 #[.float .f64 x] w fun e w' => e = .returned (.int .u8 (kd x)) ∧ w' = w := by
  have hb := andNot63 x h
  have hfb := run_bits
  have hff := run_from
  unfold kd
  by_cases h0 : mg x = 0
  · rw [h0] at hb
    rw [if_pos h0]
    clear h0
    go_enter Try.func45, Try.ntmps45
    go_wp2
    go_ret; exact ⟨rfl, rfl⟩
  · rw [if_neg h0]
    have h0' : ((mg x : Nat) : Int) ≠ 0 := by omega
    by_cases h1 : mg x < 9218868437227405312
    · rw [if_pos h1]
      have h1' : ((mg x : Nat) : Int) < 9218868437227405312 := by omega
      obtain ⟨m, hm⟩ : ∃ m : Int, ((mg x : Nat) : Int) = m := ⟨_, rfl⟩
      rw [hm] at hb h0' h1'
      clear hm h h0 h1
      go_enter Try.func45, Try.ntmps45
      go_wp2
      go_ret; exact ⟨rfl, rfl⟩
    · rw [if_neg h1]
      have h1' : ¬ ((mg x : Nat) : Int) < 9218868437227405312 := by omega
      obtain ⟨m, hm⟩ : ∃ m : Int, ((mg x : Nat) : Int) = m := ⟨_, rfl⟩
      rw [hm] at hb h0' h1'
      clear hm h h0 h1
      go_enter Try.func45, Try.ntmps45
      go_wp2
      go_ret; exact ⟨rfl, rfl⟩
set_option maxHeartbeats 400000 in
theorem abs_any (x : Nat) (w : World) (h : x < 18446744073709551616) : Calls Try.prog 11 #[.float .f64 x] w fun e w' => e = .returned (.float .f64 (mg x)) ∧ w' = w := by
  have hb := andNot63 x h
  have hfb := run_bits
  have hff := run_from
  go_enter Try.func11, Try.ntmps11
  go_wp2
  go_ret; exact ⟨rfl, rfl⟩
set_option maxHeartbeats 400000 in
theorem signbit_any (x : Nat) (w : World) (h : x < 18446744073709551616) : Calls Try.prog 43 #[.float .f64 x] w fun e w' => e = .returned (.bool (ng x)) ∧ w' = w := by
  have hfb := run_bits
  have hw : decide (wrap64 (x : Int) < 0) = ng x := by
    unfold wrap64 ng
    rcases Nat.lt_or_ge x 9223372036854775808 with g | g
    · rw [Nat.div_eq_of_lt g]; simp; omega
    · rw [show x / 9223372036854775808 = 1 by omega]; simp; omega
  go_enter Try.func43, Try.ntmps43
  go_wp2
  go_ret; exact ⟨rfl, rfl⟩
end Go.Proofs.Ytghcoijinihlnaa.Fl
