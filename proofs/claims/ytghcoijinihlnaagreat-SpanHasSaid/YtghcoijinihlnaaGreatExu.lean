/-
  Floats as bits; what round's calls return of them; the greatest float not above a ratio and the least not below. Conditions: floats of 64 bits, as each theorem states.
-/
import Derived.Test.YtghcoijinihlnaaGreatRows
import Derived.Laws.FloatArith
import Derived.WalkKit
import Derived.WalkSpells
import Derived.WalkLawsBesides
import Derived.Deep.Draws
import Derived.Lib.Hide
import Derived.Handy
import Derived.OwnWalk
import Derived.Laws.Rows
import Derived.Laws.Externs
import Derived.Laws.BitsAllLaws
namespace Go.Proofs.YtghcoijinihlnaaGreat.Fl
open Ieee
/-- The lower 63 bits of a float's word: the floats from nought upward are counted by them. -/
def mg (x : Nat) : Nat := x % 9223372036854775808
/-- The sign's bit. -/
def ng (x : Nat) : Bool := x / 9223372036854775808 % 2 == 1
/-- How many units of the least float a float's size is. -/
def uval (m : Nat) : Nat := if m < 4503599627370496 then m else (4503599627370496 + m % 4503599627370496) * 2 ^ (m / 4503599627370496 - 1)
theorem uval_small {m : Nat} (h : m < 4503599627370496) : uval m = m := by simp [uval, h]
theorem uval_step (m : Nat) : uval m < uval (m + 1) := by
  unfold uval
  by_cases h1 : m < 4503599627370496
  · by_cases h2 : m + 1 < 4503599627370496
    · simp [h1, h2]
    · have : m + 1 = 4503599627370496 := by omega
      rw [if_pos h1, if_neg h2, this]; simp; omega
  · have h2 : ¬ m + 1 < 4503599627370496 := by omega
    rw [if_neg h1, if_neg h2]
    by_cases h3 : m % 4503599627370496 + 1 < 4503599627370496
    · have e1 : (m + 1) / 4503599627370496 = m / 4503599627370496 := by omega
      have e2 : (m + 1) % 4503599627370496 = m % 4503599627370496 + 1 := by omega
      rw [e1, e2]
      exact Nat.mul_lt_mul_of_pos_right (by omega) (Nat.two_pow_pos _)
    · have e1 : (m + 1) / 4503599627370496 = m / 4503599627370496 + 1 := by omega
      have e2 : (m + 1) % 4503599627370496 = 0 := by omega
      obtain ⟨k, hk⟩ : ∃ k, m / 4503599627370496 = k + 1 := ⟨m / 4503599627370496 - 1, by omega⟩
      rw [e1, e2, hk]
      simp only [Nat.add_sub_cancel, Nat.add_zero]
      rw [Nat.pow_succ, Nat.mul_comm (2 ^ k) 2, ← Nat.mul_assoc]
      exact Nat.mul_lt_mul_of_pos_right (by omega) (Nat.two_pow_pos _)
theorem uval_lt {m n : Nat} (h : m < n) : uval m < uval n := by
  induction h with
  | refl => exact uval_step _
  | step _ ih => exact Nat.lt_trans ih (uval_step _)
theorem uval_cmp (m n : Nat) : (uval m < uval n ↔ m < n) ∧ (uval m = uval n ↔ m = n) := by
  rcases Nat.lt_trichotomy m n with h | h | h
  · have := uval_lt h; omega
  · subst h; simp
  · have := uval_lt h; omega
theorem d_binade : double.binade = 4503599627370496 := rfl
theorem d_inf : double.infRung = 9218868437227405312 := by decide
theorem d_sw : double.signWeight = 9223372036854775808 := by decide
theorem d_lp : double.leastPlace = -1074 := by decide
/-- What a finite word stands for. -/
theorem read_fin (x : Nat) (h : mg x < 9218868437227405312) : ∃ (M : Nat) (P : Int), double.read x = .number (ng x) M P ∧ -1074 ≤ P ∧ M * 2 ^ (P + 1074).toNat = uval (mg x) := by
  unfold Format.read
  rw [d_binade, d_inf, d_sw, d_lp]
  simp only []
  change ∃ M P, (if mg x < 4503599627370496 then Datum.number (ng x) (mg x) (-1074) else if mg x < 9218868437227405312 then Datum.number (ng x) (4503599627370496 + mg x % 4503599627370496) (-1074 + (mg x / 4503599627370496 - 1 : Nat)) else _) = _ ∧ _
  by_cases h1 : mg x < 4503599627370496
  · rw [if_pos h1]
    exact ⟨_, _, rfl, by omega, by simp [uval, h1]⟩
  · rw [if_neg h1, if_pos h]
    refine ⟨_, _, rfl, by omega, ?_⟩
    rw [uval, if_neg h1]
    congr 2
    omega
theorem read_inf (x : Nat) (h : mg x = 9218868437227405312) : double.read x = .infinity (ng x) := by
  unfold Format.read
  rw [d_binade, d_inf, d_sw]
  simp only []
  change (if mg x < 4503599627370496 then _ else if mg x < 9218868437227405312 then _ else if mg x = 9218868437227405312 then Datum.infinity (ng x) else _) = _
  rw [if_neg (by omega), if_neg (by omega), if_pos h]
theorem read_nan (x : Nat) (h : 9218868437227405312 < mg x) : double.read x = .nan (ng x) (mg x - 9218868437227405312) := by
  unfold Format.read
  rw [d_binade, d_inf, d_sw]
  simp only []
  change (if mg x < 4503599627370496 then _ else if mg x < 9218868437227405312 then _ else if mg x = 9218868437227405312 then _ else Datum.nan (ng x) (mg x - 9218868437227405312)) = _
  rw [if_neg (by omega), if_neg (by omega), if_neg (by omega)]
/-- The floats in their order: by sign and size. -/
def key (x : Nat) : Int := if ng x then -(mg x : Int) else mg x
/-- A finite float's worth, in units of the least one. -/
def sval (x : Nat) : Int := if ng x then -(uval (mg x) : Int) else uval (mg x)
theorem cmp_lt {a b : Int} (h : a < b) : compare a b = .lt := by simp [compare, compareOfLessAndEq, h]
theorem cmp_gt {a b : Int} (h : b < a) : compare a b = .gt := by
  have h1 : ¬ a < b := by omega
  have h2 : a ≠ b := by omega
  simp [compare, compareOfLessAndEq, h1, h2]
theorem cmp_eq (a : Int) : compare a a = .eq := by simp [compare, compareOfLessAndEq]
theorem cmp_same {a b c d : Int} (h1 : a < b ↔ c < d) (h2 : a = b ↔ c = d) : compare a b = compare c d := by
  simp [compare, compareOfLessAndEq, h1, h2]
theorem signed_scale (s : Bool) (M : Nat) (i j : Nat) : signed s M (i + j) = signed s M i * (2 ^ j : Nat) := by
  unfold signed
  rw [Nat.shiftLeft_eq, Nat.shiftLeft_eq, Nat.pow_add, ← Nat.mul_assoc]
  split
  · rw [Int.natCast_mul]; exact (Int.neg_mul _ _).symm
  · rw [Int.natCast_mul]
theorem signed_sval {x M : Nat} {P base : Int} (h : M * 2 ^ (P + 1074).toNat = uval (mg x)) (hb : base ≤ P) (hp : -1074 ≤ base) : sval x = signed (ng x) M (P - base).toNat * (2 ^ (base + 1074).toNat : Nat) := by
  rw [← signed_scale, show (P - base).toNat + (base + 1074).toNat = (P + 1074).toNat by omega]
  unfold sval signed
  rw [Nat.shiftLeft_eq, h]
theorem sval_cmp (x y : Nat) : (sval x < sval y ↔ key x < key y) ∧ (sval x = sval y ↔ key x = key y) := by
  have h1 := uval_cmp (mg x) (mg y)
  have h2 := uval_cmp (mg y) (mg x)
  have h0 : uval 0 = 0 := uval_small (by omega)
  have h3 := uval_cmp 0 (mg x)
  have h4 := uval_cmp 0 (mg y)
  rw [h0] at h3 h4
  unfold sval key
  split <;> split <;> constructor <;> omega
theorem order_key (x y : Nat) (hx : mg x ≤ 9218868437227405312) (hy : mg y ≤ 9218868437227405312) : double.order x y = some (compare (key x) (key y)) := by
  unfold Format.order
  have hxy : mg x < 9218868437227405312 ∨ mg x = 9218868437227405312 := by omega
  have hyy : mg y < 9218868437227405312 ∨ mg y = 9218868437227405312 := by omega
  rcases hxy with h | h
  · obtain ⟨M, P, e1, p1, v1⟩ := read_fin x h
    rcases hyy with k | k
    · obtain ⟨N, Q, e2, p2, v2⟩ := read_fin y k
      rw [e1, e2]
      simp only [Datum.order]
      congr 1
      have a1 := signed_sval v1 (Int.min_le_left P Q) (by omega)
      have a2 := signed_sval v2 (Int.min_le_right P Q) (by omega)
      have hk : 0 < ((2 ^ (min P Q + 1074).toNat : Nat) : Int) := Int.natCast_pos.2 (Nat.two_pow_pos _)
      have s := sval_cmp x y
      rw [a1, a2] at s
      refine cmp_same ?_ ?_
      · rw [← s.1]; exact (Int.mul_lt_mul_right hk).symm
      · rw [← s.2]; exact (Int.mul_eq_mul_right_iff (by omega)).symm
    · rw [e1, read_inf y k]
      simp only [Datum.order]
      congr 1
      unfold key
      cases ng y <;> simp only [Bool.false_eq_true, if_false, if_true]
      · exact (cmp_lt (by split <;> omega)).symm
      · exact (cmp_gt (by split <;> omega)).symm
  · rcases hyy with k | k
    · obtain ⟨N, Q, e2, p2, v2⟩ := read_fin y k
      rw [e2, read_inf x h]
      simp only [Datum.order]
      congr 1
      unfold key
      cases ng x <;> simp only [Bool.false_eq_true, if_false, if_true]
      · exact (cmp_gt (by split <;> omega)).symm
      · exact (cmp_lt (by split <;> omega)).symm
    · rw [read_inf x h, read_inf y k]
      simp only [Datum.order]
      congr 1
      unfold key
      rw [h, k]
      cases ng x <;> cases ng y <;> rfl
theorem order_nan (x y : Nat) (h : 9218868437227405312 < mg x ∨ 9218868437227405312 < mg y) : double.order x y = none := by
  unfold Format.order
  rcases h with h | h
  · rw [read_nan x h]; rfl
  · rw [read_nan y h]; cases double.read x <;> rfl
/-- Which datum is a number or an infinity. -/
def Told : Datum → Prop
  | .nan .. => False
  | _ => True
theorem word_mg (s : Bool) (k : Nat) (h : k < 9223372036854775808) : mg (double.word s k) = k ∧ ng (double.word s k) = s := by
  unfold Format.word mg ng
  rw [d_sw]
  cases s
  · simp only [Bool.false_eq_true, if_false]
    refine ⟨by omega, ?_⟩
    rw [Nat.div_eq_of_lt h]; rfl
  · simp only [if_true]
    refine ⟨by omega, ?_⟩
    rw [show (9223372036854775808 + k) / 9223372036854775808 = 1 by omega]; rfl
theorem word_lt64 (s : Bool) (k : Nat) (h : k < 9223372036854775808) : double.word s k < 18446744073709551616 := by
  unfold Format.word
  rw [d_sw]
  split <;> omega
/-- A word is its sign and its size. -/
theorem word_of (x : Nat) (h : x < 18446744073709551616) : double.word (ng x) (mg x) = x := by
  unfold Format.word ng mg
  rw [d_sw]
  rcases Nat.lt_or_ge x 9223372036854775808 with g | g
  · rw [Nat.div_eq_of_lt g]; simp; omega
  · rw [show x / 9223372036854775808 = 1 by omega]; simp; omega
theorem nearest_mg (s : Bool) (m : Nat) (p : Int) : mg (double.nearest s m p) ≤ 9218868437227405312 ∧ ng (double.nearest s m p) = s := by
  unfold Format.nearest
  rw [d_inf]
  dsimp only
  split
  · have := word_mg s 0 (by omega); exact ⟨by omega, this.2⟩
  · have := word_mg s (min ((max (p + ↑m.log2 - ↑double.fractionBits) double.leastPlace - double.leastPlace).toNat * double.binade + Toward.even.cut s (m <<< (p - max (p + ↑m.log2 - ↑double.fractionBits) double.leastPlace).toNat) (max (p + ↑m.log2 - ↑double.fractionBits) double.leastPlace - p).toNat) 9218868437227405312) (by omega)
    exact ⟨by omega, this.2⟩
theorem write_mg (d : Datum) (h : Told d) : mg (double.write d) ≤ 9218868437227405312 ∧ ng (double.write d) = d.neg ∧ double.write d < 18446744073709551616 := by
  refine ⟨?_, ?_, double.write_lt d⟩
  · cases d with
    | number s m p => exact (nearest_mg s m p).1
    | infinity s => have := word_mg s 9218868437227405312 (by omega); show mg (double.word s double.infRung) ≤ _; rw [d_inf]; omega
    | nan => exact h.elim
  · cases d with
    | number s m p => exact (nearest_mg s m p).2
    | infinity s => have := word_mg s 9218868437227405312 (by omega); show ng (double.word s double.infRung) = _; rw [d_inf]; exact this.2
    | nan => exact h.elim
theorem sum_told {a b d : Datum} (h : a.sum b = some d) : Told d := by
  cases a <;> cases b <;> simp [Datum.sum] at h <;> first | (subst h; trivial) | (obtain ⟨_, rfl⟩ := h; trivial) | (split at h <;> first | (cases h; trivial) | cases h)
theorem product_told {a b d : Datum} (h : a.product b = some d) : Told d := by
  cases a <;> cases b <;> simp [Datum.product] at h <;> first | (subst h; trivial) | (obtain ⟨_, rfl⟩ := h; trivial) | (split at h <;> first | (cases h; trivial) | cases h)
theorem quotient_told {n : Nat} {a b d : Datum} (h : a.quotient n b = some d) : Told d := by
  cases a <;> cases b <;> simp only [Datum.quotient] at h <;> first | (cases h; trivial) | (cases h; done) | skip
  split at h
  · split at h <;> cases h; trivial
  · cases h; trivial
/-- What an operation answers, if it answers, is a float of 64 bits and no NaN. -/
theorem map_told {o : Option Datum} {r : Nat} (ho : ∀ d, o = some d → Told d) (h : o.map double.write = some r) : mg r ≤ 9218868437227405312 ∧ r < 18446744073709551616 := by
  cases o with
  | none => cases h
  | some d => cases h; exact ⟨(write_mg d (ho d rfl)).1, (write_mg d (ho d rfl)).2.2⟩
theorem add_told {x y r : Nat} (h : double.add x y = some r) : mg r ≤ 9218868437227405312 ∧ r < 18446744073709551616 := map_told (fun _ => sum_told) h
theorem sub_told {x y r : Nat} (h : double.sub x y = some r) : mg r ≤ 9218868437227405312 ∧ r < 18446744073709551616 := map_told (fun _ => sum_told) h
theorem mul_told {x y r : Nat} (h : double.mul x y = some r) : mg r ≤ 9218868437227405312 ∧ r < 18446744073709551616 := map_told (fun _ => product_told) h
theorem div_told {x y r : Nat} (h : double.div x y = some r) : mg r ≤ 9218868437227405312 ∧ r < 18446744073709551616 := map_told (fun _ => quotient_told) h
theorem fma_told {x y z r : Nat} (h : double.fma x y z = some r) : mg r ≤ 9218868437227405312 ∧ r < 18446744073709551616 := by
  refine map_told (fun d hd => ?_) h
  cases hp : (double.read x).product (double.read y) with
  | none => rw [hp] at hd; cases hd
  | some e => rw [hp] at hd; exact sum_told hd
/-- Finite operands are answered. -/
theorem add_fin {x y : Nat} (hx : mg x < 9218868437227405312) (hy : mg y < 9218868437227405312) : ∃ r, double.add x y = some r := by
  obtain ⟨M, P, e1, _, _⟩ := read_fin x hx
  obtain ⟨N, Q, e2, _, _⟩ := read_fin y hy
  unfold Format.add; rw [e1, e2]; exact ⟨_, rfl⟩
theorem sub_fin {x y : Nat} (hx : mg x < 9218868437227405312) (hy : mg y < 9218868437227405312) : ∃ r, double.sub x y = some r := by
  obtain ⟨M, P, e1, _, _⟩ := read_fin x hx
  obtain ⟨N, Q, e2, _, _⟩ := read_fin y hy
  unfold Format.sub; rw [e1, e2]; exact ⟨_, rfl⟩
theorem mul_fin {x y : Nat} (hx : mg x < 9218868437227405312) (hy : mg y < 9218868437227405312) : ∃ r, double.mul x y = some r := by
  obtain ⟨M, P, e1, _, _⟩ := read_fin x hx
  obtain ⟨N, Q, e2, _, _⟩ := read_fin y hy
  unfold Format.mul; rw [e1, e2]; exact ⟨_, rfl⟩
theorem uval_pos {m : Nat} (h : 0 < m) : 0 < uval m := by
  have := uval_lt h
  rw [uval_small (by omega)] at this; omega
theorem div_fin {x y : Nat} (hx : mg x < 9218868437227405312) (hy : mg y < 9218868437227405312) (h0 : 0 < mg y) : ∃ r, double.div x y = some r := by
  obtain ⟨M, P, e1, _, _⟩ := read_fin x hx
  obtain ⟨N, Q, e2, _, v2⟩ := read_fin y hy
  have hN : N ≠ 0 := by
    have := uval_pos h0
    intro h; subst h; simp at v2; omega
  unfold Format.div; rw [e1, e2]
  simp only [Datum.quotient, if_neg hN]; exact ⟨_, rfl⟩
end Go.Proofs.YtghcoijinihlnaaGreat.Fl
namespace Go.Proofs.YtghcoijinihlnaaGreat.Fl
open Go.RowKit Ieee
/-- The NaN that is drawn. -/
def nanw (w : World) (x y : Nat) : Nat := Question.cut (.nanBits .f64 x y) (w.tape w.drawn (.nanBits .f64 x y))
theorem nanw_is (w : World) (x y : Nat) : 9218868437227405312 < mg (nanw w x y) ∧ nanw w x y < 18446744073709551616 := by
  unfold nanw Question.cut mg
  generalize w.tape w.drawn (.nanBits .f64 x y) = t
  show 9218868437227405312 < (t % 2 * 9223372036854775808 + 9218868437227405312 + 1 + t / 2 % 4503599627370495) % 9223372036854775808 ∧ t % 2 * 9223372036854775808 + 9218868437227405312 + 1 + t / 2 % 4503599627370495 < 18446744073709551616
  have h1 : t / 2 % 4503599627370495 < 4503599627370495 := Nat.mod_lt _ (by omega)
  generalize t / 2 % 4503599627370495 = u at *
  rcases Nat.mod_two_eq_zero_or_one t with h | h <;> rw [h] <;> omega
/-- What an operation answers in a world. -/
def fop (op : BinOp) (x y : Nat) (w : World) : Nat := (floatBits op .f64 x y).getD (nanw w x y)
/-- How many draws it takes. -/
def nd (op : BinOp) (x y : Nat) : Nat := if (floatBits op .f64 x y).isSome then 0 else 1
theorem run_fop {P : Program} (op : BinOp) (ho : op = .add ∨ op = .sub ∨ op = .mul ∨ op = .quo) (t : TypeId) (x y : Nat) (w : World) : (binOp op t (.float .f64 x) (.float .f64 y)).run P w = .ok (.float .f64 (fop op x y w)) (w.drewN (nd op x y)) := by
  unfold fop nd
  cases h : floatBits op .f64 x y with
  | some r => exact run_float_arith w op t .f64 x y r h
  | none =>
    rcases ho with rfl | rfl | rfl | rfl <;> (
      simp only [floatBits] at h
      simp [binOp, Op.floatArith, h, nanw, Question.forced]
      rfl)
theorem run_add {P : Program} (t : TypeId) (x y : Nat) (w : World) : (binOp .add t (.float .f64 x) (.float .f64 y)).run P w = .ok (.float .f64 (fop .add x y w)) (w.drewN (nd .add x y)) := run_fop .add (.inl rfl) t x y w
theorem run_sub {P : Program} (t : TypeId) (x y : Nat) (w : World) : (binOp .sub t (.float .f64 x) (.float .f64 y)).run P w = .ok (.float .f64 (fop .sub x y w)) (w.drewN (nd .sub x y)) := run_fop .sub (.inr (.inl rfl)) t x y w
theorem run_mul {P : Program} (t : TypeId) (x y : Nat) (w : World) : (binOp .mul t (.float .f64 x) (.float .f64 y)).run P w = .ok (.float .f64 (fop .mul x y w)) (w.drewN (nd .mul x y)) := run_fop .mul (.inr (.inr (.inl rfl))) t x y w
theorem run_quo {P : Program} (t : TypeId) (x y : Nat) (w : World) : (binOp .quo t (.float .f64 x) (.float .f64 y)).run P w = .ok (.float .f64 (fop .quo x y w)) (w.drewN (nd .quo x y)) := run_fop .quo (.inr (.inr (.inr rfl))) t x y w
theorem fop_some {op : BinOp} {x y r : Nat} (h : floatBits op .f64 x y = some r) (w : World) : fop op x y w = r ∧ nd op x y = 0 := by simp [fop, nd, h]
theorem fop_none {op : BinOp} {x y : Nat} (h : floatBits op .f64 x y = none) (w : World) : fop op x y w = nanw w x y ∧ nd op x y = 1 := by simp [fop, nd, h]
theorem andNot63 (x : Nat) (h : x < 18446744073709551616) : bits .andNot .u64 (x : Int) 9223372036854775808 = (mg x : Int) := by
  have h1 := u64_andNot_nat x 9223372036854775808 h (by omega)
  rw [show ((9223372036854775808 : Nat) : Int) = 9223372036854775808 from rfl] at h1
  rw [h1]
  congr 1
  show x &&& (2 ^ 63 - 1) = x % 9223372036854775808
  rw [Nat.and_two_pow_sub_one_eq_mod]
theorem run_bits (x : Nat) (w : World) : (callFunc 32 #[.float .f64 x]).run Tryz.prog w = .ok (.value (.int .u64 x)) w := by
  rw [run_callFunc_extern Tryz.func32 (by kernel_rfl) (by kernel_rfl) (by kernel_rfl) (e := Extern.MathFloatBits.float64bits) (by kernel_rfl)]
  rfl
theorem run_from (n : Int) (w : World) : (callFunc 47 #[.int .u64 n]).run Tryz.prog w = .ok (.value (.float .f64 n.toNat)) w := by
  rw [run_callFunc_extern Tryz.func47 (by kernel_rfl) (by kernel_rfl) (by kernel_rfl) (e := Extern.MathFloatBits.float64frombits) (by kernel_rfl)]
  rfl
/-- Which kind: nought, finite, beyond. -/
def kd (x : Nat) : Int := if mg x = 0 then 0 else if mg x < 9218868437227405312 then 1 else 2
set_option maxHeartbeats 400000 in
theorem kindOf_any (x : Nat) (w : World) (h : x < 18446744073709551616) : Calls Tryz.prog 72 #[.float .f64 x] w fun e w' => e = .returned (.int .u8 (kd x)) ∧ w' = w := by
  have hb := andNot63 x h
  have hfb := run_bits
  have hff := run_from
  unfold kd
  by_cases h0 : mg x = 0
  · rw [h0] at hb
    rw [if_pos h0]
    clear h0
    go_enter Tryz.func72, Tryz.ntmps72
    go_wp2
    go_ret; exact ⟨rfl, rfl⟩
  · rw [if_neg h0]
    have h0' : ((mg x : Nat) : Int) ≠ 0 := by omega
    by_cases h1 : mg x < 9218868437227405312
    · rw [if_pos h1]
      have h1' : ((mg x : Nat) : Int) < 9218868437227405312 := by omega
      obtain ⟨m, hm⟩ : ∃ m : Int, ((mg x : Nat) : Int) = m := ⟨_, rfl⟩
      rw [hm] at hb h0' h1'
      clear hm h h0 h1
      go_enter Tryz.func72, Tryz.ntmps72
      go_wp2
      go_ret; exact ⟨rfl, rfl⟩
    · rw [if_neg h1]
      have h1' : ¬ ((mg x : Nat) : Int) < 9218868437227405312 := by omega
      obtain ⟨m, hm⟩ : ∃ m : Int, ((mg x : Nat) : Int) = m := ⟨_, rfl⟩
      rw [hm] at hb h0' h1'
      clear hm h h0 h1
      go_enter Tryz.func72, Tryz.ntmps72
      go_wp2
      go_ret; exact ⟨rfl, rfl⟩
set_option maxHeartbeats 400000 in
theorem abs_any (x : Nat) (w : World) (h : x < 18446744073709551616) : Calls Tryz.prog 73 #[.float .f64 x] w fun e w' => e = .returned (.float .f64 (mg x)) ∧ w' = w := by
  have hb := andNot63 x h
  have hfb := run_bits
  have hff := run_from
  go_enter Tryz.func73, Tryz.ntmps73
  go_wp2
  go_ret; exact ⟨rfl, rfl⟩
set_option maxHeartbeats 400000 in
theorem signbit_any (x : Nat) (w : World) (h : x < 18446744073709551616) : Calls Tryz.prog 14 #[.float .f64 x] w fun e w' => e = .returned (.bool (ng x)) ∧ w' = w := by
  have hfb := run_bits
  have hw : decide (wrap64 (x : Int) < 0) = ng x := by
    unfold wrap64 ng
    rcases Nat.lt_or_ge x 9223372036854775808 with g | g
    · rw [Nat.div_eq_of_lt g]; simp; omega
    · rw [show x / 9223372036854775808 = 1 by omega]; simp; omega
  go_enter Tryz.func14, Tryz.ntmps14
  go_wp2
  go_ret; exact ⟨rfl, rfl⟩
end Go.Proofs.YtghcoijinihlnaaGreat.Fl
namespace Go.Proofs.YtghcoijinihlnaaGreat.Fl
open Go.RowKit Ieee
theorem run_fma_some {x y z r : Nat} (h : double.fma x y z = some r) (w : World) : (callFunc 99 #[.float .f64 x, .float .f64 y, .float .f64 z]).run Tryz.prog w = .ok (.value (.float .f64 r)) w := by
  rw [run_callFunc_extern Tryz.func99 (by kernel_rfl) (by kernel_rfl) (by kernel_rfl) (e := Extern.MathFMA.fma) (by kernel_rfl)]
  have e : Extern.MathFMA.fma #[.float .f64 x, .float .f64 y, .float .f64 z] = pure (.float .f64 r) := by
    have h' : FloatKind.f64.format.fma x y z = some r := h
    show (match FloatKind.f64.format.fma x y z with | some r => pure (Value.float .f64 r) | none => _) = _
    rw [h']
  rw [e]; rfl
/-- Finite and not nought. -/
def Pl (x : Nat) : Prop := 0 < mg x ∧ mg x < 9218868437227405312
theorem kd_cases (x : Nat) : kd x = 1 ∧ Pl x ∨ (kd x = 0 ∨ kd x = 2) ∧ ¬ Pl x := by unfold kd Pl; split <;> (try split) <;> omega
set_option maxHeartbeats 1000000 in
theorem plain2_any (g x y : Nat) (w : World) (hx : x < 18446744073709551616) (hy : y < 18446744073709551616) (hc : w.cell? ⟨g, 0, none⟩ = some (.float .f64 x)) (hd : w.cell? ⟨g, 1, none⟩ = some (.float .f64 y)) :
    Calls Tryz.prog 70 #[.slice (some ⟨g, 0, none⟩) 2 2] w fun e w' => ∃ b, e = .returned (.bool b) ∧ (b = true ↔ Pl x ∧ Pl y) ∧ w' = w := by
  have HX := Lib.hid (fun W => kindOf_any x W hx)
  have HY := Lib.hid (fun W => kindOf_any y W hy)
  clear hx hy
  rcases kd_cases x with ⟨h, hp⟩ | ⟨h, hp⟩
  · rw [h] at HX
    have HP := Lib.hid hp
    clear h hp
    rcases kd_cases y with ⟨h, hp⟩ | ⟨h, hp⟩
    · rw [h] at HY
      have HQ := Lib.hid hp
      clear h hp
      go_enter Tryz.func70, Tryz.ntmps70
      go_wp2
      refine wp_loop_rounds 3 ?_
      rw [rounds_succ]
      go_wp2_with (go_at_call 72; refine (HX.out _).mono ?_; rintro e w' ⟨rfl, rfl⟩)
      rw [rounds_succ]
      go_wp2_with (go_at_call 72; refine (HY.out _).mono ?_; rintro e w' ⟨rfl, rfl⟩)
      rw [rounds_succ]
      go_wp2
      go_ret; exact ⟨true, rfl, by simp [HP.out, HQ.out], rfl⟩
    · rcases h with h | h <;>
      (rw [h] at HY
       have HQ := Lib.hid hp
       clear h hp
       go_enter Tryz.func70, Tryz.ntmps70
       go_wp2
       refine wp_loop_rounds 3 ?_
       rw [rounds_succ]
       go_wp2_with (go_at_call 72; refine (HX.out _).mono ?_; rintro e w' ⟨rfl, rfl⟩)
       rw [rounds_succ]
       go_wp2_with (go_at_call 72; refine (HY.out _).mono ?_; rintro e w' ⟨rfl, rfl⟩)
       go_ret; exact ⟨false, rfl, by simp [HP.out, HQ.out], rfl⟩)
  · rcases h with h | h <;>
    (rw [h] at HX
     have HP := Lib.hid hp
     clear h hp
     go_enter Tryz.func70, Tryz.ntmps70
     go_wp2
     refine wp_loop_rounds 3 ?_
     rw [rounds_succ]
     go_wp2_with (go_at_call 72; refine (HX.out _).mono ?_; rintro e w' ⟨rfl, rfl⟩)
     go_ret; exact ⟨false, rfl, by simp [HP.out], rfl⟩)
/-- Is the answer exact? -/
def exactly (own lost : Nat) : Bool := decide (0 < mg own ∧ mg own < 9218868437227405312) && (double.order lost 0 == some .eq)
/-- The rung behind which the exact result lies: that of the own answer, or the one before it. -/
def near (own lost : Nat) : Nat := if mg own = 0 then 0 else if mg own < 9218868437227405312 ∧ (double.order lost 0 == some .gt) = (double.order own 0 == some .gt) then mg own else mg own - 1
/-- The own answer twice, or the two floats at that rung. -/
def lo (own lost : Nat) : Nat := if exactly own lost then own else double.word (ng own) (near own lost + (ng own).toNat)
def hi (own lost : Nat) : Nat := if exactly own lost then own else double.word (ng own) (near own lost + (!ng own).toNat)
theorem lohi_exact {own lost : Nat} (h : 0 < mg own) (h1 : mg own < 9218868437227405312) (h2 : (double.order lost 0 == some .eq) = true) : lo own lost = own ∧ hi own lost = own := by
  have : exactly own lost = true := by unfold exactly; rw [h2, Bool.and_true]; exact decide_eq_true ⟨h, h1⟩
  unfold lo hi; rw [this]; exact ⟨rfl, rfl⟩
theorem lohi_out {own lost : Nat} (ho : own < 18446744073709551616) (hx : exactly own lost = false) (hn : near own lost = mg own) : (ng own = false → lo own lost = own ∧ hi own lost = own + 1) ∧ (ng own = true → lo own lost = own + 1 ∧ hi own lost = own) := by
  have hw := word_of own ho
  unfold lo hi
  rw [hx, hn]
  unfold Format.word at *
  rw [d_sw] at *
  cases h : ng own <;> rw [h] at hw <;> simp at hw ⊢ <;> omega
theorem lohi_in {own lost : Nat} (ho : own < 18446744073709551616) (hx : exactly own lost = false) (hn : near own lost + 1 = mg own) : (ng own = false → lo own lost = own - 1 ∧ hi own lost = own) ∧ (ng own = true → lo own lost = own ∧ hi own lost = own - 1) := by
  have hw := word_of own ho
  unfold lo hi
  rw [hx]
  unfold Format.word at *
  rw [d_sw] at *
  cases h : ng own <;> rw [h] at hw <;> simp at hw ⊢ <;> omega
set_option maxHeartbeats 4000000 in
theorem about_any (own lost : Nat) (w : World) (ho : own < 18446744073709551616) (hn : mg own ≤ 9218868437227405312) :
    Calls Tryz.prog 44 #[.float .f64 own, .float .f64 lost] w fun e w' => e = .returned (.tuple #[.float .f64 (lo own lost), .float .f64 (hi own lost)]) ∧ w' = w := by
  have HK := Lib.hid (fun W => kindOf_any own W ho)
  have HS := Lib.hid (fun W => signbit_any own W ho)
  have hfb := run_bits
  have hff := run_from
  have hlt : mg own ≤ own := Nat.mod_le _ _
  have hoi0 : (0 : Int) ≤ own := by omega
  have hoi : (own : Int) ≤ 18442240474082181120 := by unfold mg at hn; omega
  rcases Nat.eq_zero_or_pos (mg own) with h0 | h0
  · have hx : exactly own lost = false := by unfold exactly; rw [decide_eq_false (by omega)]; rfl
    have hr : near own lost = mg own := by unfold near; rw [if_pos h0, h0]
    have HV := Lib.hid (lohi_out ho hx hr)
    have hk : kd own = 0 := by unfold kd; rw [if_pos h0]
    rw [hk] at HK
    clear hx hr hk h0 hn ho hlt
    cases hs : ng own
    · rw [hs] at HS HV
      go_enter Tryz.func44, Tryz.ntmps44
      go_wp2_with (first | (go_at_call 72; refine (HK.out _).mono ?_; rintro e w' ⟨rfl, rfl⟩) | (go_at_call 14; refine (HS.out _).mono ?_; rintro e w' ⟨rfl, rfl⟩))
      go_ret2
      have h := (HV.out).1 (by trivial)
      rw [h.1, h.2]; exact ⟨rfl, rfl⟩
    · rw [hs] at HS HV
      go_enter Tryz.func44, Tryz.ntmps44
      go_wp2_with (first | (go_at_call 72; refine (HK.out _).mono ?_; rintro e w' ⟨rfl, rfl⟩) | (go_at_call 14; refine (HS.out _).mono ?_; rintro e w' ⟨rfl, rfl⟩))
      go_ret2
      have h := (HV.out).2 (by trivial)
      rw [h.1, h.2]; exact ⟨rfl, rfl⟩
  · have hpos : 0 < own := by omega
    have hpi : (1 : Int) ≤ own := by omega
    rcases Nat.lt_or_ge (mg own) 9218868437227405312 with h1 | h1
    · have hk : kd own = 1 := by unfold kd; rw [if_neg (by omega), if_pos h1]
      rw [hk] at HK
      cases he : (double.order lost 0 == some .eq)
      · have hx : exactly own lost = false := by unfold exactly; rw [he, Bool.and_false]
        have he' : (FloatKind.f64.format.order lost 0 == some .eq) = false := he
        obtain ⟨p, hp⟩ : ∃ p, (double.order lost 0 == some .gt) = p := ⟨_, rfl⟩
        obtain ⟨q, hq⟩ : ∃ q, (double.order own 0 == some .gt) = q := ⟨_, rfl⟩
        have hp' : (FloatKind.f64.format.order lost 0 == some .gt) = p := hp
        have hq' : (FloatKind.f64.format.order own 0 == some .gt) = q := hq
        by_cases hpq : p = q
        · have hr : near own lost = mg own := by unfold near; rw [if_neg (by omega), if_pos ⟨h1, by rw [hp, hq, hpq]⟩]
          have HV := Lib.hid (lohi_out ho hx hr)
          have hd : (p == q) = true := by simp [hpq]
          clear hx hr hk h0 hn ho hlt hpos h1 hp hq he hpq
          cases hs : ng own
          · rw [hs] at HS HV
            go_enter Tryz.func44, Tryz.ntmps44
            go_wp2_with (first | (go_at_call 72; refine (HK.out _).mono ?_; rintro e w' ⟨rfl, rfl⟩) | (go_at_call 14; refine (HS.out _).mono ?_; rintro e w' ⟨rfl, rfl⟩))
            go_ret2
            have h := (HV.out).1 (by trivial)
            rw [h.1, h.2]; exact ⟨rfl, rfl⟩
          · rw [hs] at HS HV
            go_enter Tryz.func44, Tryz.ntmps44
            go_wp2_with (first | (go_at_call 72; refine (HK.out _).mono ?_; rintro e w' ⟨rfl, rfl⟩) | (go_at_call 14; refine (HS.out _).mono ?_; rintro e w' ⟨rfl, rfl⟩))
            go_ret2
            have h := (HV.out).2 (by trivial)
            rw [h.1, h.2]; exact ⟨rfl, rfl⟩
        · have hr : near own lost + 1 = mg own := by unfold near; rw [if_neg (by omega), if_neg (fun h => hpq (by rw [← hp, ← hq]; exact h.2))]; omega
          have HV := Lib.hid (lohi_in ho hx hr)
          have hd : (p == q) = false := by simp [hpq]
          clear hx hr hk h0 hn ho hlt h1 hp hq he hpq
          cases hs : ng own
          · rw [hs] at HS HV
            go_enter Tryz.func44, Tryz.ntmps44
            go_wp2_with (first | (go_at_call 72; refine (HK.out _).mono ?_; rintro e w' ⟨rfl, rfl⟩) | (go_at_call 14; refine (HS.out _).mono ?_; rintro e w' ⟨rfl, rfl⟩))
            go_ret2
            have h := (HV.out).1 (by trivial)
            rw [h.1, h.2]; exact ⟨rfl, rfl⟩
          · rw [hs] at HS HV
            go_enter Tryz.func44, Tryz.ntmps44
            go_wp2_with (first | (go_at_call 72; refine (HK.out _).mono ?_; rintro e w' ⟨rfl, rfl⟩) | (go_at_call 14; refine (HS.out _).mono ?_; rintro e w' ⟨rfl, rfl⟩))
            go_ret2
            have h := (HV.out).2 (by trivial)
            rw [h.1, h.2]; exact ⟨rfl, rfl⟩
      · have hv := lohi_exact h0 h1 he
        have he' : (FloatKind.f64.format.order lost 0 == some .eq) = true := he
        clear hk h0 hn ho hlt h1 he HS
        rw [hv.1, hv.2]
        clear hv
        go_enter Tryz.func44, Tryz.ntmps44
        go_wp2_with (go_at_call 72; refine (HK.out _).mono ?_; rintro e w' ⟨rfl, rfl⟩)
        go_ret2
        exact ⟨rfl, rfl⟩
    · have hx : exactly own lost = false := by unfold exactly; rw [decide_eq_false (by omega)]; rfl
      have hr : near own lost + 1 = mg own := by unfold near; rw [if_neg (by omega), if_neg (by omega)]; omega
      have HV := Lib.hid (lohi_in ho hx hr)
      have hk : kd own = 2 := by unfold kd; rw [if_neg (by omega), if_neg (by omega)]
      rw [hk] at HK
      clear hx hr hk h0 hn ho hlt h1
      cases hs : ng own
      · rw [hs] at HS HV
        go_enter Tryz.func44, Tryz.ntmps44
        go_wp2_with (first | (go_at_call 72; refine (HK.out _).mono ?_; rintro e w' ⟨rfl, rfl⟩) | (go_at_call 14; refine (HS.out _).mono ?_; rintro e w' ⟨rfl, rfl⟩))
        go_ret2
        have h := (HV.out).1 (by trivial)
        rw [h.1, h.2]; exact ⟨rfl, rfl⟩
      · rw [hs] at HS HV
        go_enter Tryz.func44, Tryz.ntmps44
        go_wp2_with (first | (go_at_call 72; refine (HK.out _).mono ?_; rintro e w' ⟨rfl, rfl⟩) | (go_at_call 14; refine (HS.out _).mono ?_; rintro e w' ⟨rfl, rfl⟩))
        go_ret2
        have h := (HV.out).2 (by trivial)
        rw [h.1, h.2]; exact ⟨rfl, rfl⟩
end Go.Proofs.YtghcoijinihlnaaGreat.Fl
namespace Go.Proofs.YtghcoijinihlnaaGreat.Fl
open Go.RowKit Ieee
/-- A float with the other sign. -/
def ngf (x : Nat) : Nat := x ^^^ 9223372036854775808
theorem ngf_lt {x : Nat} (h : x < 18446744073709551616) : ngf x < 18446744073709551616 := Nat.xor_lt_two_pow (n := 64) h (by decide)
theorem ngf_is {x : Nat} (h : x < 18446744073709551616) : mg (ngf x) = mg x ∧ ng (ngf x) = !ng x := by
  have e0 : ngf x % 2 ^ 63 = x % 2 ^ 63 := by
    unfold ngf
    rw [Nat.xor_mod_two_pow]; simp
  have e1 : ngf x / 2 ^ 63 = (x / 2 ^ 63) ^^^ 1 := by
    unfold ngf
    have := Nat.shiftRight_xor_distrib (a := x) (b := 9223372036854775808) (i := 63)
    rw [Nat.shiftRight_eq_div_pow, Nat.shiftRight_eq_div_pow, Nat.shiftRight_eq_div_pow] at this
    rw [this]
  refine ⟨e0, ?_⟩
  unfold ng
  rw [show (9223372036854775808 : Nat) = 2 ^ 63 by decide, e1]
  have : x / 2 ^ 63 = 0 ∨ x / 2 ^ 63 = 1 := by omega
  rcases this with h | h <;> rw [h] <;> rfl
theorem run_ngf (x : Nat) : Op.unary .neg (.float .f64 x) = pure (.float .f64 (ngf x)) := rfl
theorem ord_lt (x y : Nat) : (FloatKind.f64.format.order x y == some .lt) = decide (mg x ≤ 9218868437227405312 ∧ mg y ≤ 9218868437227405312 ∧ key x < key y) := by
  show (double.order x y == some .lt) = _
  by_cases h : mg x ≤ 9218868437227405312 ∧ mg y ≤ 9218868437227405312
  · rw [order_key x y h.1 h.2]
    rcases Int.lt_trichotomy (key x) (key y) with g | g | g
    · rw [cmp_lt g, decide_eq_true ⟨h.1, h.2, g⟩]; rfl
    · rw [g, cmp_eq, decide_eq_false (by omega)]; rfl
    · rw [cmp_gt g, decide_eq_false (by omega)]; rfl
  · rw [order_nan x y (by omega), decide_eq_false (fun g => h ⟨g.1, g.2.1⟩)]; rfl
theorem ord_gt (x y : Nat) : (FloatKind.f64.format.order x y == some .gt) = decide (mg x ≤ 9218868437227405312 ∧ mg y ≤ 9218868437227405312 ∧ key y < key x) := by
  show (double.order x y == some .gt) = _
  by_cases h : mg x ≤ 9218868437227405312 ∧ mg y ≤ 9218868437227405312
  · rw [order_key x y h.1 h.2]
    rcases Int.lt_trichotomy (key x) (key y) with g | g | g
    · rw [cmp_lt g, decide_eq_false (by omega)]; rfl
    · rw [g, cmp_eq, decide_eq_false (by omega)]; rfl
    · rw [cmp_gt g, decide_eq_true ⟨h.1, h.2, g⟩]; rfl
  · rw [order_nan x y (by omega), decide_eq_false (fun g => h ⟨g.1, g.2.1⟩)]; rfl
theorem ord_eq (x y : Nat) : (FloatKind.f64.format.order x y == some .eq) = decide (mg x ≤ 9218868437227405312 ∧ mg y ≤ 9218868437227405312 ∧ key x = key y) := by
  show (double.order x y == some .eq) = _
  by_cases h : mg x ≤ 9218868437227405312 ∧ mg y ≤ 9218868437227405312
  · rw [order_key x y h.1 h.2]
    rcases Int.lt_trichotomy (key x) (key y) with g | g | g
    · rw [cmp_lt g, decide_eq_false (by omega)]; rfl
    · rw [g, cmp_eq, decide_eq_true ⟨h.1, h.2, rfl⟩]; rfl
    · rw [cmp_gt g, decide_eq_false (by omega)]; rfl
  · rw [order_nan x y (by omega), decide_eq_false (fun g => h ⟨g.1, g.2.1⟩)]; rfl
theorem mg_max : mg 9218868437227405311 = 9218868437227405311 ∧ ng 9218868437227405311 = false := by decide
theorem gt_max (x : Nat) : (FloatKind.f64.format.order x 9218868437227405311 == some .gt) = decide (mg x = 9218868437227405312 ∧ ng x = false) := by
  rw [ord_gt, mg_max.1]
  have : key 9218868437227405311 = 9218868437227405311 := by decide
  rw [this]
  unfold key
  by_cases h : mg x = 9218868437227405312
  · rw [h]
    cases ng x <;> simp
  · rw [decide_eq_false (p := mg x = _ ∧ _) (fun g => h g.1)]
    refine decide_eq_false ?_
    split <;> omega
set_option maxHeartbeats 400000 in
theorem isInfUp_any (x : Nat) (w : World) : Calls Tryz.prog 46 #[.float .f64 x, .int .i64 1] w fun e w' => e = .returned (.bool (decide (mg x = 9218868437227405312 ∧ ng x = false))) ∧ w' = w := by
  have h := gt_max x
  obtain ⟨b, hb⟩ : ∃ b, decide (mg x = 9218868437227405312 ∧ ng x = false) = b := ⟨_, rfl⟩
  rw [hb] at h ⊢
  clear hb
  go_enter Tryz.func46, Tryz.ntmps46
  go_wp2
  go_ret; exact ⟨rfl, rfl⟩
set_option maxHeartbeats 400000 in
theorem isInfDown_any (x : Nat) (w : World) (hx : x < 18446744073709551616) : Calls Tryz.prog 46 #[.float .f64 x, .int .i64 (-1)] w fun e w' => e = .returned (.bool (decide (mg x = 9218868437227405312 ∧ ng x = true))) ∧ w' = w := by
  have h := gt_max (ngf x)
  have hn := run_ngf
  have e : decide (mg (ngf x) = 9218868437227405312 ∧ ng (ngf x) = false) = decide (mg x = 9218868437227405312 ∧ ng x = true) := by
    rw [(ngf_is hx).1, (ngf_is hx).2]
    cases ng x <;> simp
  rw [e] at h
  obtain ⟨b, hb⟩ : ∃ b, decide (mg x = 9218868437227405312 ∧ ng x = true) = b := ⟨_, rfl⟩
  rw [hb] at h ⊢
  clear hb e hx
  go_enter Tryz.func46, Tryz.ntmps46
  go_wp2
  go_ret; exact ⟨rfl, rfl⟩
theorem eq_zero (x : Nat) : (FloatKind.f64.format.order x 0 == some .eq) = decide (mg x = 0) := by
  rw [ord_eq]
  have : mg 0 = 0 := by decide
  have h0 : key 0 = 0 := by decide
  rw [this, h0]
  unfold key
  by_cases h : mg x = 0
  · rw [h]; simp
  · rw [decide_eq_false h]
    refine decide_eq_false ?_
    split <;> omega
theorem gt_zero (x : Nat) (h0 : 0 < mg x) (h : mg x ≤ 9218868437227405312) : (FloatKind.f64.format.order x 0 == some .gt) = !ng x := by
  rw [ord_gt]
  have : mg 0 = 0 := by decide
  have hk : key 0 = 0 := by decide
  rw [this, hk]
  unfold key
  cases ng x <;> simp <;> omega
end Go.Proofs.YtghcoijinihlnaaGreat.Fl
namespace Go.Proofs.YtghcoijinihlnaaGreat.Fl
open Go.RowKit Ieee
/-- math.FMA's answer in a world, and how many draws it takes. -/
def fmaw (x y z : Nat) (w : World) : Nat := (double.fma x y z).getD (if Extern.MathFMA.isNaN x then nanw w x y else if Extern.MathFMA.isNaN y then nanw w y z else nanw w z z)
def fman (x y z : Nat) : Nat := if (double.fma x y z).isSome then 0 else 1
theorem run_fma (x y z : Nat) (w : World) : (callFunc 99 #[.float .f64 x, .float .f64 y, .float .f64 z]).run Tryz.prog w = .ok (.value (.float .f64 (fmaw x y z w))) (w.drewN (fman x y z)) := by
  unfold fmaw fman
  cases h : double.fma x y z with
  | some r => exact run_fma_some h w
  | none =>
    rw [run_callFunc_extern Tryz.func99 (by kernel_rfl) (by kernel_rfl) (by kernel_rfl) (e := Extern.MathFMA.fma) (by kernel_rfl)]
    have e : Extern.MathFMA.fma #[.float .f64 x, .float .f64 y, .float .f64 z] = (do
      let (a, b) := if Extern.MathFMA.isNaN x then (x, y) else if Extern.MathFMA.isNaN y then (y, z) else (z, z)
      pure (.float .f64 (← choose (.nanBits .f64 a b)))) := by
      have h' : FloatKind.f64.format.fma x y z = none := h
      show (match FloatKind.f64.format.fma x y z with | some r => pure (Value.float .f64 r) | none => (do
        let (a, b) := if Extern.MathFMA.isNaN x then (x, y) else if Extern.MathFMA.isNaN y then (y, z) else (z, z)
        pure (Value.float .f64 (← choose (.nanBits .f64 a b))))) = _
      rw [h']
    rw [e]
    by_cases h1 : Extern.MathFMA.isNaN x
    · simp [h1, Question.forced, nanw]; rfl
    · by_cases h2 : Extern.MathFMA.isNaN y
      · simp [h1, h2, Question.forced, nanw]; rfl
      · simp [h1, h2, Question.forced, nanw]; rfl
theorem fmaw_some {x y z r : Nat} (h : double.fma x y z = some r) (w : World) : fmaw x y z w = r ∧ fman x y z = 0 := by simp [fmaw, fman, h]
def sqn (x : Nat) : Nat := if (double.sqrt x).isSome then 0 else 1
/-- Is the number so small that left lifts it? -/
def lsmall (z : Nat) : Bool := FloatKind.f64.format.order (mg z) 553942754166571008 == some .lt
/-- What left's formula says. -/
def LeftIs (x y z r : Nat) : Prop := ∃ x1 z1, (if lsmall z then double.mul x 5507902344274116608 = some x1 ∧ double.mul z 5507902344274116608 = some z1 else x1 = x ∧ z1 = z) ∧ double.fma (ngf x1) y z1 = some r
set_option maxHeartbeats 400000 in
theorem left_any (x y z : Nat) (w : World) (hz : z < 18446744073709551616) :
    Calls Tryz.prog 71 #[.float .f64 x, .float .f64 y, .float .f64 z] w fun e w' => ∃ l n, e = .returned (.float .f64 l) ∧ w' = w.drewN n ∧ ∀ r, LeftIs x y z r → l = r ∧ n = 0 := by
  have HA := Lib.hid (fun W => abs_any z W hz)
  have hf := run_fma
  have hm := fun t x y w => run_mul (P := Tryz.prog) t x y w
  have hn := run_ngf
  clear hz
  cases hs : lsmall z
  · have HL : Hid (∀ r, LeftIs x y z r → double.fma (ngf x) y z = some r) := Lib.hid (fun r ⟨x1, z1, h, h2⟩ => by
      rw [hs] at h; obtain ⟨rfl, rfl⟩ := h; exact h2)
    unfold lsmall at hs
    go_enter Tryz.func71, Tryz.ntmps71
    go_wp2_with (go_at_call 73; refine (HA.out _).mono ?_; rintro e w' ⟨rfl, rfl⟩)
    go_ret
    exact ⟨_, _, rfl, rfl, fun r hr => fmaw_some (HL.out r hr) _⟩
  · have HL : Hid (∀ r, LeftIs x y z r → ∃ x1 z1, double.mul x 5507902344274116608 = some x1 ∧ double.mul z 5507902344274116608 = some z1 ∧ double.fma (ngf x1) y z1 = some r) := Lib.hid (fun r ⟨x1, z1, h, h2⟩ => by
      rw [hs] at h; exact ⟨x1, z1, h.1, h.2, h2⟩)
    unfold lsmall at hs
    go_enter Tryz.func71, Tryz.ntmps71
    go_wp2_with (go_at_call 73; refine (HA.out _).mono ?_; rintro e w' ⟨rfl, rfl⟩)
    go_ret
    refine ⟨_, _, rfl, rfl, fun r hr => ?_⟩
    obtain ⟨x1, z1, h1, h2, h3⟩ := HL.out r hr
    have e1 := fop_some (op := .mul) h1
    have e2 := fop_some (op := .mul) h2
    rw [(e1 _).1, (e1 w').2, (e2 _).1, (e2 w').2, (fmaw_some h3 _).1, (fmaw_some h3 w').2]
    exact ⟨rfl, rfl⟩
/-- The sum and what it has lost: what Two's formula says. -/
def TwoIs (a b s l : Nat) : Prop := (9218868437227405312 ≤ mg s ∧ l = 0) ∨ (mg s < 9218868437227405312 ∧ ∃ z y, (if FloatKind.f64.format.order (mg a) (mg b) == some .lt then double.sub s b = some z ∧ double.sub a z = some y else double.sub s a = some z ∧ double.sub b z = some y) ∧ double.add y 0 = some l)
theorem sum_fin {x y r : Nat} (h : double.add x y = some r) (hr : mg r < 9218868437227405312) : mg x < 9218868437227405312 ∧ mg y < 9218868437227405312 := by
  have inf_w : ∀ s, mg (double.write (.infinity s)) = 9218868437227405312 := fun s => by
    show mg (double.word s double.infRung) = _; rw [d_inf]; exact (word_mg s _ (by omega)).1
  rcases Nat.lt_or_ge (mg x) 9218868437227405312 with g | g
  · refine ⟨g, ?_⟩
    rcases Nat.lt_or_ge (mg y) 9218868437227405312 with k | k
    · exact k
    · exfalso
      obtain ⟨M, P, e1, _, _⟩ := read_fin x g
      unfold Format.add at h
      rcases Nat.lt_or_eq_of_le k with k | k
      · rw [e1, read_nan y k] at h; cases h
      · rw [e1, read_inf y k.symm] at h; cases h; rw [inf_w] at hr; omega
  · exfalso
    unfold Format.add at h
    rcases Nat.lt_or_eq_of_le g with g | g
    · rw [read_nan x g] at h; cases h
    · rw [read_inf x g.symm] at h
      rcases Nat.lt_or_ge (mg y) 9218868437227405312 with k | k
      · obtain ⟨M, P, e1, _, _⟩ := read_fin y k
        rw [e1] at h; cases h; rw [inf_w] at hr; omega
      · rcases Nat.lt_or_eq_of_le k with k | k
        · rw [read_nan y k] at h; cases h
        · rw [read_inf y k.symm] at h
          simp only [Datum.sum] at h
          split at h
          · cases h; rw [inf_w] at hr; omega
          · cases h
theorem add_zero_some {y : Nat} (h : mg y ≤ 9218868437227405312) : ∃ l, double.add y 0 = some l := by
  rcases Nat.lt_or_eq_of_le h with g | g
  · exact add_fin g (by decide)
  · unfold Format.add
    obtain ⟨M, P, e1, _, _⟩ := read_fin 0 (by decide)
    rw [read_inf y g, e1]; exact ⟨_, rfl⟩
theorem sub_fin_any {x y : Nat} (hx : mg x < 9218868437227405312) (hy : mg y ≤ 9218868437227405312) : ∃ l, double.sub x y = some l := by
  rcases Nat.lt_or_eq_of_le hy with g | g
  · exact sub_fin hx g
  · unfold Format.sub
    obtain ⟨M, P, e1, _, _⟩ := read_fin x hx
    rw [read_inf y g, e1]; exact ⟨_, rfl⟩
theorem fop_lt (op : BinOp) (x y : Nat) (w : World) : fop op x y w < 18446744073709551616 := by
  unfold fop
  cases h : floatBits op .f64 x y with
  | none => exact (nanw_is w x y).2
  | some r =>
    have := floatBits_wf h
    simp [Lit.wf] at this
    exact this
theorem fop_mg (op : BinOp) (x y : Nat) (w : World) : mg (fop op x y w) ≤ 9218868437227405312 ∧ (∃ r, floatBits op .f64 x y = some r ∧ fop op x y w = r ∧ nd op x y = 0) ∨ 9218868437227405312 < mg (fop op x y w) ∧ floatBits op .f64 x y = none := by
  cases h : floatBits op .f64 x y with
  | none => right; rw [(fop_none h w).1]; exact ⟨(nanw_is w x y).1, rfl⟩
  | some r =>
    left
    have h2 := fop_some h w
    rw [h2.1]
    refine ⟨?_, r, rfl, rfl, h2.2⟩
    cases op <;> simp only [floatBits] at h <;> first | cases h | exact (add_told h).1 | exact (sub_told h).1 | exact (mul_told h).1 | exact (div_told h).1
theorem add_fop {x y s : Nat} (h : double.add x y = some s) (w : World) : fop .add x y w = s ∧ nd .add x y = 0 := fop_some (op := .add) h w
theorem sub_fop {x y s : Nat} (h : double.sub x y = some s) (w : World) : fop .sub x y w = s ∧ nd .sub x y = 0 := fop_some (op := .sub) h w
set_option maxHeartbeats 2000000 in
theorem two_any (a b : Nat) (w : World) (ha : a < 18446744073709551616) (hb : b < 18446744073709551616) :
    Calls Tryz.prog 30 #[.float .f64 a, .float .f64 b] w fun e w' => ∃ l, e = .returned (.tuple #[.float .f64 (fop .add a b w), .float .f64 l]) ∧ w' = w.drewN (nd .add a b) ∧ TwoIs a b (fop .add a b w) l := by
  have hadd := fun t x y w => run_add (P := Tryz.prog) t x y w
  have hsub := fun t x y w => run_sub (P := Tryz.prog) t x y w
  have HK := Lib.hid (fun W => kindOf_any (fop .add a b w) W (fop_lt .add a b w))
  have HA := Lib.hid (fun W => abs_any a W ha)
  have HB := Lib.hid (fun W => abs_any b W hb)
  obtain ⟨s, hs⟩ : ∃ s, fop .add a b w = s := ⟨_, rfl⟩
  obtain ⟨n, hn⟩ : ∃ n, nd .add a b = n := ⟨_, rfl⟩
  have hm := fop_mg .add a b w
  rw [hs] at HK hm
  have hadd0 : ∀ t, (binOp .add t (.float .f64 a) (.float .f64 b)).run Tryz.prog w = .ok (.float .f64 s) (w.drewN n) := fun t => by rw [hadd, hs, hn]
  rw [hs, hn]
  rcases Nat.lt_or_ge (mg s) 9218868437227405312 with h1 | h1
  · have hk : kd s ≠ 2 := by unfold kd; split <;> (try split) <;> omega
    rw [hn] at hm
    obtain ⟨r, hr, rfl, rfl⟩ : ∃ r, floatBits .add .f64 a b = some r ∧ s = r ∧ n = 0 := by
      rcases hm with ⟨_, r, h⟩ | ⟨h, _⟩
      · exact ⟨r, h⟩
      · omega
    have hfin := sum_fin (show double.add a b = some s from hr) h1
    cases ho : (FloatKind.f64.format.order (mg a) (mg b) == some .lt)
    · obtain ⟨z, hz⟩ := sub_fin h1 hfin.1
      obtain ⟨y, hy⟩ := sub_fin_any hfin.2 (sub_told hz).1
      obtain ⟨l, hl⟩ := add_zero_some (sub_told hy).1
      have hT : Hid (TwoIs a b s l) := Lib.hid (.inr ⟨h1, z, y, by rw [ho]; exact ⟨hz, hy⟩, hl⟩)
      have e1 : ∀ t W, (binOp .sub t (.float .f64 s) (.float .f64 a)).run Tryz.prog W = .ok (.float .f64 z) W := fun t W => by rw [hsub, (sub_fop hz W).1, (sub_fop hz W).2]; rfl
      have e2 : ∀ t W, (binOp .sub t (.float .f64 b) (.float .f64 z)).run Tryz.prog W = .ok (.float .f64 y) W := fun t W => by rw [hsub, (sub_fop hy W).1, (sub_fop hy W).2]; rfl
      have e3 : ∀ t W, (binOp .add t (.float .f64 y) (.float .f64 0)).run Tryz.prog W = .ok (.float .f64 l) W := fun t W => by rw [hadd, (add_fop hl W).1, (add_fop hl W).2]; rfl
      obtain ⟨k, hkk⟩ : ∃ k, kd s = k := ⟨_, rfl⟩
      rw [hkk] at HK hk
      have hkd : (k == 2) = false := by simpa using hk
      clear hz hy hl hfin hr h1 hm hs hn hadd hsub ha hb hkk
      go_enter Tryz.func30, Tryz.ntmps30
      go_wp2_with (first | (go_at_call 72; refine (HK.out _).mono ?_; rintro e w' ⟨rfl, rfl⟩) | (go_at_call 73; with_reducible refine (HA.out _).mono ?_; rintro e w' ⟨rfl, rfl⟩) | (go_at_call 73; with_reducible refine (HB.out _).mono ?_; rintro e w' ⟨rfl, rfl⟩))
      go_ret2
      exact ⟨_, rfl, rfl, hT.out⟩
    · obtain ⟨z, hz⟩ := sub_fin h1 hfin.2
      obtain ⟨y, hy⟩ := sub_fin_any hfin.1 (sub_told hz).1
      obtain ⟨l, hl⟩ := add_zero_some (sub_told hy).1
      have hT : Hid (TwoIs a b s l) := Lib.hid (.inr ⟨h1, z, y, by rw [ho]; exact ⟨hz, hy⟩, hl⟩)
      have e1 : ∀ t W, (binOp .sub t (.float .f64 s) (.float .f64 b)).run Tryz.prog W = .ok (.float .f64 z) W := fun t W => by rw [hsub, (sub_fop hz W).1, (sub_fop hz W).2]; rfl
      have e2 : ∀ t W, (binOp .sub t (.float .f64 a) (.float .f64 z)).run Tryz.prog W = .ok (.float .f64 y) W := fun t W => by rw [hsub, (sub_fop hy W).1, (sub_fop hy W).2]; rfl
      have e3 : ∀ t W, (binOp .add t (.float .f64 y) (.float .f64 0)).run Tryz.prog W = .ok (.float .f64 l) W := fun t W => by rw [hadd, (add_fop hl W).1, (add_fop hl W).2]; rfl
      obtain ⟨k, hkk⟩ : ∃ k, kd s = k := ⟨_, rfl⟩
      rw [hkk] at HK hk
      have hkd : (k == 2) = false := by simpa using hk
      clear hz hy hl hfin hr h1 hm hs hn hadd hsub ha hb hkk
      go_enter Tryz.func30, Tryz.ntmps30
      go_wp2_with (first | (go_at_call 72; refine (HK.out _).mono ?_; rintro e w' ⟨rfl, rfl⟩) | (go_at_call 73; with_reducible refine (HA.out _).mono ?_; rintro e w' ⟨rfl, rfl⟩) | (go_at_call 73; with_reducible refine (HB.out _).mono ?_; rintro e w' ⟨rfl, rfl⟩))
      go_ret2
      exact ⟨_, rfl, rfl, hT.out⟩
  · have hk : kd s = 2 := by unfold kd; split <;> (try split) <;> omega
    rw [hk] at HK
    have hT : Hid (TwoIs a b s 0) := Lib.hid (.inl ⟨h1, rfl⟩)
    clear h1 hm hs hn hadd hsub ha hb hk HA HB
    go_enter Tryz.func30, Tryz.ntmps30
    go_wp2_with (go_at_call 72; refine (HK.out _).mono ?_; rintro e w' ⟨rfl, rfl⟩)
    go_ret2
    exact ⟨_, rfl, rfl, hT.out⟩
end Go.Proofs.YtghcoijinihlnaaGreat.Fl
namespace Go.Proofs.YtghcoijinihlnaaGreat.Fl
open Ieee
theorem cut_even (s : Bool) (n d : Nat) : ∃ k r, n = k * 2 ^ d + r ∧ r < 2 ^ d ∧
    ((Toward.even.cut s n d = k ∧ 2 * r ≤ 2 ^ d ∧ (2 * r = 2 ^ d → k % 2 = 0)) ∨ (Toward.even.cut s n d = k + 1 ∧ 2 ^ d ≤ 2 * r ∧ (2 * r = 2 ^ d → k % 2 = 1))) := by
  have hd : 0 < 2 ^ d := Nat.two_pow_pos _
  refine ⟨n / 2 ^ d, n % 2 ^ d, by rw [Nat.mul_comm]; exact (Nat.div_add_mod _ _).symm, Nat.mod_lt _ hd, ?_⟩
  unfold Toward.cut
  rw [Nat.shiftLeft_eq, Nat.one_mul]
  dsimp only
  by_cases h : d ≤ n.log2 + 2
  · rw [Nat.min_eq_left h]
    obtain ⟨g, hg⟩ : ∃ g, 2 ^ d = g := ⟨_, rfl⟩
    rw [hg] at hd ⊢
    obtain ⟨k, hk⟩ : ∃ k, n / g = k := ⟨_, rfl⟩
    obtain ⟨r, hr⟩ : ∃ r, n % g = r := ⟨_, rfl⟩
    rw [hk, hr]
    by_cases h1 : g < 2 * r
    · right; simp [h1]; omega
    · by_cases h2 : g = 2 * r
      · rcases Nat.mod_two_eq_zero_or_one k with h3 | h3
        · left; simp [h1, h3]; omega
        · right; simp [h2, h3]
      · left; simp [h1, h2]; omega
  · rw [Nat.min_eq_right (by omega)]
    have h1 := @Nat.lt_log2_self n
    have h2 : n * 2 < 2 ^ (n.log2 + 2) := by rw [Nat.pow_succ]; omega
    have h3 : 2 ^ (n.log2 + 2) ≤ 2 ^ d := Nat.pow_le_pow_right (by omega) (by omega)
    obtain ⟨g, hg⟩ : ∃ g, 2 ^ (n.log2 + 2) = g := ⟨_, rfl⟩
    rw [hg] at h2 h3 ⊢
    left
    rw [Nat.div_eq_of_lt (by omega), Nat.mod_eq_of_lt (by omega), Nat.div_eq_of_lt (show n < 2 ^ d by omega), Nat.mod_eq_of_lt (show n < 2 ^ d by omega)]
    have h4 : ¬ g < 2 * n := by omega
    have h5 : ¬ g = 2 * n := by omega
    simp [h4]; omega
theorem uval_bin {e k : Nat} (h : e = 0 ∨ 4503599627370496 ≤ k) (hk : k ≤ 9007199254740992) : uval (e * 4503599627370496 + k) = k * 2 ^ e := by
  unfold uval
  rcases Nat.lt_or_ge k 4503599627370496 with h1 | h1
  · have : e = 0 := by omega
    subst this
    rw [if_pos (by omega)]; simp
  · rw [if_neg (by omega)]
    rcases Nat.lt_or_eq_of_le hk with h2 | h2
    · have e1 : (e * 4503599627370496 + k) / 4503599627370496 = e + 1 := by omega
      have e2 : (e * 4503599627370496 + k) % 4503599627370496 = k - 4503599627370496 := by omega
      rw [e1, e2, show 4503599627370496 + (k - 4503599627370496) = k by omega, Nat.add_sub_cancel]
    · have e1 : (e * 4503599627370496 + k) / 4503599627370496 = e + 2 := by omega
      have e2 : (e * 4503599627370496 + k) % 4503599627370496 = 0 := by omega
      rw [e1, e2, h2, show e + 2 - 1 = e + 1 by omega, Nat.pow_succ, Nat.mul_comm (2 ^ e) 2, ← Nat.mul_assoc]
/-- R is the rung nearest to m times 2 to the p; between two the even one. -/
def NearR (m : Nat) (p : Int) (R : Nat) : Prop := ∀ A B : Nat, (A : Int) - B = p + 1074 →
  2 * (m * 2 ^ A) ≤ (uval R + uval (R + 1)) * 2 ^ B ∧ (2 * (m * 2 ^ A) = (uval R + uval (R + 1)) * 2 ^ B → R % 2 = 0) ∧
  ∀ Q, R = Q + 1 → (uval Q + uval R) * 2 ^ B ≤ 2 * (m * 2 ^ A) ∧ ((uval Q + uval R) * 2 ^ B = 2 * (m * 2 ^ A) → R % 2 = 0)
theorem near_spec (s : Bool) (m : Nat) (p : Int) : ∃ R, double.nearest s m p = double.word s (min R 9218868437227405312) ∧ NearR m p R := by
  rcases Nat.eq_zero_or_pos m with h0 | h0
  · subst h0
    refine ⟨0, by simp [Format.nearest], fun A B _ => ⟨by simp, fun h => rfl, fun Q h => by omega⟩⟩
  · unfold Format.nearest
    rw [d_inf, d_binade, d_lp, if_neg (by omega)]
    dsimp only
    have hfb : (double.fractionBits : Int) = 52 := rfl
    rw [hfb]
    obtain ⟨last, hlast⟩ : ∃ last, max (p + ↑m.log2 - 52) (-1074) = last := ⟨_, rfl⟩
    rw [hlast]
    obtain ⟨e, he⟩ : ∃ e : Nat, last = (e : Int) - 1074 := ⟨(last + 1074).toNat, by omega⟩
    have hen : (last - -1074).toNat = e := by omega
    rw [hen]
    have l1 := Nat.log2_self_le (n := m) (by omega)
    have l2 := @Nat.lt_log2_self m
    by_cases hp : last ≤ p
    · -- nothing is dropped
      have hz : (last - p).toNat = 0 := by omega
      obtain ⟨j, hj⟩ : ∃ j : Nat, p = last + j := ⟨(p - last).toNat, by omega⟩
      have hjn : (p - last).toNat = j := by omega
      rw [hz, hjn]
      obtain ⟨k, r, h1, h2, h3⟩ := cut_even s (m <<< j) 0
      simp only [Nat.pow_zero] at h1 h2 h3
      have hr : r = 0 := by omega
      subst hr
      have hcut : Toward.even.cut s (m <<< j) 0 = k := by rcases h3 with h | h <;> omega
      rw [hcut]
      have hk : k = m * 2 ^ j := by rw [← Nat.shiftLeft_eq]; omega
      have hlo : e = 0 ∨ 4503599627370496 ≤ k := by
        rcases Nat.eq_zero_or_pos e with h | h
        · exact .inl h
        · right
          have : m.log2 + j = 52 := by omega
          have h5 := Nat.mul_le_mul_right (2 ^ j) l1
          rw [← Nat.pow_add, this] at h5
          rw [hk]; exact h5
      have hhi : k < 9007199254740992 := by
        have : m.log2 + 1 + j ≤ 53 := by omega
        have h5 := Nat.mul_lt_mul_of_pos_right l2 (Nat.two_pow_pos j)
        rw [← Nat.pow_add] at h5
        have h6 := Nat.pow_le_pow_right (n := 2) (by omega) this
        rw [hk]; exact Nat.lt_of_lt_of_le h5 h6
      have hu := uval_bin hlo (Nat.le_of_lt hhi)
      refine ⟨_, rfl, fun A B hab => ?_⟩
      have hA : A = j + e + B := by omega
      have hv : m * 2 ^ A = uval (e * 4503599627370496 + k) * 2 ^ B := by
        rw [hu, hk, hA, Nat.pow_add, Nat.pow_add, Nat.mul_assoc, Nat.mul_assoc, Nat.mul_assoc]
      have hB := Nat.two_pow_pos B
      have hs := uval_step (e * 4503599627370496 + k)
      rw [hv]
      obtain ⟨R, hR⟩ : ∃ R, e * 4503599627370496 + k = R := ⟨_, rfl⟩
      rw [hR] at hs hv ⊢
      rw [hR] at hu
      clear hu hhi hlo
      have t1 := Nat.mul_lt_mul_of_pos_right hs hB
      refine ⟨by rw [Nat.add_mul]; omega, fun h => by rw [Nat.add_mul] at h; omega, fun Q hQ => ?_⟩
      subst hQ
      have t2 := Nat.mul_lt_mul_of_pos_right (uval_step Q) hB
      exact ⟨by rw [Nat.add_mul]; omega, fun h => by rw [Nat.add_mul] at h; omega⟩
    · obtain ⟨d, hd⟩ : ∃ d : Nat, last = p + d := ⟨(last - p).toNat, by omega⟩
      have hdn : (last - p).toNat = d := by omega
      have hz : (p - last).toNat = 0 := by omega
      rw [hdn, hz, Nat.shiftLeft_zero]
      obtain ⟨k, r, h1, h2, h3⟩ := cut_even s m d
      have hD := Nat.two_pow_pos d
      have hlo : e = 0 ∨ 4503599627370496 ≤ k := by
        rcases Nat.eq_zero_or_pos e with h | h
        · exact .inl h
        · right
          have : m.log2 = 52 + d := by omega
          rw [this, Nat.pow_add, show (2 : Nat) ^ 52 = 4503599627370496 by decide] at l1
          rcases Nat.lt_or_ge k 4503599627370496 with h5 | h5
          · exfalso
            have h6 := Nat.mul_le_mul_right (2 ^ d) (show k + 1 ≤ 4503599627370496 by omega)
            rw [Nat.add_mul] at h6; omega
          · exact h5
      have hhi : k < 9007199254740992 := by
        have : m.log2 + 1 ≤ 53 + d := by omega
        have h6 := Nat.pow_le_pow_right (n := 2) (by omega) this
        rw [Nat.pow_add 2 53 d, show (2 : Nat) ^ 53 = 9007199254740992 by decide] at h6
        rcases Nat.lt_or_ge k 9007199254740992 with h5 | h5
        · exact h5
        · exfalso
          have h7 := Nat.mul_le_mul_right (2 ^ d) h5
          omega
      have u0 := uval_bin hlo (Nat.le_of_lt hhi)
      have u1 := uval_bin (e := e) (k := k + 1) (by omega) (by omega)
      rw [show e * 4503599627370496 + (k + 1) = e * 4503599627370496 + k + 1 by omega] at u1
      -- 2 m 2^A against odd multiples, over a common factor
      have key : ∀ A B : Nat, (A : Int) - B = p + 1074 → ∀ x : Nat, (2 * (m * 2 ^ A) ≤ x * 2 ^ e * 2 ^ B ↔ 2 * m ≤ x * 2 ^ d) ∧ (x * 2 ^ e * 2 ^ B ≤ 2 * (m * 2 ^ A) ↔ x * 2 ^ d ≤ 2 * m) := fun A B hab x => by
        have hA : A + d = e + B := by omega
        have hF := Nat.two_pow_pos (e + B)
        have a1 : 2 * (m * 2 ^ A) * 2 ^ d = 2 * m * 2 ^ (e + B) := by
          rw [← hA, Nat.pow_add]; simp only [Nat.mul_assoc]
        have a2 : x * 2 ^ e * 2 ^ B * 2 ^ d = x * 2 ^ d * 2 ^ (e + B) := by
          rw [Nat.pow_add]; simp only [Nat.mul_assoc]
          rw [Nat.mul_comm (2 ^ d) (2 ^ e * 2 ^ B)]; simp only [Nat.mul_assoc]
        constructor
        · constructor
          · intro h
            have := Nat.mul_le_mul_right (2 ^ d) h
            rw [a1, a2] at this
            exact Nat.le_of_mul_le_mul_right this hF
          · intro h
            have := Nat.mul_le_mul_right (2 ^ (e + B)) h
            rw [← a1, ← a2] at this
            exact Nat.le_of_mul_le_mul_right this hD
        · constructor
          · intro h
            have := Nat.mul_le_mul_right (2 ^ d) h
            rw [a1, a2] at this
            exact Nat.le_of_mul_le_mul_right this hF
          · intro h
            have := Nat.mul_le_mul_right (2 ^ (e + B)) h
            rw [← a1, ← a2] at this
            exact Nat.le_of_mul_le_mul_right this hD
      have hs2 : uval (e * 4503599627370496 + k) + uval (e * 4503599627370496 + k + 1) = (2 * k + 1) * 2 ^ e := by
        rw [u0, u1, ← Nat.add_mul]; congr 1; omega
      have hm : 2 * m = 2 * (k * 2 ^ d) + 2 * r := by omega
      have hx : (2 * k + 1) * 2 ^ d = 2 * (k * 2 ^ d) + 2 ^ d := by rw [Nat.add_mul, Nat.one_mul, Nat.mul_assoc]
      rcases h3 with ⟨hc, h4, h5⟩ | ⟨hc, h4, h5⟩
      · rw [hc]
        refine ⟨_, rfl, fun A B hab => ?_⟩
        have kk := key A B hab (2 * k + 1)
        have k2 := key A B hab (2 * k)
        rw [hs2]
        refine ⟨kk.1.2 (by omega), fun h => ?_, fun Q hQ => ?_⟩
        · have := kk.2.1 (Nat.le_of_eq h.symm)
          have := h5 (by omega)
          omega
        · have hq := uval_step Q
          rw [← hQ] at hq
          have e3 : uval (e * 4503599627370496 + k) * 2 ^ B ≤ m * 2 ^ A := by
            have h9 := k2.2.2 (by rw [Nat.mul_assoc]; omega)
            rw [u0]
            rw [Nat.mul_assoc 2 k, Nat.mul_assoc 2] at h9
            omega
          have t2 := Nat.mul_lt_mul_of_pos_right hq (Nat.two_pow_pos B)
          exact ⟨by rw [Nat.add_mul]; omega, fun h => by rw [Nat.add_mul] at h; omega⟩
      · rw [hc]
        refine ⟨_, rfl, fun A B hab => ?_⟩
        have kk := key A B hab (2 * k + 1)
        have k2 := key A B hab (2 * (k + 1))
        rw [show e * 4503599627370496 + (k + 1) = e * 4503599627370496 + k + 1 by omega]
        have e3 : m * 2 ^ A ≤ uval (e * 4503599627370496 + k + 1) * 2 ^ B := by
          have h9 := k2.1.2 (by rw [Nat.mul_assoc, Nat.add_mul, Nat.one_mul]; omega)
          rw [u1]
          rw [Nat.mul_assoc 2 (k + 1), Nat.mul_assoc 2] at h9
          omega
        have hq := uval_step (e * 4503599627370496 + k + 1)
        have t2 := Nat.mul_lt_mul_of_pos_right hq (Nat.two_pow_pos B)
        refine ⟨by rw [Nat.add_mul]; omega, fun h => by rw [Nat.add_mul] at h; omega, fun Q hQ => ?_⟩
        obtain rfl : Q = e * 4503599627370496 + k := by omega
        rw [hs2]
        refine ⟨kk.2.2 (by omega), fun h => ?_⟩
        have := kk.1.1 (Nat.le_of_eq h.symm)
        have := h5 (by omega)
        omega
end Go.Proofs.YtghcoijinihlnaaGreat.Fl
namespace Go.Proofs.YtghcoijinihlnaaGreat.Fl
open Ieee
theorem nearR_unique {m : Nat} {p : Int} {R S : Nat} (h : NearR m p R) (k : NearR m p S) : R = S := by
  have main : ∀ {R S : Nat}, NearR m p R → NearR m p S → ¬ R < S := fun {R S} h k hlt => by
    obtain ⟨A, B, hab⟩ : ∃ A B : Nat, (A : Int) - B = p + 1074 := ⟨(p + 1074).toNat, (-(p + 1074)).toNat, by omega⟩
    have h1 := h A B hab
    obtain ⟨Q, rfl⟩ : ∃ Q, S = Q + 1 := ⟨S - 1, by omega⟩
    have k1 := (k A B hab).2.2 Q rfl
    have hB := Nat.two_pow_pos B
    rcases Nat.lt_or_eq_of_le (show R ≤ Q by omega) with g | g
    · have a := Nat.mul_lt_mul_of_pos_right (show uval R + uval (R + 1) < uval Q + uval (Q + 1) by
        have := uval_lt g; have := uval_lt (show R + 1 < Q + 1 by omega); omega) hB
      omega
    · subst g
      have e : 2 * (m * 2 ^ A) = (uval R + uval (R + 1)) * 2 ^ B := by omega
      have := h1.2.1 e
      have := k1.2 e.symm
      omega
  have a := main h k
  have b := main k h
  omega
/-- A greater number is not rounded to a lesser rung. -/
theorem nearR_mono {m n : Nat} {p q : Int} {R S : Nat} (h : NearR m p R) (k : NearR n q S) (A B C D : Nat) (h1 : (A : Int) - B = p + 1074) (h2 : (C : Int) - D = q + 1074) (hle : m * 2 ^ A * 2 ^ D ≤ n * 2 ^ C * 2 ^ B) : R ≤ S := by
  rcases Nat.lt_or_ge S R with g | g
  · exfalso
    obtain ⟨Q, rfl⟩ : ∃ Q, R = Q + 1 := ⟨R - 1, by omega⟩
    have a := (h A B h1).2.2 Q rfl
    have b := k C D h2
    have hBD : 0 < 2 ^ B * 2 ^ D := Nat.mul_pos (Nat.two_pow_pos B) (Nat.two_pow_pos D)
    have x1 := Nat.mul_le_mul_right (2 ^ D) a.1
    have x2 := Nat.mul_le_mul_right (2 ^ B) b.1
    have e1 : 2 * (m * 2 ^ A) * 2 ^ D = 2 * (m * 2 ^ A * 2 ^ D) := by rw [Nat.mul_assoc]
    have e2 : 2 * (n * 2 ^ C) * 2 ^ B = 2 * (n * 2 ^ C * 2 ^ B) := by rw [Nat.mul_assoc]
    have e3 : (uval S + uval (S + 1)) * 2 ^ D * 2 ^ B = (uval S + uval (S + 1)) * (2 ^ B * 2 ^ D) := by rw [Nat.mul_assoc, Nat.mul_comm (2 ^ D)]
    have e4 : (uval Q + uval (Q + 1)) * 2 ^ B * 2 ^ D = (uval Q + uval (Q + 1)) * (2 ^ B * 2 ^ D) := by rw [Nat.mul_assoc]
    rw [e1, e4] at x1
    rw [e2, e3] at x2
    rcases Nat.lt_or_eq_of_le (show S ≤ Q by omega) with g | g
    · have c := Nat.mul_lt_mul_of_pos_right (show uval S + uval (S + 1) < uval Q + uval (Q + 1) by
        have := uval_lt g; have := uval_lt (show S + 1 < Q + 1 by omega); omega) hBD
      omega
    · subst g
      have eq1 : (uval S + uval (S + 1)) * (2 ^ B * 2 ^ D) = 2 * (m * 2 ^ A * 2 ^ D) := by omega
      have eq2 : 2 * (n * 2 ^ C * 2 ^ B) = (uval S + uval (S + 1)) * (2 ^ B * 2 ^ D) := by omega
      have f1 : (uval S + uval (S + 1)) * 2 ^ B = 2 * (m * 2 ^ A) := by
        refine Nat.eq_of_mul_eq_mul_right (Nat.two_pow_pos D) ?_
        rw [e4, e1]; exact eq1
      have f2 : 2 * (n * 2 ^ C) = (uval S + uval (S + 1)) * 2 ^ D := by
        refine Nat.eq_of_mul_eq_mul_right (Nat.two_pow_pos B) ?_
        rw [e2, e3]; exact eq2
      have := a.2 f1
      have := b.2.1 f2
      omega
  · exact g
/-- What a float is worth is rounded to that float. -/
theorem nearR_exact {m : Nat} {p : Int} {R : Nat} (A B : Nat) (h1 : (A : Int) - B = p + 1074) (h : m * 2 ^ A = uval R * 2 ^ B) : NearR m p R := by
  intro C D hcd
  have hv : m * 2 ^ C = uval R * 2 ^ D := by
    refine Nat.eq_of_mul_eq_mul_right (Nat.two_pow_pos B) ?_
    have e : C + B = A + D := by omega
    rw [Nat.mul_assoc, ← Nat.pow_add, e, Nat.pow_add, ← Nat.mul_assoc, h]
    simp only [Nat.mul_assoc]; rw [Nat.mul_comm (2 ^ B)]
  have hD := Nat.two_pow_pos D
  have s1 := Nat.mul_lt_mul_of_pos_right (uval_step R) hD
  rw [hv]
  refine ⟨by rw [Nat.add_mul]; omega, fun h => by rw [Nat.add_mul] at h; omega, fun Q hQ => ?_⟩
  subst hQ
  have s2 := Nat.mul_lt_mul_of_pos_right (uval_step Q) hD
  exact ⟨by rw [Nat.add_mul]; omega, fun h => by rw [Nat.add_mul] at h; omega⟩
theorem nearest_exact (s : Bool) {m : Nat} {p : Int} {R : Nat} (A B : Nat) (h1 : (A : Int) - B = p + 1074) (h : m * 2 ^ A = uval R * 2 ^ B) (hR : R ≤ 9218868437227405312) : double.nearest s m p = double.word s R := by
  obtain ⟨S, e, hS⟩ := near_spec s m p
  rw [e, nearR_unique hS (nearR_exact A B h1 h), Nat.min_eq_left hR]
/-- A sign is of no matter to how far it is rounded. -/
theorem nearest_sign (s : Bool) (m : Nat) (p : Int) : ∃ R, R ≤ 9218868437227405312 ∧ ∀ s, double.nearest s m p = double.word s R := by
  obtain ⟨S, _, hS⟩ := near_spec s m p
  refine ⟨min S 9218868437227405312, Nat.min_le_right _ _, fun t => ?_⟩
  obtain ⟨S', e', hS'⟩ := near_spec t m p
  rw [e', nearR_unique hS' hS]
end Go.Proofs.YtghcoijinihlnaaGreat.Fl
namespace Go.Proofs.YtghcoijinihlnaaGreat.Fl
open Go.RowKit Ieee
theorem cells2 (w : World) (x y : Value) (t : TypeId) : (w.alloc (.cells #[x, y] t)).cell? ⟨w.heap.size, 0, none⟩ = some x ∧ (w.alloc (.cells #[x, y] t)).cell? ⟨w.heap.size, 1, none⟩ = some y := ⟨by go_cell, by go_cell⟩
theorem below_self (B : Nat) (w : World) : Below B w w := ⟨rfl, rfl, rfl, Nat.le_refl _, fun _ _ => rfl⟩
theorem below_dn {B : Nat} {a w : World} (h : Below B a w) (n : Nat) : Below B a (w.drewN n) := ⟨h.os, h.tape, h.output, h.size, h.block⟩
/-- What Add's formula says. -/
def AddIs (a b s d u : Nat) : Prop := ((¬ (Pl a ∧ Pl b) ∨ mg s = 0) ∧ d = s ∧ u = s) ∨ (Pl a ∧ Pl b ∧ mg s ≠ 0 ∧ ∃ l, TwoIs a b s l ∧ d = lo s l ∧ u = hi s l)
/-- What an operation of two answers, by what it has lost. -/
def OpIs (a b s : Nat) (L : Nat → Prop) (d u : Nat) : Prop := (¬ (Pl a ∧ Pl b) ∧ d = s ∧ u = s) ∨ (Pl a ∧ Pl b ∧ ∃ l, L l ∧ d = lo s l ∧ u = hi s l)
set_option maxHeartbeats 1000000 in
theorem add_any (a b : Nat) (w : World) (ha : a < 18446744073709551616) (hb : b < 18446744073709551616) :
    Calls Tryz.prog 52 #[.float .f64 a, .float .f64 b] w fun e w' => ∃ d u, e = .returned (.tuple #[.float .f64 d, .float .f64 u]) ∧ Below w.heap.size w w' ∧ AddIs a b (fop .add a b w) d u := by
  have HT := Lib.hid (two_any a b w ha hb)
  have HP := Lib.hid (fun (g : Nat) W h0 h1 => plain2_any g a b W ha hb h0 h1)
  obtain ⟨s, hs⟩ : ∃ s, fop .add a b w = s := ⟨_, rfl⟩
  rw [hs] at HT ⊢
  have hz := eq_zero s
  obtain ⟨z, hzz⟩ : ∃ z, decide (mg s = 0) = z := ⟨_, rfl⟩
  rw [hzz] at hz
  have HA := Lib.hid (fun l (hm : mg s ≤ 9218868437227405312) W => about_any s l W (by rw [← hs]; exact fop_lt .add a b w) hm)
  have HM : Hid (Pl a ∧ Pl b → mg s ≤ 9218868437227405312) := Lib.hid (fun ⟨h1, h2⟩ => by
    obtain ⟨r, hr⟩ := add_fin h1.2 h2.2
    rw [← hs, (add_fop hr w).1]; exact (add_told hr).1)
  have HZ : Hid (z = true ↔ mg s = 0) := Lib.hid (by rw [← hzz]; simp)
  clear ha hb hs hzz
  go_enter Tryz.func52, Tryz.ntmps52
  go_wp2_with fail
  refine (HT.out).mono ?_
  rintro e w1 ⟨l, rfl, hw1, hT⟩
  have HTW := Lib.hid hT
  have hb1 : Below w.heap.size w w1 := by rw [hw1]; exact below_dn (below_self _ _) _
  have HSZ : Hid (w1.heap.size = w.heap.size) := Lib.hid (by rw [hw1]; rfl)
  clear hw1 hT
  go_wp2_with fail
  refine (HP.out _ _ (cells2 _ _ _ _).1 (cells2 _ _ _ _).2).mono ?_
  rintro e w2 ⟨p, rfl, hp, rfl⟩
  have HPP := Lib.hid hp
  clear hp
  have hb2 : Below w.heap.size w (w1.alloc (.cells #[.float .f64 a, .float .f64 b] 27)) := hb1.alloc (by have := HSZ.out; omega) _
  cases p
  · go_wp2
    go_ret2
    refine ⟨_, _, rfl, hb2, .inl ⟨.inl ?_, rfl, rfl⟩⟩
    have := HPP.out; simpa using this
  · have hpl : Pl a ∧ Pl b := (HPP.out).1 rfl
    cases z
    · go_wp2_with fail
      refine (HA.out l (HM.out hpl) _).mono ?_
      rintro e w3 ⟨rfl, rfl⟩
      go_wp2
      go_ret2
      exact ⟨_, _, rfl, hb2, .inr ⟨hpl.1, hpl.2, fun h => (by have := (HZ.out).2 h; cases this), l, HTW.out, rfl, rfl⟩⟩
    · go_wp2
      go_ret2
      exact ⟨_, _, rfl, hb2, .inl ⟨.inr ((HZ.out).1 (by trivial)), rfl, rfl⟩⟩
theorem sub_any (a b : Nat) (w : World) (ha : a < 18446744073709551616) (hb : b < 18446744073709551616) :
    Calls Tryz.prog 56 #[.float .f64 a, .float .f64 b] w fun e w' => ∃ d u, e = .returned (.tuple #[.float .f64 d, .float .f64 u]) ∧ Below w.heap.size w w' ∧ AddIs a (ngf b) (fop .add a (ngf b) w) d u := by
  have HT := Lib.hid (add_any a (ngf b) w ha (ngf_lt hb))
  have hn := run_ngf
  clear ha hb
  go_enter Tryz.func56, Tryz.ntmps56
  go_wp2_with fail
  refine (HT.out).mono ?_
  rintro e w1 ⟨d, u, rfl, hw1, hT⟩
  have HTW := Lib.hid hT
  clear hT
  go_wp2
  go_ret2
  exact ⟨_, _, rfl, hw1, HTW.out⟩
/-- What Mul and Quo have lost. -/
def MulLost (a b s l : Nat) : Prop := ∃ k, l = ngf k ∧ ∀ r, LeftIs a b s r → k = r
def QuoLost (a b s l : Nat) : Prop := ∃ k, l = (if ng b then ngf k else k) ∧ ∀ r, LeftIs s b a r → k = r
set_option maxHeartbeats 1000000 in
theorem mul_any (a b : Nat) (w : World) (ha : a < 18446744073709551616) (hb : b < 18446744073709551616) :
    Calls Tryz.prog 60 #[.float .f64 a, .float .f64 b] w fun e w' => ∃ d u, e = .returned (.tuple #[.float .f64 d, .float .f64 u]) ∧ Below w.heap.size w w' ∧ OpIs a b (fop .mul a b w) (MulLost a b (fop .mul a b w)) d u := by
  have hm := fun t => run_mul (P := Tryz.prog) t a b w
  have hn := run_ngf
  have HP := Lib.hid (fun (g : Nat) W h0 h1 => plain2_any g a b W ha hb h0 h1)
  have HL := Lib.hid (fun W => left_any a b (fop .mul a b w) W (fop_lt .mul a b w))
  obtain ⟨s, hs⟩ : ∃ s, fop .mul a b w = s := ⟨_, rfl⟩
  obtain ⟨n, hnn⟩ : ∃ n, nd .mul a b = n := ⟨_, rfl⟩
  have HA := Lib.hid (fun l (hm : mg s ≤ 9218868437227405312) W => about_any s l W (by rw [← hs]; exact fop_lt .mul a b w) hm)
  have HM : Hid (Pl a ∧ Pl b → mg s ≤ 9218868437227405312) := Lib.hid (fun ⟨h1, h2⟩ => by
    obtain ⟨r, hr⟩ := mul_fin h1.2 h2.2
    rw [← hs, (fop_some (op := .mul) hr w).1]; exact (mul_told hr).1)
  rw [hs] at HL ⊢
  rw [hs, hnn] at hm
  clear ha hb hs hnn
  go_enter Tryz.func60, Tryz.ntmps60
  go_wp2_with fail
  refine (HP.out _ _ (cells2 _ _ _ _).1 (cells2 _ _ _ _).2).mono ?_
  rintro e w2 ⟨p, rfl, hp, rfl⟩
  have HPP := Lib.hid hp
  clear hp
  have hb2 : Below w.heap.size w ((w.drewN n).alloc (.cells #[.float .f64 a, .float .f64 b] 27)) := (below_dn (below_self _ _) _).alloc (Nat.le_refl _) _
  cases p
  · go_wp2
    go_ret2
    refine ⟨_, _, rfl, hb2, .inl ⟨?_, rfl, rfl⟩⟩
    have := HPP.out; simpa using this
  · have hpl : Pl a ∧ Pl b := (HPP.out).1 rfl
    go_wp2_with fail
    refine (HL.out _).mono ?_
    rintro e w3 ⟨k, m, rfl, rfl, hk⟩
    have HKK := Lib.hid hk
    clear hk
    go_wp2_with fail
    refine (HA.out (ngf k) (HM.out hpl) _).mono ?_
    rintro e w3 ⟨rfl, rfl⟩
    go_wp2
    go_ret2
    exact ⟨_, _, rfl, below_dn hb2 _, .inr ⟨hpl.1, hpl.2, _, ⟨k, rfl, fun r hr => (HKK.out r hr).1⟩, rfl, rfl⟩⟩
theorem lt_zero (x : Nat) (h0 : 0 < mg x) (h : mg x ≤ 9218868437227405312) : (FloatKind.f64.format.order x 0 == some .lt) = ng x := by
  rw [ord_lt]
  have : mg 0 = 0 := by decide
  have hk : key 0 = 0 := by decide
  rw [this, hk]
  unfold key
  cases ng x <;> simp <;> omega
set_option maxHeartbeats 1000000 in
theorem quo_any (a b : Nat) (w : World) (ha : a < 18446744073709551616) (hb : b < 18446744073709551616) :
    Calls Tryz.prog 29 #[.float .f64 a, .float .f64 b] w fun e w' => ∃ d u, e = .returned (.tuple #[.float .f64 d, .float .f64 u]) ∧ Below w.heap.size w w' ∧ OpIs a b (fop .quo a b w) (QuoLost a b (fop .quo a b w)) d u := by
  have hm := fun t => run_quo (P := Tryz.prog) t a b w
  have hn := run_ngf
  have HP := Lib.hid (fun (g : Nat) W h0 h1 => plain2_any g a b W ha hb h0 h1)
  have HL := Lib.hid (fun W => left_any (fop .quo a b w) b a W ha)
  obtain ⟨s, hs⟩ : ∃ s, fop .quo a b w = s := ⟨_, rfl⟩
  obtain ⟨n, hnn⟩ : ∃ n, nd .quo a b = n := ⟨_, rfl⟩
  have HA := Lib.hid (fun l (hm : mg s ≤ 9218868437227405312) W => about_any s l W (by rw [← hs]; exact fop_lt .quo a b w) hm)
  have HM : Hid (Pl a ∧ Pl b → mg s ≤ 9218868437227405312) := Lib.hid (fun ⟨h1, h2⟩ => by
    obtain ⟨r, hr⟩ := div_fin h1.2 h2.2 h2.1
    rw [← hs, (fop_some (op := .quo) hr w).1]; exact (div_told hr).1)
  have HB : Hid (Pl b → (FloatKind.f64.format.order b 0 == some .lt) = ng b) := Lib.hid (fun h => lt_zero b h.1 (Nat.le_of_lt h.2))
  rw [hs] at HL ⊢
  rw [hs, hnn] at hm
  clear ha hb hs hnn
  go_enter Tryz.func29, Tryz.ntmps29
  go_wp2_with fail
  refine (HP.out _ _ (cells2 _ _ _ _).1 (cells2 _ _ _ _).2).mono ?_
  rintro e w2 ⟨p, rfl, hp, rfl⟩
  have HPP := Lib.hid hp
  clear hp
  have hb2 : Below w.heap.size w ((w.drewN n).alloc (.cells #[.float .f64 a, .float .f64 b] 27)) := (below_dn (below_self _ _) _).alloc (Nat.le_refl _) _
  cases p
  · go_wp2
    go_ret2
    refine ⟨_, _, rfl, hb2, .inl ⟨?_, rfl, rfl⟩⟩
    have := HPP.out; simpa using this
  · have hpl : Pl a ∧ Pl b := (HPP.out).1 rfl
    have hbb := HB.out hpl.2
    obtain ⟨q, hq⟩ : ∃ q, ng b = q := ⟨_, rfl⟩
    rw [hq] at hbb
    have HQ := Lib.hid hq
    clear hq
    cases q
    · go_wp2_with fail
      refine (HL.out _).mono ?_
      rintro e w3 ⟨k, m, rfl, rfl, hk⟩
      have HKK := Lib.hid hk
      clear hk
      go_wp2_with fail
      refine (HA.out k (HM.out hpl) _).mono ?_
      rintro e w3 ⟨rfl, rfl⟩
      go_wp2
      go_ret2
      exact ⟨_, _, rfl, below_dn hb2 _, .inr ⟨hpl.1, hpl.2, _, ⟨k, by rw [HQ.out]; rfl, fun r hr => (HKK.out r hr).1⟩, rfl, rfl⟩⟩
    · go_wp2_with fail
      refine (HL.out _).mono ?_
      rintro e w3 ⟨k, m, rfl, rfl, hk⟩
      have HKK := Lib.hid hk
      clear hk
      go_wp2_with fail
      refine (HA.out (ngf k) (HM.out hpl) _).mono ?_
      rintro e w3 ⟨rfl, rfl⟩
      go_wp2
      go_ret2
      exact ⟨_, _, rfl, below_dn hb2 _, .inr ⟨hpl.1, hpl.2, _, ⟨k, by rw [HQ.out]; rfl, fun r hr => (HKK.out r hr).1⟩, rfl, rfl⟩⟩
end Go.Proofs.YtghcoijinihlnaaGreat.Fl
namespace Go.Proofs.YtghcoijinihlnaaGreat.Fl
open Go.RowKit Ieee
theorem lohi_cases (own lost : Nat) (hn : mg own ≤ 9218868437227405312) : (lo own lost = own ∧ hi own lost = own) ∨
    ∃ r, r < 9218868437227405312 ∧ (r = mg own ∨ r + 1 = mg own) ∧ lo own lost = double.word (ng own) (r + (ng own).toNat) ∧ hi own lost = double.word (ng own) (r + (!ng own).toNat) := by
  unfold lo hi
  cases h : exactly own lost
  · right
    refine ⟨near own lost, ?_, ?_, rfl, rfl⟩
    · unfold near; split
      · omega
      · split <;> omega
    · unfold near; split
      · omega
      · split
        · left; rfl
        · right; omega
  · left; exact ⟨rfl, rfl⟩
end Go.Proofs.YtghcoijinihlnaaGreat.Fl
namespace Go.Proofs.YtghcoijinihlnaaGreat.Fl
open Ieee
/-- Of two data each is the other one with the other sign (noughts by their worth). -/
def OppD : Datum → Datum → Prop
  | .number s m i, .number t n j => m = n ∧ i = j ∧ (t = !s ∨ m = 0)
  | .infinity s, .infinity t => t = !s
  | _, _ => False
theorem signed_opp {s t : Bool} {m : Nat} (h : t = !s ∨ m = 0) (k : Nat) : signed t m k = - signed s m k := by
  unfold signed
  rcases h with rfl | rfl
  · cases s <;> simp
  · simp
theorem sum_opp {a a' b b' d : Datum} (h : OppD a a') (k : OppD b b') (hs : a.sum b = some d) : ∃ d', a'.sum b' = some d' ∧ OppD d d' := by
  cases a with
  | nan => cases a' <;> exact h.elim
  | infinity s =>
    cases a' with
    | infinity s' =>
      obtain rfl : s' = !s := h
      cases b with
      | nan => cases b' <;> exact k.elim
      | infinity t =>
        cases b' with
        | infinity t' =>
          obtain rfl : t' = !t := k
          simp only [Datum.sum] at hs ⊢
          by_cases e : s = t
          · subst e; rw [if_pos rfl] at hs ⊢; cases hs; exact ⟨_, rfl, rfl⟩
          · rw [if_neg e] at hs; cases hs
        | number => exact k.elim
        | nan => exact k.elim
      | number t n j =>
        cases b' with
        | number t' n' j' => cases hs; exact ⟨_, rfl, rfl⟩
        | infinity => exact k.elim
        | nan => exact k.elim
    | number => exact h.elim
    | nan => exact h.elim
  | number s m i =>
    cases a' with
    | infinity => exact h.elim
    | nan => exact h.elim
    | number s' m' i' =>
      obtain ⟨rfl, rfl, h⟩ := h
      cases b with
      | nan => cases b' <;> exact k.elim
      | infinity t =>
        cases b' with
        | infinity t' => obtain rfl : t' = !t := k; cases hs; exact ⟨_, rfl, rfl⟩
        | number => exact k.elim
        | nan => exact k.elim
      | number t n j =>
        cases b' with
        | infinity => exact k.elim
        | nan => exact k.elim
        | number t' n' j' =>
          obtain ⟨rfl, rfl, k⟩ := k
          simp only [Datum.sum] at hs ⊢
          cases hs
          refine ⟨_, rfl, ?_⟩
          rw [signed_opp h, signed_opp k]
          obtain ⟨T, hT⟩ : ∃ T, signed s m (i - min i j).toNat + signed t n (j - min i j).toNat = T := ⟨_, rfl⟩
          rw [hT, show -signed s m (i - min i j).toNat + -signed t n (j - min i j).toNat = -T by omega]
          refine ⟨by rw [Int.natAbs_neg], rfl, ?_⟩
          by_cases e : T = 0
          · right; rw [e]; rfl
          · left
            rw [if_neg e, if_neg (by omega)]
            rcases Int.lt_or_lt_of_ne e with g | g
            · rw [decide_eq_true (p := T < 0) g, decide_eq_false (p := -T < 0) (by omega)]; rfl
            · rw [decide_eq_false (p := T < 0) (by omega), decide_eq_true (p := -T < 0) (by omega)]; rfl
theorem oppD_opp {a b : Datum} (h : OppD a b) : OppD a.opposite b.opposite := by
  cases a <;> cases b <;> simp only [OppD, Datum.opposite] at h ⊢ <;> first | (exact h.elim; done) | skip
  · exact ⟨h.1, h.2.1, by rcases h.2.2 with rfl | h; exact .inl rfl; exact .inr h⟩
  · rw [h]
theorem sum_comm (a b : Datum) : a.sum b = b.sum a := by
  cases a <;> cases b <;> simp only [Datum.sum] <;> try rfl
  · rename_i s m i t n j
    rw [Int.min_comm, Int.add_comm]
    by_cases e : signed t n (j - min j i).toNat + signed s m (i - min j i).toNat = 0
    · rw [if_pos e, if_pos e, Bool.and_comm]
    · rw [if_neg e, if_neg e]
  · rename_i s t
    by_cases e : s = t
    · subst e; rfl
    · rw [if_neg e, if_neg (fun h => e h.symm)]
/-- Of two floats each is the other one with the other sign (noughts by their worth); none is a NaN. -/
def Opp (x y : Nat) : Prop := mg y = mg x ∧ (ng y = !ng x ∨ mg x = 0) ∧ mg x ≤ 9218868437227405312
theorem write_oppD {d e : Datum} (h : OppD d e) : Opp (double.write d) (double.write e) := by
  cases d <;> cases e <;> simp only [OppD] at h <;> first | (exact h.elim; done) | skip
  · rename_i s m i t n j
    obtain ⟨rfl, rfl, h⟩ := h
    obtain ⟨R, hR, e⟩ := nearest_sign s m i
    show Opp (double.nearest s m i) (double.nearest t m i)
    rw [e, e]
    have a := word_mg s R (by omega)
    have b := word_mg t R (by omega)
    refine ⟨by rw [a.1, b.1], ?_, by rw [a.1]; exact hR⟩
    rcases h with rfl | rfl
    · left; rw [a.2, b.2]
    · right
      have := e s
      simp [Format.nearest] at this
      have := congrArg mg this
      rw [(word_mg s 0 (by omega)).1, a.1] at this
      rw [a.1]; exact this.symm
  · rename_i s t
    subst h
    have a := word_mg s 9218868437227405312 (by omega)
    have b := word_mg (!s) 9218868437227405312 (by omega)
    show Opp (double.word s double.infRung) (double.word (!s) double.infRung)
    rw [d_inf]
    exact ⟨by rw [a.1, b.1], .inl (by rw [a.2, b.2]), by rw [a.1]; exact Nat.le_refl _⟩
/-- A word's datum hangs on its sign and its size. -/
def rd (s : Bool) (m : Nat) : Datum := if m < 4503599627370496 then .number s m (-1074) else if m < 9218868437227405312 then .number s (4503599627370496 + m % 4503599627370496) (-1074 + (m / 4503599627370496 - 1 : Nat)) else if m = 9218868437227405312 then .infinity s else .nan s (m - 9218868437227405312)
theorem read_rd (x : Nat) : double.read x = rd (ng x) (mg x) := by
  unfold Format.read
  rw [d_binade, d_inf, d_sw, d_lp]
  rfl
theorem read_opp {x y : Nat} (h : Opp x y) : OppD (double.read x) (double.read y) := by
  obtain ⟨h1, h2, h3⟩ := h
  rw [read_rd, read_rd, h1]
  unfold rd
  split
  · refine ⟨rfl, rfl, ?_⟩
    rcases h2 with h | h
    · exact .inl h
    · exact .inr h
  · have h4 : ng y = !ng x := by
      rcases h2 with h | h
      · exact h
      · omega
    split
    · exact ⟨rfl, rfl, .inl h4⟩
    · rw [if_pos (by omega), if_pos (by omega)]; exact h4
theorem opp_ngf {x : Nat} (h : x < 18446744073709551616) (h2 : mg x ≤ 9218868437227405312) : Opp x (ngf x) := ⟨(ngf_is h).1, .inl (ngf_is h).2, h2⟩
theorem read_ngf' {y : Nat} (hy : y < 18446744073709551616) : double.read (ngf y) = (double.read y).opposite := by
  rw [read_rd, read_rd, (ngf_is hy).1, (ngf_is hy).2]
  unfold rd
  split
  · rfl
  · split
    · rfl
    · split <;> rfl
theorem add_comm' (x y : Nat) : double.add x y = double.add y x := by unfold Format.add; rw [sum_comm]
theorem add_opp {x y x' y' r : Nat} (h : Opp x x') (k : Opp y y') (hr : double.add x y = some r) : ∃ r', double.add x' y' = some r' ∧ Opp r r' := by
  unfold Format.add at hr ⊢
  cases hd : (double.read x).sum (double.read y) with
  | none => rw [hd] at hr; cases hr
  | some d =>
    rw [hd] at hr; cases hr
    obtain ⟨d', e, ho⟩ := sum_opp (read_opp h) (read_opp k) hd
    rw [e]; exact ⟨_, rfl, write_oppD ho⟩
theorem sub_opp {x y x' y' r : Nat} (h : Opp x x') (k : Opp y y') (hr : double.sub x y = some r) : ∃ r', double.sub x' y' = some r' ∧ Opp r r' := by
  unfold Format.sub at hr ⊢
  cases hd : (double.read x).sum (double.read y).opposite with
  | none => rw [hd] at hr; cases hr
  | some d =>
    rw [hd] at hr; cases hr
    obtain ⟨d', e, ho⟩ := sum_opp (read_opp h) (oppD_opp (read_opp k)) hd
    rw [e]; exact ⟨_, rfl, write_oppD ho⟩
end Go.Proofs.YtghcoijinihlnaaGreat.Fl
namespace Go.Proofs.YtghcoijinihlnaaGreat.Fl
open Ieee
/-- Each number of at most 53 binary digits, and noughts behind, is a float's size (infinity aside). -/
theorem uval_surj : ∀ (e k : Nat), k < 9007199254740992 → ∃ R, uval R = k * 2 ^ e
  | 0, k, hk => ⟨k, by have := uval_bin (e := 0) (k := k) (.inl rfl) (Nat.le_of_lt hk); simpa using this⟩
  | e + 1, k, hk => by
    by_cases h : 4503599627370496 ≤ k
    · exact ⟨_, uval_bin (.inr h) (Nat.le_of_lt hk)⟩
    · obtain ⟨R, hR⟩ := uval_surj e (2 * k) (by omega)
      exact ⟨R, by rw [hR, Nat.pow_succ, Nat.mul_comm 2 k, Nat.mul_assoc, Nat.mul_comm 2]⟩
theorem uval_form (m : Nat) : ∃ e k, k < 9007199254740992 ∧ uval m = k * 2 ^ e := by
  unfold uval
  by_cases h : m < 4503599627370496
  · exact ⟨0, m, by omega, by rw [if_pos h]; simp⟩
  · exact ⟨m / 4503599627370496 - 1, 4503599627370496 + m % 4503599627370496, by omega, by rw [if_neg h]⟩
theorem uval_inf (E : Nat) (h : E = 2098) : uval 9218868437227405312 = 2 ^ E := by
  unfold uval
  obtain ⟨k, hk⟩ : ∃ k, E = 52 + k := ⟨E - 52, by omega⟩
  rw [if_neg (by omega), show 4503599627370496 + 9218868437227405312 % 4503599627370496 = 2 ^ 52 by decide, show 9218868437227405312 / 4503599627370496 - 1 = k by omega, ← Nat.pow_add, hk]
theorem uval_le_inf {R : Nat} {n : Nat} (h : uval R ≤ 2 ^ n) (hn : n < 2098) : R < 9218868437227405312 := by
  obtain ⟨E, hE⟩ : ∃ E, E = 2098 := ⟨_, rfl⟩
  rw [← (uval_cmp R 9218868437227405312).1, uval_inf E hE]
  exact Nat.lt_of_le_of_lt h (Nat.pow_lt_pow_right (by omega) (by omega))
theorem read_L : double.read 5507902344274116608 = .number false 4503599627370496 148 := by decide +kernel
/-- Two to the power 900 below one: left lifts what is less. -/
theorem uval_small900 : uval 553942754166571008 = 2 ^ 174 := by
  unfold uval
  rw [if_neg (by omega), show 4503599627370496 + 553942754166571008 % 4503599627370496 = 2 ^ 52 by decide, show 553942754166571008 / 4503599627370496 - 1 = 122 by decide, ← Nat.pow_add]
theorem lsmall_is {z : Nat} (h : mg z ≤ 9218868437227405312) : lsmall z = true ↔ mg z < 553942754166571008 := by
  unfold lsmall
  rw [ord_lt]
  have h1 : mg z < 9223372036854775808 := by omega
  have e1 : mg (mg z) = mg z := Nat.mod_eq_of_lt h1
  have e2 : ng (mg z) = false := by unfold ng; rw [Nat.div_eq_of_lt h1]; rfl
  have k1 : key (mg z) = mg z := by unfold key; rw [e1, e2]; rfl
  have k2 : key 553942754166571008 = 553942754166571008 := by decide
  have k3 : mg 553942754166571008 = 553942754166571008 := by decide
  rw [e1, k1, k2, k3]
  simp
  omega
/-- A product with 2 to the power 200 is exact where it is not too great. -/
theorem lift_exact {x n : Nat} (h : uval (mg x) ≤ 2 ^ n) (hn : n < 1898) : ∃ x1, double.mul x 5507902344274116608 = some x1 ∧ x1 < 18446744073709551616 ∧ ng x1 = ng x ∧ mg x1 < 9218868437227405312 ∧ uval (mg x1) = uval (mg x) * 2 ^ 200 := by
  have hf : mg x < 9218868437227405312 := uval_le_inf h (by omega)
  obtain ⟨M, P, e1, p1, v1⟩ := read_fin x hf
  obtain ⟨e, k, hk, hu⟩ := uval_form (mg x)
  obtain ⟨R, hR⟩ := uval_surj (e + 200) k hk
  have hR2 : uval R = uval (mg x) * 2 ^ 200 := by rw [hR, hu, Nat.pow_add, Nat.mul_assoc]
  have hRf : R < 9218868437227405312 := by
    refine uval_le_inf (n := n + 200) ?_ (by omega)
    rw [hR2, Nat.pow_add]
    exact Nat.mul_le_mul_right _ h
  have hw := word_mg (ng x) R (by omega)
  refine ⟨double.word (ng x) R, ?_, word_lt64 _ _ (by omega), hw.2, by rw [hw.1]; exact hRf, by rw [hw.1]; exact hR2⟩
  unfold Format.mul
  rw [e1, read_L]
  show some (double.nearest (ng x ^^ false) (M * 4503599627370496) (P + 148)) = _
  rw [Bool.xor_false]
  congr 1
  refine nearest_exact _ (P + 1074 + 148).toNat 0 (by omega) ?_ (by omega)
  rw [hR2, ← v1, Nat.pow_zero, Nat.mul_one]
  rw [show (P + 1074 + 148).toNat = (P + 1074).toNat + 148 by omega, Nat.pow_add]
  rw [show (4503599627370496 : Nat) = 2 ^ 52 by decide, show (2 : Nat) ^ 200 = 2 ^ 52 * 2 ^ 148 by rw [← Nat.pow_add]]
  simp only [Nat.mul_assoc, Nat.mul_left_comm]
theorem lift_small {z : Nat} (h : mg z < 553942754166571008) : ∃ z1, double.mul z 5507902344274116608 = some z1 ∧ z1 < 18446744073709551616 ∧ ng z1 = ng z ∧ mg z1 < 9218868437227405312 ∧ uval (mg z1) = uval (mg z) * 2 ^ 200 := by
  refine lift_exact (n := 174) ?_ (by omega)
  rw [← uval_small900]
  exact Nat.le_of_lt (uval_lt h)
theorem lift_any {x : Nat} (h : mg x ≤ 9218868437227405312) : ∃ x1, double.mul x 5507902344274116608 = some x1 ∧ x1 < 18446744073709551616 ∧ mg x1 ≤ 9218868437227405312 := by
  rcases Nat.lt_or_eq_of_le h with g | g
  · obtain ⟨r, hr⟩ := mul_fin g (show mg 5507902344274116608 < _ by decide)
    exact ⟨r, hr, (mul_told hr).2, (mul_told hr).1⟩
  · have : double.mul x 5507902344274116608 = some (double.write (.infinity (ng x ^^ false))) := by
      unfold Format.mul; rw [read_inf x g, read_L]; rfl
    exact ⟨_, this, (mul_told this).2, (mul_told this).1⟩
theorem fma_some' {x y z : Nat} (hx : x < 18446744073709551616) (hm : mg x ≤ 9218868437227405312) (hy : Pl y) (hz : mg z < 9218868437227405312) : ∃ r, double.fma (ngf x) y z = some r := by
  unfold Format.fma
  obtain ⟨N, Q, e2, _, v2⟩ := read_fin y hy.2
  obtain ⟨K, T, e3, _, _⟩ := read_fin z hz
  have hN : N ≠ 0 := by
    have := uval_pos hy.1
    intro h; subst h; simp at v2; omega
  have hn := ngf_is hx
  rcases Nat.lt_or_eq_of_le hm with g | g
  · obtain ⟨M, P, e1, _, _⟩ := read_fin (ngf x) (by rw [hn.1]; exact g)
    rw [e1, e2, e3]; exact ⟨_, rfl⟩
  · rw [read_inf (ngf x) (by rw [hn.1]; exact g), e2, e3]
    simp only [Datum.product, if_neg hN]
    exact ⟨_, rfl⟩
/-- What left reckons is a number. -/
theorem leftIs_ex {x y z : Nat} (hx : x < 18446744073709551616) (hm : mg x ≤ 9218868437227405312) (hy : Pl y) (hz : mg z < 9218868437227405312) : ∃ r, LeftIs x y z r ∧ mg r ≤ 9218868437227405312 ∧ r < 18446744073709551616 := by
  cases hs : lsmall z
  · obtain ⟨r, hr⟩ := fma_some' hx hm hy hz
    exact ⟨r, ⟨x, z, by rw [hs]; exact ⟨rfl, rfl⟩, hr⟩, fma_told hr⟩
  · obtain ⟨x1, e1, l1, m1⟩ := lift_any hm
    obtain ⟨z1, e2, l2, _, m2, _⟩ := lift_small ((lsmall_is (Nat.le_of_lt hz)).1 hs)
    obtain ⟨r, hr⟩ := fma_some' l1 m1 hy m2
    exact ⟨r, ⟨x1, z1, by rw [hs]; exact ⟨e1, e2⟩, hr⟩, fma_told hr⟩
end Go.Proofs.YtghcoijinihlnaaGreat.Fl
namespace Go.Proofs.YtghcoijinihlnaaGreat.Fl
open Ieee
end Go.Proofs.YtghcoijinihlnaaGreat.Fl
namespace Go.Proofs.YtghcoijinihlnaaGreat.Fl
open Ieee
end Go.Proofs.YtghcoijinihlnaaGreat.Fl
namespace Go.Proofs.YtghcoijinihlnaaGreat.Fl
open Go.RowKit Ieee
theorem opp_zero : Opp 0 0 := ⟨rfl, .inr (by decide), by decide⟩
theorem eq_of {x y : Nat} (hx : x < 18446744073709551616) (hy : y < 18446744073709551616) (h1 : mg x = mg y) (h2 : ng x = ng y) : x = y := by
  rw [← word_of x hx, ← word_of y hy, h1, h2]
theorem mg_order {a b : Nat} (ha : mg a ≤ 9218868437227405312) (hb : mg b ≤ 9218868437227405312) : (FloatKind.f64.format.order (mg a) (mg b) == some .lt) = decide (mg a < mg b) := by
  rw [ord_lt]
  have e1 : mg (mg a) = mg a := Nat.mod_eq_of_lt (by omega)
  have e2 : mg (mg b) = mg b := Nat.mod_eq_of_lt (by omega)
  have n1 : ng (mg a) = false := by unfold ng; rw [Nat.div_eq_of_lt (by omega)]; rfl
  have n2 : ng (mg b) = false := by unfold ng; rw [Nat.div_eq_of_lt (by omega)]; rfl
  unfold key
  rw [e1, e2, n1, n2]
  simp only [Bool.false_eq_true, if_false]
  exact decide_eq_decide.2 ⟨fun h => by have := h.2.2; omega, fun h => ⟨ha, hb, by omega⟩⟩
end Go.Proofs.YtghcoijinihlnaaGreat.Fl
namespace Go.Proofs.YtghcoijinihlnaaGreat.Fl
open Ieee
/-- R is the rung nearest to n units; between two the even one. -/
def Nr (n R : Nat) : Prop := 2 * n ≤ uval R + uval (R + 1) ∧ (2 * n = uval R + uval (R + 1) → R % 2 = 0) ∧ ∀ Q, R = Q + 1 → uval Q + uval R ≤ 2 * n ∧ (uval Q + uval R = 2 * n → R % 2 = 0)
theorem nr_of {m : Nat} {p : Int} {R n A : Nat} (h : NearR m p R) (hA : (A : Int) = p + 1074) (hn : m * 2 ^ A = n) : Nr n R := by
  have k := h A 0 (by omega)
  rw [hn, Nat.pow_zero, Nat.mul_one] at k
  refine ⟨k.1, k.2.1, fun Q hQ => ?_⟩
  have k2 := k.2.2 Q hQ
  rw [Nat.mul_one] at k2
  exact k2
theorem nr_near {n R : Nat} (h : Nr n R) : NearR n (-1074) R := by
  intro A B hab
  obtain rfl : A = B := by omega
  have hA := Nat.two_pow_pos A
  have e : 2 * (n * 2 ^ A) = 2 * n * 2 ^ A := by rw [Nat.mul_assoc]
  rw [e]
  refine ⟨Nat.mul_le_mul_right _ h.1, fun g => h.2.1 (Nat.eq_of_mul_eq_mul_right hA g), fun Q hQ => ?_⟩
  have k := h.2.2 Q hQ
  exact ⟨Nat.mul_le_mul_right _ k.1, fun g => k.2 (Nat.eq_of_mul_eq_mul_right hA g)⟩
theorem nr_unique {n R S : Nat} (h : Nr n R) (k : Nr n S) : R = S := nearR_unique (nr_near h) (nr_near k)
theorem nr_exact (R : Nat) : Nr (uval R) R := by
  have s := uval_step R
  refine ⟨by omega, fun h => by omega, fun Q hQ => ?_⟩
  subst hQ
  have t := uval_step Q
  exact ⟨by omega, fun h => by omega⟩
theorem nr_mono {n m R S : Nat} (h : Nr n R) (k : Nr m S) (hle : n ≤ m) : R ≤ S := nearR_mono (nr_near h) (nr_near k) 0 0 0 0 (by omega) (by omega) (by simpa using hle)
theorem uval_le {m n : Nat} (h : m ≤ n) : uval m ≤ uval n := by
  rcases Nat.lt_or_eq_of_le h with g | g
  · exact Nat.le_of_lt (uval_lt g)
  · rw [g]; exact Nat.le_refl _
/-- No float is nearer. -/
theorem nr_best {n R : Nat} (h : Nr n R) (Q : Nat) : ((n : Int) - uval R).natAbs ≤ ((n : Int) - uval Q).natAbs := by
  rcases Nat.lt_trichotomy Q R with g | g | g
  · obtain ⟨P, rfl⟩ : ∃ P, R = P + 1 := ⟨R - 1, by omega⟩
    have h1 := (h.2.2 P rfl).1
    have h2 := uval_le (show Q ≤ P by omega)
    have h3 := uval_step P
    omega
  · rw [g]; exact Nat.le_refl _
  · have h1 := h.1
    have h2 := uval_le (show R + 1 ≤ Q by omega)
    have h3 := uval_step R
    omega
/-- A float's size (of whatever exponent). -/
def Rep (n : Nat) : Prop := ∃ R, uval R = n
theorem rep_of {k e : Nat} (h : k < 9007199254740992) : Rep (k * 2 ^ e) := uval_surj e k h
theorem rep_zero : Rep 0 := ⟨0, uval_small (by omega)⟩
theorem rep_form {n : Nat} (h : Rep n) : ∃ e k, k < 9007199254740992 ∧ n = k * 2 ^ e ∧ (e = 0 ∨ 4503599627370496 ≤ k) := by
  obtain ⟨R, rfl⟩ := h
  unfold uval
  by_cases h : R < 4503599627370496
  · exact ⟨0, R, by omega, by rw [if_pos h]; simp, .inl rfl⟩
  · exact ⟨R / 4503599627370496 - 1, 4503599627370496 + R % 4503599627370496, by omega, by rw [if_neg h], .inr (by omega)⟩
theorem nr_rep {n R : Nat} (h : Nr n R) (k : Rep n) : uval R = n := by
  obtain ⟨S, rfl⟩ := k
  rw [nr_unique h (nr_exact S)]
theorem form_le {kx ex ky ey : Nat} (hx : kx < 9007199254740992) (hy : ey = 0 ∨ 4503599627370496 ≤ ky) (h : ky * 2 ^ ey ≤ kx * 2 ^ ex) (_h0 : 0 < kx) : ey ≤ ex := by
  rcases Nat.lt_or_ge ex ey with g | g
  · exfalso
    have hk : 4503599627370496 ≤ ky := by omega
    have h1 : kx * 2 ^ ex < 9007199254740992 * 2 ^ ex := Nat.mul_lt_mul_of_pos_right hx (Nat.two_pow_pos _)
    have h2 : 4503599627370496 * 2 ^ ey ≤ ky * 2 ^ ey := Nat.mul_le_mul_right _ hk
    have h3 : 2 ^ (ex + 1) ≤ 2 ^ ey := Nat.pow_le_pow_right (by omega) g
    rw [Nat.pow_succ] at h3
    omega
  · exact g
theorem sterbenz {X Y : Nat} (hX : Rep X) (hY : Rep Y) (h1 : Y ≤ X) (h2 : X ≤ 2 * Y) : Rep (X - Y) := by
  obtain ⟨ex, kx, bx, rfl, _⟩ := rep_form hX
  obtain ⟨ey, ky, bY, rfl, cy⟩ := rep_form hY
  rcases Nat.eq_zero_or_pos kx with h0 | h0
  · subst h0; simpa using rep_zero
  · have he := form_le bx cy h1 h0
    obtain ⟨d, rfl⟩ : ∃ d, ex = ey + d := ⟨ex - ey, by omega⟩
    have e1 : kx * 2 ^ (ey + d) = kx * 2 ^ d * 2 ^ ey := by rw [Nat.pow_add, Nat.mul_comm (2 ^ ey), Nat.mul_assoc]
    rw [e1] at h1 h2 ⊢
    rw [← Nat.sub_mul]
    refine rep_of ?_
    have hp := Nat.two_pow_pos ey
    have h3 : kx * 2 ^ d ≤ 2 * ky := by
      refine Nat.le_of_mul_le_mul_right ?_ hp
      rw [Nat.mul_assoc 2]; exact h2
    omega
/-- Both floats that a fast sum needs, where the greater one is above nought. -/
theorem fast_two {A : Nat} {B : Int} {R : Nat} (hA : Rep A) (hB : Rep B.natAbs) (hle : B.natAbs ≤ A) (h : Nr (A + B).natAbs R) : Rep ((uval R : Int) - A).natAbs ∧ Rep ((A : Int) + B - uval R).natAbs ∧ ((A : Int) + B - uval R).natAbs ≤ B.natAbs := by
  obtain ⟨a, ha⟩ := hA
  obtain ⟨S, hS⟩ : ∃ S : Nat, (A : Int) + B = S := ⟨(A + B).toNat, by omega⟩
  rw [hS] at h ⊢
  rw [Int.natAbs_natCast] at h
  have hbest : ((S : Int) - uval R).natAbs ≤ B.natAbs := by
    have := nr_best h a
    rw [ha] at this
    omega
  refine ⟨?_, ?_, hbest⟩
  · rcases Int.lt_or_le B 0 with hb | hb
    · by_cases h2 : A < 2 * B.natAbs
      · have hr : Rep S := by
          have := sterbenz ⟨a, ha⟩ hB hle (by omega)
          rw [show A - B.natAbs = S by omega] at this
          exact this
        rw [nr_rep h hr]
        rw [show ((S : Int) - A).natAbs = B.natAbs by omega]; exact hB
      · have hRA : uval R ≤ A := by
          have := nr_mono h (by rw [← ha]; exact nr_exact a : Nr A a) (by omega)
          rw [← ha]; exact uval_le this
        have hAR : A ≤ 2 * uval R := by
          by_cases h53 : S < 9007199254740992
          · have hr : Rep S := by simpa using rep_of (e := 0) h53
            rw [nr_rep h hr]; omega
          · obtain ⟨e, k, hk, hke, hc⟩ := rep_form (⟨a, ha⟩ : Rep A)
            obtain ⟨f, rfl⟩ : ∃ f, e = f + 1 := by
              rcases e with _ | f
              · exfalso; simp at hke; omega
              · exact ⟨f, rfl⟩
            obtain ⟨T, hT⟩ := uval_surj f k hk
            have h3 : 2 * uval T = A := by
              have e9 : k * 2 ^ (f + 1) = k * 2 ^ f * 2 := by rw [Nat.pow_succ, Nat.mul_assoc]
              rw [hT, hke, e9]; omega
            have := uval_le (nr_mono (nr_exact T) h (by omega))
            omega
        have := sterbenz ⟨a, ha⟩ ⟨R, rfl⟩ hRA hAR
        rw [show ((uval R : Int) - A).natAbs = A - uval R by omega]; exact this
    · have hAR : A ≤ uval R := by
        have := nr_mono (by rw [← ha]; exact nr_exact a : Nr A a) h (by omega)
        rw [← ha]; exact uval_le this
      have hR2 : uval R ≤ 2 * A := by
        obtain ⟨e, k, hk, hke, hc⟩ := rep_form (⟨a, ha⟩ : Rep A)
        obtain ⟨T, hT⟩ := uval_surj (e + 1) k hk
        have h3 : uval T = 2 * A := by
          have e9 : k * 2 ^ (e + 1) = k * 2 ^ e * 2 := by rw [Nat.pow_succ, Nat.mul_assoc]
          rw [hT, hke, e9]; omega
        have := uval_le (nr_mono h (nr_exact T) (by omega))
        omega
      have := sterbenz ⟨R, rfl⟩ ⟨a, ha⟩ hAR hR2
      rw [show ((uval R : Int) - A).natAbs = uval R - A by omega]; exact this
  · obtain ⟨ea, ka, bka, hka, ca⟩ := rep_form (⟨a, ha⟩ : Rep A)
    obtain ⟨eb, kb, bkb, hkb, cb⟩ := rep_form hB
    rcases Nat.eq_zero_or_pos A with h0 | h0
    · have : S = 0 := by omega
      subst this
      rw [nr_rep h rep_zero]; simpa using rep_zero
    · have hka0 : 0 < ka := by
        rcases Nat.eq_zero_or_pos ka with h | h
        · subst h; simp at hka; omega
        · exact h
      have hee := form_le bka cb (by rw [← hka, ← hkb]; exact hle) hka0
      obtain ⟨d, rfl⟩ : ∃ d, ea = eb + d := ⟨ea - eb, by omega⟩
      have hp := Nat.two_pow_pos eb
      have e1 : A = ka * 2 ^ d * 2 ^ eb := by rw [hka, Nat.pow_add, Nat.mul_comm (2 ^ eb), Nat.mul_assoc]
      obtain ⟨m, hm⟩ : ∃ m, S = m * 2 ^ eb := by
        rcases Int.lt_or_le B 0 with hb | hb
        · exact ⟨ka * 2 ^ d - kb, by rw [Nat.sub_mul, ← e1, ← hkb]; omega⟩
        · exact ⟨ka * 2 ^ d + kb, by rw [Nat.add_mul, ← e1, ← hkb]; omega⟩
      by_cases h53 : m < 9007199254740992
      · rw [nr_rep h (by rw [hm]; exact rep_of h53)]; simpa using rep_zero
      · have hlow : 9007199254740992 * 2 ^ eb ≤ uval R := by
          obtain ⟨T, hT⟩ := uval_surj (eb + 1) 4503599627370496 (by omega)
          have h3 : uval T = 9007199254740992 * 2 ^ eb := by rw [hT, Nat.pow_succ]; omega
          have h4 : 9007199254740992 * 2 ^ eb ≤ S := by rw [hm]; exact Nat.mul_le_mul_right _ (by omega)
          have := uval_le (nr_mono (nr_exact T) h (by omega))
          omega
        obtain ⟨er, kr, bkr, hkr, cr⟩ := rep_form (⟨R, rfl⟩ : Rep (uval R))
        have her : eb ≤ er := by
          rcases Nat.lt_or_ge er eb with g | g
          · exfalso
            have h1 : kr * 2 ^ er < 9007199254740992 * 2 ^ er := Nat.mul_lt_mul_of_pos_right bkr (Nat.two_pow_pos _)
            have h2 : 2 ^ er ≤ 2 ^ eb := Nat.pow_le_pow_right (by omega) (by omega)
            omega
          · exact g
        obtain ⟨f, rfl⟩ : ∃ f, er = eb + f := ⟨er - eb, by omega⟩
        have e2 : uval R = kr * 2 ^ f * 2 ^ eb := by rw [hkr, Nat.pow_add, Nat.mul_comm (2 ^ eb), Nat.mul_assoc]
        rw [hkb] at hbest
        rw [hm, e2] at hbest ⊢
        have e3 : (((m * 2 ^ eb : Nat) : Int) - ((kr * 2 ^ f * 2 ^ eb : Nat) : Int)).natAbs = ((m : Int) - (kr * 2 ^ f : Nat)).natAbs * 2 ^ eb := by
          rw [Int.natCast_mul m, Int.natCast_mul (kr * 2 ^ f), ← Int.sub_mul, Int.natAbs_mul, Int.natAbs_natCast]
        rw [e3] at hbest ⊢
        refine rep_of ?_
        have := Nat.le_of_mul_le_mul_right hbest hp
        omega
end Go.Proofs.YtghcoijinihlnaaGreat.Fl
namespace Go.Proofs.YtghcoijinihlnaaGreat.Fl
open Ieee
theorem sval_ngf {x : Nat} (h : x < 18446744073709551616) : sval (ngf x) = - sval x := by
  unfold sval; rw [(ngf_is h).1, (ngf_is h).2]; cases ng x <;> simp
theorem sval_abs (x : Nat) : (sval x).natAbs = uval (mg x) := by unfold sval; cases ng x <;> simp
theorem sval_rep (x : Nat) : Rep (sval x).natAbs := ⟨mg x, (sval_abs x).symm⟩
theorem uval_zero : uval 0 = 0 := uval_small (by omega)
theorem sval_zero {x : Nat} : sval x = 0 ↔ mg x = 0 := by
  have h := sval_abs x
  constructor
  · intro e; rw [e] at h
    rcases Nat.eq_zero_or_pos (mg x) with g | g
    · exact g
    · have := uval_pos g; simp at h; omega
  · intro e; rw [e, uval_zero] at h; omega
theorem sval_of {x : Nat} {S : Int} (h : uval (mg x) = S.natAbs) (hs : S ≠ 0 → ng x = decide (S < 0)) : sval x = S := by
  unfold sval
  rw [h]
  by_cases h0 : S = 0
  · subst h0; simp
  · rw [hs h0]
    by_cases h1 : S < 0
    · rw [decide_eq_true h1]; simp; omega
    · rw [decide_eq_false h1]; simp; omega
/-- The sum of two finite floats: the nearest float. -/
theorem add_nr {x y r : Nat} (hx : mg x < 9218868437227405312) (hy : mg y < 9218868437227405312) (h : double.add x y = some r) : ∃ R, mg r = min R 9218868437227405312 ∧ Nr (sval x + sval y).natAbs R ∧ (sval x + sval y ≠ 0 → ng r = decide (sval x + sval y < 0)) ∧ r < 18446744073709551616 := by
  obtain ⟨M, P, e1, p1, v1⟩ := read_fin x hx
  obtain ⟨N, Q, e2, p2, v2⟩ := read_fin y hy
  have hl := (add_told h).2
  unfold Format.add at h
  rw [e1, e2] at h
  cases h
  obtain ⟨T, hT⟩ : ∃ T, signed (ng x) M (P - min P Q).toNat + signed (ng y) N (Q - min P Q).toNat = T := ⟨_, rfl⟩
  have hS : T * (2 ^ (min P Q + 1074).toNat : Nat) = sval x + sval y := by
    rw [← hT, Int.add_mul, signed_sval v1 (Int.min_le_left P Q) (by omega), signed_sval v2 (Int.min_le_right P Q) (by omega)]
  have hp : (0 : Int) < (2 ^ (min P Q + 1074).toNat : Nat) := Int.natCast_pos.2 (Nat.two_pow_pos _)
  obtain ⟨sg, hsg⟩ : ∃ sg, (if T = 0 then ng x && ng y else decide (T < 0)) = sg := ⟨_, rfl⟩
  obtain ⟨R, e, hR⟩ := near_spec sg T.natAbs (min P Q)
  have hw : double.write (.number (if signed (ng x) M (P - min P Q).toNat + signed (ng y) N (Q - min P Q).toNat = 0 then ng x && ng y else decide (signed (ng x) M (P - min P Q).toNat + signed (ng y) N (Q - min P Q).toNat < 0)) (signed (ng x) M (P - min P Q).toNat + signed (ng y) N (Q - min P Q).toNat).natAbs (min P Q)) = double.word sg (min R 9218868437227405312) := by
    rw [hT, hsg]; exact e
  have hmw := word_mg sg (min R 9218868437227405312) (by omega)
  refine ⟨R, ?_, ?_, ?_, hl⟩
  · exact (congrArg mg hw).trans hmw.1
  · refine nr_of hR (A := (min P Q + 1074).toNat) (by omega) ?_
    rw [← hS, Int.natAbs_mul, Int.natAbs_natCast]
  · intro hne
    refine (congrArg ng hw).trans (hmw.2.trans ?_)
    have hT0 : T ≠ 0 := fun h => hne (by rw [← hS, h, Int.zero_mul])
    rw [← hsg, if_neg hT0]
    refine decide_eq_decide.2 ?_
    rw [← hS]
    constructor
    · intro h; exact Int.mul_neg_of_neg_of_pos h hp
    · intro h
      rcases Int.lt_or_le T 0 with g | g
      · exact g
      · have := Int.mul_nonneg g (Int.le_of_lt hp); omega
theorem sub_nr {x y r : Nat} (hx : mg x < 9218868437227405312) (hy : mg y < 9218868437227405312) (hyl : y < 18446744073709551616) (h : double.sub x y = some r) : ∃ R, mg r = min R 9218868437227405312 ∧ Nr (sval x - sval y).natAbs R ∧ (sval x - sval y ≠ 0 → ng r = decide (sval x - sval y < 0)) ∧ r < 18446744073709551616 := by
  have e : double.sub x y = double.add x (ngf y) := by unfold Format.sub Format.add; rw [read_ngf' hyl]
  rw [e] at h
  have k := add_nr hx (by rw [(ngf_is hyl).1]; exact hy) h
  rw [sval_ngf hyl] at k
  exact k
/-- Where the exact result is a float, it is told. -/
theorem nr_told {S : Int} {r R : Nat} (hm : mg r = min R 9218868437227405312) (hn : Nr S.natAbs R) (hs : S ≠ 0 → ng r = decide (S < 0)) (hrep : Rep S.natAbs) (hlt : S.natAbs < uval 9218868437227405312) : mg r < 9218868437227405312 ∧ sval r = S := by
  have hu := nr_rep hn hrep
  have hR : R < 9218868437227405312 := by rw [← (uval_cmp R 9218868437227405312).1, hu]; exact hlt
  have hmr : mg r = R := by omega
  exact ⟨by omega, sval_of (by rw [hmr]; exact hu) hs⟩
theorem uval_fin {m : Nat} (h : m < 9218868437227405312) : uval m < uval 9218868437227405312 := uval_lt h
/-- What Two tells, the greater one above nought. -/
theorem two_pos {a b r l : Nat} (ha : a < 18446744073709551616) (_hb : b < 18446744073709551616) (fa : mg a < 9218868437227405312) (fb : mg b < 9218868437227405312) (hab : mg b ≤ mg a) (sa : ng a = false) (hr : double.add a b = some r) (fr : mg r < 9218868437227405312) {z y : Nat}
    (h1 : double.sub r a = some z) (h2 : double.sub b z = some y) (h3 : double.add y 0 = some l) : mg l < 9218868437227405312 ∧ sval l = sval a + sval b - sval r := by
  obtain ⟨R, e1, e2, e3, hrl⟩ := add_nr fa fb hr
  have hrR : mg r = R := by omega
  subst hrR
  have hva : sval a = uval (mg a) := by unfold sval; rw [sa]; rfl
  have hB := sval_abs b
  have hle := uval_le hab
  rw [hva] at e2 e3
  have hfast := fast_two (A := uval (mg a)) (B := sval b) ⟨mg a, rfl⟩ (sval_rep b) (by rw [hB]; exact hle) e2
  have hsr : sval r = uval (mg r) := by
    by_cases h0 : (uval (mg a) : Int) + sval b = 0
    · rw [h0] at e2
      have hz : uval (mg r) = 0 := nr_rep e2 rep_zero
      have := sval_abs r
      rw [hz] at this ⊢
      omega
    · have h := e3 h0
      rw [decide_eq_false (by omega)] at h
      unfold sval; rw [h]; rfl
  have ia := uval_fin fa
  have ib := uval_fin fb
  have ir := uval_fin fr
  obtain ⟨Z, f1, f2, f3, hzl⟩ := sub_nr fr fa ha h1
  rw [hsr, hva] at f2 f3
  obtain ⟨fz, vz⟩ := nr_told f1 f2 f3 hfast.1 (by omega)
  obtain ⟨Y, g1, g2, g3, hyl⟩ := sub_nr fb fz hzl h2
  rw [vz] at g2 g3
  have hd : sval b - ((uval (mg r) : Int) - uval (mg a)) = (uval (mg a) : Int) + sval b - uval (mg r) := by omega
  rw [hd] at g2 g3
  obtain ⟨fy, vy⟩ := nr_told g1 g2 g3 hfast.2.1 (by omega)
  obtain ⟨L, k1, k2, k3, _⟩ := add_nr fy (show mg 0 < _ by decide) h3
  have hs0 : sval 0 = 0 := sval_zero.2 (by decide)
  rw [hs0, vy, Int.add_zero] at k2 k3
  obtain ⟨fl, vl⟩ := nr_told k1 k2 k3 hfast.2.1 (by omega)
  exact ⟨fl, by rw [vl, hva, hsr]⟩
/-- What Two tells is exact: either may be the greater one, of whatever sign. -/
theorem two_half {a b r l : Nat} (ha : a < 18446744073709551616) (hb : b < 18446744073709551616) (fa : mg a < 9218868437227405312) (fb : mg b < 9218868437227405312) (hab : mg b ≤ mg a) (hr : double.add a b = some r) (fr : mg r < 9218868437227405312) {z y : Nat}
    (h1 : double.sub r a = some z) (h2 : double.sub b z = some y) (h3 : double.add y 0 = some l) : mg l < 9218868437227405312 ∧ sval l = sval a + sval b - sval r := by
  cases sa : ng a
  · exact two_pos ha hb fa fb hab sa hr fr h1 h2 h3
  · have oa := opp_ngf ha (Nat.le_of_lt fa)
    have ob := opp_ngf hb (Nat.le_of_lt fb)
    obtain ⟨r', hr', or⟩ := add_opp oa ob hr
    obtain ⟨z', h1', oz⟩ := sub_opp or oa h1
    obtain ⟨y', h2', oy⟩ := sub_opp ob oz h2
    obtain ⟨l', h3', ol⟩ := add_opp oy opp_zero h3
    have hsv : ∀ {x x' : Nat}, Opp x x' → sval x' = - sval x := fun {x x'} h => by
      unfold sval
      rw [h.1]
      rcases h.2.1 with g | g
      · rw [g]; cases ng x <;> simp
      · rw [g, uval_zero]; simp
    have k := two_pos (ngf_lt ha) (ngf_lt hb) (by rw [(ngf_is ha).1]; exact fa) (by rw [(ngf_is hb).1]; exact fb) (by rw [(ngf_is ha).1, (ngf_is hb).1]; exact hab) (by rw [(ngf_is ha).2, sa]; rfl) hr' (by rw [or.1]; exact fr) h1' h2' h3'
    rw [ol.1, hsv ol, hsv or, sval_ngf ha, sval_ngf hb] at k
    exact ⟨k.1, by omega⟩
theorem two_exact {a b r l : Nat} (ha : a < 18446744073709551616) (hb : b < 18446744073709551616) (hr : double.add a b = some r) (fr : mg r < 9218868437227405312) (h : TwoIs a b r l) : mg l < 9218868437227405312 ∧ sval l = sval a + sval b - sval r := by
  obtain ⟨fa, fb⟩ := sum_fin hr fr
  rcases h with ⟨h, _⟩ | ⟨_, z, y, h1, h2⟩
  · omega
  · rw [mg_order (Nat.le_of_lt fa) (Nat.le_of_lt fb)] at h1
    by_cases hlt : mg a < mg b
    · rw [decide_eq_true hlt] at h1
      obtain ⟨e1, e2⟩ := h1
      have k := two_half hb ha fb fa (Nat.le_of_lt hlt) (by rw [add_comm']; exact hr) fr e1 e2 h2
      exact ⟨k.1, by rw [k.2]; omega⟩
    · rw [decide_eq_false hlt] at h1
      obtain ⟨e1, e2⟩ := h1
      exact two_half ha hb fa fb (by omega) hr fr e1 e2 h2
end Go.Proofs.YtghcoijinihlnaaGreat.Fl
namespace Go.Proofs.YtghcoijinihlnaaGreat.Fl
open Go.RowKit Ieee
end Go.Proofs.YtghcoijinihlnaaGreat.Fl
namespace Go.Proofs.YtghcoijinihlnaaGreat.Fl
open Go.RowKit Ieee
end Go.Proofs.YtghcoijinihlnaaGreat.Fl
namespace Go.Proofs.YtghcoijinihlnaaGreat.Fl
open Go.RowKit Ieee
end Go.Proofs.YtghcoijinihlnaaGreat.Fl
namespace Go.Proofs.YtghcoijinihlnaaGreat.Fl
open Ieee
theorem nr_zero {n : Nat} (h : Nr n 0) : n = 0 := by
  have h1 := h.1
  rw [uval_zero, show uval (0 + 1) = 1 from uval_small (by omega)] at h1
  omega
/-- The nearest float of a number that is a whole number of units: its sign, and when it is nought. -/
theorem fma_sign {x y z r : Nat} (hx : x < 18446744073709551616) (fx : mg x < 9218868437227405312) (fy : mg y < 9218868437227405312) (fz : mg z < 9218868437227405312) (h : double.fma (ngf x) y z = some r) {E : Nat} (hE : E = 1074) {t : Int}
    (ht : sval z * (2 ^ E : Nat) - sval x * sval y = t * (2 ^ E : Nat)) : (mg r = 0 ↔ t = 0) ∧ (t ≠ 0 → ng r = decide (t < 0)) ∧ ∃ R, mg r = min R 9218868437227405312 ∧ Nr t.natAbs R := by
  obtain ⟨M, P, e1, p1, v1⟩ := read_fin (ngf x) (by rw [(ngf_is hx).1]; exact fx)
  obtain ⟨N, Q, e2, p2, v2⟩ := read_fin y fy
  obtain ⟨K, W, e3, p3, v3⟩ := read_fin z fz
  unfold Format.fma at h
  rw [e1, e2, e3] at h
  simp only [Datum.product, Option.bind_some] at h
  cases h
  obtain ⟨b, hb⟩ : ∃ b, min (P + Q) W = b := ⟨_, rfl⟩
  obtain ⟨T, hT⟩ : ∃ T, signed (ng (ngf x) ^^ ng y) (M * N) (P + Q - min (P + Q) W).toNat + signed (ng z) K (W - min (P + Q) W).toNat = T := ⟨_, rfl⟩
  obtain ⟨sg, hsg⟩ : ∃ sg, (if T = 0 then (ng (ngf x) ^^ ng y) && ng z else decide (T < 0)) = sg := ⟨_, rfl⟩
  obtain ⟨R, e, hR⟩ := near_spec sg T.natAbs (min (P + Q) W)
  have hw : double.write (.number (if signed (ng (ngf x) ^^ ng y) (M * N) (P + Q - min (P + Q) W).toNat + signed (ng z) K (W - min (P + Q) W).toNat = 0 then (ng (ngf x) ^^ ng y) && ng z else decide (signed (ng (ngf x) ^^ ng y) (M * N) (P + Q - min (P + Q) W).toNat + signed (ng z) K (W - min (P + Q) W).toNat < 0))
      (signed (ng (ngf x) ^^ ng y) (M * N) (P + Q - min (P + Q) W).toNat + signed (ng z) K (W - min (P + Q) W).toNat).natAbs (min (P + Q) W)) = double.word sg (min R 9218868437227405312) := by
    rw [hT, hsg]; exact e
  have hmw := word_mg sg (min R 9218868437227405312) (by omega)
  -- the total, in units of the square of the least float
  have hS : T * (2 ^ (min (P + Q) W + 2 * E).toNat : Nat) = t * (2 ^ E : Nat) := by
    rw [← ht, ← hT, Int.add_mul, ← signed_scale, ← signed_scale]
    have a1 : (P + Q - min (P + Q) W).toNat + (min (P + Q) W + 2 * E).toNat = (P + 1074).toNat + (Q + 1074).toNat := by omega
    have a2 : (W - min (P + Q) W).toNat + (min (P + Q) W + 2 * E).toNat = (W + 1074).toNat + E := by omega
    rw [a1, a2]
    have b1 : signed (ng (ngf x) ^^ ng y) (M * N) ((P + 1074).toNat + (Q + 1074).toNat) = -(sval x * sval y) := by
      have c1 : M * N * 2 ^ ((P + 1074).toNat + (Q + 1074).toNat) = uval (mg x) * uval (mg y) := by
        rw [(ngf_is hx).1] at v1
        rw [← v1, ← v2, Nat.pow_add]; simp only [Nat.mul_assoc, Nat.mul_left_comm]
      unfold signed sval
      rw [Nat.shiftLeft_eq, c1, (ngf_is hx).2]
      cases ng x <;> cases ng y <;> simp [Int.neg_mul, Int.mul_neg]
    have b2 : signed (ng z) K ((W + 1074).toNat + E) = sval z * (2 ^ E : Nat) := by
      rw [signed_scale]
      congr 1
      unfold signed sval
      rw [Nat.shiftLeft_eq, v3]
    rw [b1, b2]; omega
  have hp : (0 : Int) < (2 ^ (min (P + Q) W + 2 * E).toNat : Nat) := Int.natCast_pos.2 (Nat.two_pow_pos _)
  have hq : (0 : Int) < (2 ^ E : Nat) := Int.natCast_pos.2 (Nat.two_pow_pos _)
  have hT0 : T = 0 ↔ t = 0 := by
    constructor
    · intro g
      rw [g, Int.zero_mul] at hS
      rcases Int.mul_eq_zero.1 hS.symm with k | k
      · exact k
      · omega
    · intro g
      rw [g, Int.zero_mul] at hS
      rcases Int.mul_eq_zero.1 hS with k | k
      · exact k
      · omega
  have hTn : T < 0 ↔ t < 0 := by
    constructor
    · intro g
      have := Int.mul_neg_of_neg_of_pos g hp
      rw [hS] at this
      rcases Int.lt_or_le t 0 with k | k
      · exact k
      · have := Int.mul_nonneg k (Int.le_of_lt hq); omega
    · intro g
      have := Int.mul_neg_of_neg_of_pos g hq
      rw [← hS] at this
      rcases Int.lt_or_le T 0 with k | k
      · exact k
      · have := Int.mul_nonneg k (Int.le_of_lt hp); omega
  have hNr : Nr t.natAbs R := by
    have k := hR (min (P + Q) W + 2 * E).toNat E (by omega)
    have hab : T.natAbs * 2 ^ (min (P + Q) W + 2 * E).toNat = t.natAbs * 2 ^ E := by
      have := congrArg Int.natAbs hS
      rw [Int.natAbs_mul, Int.natAbs_mul, Int.natAbs_natCast, Int.natAbs_natCast] at this
      exact this
    rw [hab] at k
    have hEp := Nat.two_pow_pos E
    have e9 : 2 * (t.natAbs * 2 ^ E) = 2 * t.natAbs * 2 ^ E := by rw [Nat.mul_assoc]
    rw [e9] at k
    refine ⟨Nat.le_of_mul_le_mul_right k.1 hEp, fun g => k.2.1 (by rw [g]), fun Q hQ => ?_⟩
    have k2 := k.2.2 Q hQ
    exact ⟨Nat.le_of_mul_le_mul_right k2.1 hEp, fun g => k2.2 (by rw [g])⟩
  have hmg : mg (double.write (.number (if signed (ng (ngf x) ^^ ng y) (M * N) (P + Q - min (P + Q) W).toNat + signed (ng z) K (W - min (P + Q) W).toNat = 0 then (ng (ngf x) ^^ ng y) && ng z else decide (signed (ng (ngf x) ^^ ng y) (M * N) (P + Q - min (P + Q) W).toNat + signed (ng z) K (W - min (P + Q) W).toNat < 0))
      (signed (ng (ngf x) ^^ ng y) (M * N) (P + Q - min (P + Q) W).toNat + signed (ng z) K (W - min (P + Q) W).toNat).natAbs (min (P + Q) W))) = min R 9218868437227405312 := (congrArg mg hw).trans hmw.1
  refine ⟨?_, ?_, R, hmg, hNr⟩
  · have : mg (double.write (.number (if signed (ng (ngf x) ^^ ng y) (M * N) (P + Q - min (P + Q) W).toNat + signed (ng z) K (W - min (P + Q) W).toNat = 0 then (ng (ngf x) ^^ ng y) && ng z else decide (signed (ng (ngf x) ^^ ng y) (M * N) (P + Q - min (P + Q) W).toNat + signed (ng z) K (W - min (P + Q) W).toNat < 0))
      (signed (ng (ngf x) ^^ ng y) (M * N) (P + Q - min (P + Q) W).toNat + signed (ng z) K (W - min (P + Q) W).toNat).natAbs (min (P + Q) W))) = 0 ↔ t = 0 := by
      rw [hmg]
      constructor
      · intro g
        have hR0 : R = 0 := by omega
        rw [hR0] at hNr
        have := nr_zero hNr
        omega
      · intro g
        rw [g] at hNr
        have : R = 0 := by
          have h2 := nr_unique hNr (by have := nr_exact 0; rw [uval_zero] at this; exact this)
          exact h2
        omega
    exact this
  · intro hne
    refine (congrArg ng hw).trans (hmw.2.trans ?_)
    rw [← hsg, if_neg (fun g => hne (hT0.1 g))]
    exact decide_eq_decide.2 hTn
end Go.Proofs.YtghcoijinihlnaaGreat.Fl
namespace Go.Proofs.YtghcoijinihlnaaGreat.Fl
open Ieee
/-- A product that is not too small is a whole number of units (L digits more where it is lifted). -/
theorem prod_units {a b : Nat} (ha : Rep a) (hb : Rep b) {j L E : Nat} (hj : 2 ^ j ≤ a * b) (h : E ≤ j - 105 + L) (hj2 : 106 ≤ j) : ∃ c, a * 2 ^ L * b = c * 2 ^ E := by
  obtain ⟨ea, ka, bka, rfl, _⟩ := rep_form ha
  obtain ⟨eb, kb, bkb, rfl, _⟩ := rep_form hb
  have e1 : ka * 2 ^ ea * (kb * 2 ^ eb) = ka * kb * 2 ^ (ea + eb) := by rw [Nat.pow_add]; simp only [Nat.mul_assoc, Nat.mul_left_comm]
  rw [e1] at hj
  have hk : ka * kb < 2 ^ 106 := by
    have h1 : ka * kb ≤ 9007199254740991 * 9007199254740991 := Nat.mul_le_mul (by omega) (by omega)
    have h2 : 9007199254740991 * 9007199254740991 < 2 ^ 106 := by decide
    omega
  have h3 : 2 ^ j < 2 ^ (106 + (ea + eb)) := by
    rw [Nat.pow_add]
    exact Nat.lt_of_le_of_lt hj (Nat.mul_lt_mul_of_pos_right hk (Nat.two_pow_pos _))
  have h4 := (Nat.pow_lt_pow_iff_right (a := 2) (by omega)).1 h3
  obtain ⟨d, hd⟩ : ∃ d, ea + eb + L = d + E := ⟨ea + eb + L - E, by omega⟩
  refine ⟨ka * kb * 2 ^ d, ?_⟩
  rw [Nat.mul_assoc (ka * kb), ← Nat.pow_add, ← hd, Nat.pow_add, Nat.pow_add]
  simp only [Nat.mul_assoc, Nat.mul_left_comm, Nat.mul_comm]
theorem sval_mul_units {x y : Nat} {c L E : Nat} {u : Int} (hu : u = sval x * (2 ^ L : Nat)) (h : uval (mg x) * 2 ^ L * uval (mg y) = c * 2 ^ E) : ∃ d : Int, u * sval y = d * (2 ^ E : Nat) := by
  subst hu
  have h' : ((uval (mg x) * 2 ^ L * uval (mg y) : Nat) : Int) = ((c * 2 ^ E : Nat) : Int) := by rw [h]
  rw [Int.natCast_mul, Int.natCast_mul, Int.natCast_mul] at h'
  unfold sval
  cases ng x <;> cases ng y <;> simp only [Bool.false_eq_true, if_false, if_true]
  · exact ⟨c, h'⟩
  · exact ⟨-c, by rw [Int.mul_neg, h', Int.neg_mul]⟩
  · exact ⟨-c, by rw [Int.neg_mul, Int.neg_mul, h', Int.neg_mul]⟩
  · exact ⟨c, by rw [Int.neg_mul, Int.neg_mul, Int.mul_neg, Int.neg_neg, h']⟩
theorem sval_lift {x x1 : Nat} (h : uval (mg x1) = uval (mg x) * 2 ^ 200) (hs : ng x1 = ng x) : sval x1 = sval x * (2 ^ 200 : Nat) := by
  unfold sval
  rw [h, hs, Int.natCast_mul]
  cases ng x
  · simp
  · simp only [if_true, Int.neg_mul]
theorem sign_scale {D t : Int} {p q : Nat} (h : D * (2 ^ p : Nat) = t * (2 ^ q : Nat)) : (t = 0 ↔ D = 0) ∧ (t < 0 ↔ D < 0) := by
  have hp : (0 : Int) < (2 ^ p : Nat) := Int.natCast_pos.2 (Nat.two_pow_pos _)
  have hq : (0 : Int) < (2 ^ q : Nat) := Int.natCast_pos.2 (Nat.two_pow_pos _)
  constructor
  · constructor
    · intro g
      rw [g, Int.zero_mul] at h
      rcases Int.mul_eq_zero.1 h with k | k
      · exact k
      · omega
    · intro g
      rw [g, Int.zero_mul] at h
      rcases Int.mul_eq_zero.1 h.symm with k | k
      · exact k
      · omega
  · constructor
    · intro g
      have := Int.mul_neg_of_neg_of_pos g hq
      rw [← h] at this
      rcases Int.lt_or_le D 0 with k | k
      · exact k
      · have := Int.mul_nonneg k (Int.le_of_lt hp); omega
    · intro g
      have := Int.mul_neg_of_neg_of_pos g hp
      rw [h] at this
      rcases Int.lt_or_le t 0 with k | k
      · exact k
      · have := Int.mul_nonneg k (Int.le_of_lt hq); omega
/-- left tells the sign of what is left, and nought just if nothing is. -/
theorem left_sign {x y z r E : Nat} (hE : E = 1074) (hx : x < 18446744073709551616) (px : Pl x) (py : Pl y) (fz : mg z < 9218868437227405312)
    (hlow : 2 ^ (E - 2) ≤ uval (mg x) * uval (mg y)) (hbig : lsmall z = false → 2 ^ (E + 172) ≤ uval (mg x) * uval (mg y)) (hsm : lsmall z = true → uval (mg x) * uval (mg y) ≤ 2 ^ (E + 176)) (h : LeftIs x y z r) :
    (mg r = 0 ↔ sval z * (2 ^ E : Nat) - sval x * sval y = 0) ∧ (sval z * (2 ^ E : Nat) - sval x * sval y ≠ 0 → ng r = decide (sval z * (2 ^ E : Nat) - sval x * sval y < 0)) := by
  obtain ⟨x1, z1, hc, hr⟩ := h
  cases hs : lsmall z
  · rw [hs] at hc
    obtain ⟨rfl, rfl⟩ := hc
    obtain ⟨c, hcc⟩ := prod_units (L := 0) (E := E) ⟨_, rfl⟩ ⟨_, rfl⟩ (hbig hs) (by omega) (by omega)
    obtain ⟨d, hd⟩ := sval_mul_units (u := sval x1) (by simp) hcc
    have ht : sval z1 * (2 ^ E : Nat) - sval x1 * sval y = (sval z1 - d) * (2 ^ E : Nat) := by rw [hd, ← Int.sub_mul]
    obtain ⟨a1, a2, _⟩ := fma_sign hx px.2 py.2 fz hr hE ht
    have k := sign_scale (D := sval z1 * (2 ^ E : Nat) - sval x1 * sval y) (t := sval z1 - d) (p := 0) (q := E) (by rw [Nat.pow_zero, ht]; simp)
    refine ⟨a1.trans k.1, fun hne => ?_⟩
    rw [a2 (fun g => hne (k.1.1 g))]
    exact decide_eq_decide.2 k.2
  · rw [hs] at hc
    obtain ⟨h1, h2⟩ := hc
    have hux : uval (mg x) ≤ 2 ^ (E + 176) := by
      have := Nat.le_mul_of_pos_right (uval (mg x)) (uval_pos py.1)
      exact Nat.le_trans this (hsm hs)
    obtain ⟨x1', f1, l1, s1, m1, u1⟩ := lift_exact hux (by omega)
    rw [h1] at f1
    obtain rfl : x1 = x1' := Option.some.inj f1
    obtain ⟨z1', f2, l2, s2, m2, u2⟩ := lift_small ((lsmall_is (Nat.le_of_lt fz)).1 hs)
    rw [h2] at f2
    obtain rfl : z1 = z1' := Option.some.inj f2
    obtain ⟨c, hcc⟩ := prod_units (L := 200) (E := E) ⟨_, rfl⟩ ⟨_, rfl⟩ hlow (by omega) (by omega)
    have vx := sval_lift u1 s1
    have vz := sval_lift u2 s2
    obtain ⟨d, hd⟩ := sval_mul_units vx hcc
    have ht : sval z1 * (2 ^ E : Nat) - sval x1 * sval y = (sval z1 - d) * (2 ^ E : Nat) := by rw [hd, ← Int.sub_mul]
    obtain ⟨a1, a2, _⟩ := fma_sign l1 m1 py.2 m2 hr hE ht
    have hD : (sval z * (2 ^ E : Nat) - sval x * sval y) * (2 ^ 200 : Nat) = (sval z1 - d) * (2 ^ E : Nat) := by
      rw [← ht, vx, vz, Int.sub_mul]
      congr 1
      · rw [Int.mul_assoc, Int.mul_assoc, Int.mul_comm ((2 ^ E : Nat) : Int)]
      · rw [Int.mul_assoc, Int.mul_assoc, Int.mul_comm (sval y)]
    have k := sign_scale hD
    refine ⟨a1.trans k.1, fun hne => ?_⟩
    rw [a2 (fun g => hne (k.1.1 g))]
    exact decide_eq_decide.2 k.2
end Go.Proofs.YtghcoijinihlnaaGreat.Fl
namespace Go.Proofs.YtghcoijinihlnaaGreat.Fl
open Ieee
/-- d is the greatest float that is not above N / D (minus infinity where no finite one is). -/
structure Dn (N : Int) (D d : Nat) : Prop where
  le : mg d ≤ 9218868437227405312
  inf : mg d = 9218868437227405312 → ng d = true
  below : mg d < 9218868437227405312 → sval d * (D : Int) ≤ N
  best : ∀ f, mg f < 9218868437227405312 → sval f * (D : Int) ≤ N → key f ≤ key d
/-- u is the least float that is not below it (plus infinity where no finite one is). -/
structure Up (N : Int) (D u : Nat) : Prop where
  le : mg u ≤ 9218868437227405312
  inf : mg u = 9218868437227405312 → ng u = false
  above : mg u < 9218868437227405312 → N ≤ sval u * (D : Int)
  best : ∀ f, mg f < 9218868437227405312 → N ≤ sval f * (D : Int) → key u ≤ key f
theorem key_bounds {x : Nat} (h : mg x ≤ 9218868437227405312) : -9218868437227405312 ≤ key x ∧ key x ≤ 9218868437227405312 := by unfold key; split <;> omega
theorem scale_le {x N N' : Int} {D D' : Nat} (hD : 0 < D) (h : x * D ≤ N) (k : N * D' ≤ N' * D) : x * D' ≤ N' := by
  have h1 : x * D * D' ≤ N * D' := Int.mul_le_mul_of_nonneg_right h (Int.natCast_nonneg _)
  have h2 : x * D' * D ≤ N' * D := by
    have e : x * D' * D = x * D * D' := by rw [Int.mul_assoc, Int.mul_assoc, Int.mul_comm (D' : Int)]
    rw [e]; exact Int.le_trans h1 k
  exact Int.le_of_mul_le_mul_right h2 (by omega)
theorem scale_ge {x N N' : Int} {D D' : Nat} (hD : 0 < D) (h : N ≤ x * D) (k : N' * D ≤ N * D') : N' ≤ x * D' := by
  have h1 : N * D' ≤ x * D * D' := Int.mul_le_mul_of_nonneg_right h (Int.natCast_nonneg _)
  have h2 : N' * D ≤ x * D' * D := by
    have e : x * D' * D = x * D * D' := by rw [Int.mul_assoc, Int.mul_assoc, Int.mul_comm (D' : Int)]
    rw [e]; exact Int.le_trans k h1
  exact Int.le_of_mul_le_mul_right h2 (by omega)
theorem Dn.mono {N N' : Int} {D D' d d' : Nat} (h : Dn N D d) (k : Dn N' D' d') (hD : 0 < D) (hle : N * D' ≤ N' * D) : key d ≤ key d' := by
  rcases Nat.lt_or_eq_of_le h.le with g | g
  · exact k.best d g (scale_le hD (h.below g) hle)
  · have h1 := h.inf g
    have h2 := (key_bounds k.le).1
    unfold key
    rw [h1, g]
    unfold key at h2
    simpa using h2
theorem Up.mono {N N' : Int} {D D' u u' : Nat} (h : Up N D u) (k : Up N' D' u') (hD' : 0 < D') (hle : N * D' ≤ N' * D) : key u ≤ key u' := by
  rcases Nat.lt_or_eq_of_le k.le with g | g
  · exact h.best u' g (scale_ge hD' (k.above g) hle)
  · have h1 := k.inf g
    have h2 := (key_bounds h.le).2
    unfold key at h2 ⊢
    rw [h1, g]
    simpa using h2
/-- A ratio that is a float. -/
theorem exact_dn {s D : Nat} {N : Int} (hD : 0 < D) (fs : mg s < 9218868437227405312) (h : sval s * (D : Int) = N) : Dn N D s ∧ Up N D s := by
  have hp : (0 : Int) < D := by omega
  have key_of : ∀ {x y : Nat}, sval x * (D : Int) ≤ sval y * (D : Int) → key x ≤ key y := fun {x y} g => by
    have g := Int.le_of_mul_le_mul_right g hp
    rcases Int.lt_or_le (key y) (key x) with k | k
    · have := (sval_cmp y x).1.2 k; omega
    · exact k
  exact ⟨⟨Nat.le_of_lt fs, fun g => by omega, fun _ => by rw [h]; exact Int.le_refl _, fun f _ g => key_of (by rw [h]; exact g)⟩,
    ⟨Nat.le_of_lt fs, fun g => by omega, fun _ => by rw [h]; exact Int.le_refl _, fun f _ g => key_of (by rw [h]; exact g)⟩⟩
theorem sval_word (s : Bool) {r : Nat} (h : r < 9223372036854775808) : sval (double.word s r) = if s then -(uval r : Int) else uval r := by
  unfold sval; rw [(word_mg s r h).1, (word_mg s r h).2]
theorem key_word' (s : Bool) {r : Nat} (h : r < 9223372036854775808) : key (double.word s r) = if s then -(r : Int) else r := by
  unfold key; rw [(word_mg s r h).1, (word_mg s r h).2]
/-- Between two rungs. -/
theorem rungs {r D U : Nat} (hr : r < 9218868437227405312) (h0 : uval r * D < U) (h1 : r + 1 = 9218868437227405312 ∨ U < uval (r + 1) * D) (sg : Bool) {N : Int} (hN : N = if sg then -(U : Int) else U) :
    Dn N D (double.word sg (r + sg.toNat)) ∧ Up N D (double.word sg (r + (!sg).toNat)) := by
  have h0' : (uval r : Int) * D < U := by exact_mod_cast h0
  have hfin : ∀ f, mg f < 9218868437227405312 → r + 1 ≤ mg f → (U : Int) < uval (mg f) * (D : Int) := fun f hf hle => by
    rcases h1 with g | g
    · omega
    · have a := Nat.mul_le_mul_right D (uval_le hle)
      have : U < uval (mg f) * D := Nat.lt_of_lt_of_le g a
      exact_mod_cast this
  have hlow : ∀ f, mg f ≤ r → (uval (mg f) : Int) * D < U := fun f hle => by
    have a := Nat.mul_le_mul_right D (uval_le hle)
    have : uval (mg f) * D < U := Nat.lt_of_le_of_lt a h0
    exact_mod_cast this
  cases sg
  · simp only [Bool.false_eq_true, if_false] at hN
    subst hN
    simp only [Bool.toNat_false, Nat.add_zero, Bool.not_false, Bool.toNat_true]
    have w0 := word_mg false r (by omega)
    have w1 := word_mg false (r + 1) (by omega)
    have k0 := key_word' false (r := r) (by omega)
    have k1 := key_word' false (r := r + 1) (by omega)
    have s0 := sval_word false (r := r) (by omega)
    have s1 := sval_word false (r := r + 1) (by omega)
    simp only [Bool.false_eq_true, if_false] at k0 k1 s0 s1
    refine ⟨⟨by omega, fun g => by omega, fun _ => by rw [s0]; omega, fun f hf g => ?_⟩, ⟨by omega, fun _ => w1.2, fun g => ?_, fun f hf g => ?_⟩⟩
    · rw [k0]
      rcases Int.lt_or_le (r : Int) (key f) with k | k
      · exfalso
        have hng : ng f = false := by unfold key at k; cases h : ng f <;> simp [h] at k ⊢; omega
        have hk : key f = mg f := by unfold key; rw [hng]; rfl
        have hs : sval f = uval (mg f) := by unfold sval; rw [hng]; rfl
        have := hfin f hf (by omega)
        rw [hs] at g; omega
      · exact k
    · rw [s1]
      have := hfin (double.word false (r + 1)) g (by omega)
      rw [w1.1] at this; omega
    · rw [k1]
      rcases Int.lt_or_le (key f) ((r + 1 : Nat) : Int) with k | k
      · exfalso
        cases hng : ng f
        · have hk : key f = mg f := by unfold key; rw [hng]; rfl
          have hs : sval f = uval (mg f) := by unfold sval; rw [hng]; rfl
          have := hlow f (by omega)
          rw [hs] at g; omega
        · have hs : sval f = -(uval (mg f) : Int) := by unfold sval; rw [hng]; rfl
          rw [hs, Int.neg_mul] at g
          have : (0 : Int) ≤ uval (mg f) * (D : Int) := by exact_mod_cast Nat.zero_le _
          omega
      · exact k
  · simp only [if_true] at hN
    subst hN
    simp only [Bool.toNat_true, Bool.not_true, Bool.toNat_false, Nat.add_zero]
    have w0 := word_mg true r (by omega)
    have w1 := word_mg true (r + 1) (by omega)
    have k0 := key_word' true (r := r) (by omega)
    have k1 := key_word' true (r := r + 1) (by omega)
    have s0 := sval_word true (r := r) (by omega)
    have s1 := sval_word true (r := r + 1) (by omega)
    simp only [if_true] at k0 k1 s0 s1
    refine ⟨⟨by omega, fun _ => w1.2, fun g => ?_, fun f hf g => ?_⟩, ⟨by omega, fun g => by omega, fun _ => by rw [s0, Int.neg_mul]; omega, fun f hf g => ?_⟩⟩
    · rw [s1, Int.neg_mul]
      have := hfin (double.word true (r + 1)) g (by omega)
      rw [w1.1] at this; omega
    · rw [k1]
      rcases Int.lt_or_le (-((r + 1 : Nat) : Int)) (key f) with k | k
      · exfalso
        cases hng : ng f
        · have hs : sval f = uval (mg f) := by unfold sval; rw [hng]; rfl
          rw [hs] at g
          have : (0 : Int) ≤ uval (mg f) * (D : Int) := by exact_mod_cast Nat.zero_le _
          omega
        · have hk : key f = -(mg f : Int) := by unfold key; rw [hng]; rfl
          have hs : sval f = -(uval (mg f) : Int) := by unfold sval; rw [hng]; rfl
          have := hlow f (by omega)
          rw [hs, Int.neg_mul] at g; omega
      · exact k
    · rw [k0]
      rcases Int.lt_or_le (key f) (-(r : Int)) with k | k
      · exfalso
        cases hng : ng f
        · have hk : key f = mg f := by unfold key; rw [hng]; rfl
          omega
        · have hk : key f = -(mg f : Int) := by unfold key; rw [hng]; rfl
          have hs : sval f = -(uval (mg f) : Int) := by unfold sval; rw [hng]; rfl
          have := hfin f hf (by omega)
          rw [hs, Int.neg_mul] at g; omega
      · exact k
end Go.Proofs.YtghcoijinihlnaaGreat.Fl
namespace Go.Proofs.YtghcoijinihlnaaGreat.Fl
open Ieee
theorem gt_zero' {x : Nat} (h : mg x ≤ 9218868437227405312) : (double.order x 0 == some .gt) = decide (mg x ≠ 0 ∧ ng x = false) := by
  by_cases h0 : mg x = 0
  · have e : (FloatKind.f64.format.order x 0 == some .gt) = _ := ord_gt x 0
    rw [show (double.order x 0 == some .gt) = _ from e]
    refine decide_eq_decide.2 ⟨fun k => ?_, fun k => absurd h0 k.1⟩
    have k := k.2.2
    unfold key at k
    rw [h0, show mg 0 = 0 by decide, show ng 0 = false by decide] at k
    cases h1 : ng x <;> rw [h1] at k <;> simp at k
  · have e : (FloatKind.f64.format.order x 0 == some .gt) = !ng x := gt_zero x (by omega) h
    rw [show (double.order x 0 == some .gt) = _ from e]
    cases ng x <;> simp [h0]
theorem lohi_dn {s l D R : Nat} {N : Int} (hD : 0 < D) (_hs : s < 18446744073709551616) (hN : N ≠ 0) (hm : mg s = min R 9218868437227405312)
    (h1 : 2 * N.natAbs ≤ (uval R + uval (R + 1)) * D) (h2 : ∀ Q, R = Q + 1 → (uval Q + uval R) * D ≤ 2 * N.natAbs) (hn : ng s = decide (N < 0))
    (hl : 0 < mg s → mg s < 9218868437227405312 → mg l ≤ 9218868437227405312 ∧ (mg l = 0 ↔ sval s * (D : Int) = N) ∧ (sval s * (D : Int) ≠ N → ng l = decide (N < sval s * (D : Int)))) :
    Dn N D (lo s l) ∧ Up N D (hi s l) := by
  obtain ⟨U, hU⟩ : ∃ U, N.natAbs = U := ⟨_, rfl⟩
  rw [hU] at h1 h2
  have hU0 : 0 < U := by omega
  have hNs : N = if ng s then -(U : Int) else U := by
    rw [hn]; by_cases k : N < 0
    · simp [k]; omega
    · simp [k]; omega
  have hp : (0 : Int) < D := by omega
  have below_next : ∀ r, r = R → U < uval (r + 1) * D := fun r hr => by
    subst hr
    have := Nat.mul_lt_mul_of_pos_right (uval_step r) hD
    rw [Nat.add_mul] at h1; omega
  have above_prev : ∀ Q, R = Q + 1 → uval Q * D < U := fun Q hQ => by
    have a := h2 Q hQ
    have := Nat.mul_lt_mul_of_pos_right (uval_step Q) hD
    rw [← hQ] at this
    rw [Nat.add_mul] at a; omega
  have outer : uval (mg s) * D < U → mg s < 9218868437227405312 → exactly s l = false → near s l = mg s → Dn N D (lo s l) ∧ Up N D (hi s l) := fun a b c d => by
    have hR : R = mg s := by omega
    have := rungs (r := mg s) (D := D) (U := U) b a (.inr (below_next _ hR.symm)) (ng s) hNs
    unfold lo hi; rw [c, d]; exact this
  have inner : ∀ r, r + 1 = mg s → uval r * D < U → (mg s = 9218868437227405312 ∨ U < uval (mg s) * D) → exactly s l = false → near s l = r → Dn N D (lo s l) ∧ Up N D (hi s l) := fun r hr a b c d => by
    have := rungs (r := r) (D := D) (U := U) (by omega) a (by rw [hr]; exact b) (ng s) hNs
    unfold lo hi; rw [c, d]; exact this
  rcases Nat.eq_zero_or_pos (mg s) with h0 | h0
  · refine outer (by rw [h0, uval_zero]; omega) (by omega) ?_ ?_
    · unfold exactly; rw [decide_eq_false (by omega)]; rfl
    · unfold near; rw [if_pos h0, h0]
  · rcases Nat.lt_or_ge (mg s) 9218868437227405312 with hf | hf
    · obtain ⟨l0, l1, l2⟩ := hl h0 hf
      have hR : R = mg s := by omega
      have heq := eq_zero l
      by_cases hz : sval s * (D : Int) = N
      · have hx : exactly s l = true := by
          unfold exactly
          rw [show (double.order l 0 == some .eq) = _ from heq, decide_eq_true (l1.2 hz), decide_eq_true ⟨h0, hf⟩]; rfl
        have := exact_dn hD hf hz
        unfold lo hi; rw [hx]; exact this
      · have hl0 : mg l ≠ 0 := fun k => hz (l1.1 k)
        have hx : exactly s l = false := by
          unfold exactly
          rw [show (double.order l 0 == some .eq) = _ from heq, decide_eq_false hl0, Bool.and_false]
        have hng := l2 hz
        have g1 := gt_zero' l0
        have g2 := gt_zero' (Nat.le_of_lt hf)
        have hsv : sval s * (D : Int) = if ng s then -((uval (mg s) * D : Nat) : Int) else ((uval (mg s) * D : Nat) : Int) := by
          unfold sval; cases ng s <;> simp [Int.neg_mul]
        have hne : uval (mg s) * D ≠ U := fun k => hz (by rw [hsv, hNs, k])
        -- lost is above nought just if the exact result is the greater one
        have hlg : (double.order l 0 == some .gt) = decide (sval s * (D : Int) < N) := by
          rw [g1, hng]
          refine decide_eq_decide.2 ⟨fun k => ?_, fun k => ⟨hl0, decide_eq_false (by omega)⟩⟩
          have := of_decide_eq_false k.2
          omega
        have hsg : (double.order s 0 == some .gt) = !ng s := by
          rw [g2]; cases ng s <;> simp <;> omega
        have hcase : near s l = if uval (mg s) * D < U then mg s else mg s - 1 := by
          unfold near
          rw [if_neg (by omega), hlg, hsg]
          by_cases k : uval (mg s) * D < U
          · have hc : decide (sval s * (D : Int) < N) = !ng s := by
              have k' : ((uval (mg s) * D : Nat) : Int) < U := by exact_mod_cast k
              rw [hsv, hNs]
              cases ng s
              · simp only [Bool.false_eq_true, if_false, Bool.not_false]; exact decide_eq_true k'
              · simp only [if_true, Bool.not_true]; exact decide_eq_false (by omega)
            rw [if_pos k, if_pos ⟨hf, hc⟩]
          · rw [if_neg k, if_neg]
            rintro ⟨_, e⟩
            rw [hsv, hNs] at e
            have k' : U < uval (mg s) * D := by omega
            cases hg : ng s <;> rw [hg] at e
            · simp at e; have e' : uval (mg s) * D < U := by exact_mod_cast e
              omega
            · simp at e; have e' : uval (mg s) * D ≤ U := by exact_mod_cast e
              omega
        by_cases k : uval (mg s) * D < U
        · rw [if_pos k] at hcase
          exact outer k hf hx hcase
        · rw [if_neg k] at hcase
          obtain ⟨Q, hQ⟩ : ∃ Q, R = Q + 1 := ⟨R - 1, by omega⟩
          exact inner Q (by omega) (above_prev Q hQ) (.inr (by omega)) hx (by rw [hcase]; omega)
    · have hf' : mg s = 9218868437227405312 := by omega
      obtain ⟨Q, hQ⟩ : ∃ Q, R = Q + 1 := ⟨R - 1, by omega⟩
      refine inner 9218868437227405311 (by omega) ?_ (.inl hf') ?_ ?_
      · have a := above_prev Q hQ
        have b := Nat.mul_le_mul_right D (uval_le (show 9218868437227405311 ≤ Q by omega))
        omega
      · unfold exactly; rw [decide_eq_false (by omega), Bool.false_and]
      · unfold near; rw [if_neg (by omega), if_neg (fun k => by omega)]; omega
end Go.Proofs.YtghcoijinihlnaaGreat.Fl
namespace Go.Proofs.YtghcoijinihlnaaGreat.Fl
open Ieee
/-- To which rung a product is rounded. -/
theorem mul_nr {a b s E : Nat} (hE : E = 1074) (fa : mg a < 9218868437227405312) (fb : mg b < 9218868437227405312) (hm : double.mul a b = some s) :
    ∃ R, mg s = min R 9218868437227405312 ∧ 2 * (uval (mg a) * uval (mg b)) ≤ (uval R + uval (R + 1)) * 2 ^ E ∧ (∀ Q, R = Q + 1 → (uval Q + uval R) * 2 ^ E ≤ 2 * (uval (mg a) * uval (mg b))) ∧ ng s = (ng a ^^ ng b) := by
  obtain ⟨M, P, e1, p1, v1⟩ := read_fin a fa
  obtain ⟨N, Q, e2, p2, v2⟩ := read_fin b fb
  unfold Format.mul at hm
  rw [e1, e2] at hm
  cases hm
  obtain ⟨R, e, hR⟩ := near_spec (ng a ^^ ng b) (M * N) (P + Q)
  have hzz : double.write (.number (ng a ^^ ng b) (M * N) (P + Q)) = double.word (ng a ^^ ng b) (min R 9218868437227405312) := e
  have hw := word_mg (ng a ^^ ng b) (min R 9218868437227405312) (by omega)
  have k := hR ((P + 1074).toNat + (Q + 1074).toNat) E (by omega)
  have e3 : M * N * 2 ^ ((P + 1074).toNat + (Q + 1074).toNat) = uval (mg a) * uval (mg b) := by
    rw [← v1, ← v2, Nat.pow_add]
    simp only [Nat.mul_assoc, Nat.mul_left_comm]
  rw [e3] at k
  refine ⟨R, ?_, k.1, fun Q hQ => (k.2.2 Q hQ).1, ?_⟩
  · show mg (double.write (.number (ng a ^^ ng b) (M * N) (P + Q))) = _
    rw [hzz]; exact hw.1
  · show ng (double.write (.number (ng a ^^ ng b) (M * N) (P + Q))) = _
    rw [hzz]; exact hw.2
theorem sval_mul (a b : Nat) : (sval a * sval b).natAbs = uval (mg a) * uval (mg b) := by rw [Int.natAbs_mul, sval_abs, sval_abs]
theorem sval_sign {a : Nat} (h : 0 < mg a) : ng a = decide (sval a < 0) := by
  have := uval_pos h
  unfold sval; cases ng a <;> simp <;> omega
theorem mul_sign {a b : Nat} (ha : 0 < mg a) (hb : 0 < mg b) : (ng a ^^ ng b) = decide (sval a * sval b < 0) := by
  have h1 := uval_pos ha
  have h2 := uval_pos hb
  have hp : (0 : Int) < (uval (mg a) : Int) * uval (mg b) := Int.mul_pos (by omega) (by omega)
  unfold sval
  cases ng a <;> cases ng b <;> simp [Int.neg_mul, Int.mul_neg] <;> omega
/-- The conditions on the size of a product that 'left' asks for, from the rung. -/
theorem left_conds {s R V E : Nat} (hE : E = 1074) (h0 : 0 < mg s) (hf : mg s < 9218868437227405312) (hm : mg s = min R 9218868437227405312) (h1 : 2 * V ≤ (uval R + uval (R + 1)) * 2 ^ E) (h2 : ∀ Q, R = Q + 1 → (uval Q + uval R) * 2 ^ E ≤ 2 * V) :
    2 ^ (E - 2) ≤ V ∧ (lsmall s = false → 2 ^ (E + 172) ≤ V) ∧ (lsmall s = true → V ≤ 2 ^ (E + 176)) := by
  have hR : R = mg s := by omega
  obtain ⟨Q, hQ⟩ : ∃ Q, R = Q + 1 := ⟨R - 1, by omega⟩
  have k2 := h2 Q hQ
  have hls := lsmall_is (z := s) (Nat.le_of_lt hf)
  have hu := uval_small900
  have e1 : 2 ^ E = 4 * 2 ^ (E - 2) := by
    obtain ⟨F, hF⟩ : ∃ F, E = F + 2 := ⟨E - 2, by omega⟩
    rw [hF, Nat.add_sub_cancel, Nat.pow_add]; omega
  have e2 : 2 ^ (E + 172) = 2 ^ 172 * 2 ^ E := by rw [Nat.pow_add, Nat.mul_comm]
  have e3 : 2 ^ (E + 176) = 16 * (2 ^ 172 * 2 ^ E) := by rw [Nat.pow_add, show (2 : Nat) ^ 176 = 16 * 2 ^ 172 by decide, Nat.mul_comm, Nat.mul_assoc]
  have e4 : (2 : Nat) ^ 174 = 4 * 2 ^ 172 := by decide
  rw [e4] at hu
  rw [e2, e3]
  generalize (2 : Nat) ^ 172 = T at *
  have hX := Nat.two_pow_pos E
  refine ⟨?_, fun k => ?_, fun k => ?_⟩
  · have : 1 ≤ uval R := uval_pos (by omega)
    have a := Nat.mul_le_mul_right (2 ^ E) (show 1 ≤ uval Q + uval R by omega)
    omega
  · have hge : ¬ mg s < 553942754166571008 := fun g => by rw [hls.2 g] at k; cases k
    have : 4 * T ≤ uval R := by rw [← hu]; exact uval_le (by omega)
    have a := Nat.mul_le_mul_right (2 ^ E) (show 4 * T ≤ uval Q + uval R by omega)
    rw [Nat.mul_assoc] at a
    omega
  · have hlt := hls.1 k
    have b1 : uval R ≤ 4 * T := by rw [← hu]; exact uval_le (by omega)
    have b2 : uval (R + 1) ≤ 4 * T := by rw [← hu]; exact uval_le (by omega)
    have a := Nat.mul_le_mul_right (2 ^ E) (show uval R + uval (R + 1) ≤ 8 * T by omega)
    rw [Nat.mul_assoc] at a
    omega
theorem mul_dn {a b s d u E : Nat} (hE : E = 1074) (ha : a < 18446744073709551616) (fa : mg a < 9218868437227405312) (fb : mg b < 9218868437227405312) (hm : double.mul a b = some s) (h : OpIs a b s (MulLost a b s) d u) :
    Dn (sval a * sval b) (2 ^ E) d ∧ Up (sval a * sval b) (2 ^ E) u := by
  obtain ⟨R, e1, e2, e3, e4⟩ := mul_nr hE fa fb hm
  have hsl := (mul_told hm).2
  have hX := Nat.two_pow_pos E
  rcases h with ⟨hz, hd, hu⟩ | ⟨pa, pb, l, ⟨k, rfl, hk⟩, rfl, rfl⟩
  · rw [hd, hu]
    have hn : mg a = 0 ∨ mg b = 0 := by unfold Pl at hz; omega
    have hN : sval a * sval b = 0 := by
      rcases hn with g | g
      · rw [sval_zero.2 g, Int.zero_mul]
      · rw [sval_zero.2 g, Int.mul_zero]
    have hU : uval (mg a) * uval (mg b) = 0 := by rw [← sval_mul, hN]; rfl
    rw [hU] at e3
    have hs0 : mg s = 0 := by
      rcases Nat.eq_zero_or_pos R with g | g
      · omega
      · exfalso
        obtain ⟨Q, hQ⟩ : ∃ Q, R = Q + 1 := ⟨R - 1, by omega⟩
        have a := e3 Q hQ
        have : 1 ≤ uval R := uval_pos g
        have b := Nat.mul_le_mul_right (2 ^ E) (show 1 ≤ uval Q + uval R by omega)
        omega
    exact exact_dn hX (by omega) (by rw [sval_zero.2 hs0, hN, Int.zero_mul])
  · have hN : sval a * sval b ≠ 0 := fun g => by
      rcases Int.mul_eq_zero.1 g with g | g
      · have := sval_zero.1 g; have := pa.1; omega
      · have := sval_zero.1 g; have := pb.1; omega
    refine lohi_dn (R := R) hX hsl hN e1 (by rw [sval_mul]; exact e2) (fun Q hQ => by rw [sval_mul]; exact e3 Q hQ) (by rw [e4]; exact mul_sign pa.1 pb.1) (fun h0 hf => ?_)
    obtain ⟨r, hr, hr1, hr2⟩ := leftIs_ex ha (Nat.le_of_lt pa.2) pb hf
    have hkr := hk r hr
    subst hkr
    have c := left_conds hE h0 hf e1 e2 e3
    have g := left_sign hE ha pa pb hf c.1 c.2.1 c.2.2 hr
    have hng := ngf_is hr2
    have hcast : (((2 ^ E : Nat)) : Int) = ((2 ^ E : Nat) : Int) := rfl
    refine ⟨by rw [hng.1]; exact hr1, ⟨fun z => ?_, fun z => ?_⟩, fun z => ?_⟩
    · rw [hng.1] at z
      have := g.1.1 z
      omega
    · rw [hng.1]
      exact g.1.2 (by omega)
    · rw [hng.2, g.2 (by omega)]
      rw [← decide_not]
      exact decide_eq_decide.2 (by omega)
end Go.Proofs.YtghcoijinihlnaaGreat.Fl
namespace Go.Proofs.YtghcoijinihlnaaGreat.Fl
open Ieee
theorem rung_form (R : Nat) : ∃ e k, R = e * 4503599627370496 + k ∧ uval R = k * 2 ^ e ∧ uval (R + 1) = (k + 1) * 2 ^ e ∧ k < 9007199254740992 ∧ (e = 0 ∨ 4503599627370496 ≤ k) := by
  by_cases h : R < 9007199254740992
  · have a := uval_bin (e := 0) (k := R) (.inl rfl) (by omega)
    have b := uval_bin (e := 0) (k := R + 1) (.inl rfl) (by omega)
    rw [Nat.zero_mul, Nat.zero_add] at a
    rw [Nat.zero_mul, Nat.zero_add (R + 1)] at b
    have c : R = 0 * 4503599627370496 + R := by rw [Nat.zero_mul, Nat.zero_add]
    exact ⟨0, R, c, a, b, h, Or.inl (Eq.refl 0)⟩
  · obtain ⟨e, k, hR, h1, h2⟩ : ∃ e k, R = e * 4503599627370496 + k ∧ 4503599627370496 ≤ k ∧ k < 9007199254740992 := ⟨R / 4503599627370496 - 1, R - (R / 4503599627370496 - 1) * 4503599627370496, by omega, by omega, by omega⟩
    have a := uval_bin (e := e) (k := k) (.inr h1) (by omega)
    have b := uval_bin (e := e) (k := k + 1) (.inr (by omega)) (by omega)
    exact ⟨e, k, hR, by rw [hR]; exact a, by rw [hR, Nat.add_assoc]; exact b, h2, .inr h1⟩
theorem pow_split {x y : Nat} (h : 2 * 2 ^ x < 2 ^ y) : ∃ f, y = x + 2 + f := by
  have h1 : 2 ^ (x + 1) < 2 ^ y := by rw [Nat.pow_succ]; omega
  have := (Nat.pow_lt_pow_iff_right (a := 2) (by omega)).1 h1
  exact ⟨y - (x + 2), by omega⟩
/-- A number of at least 54 digits with one more that says whether anything is left over: where the midpoints lie. -/
theorem sticky {q σ R A B : Nat} {p : Int} (hn : NearR (2 * q + σ) p R) (hq : 9007199254740992 ≤ q) (hσ : σ ≤ 1) (hAB : (A : Int) - B = p + 1074) :
    (∃ c, (uval R + uval (R + 1)) * 2 ^ B = c * (4 * 2 ^ A) ∧ q + σ ≤ c) ∧ ∀ Q, R = Q + 1 → (uval Q + uval R) * 2 ^ B ≤ q * (4 * 2 ^ A) := by
  have k := hn A B hAB
  obtain ⟨e, m, hR, u0, u1, hm, hem⟩ := rung_form R
  have hX := Nat.two_pow_pos A
  have hsum : (uval R + uval (R + 1)) * 2 ^ B = (2 * m + 1) * 2 ^ (e + B) := by
    rw [u0, u1, ← Nat.add_mul, Nat.mul_assoc, ← Nat.pow_add]; congr 1; omega
  have k1 := k.1
  rw [hsum] at k1
  have hbig : 2 * 2 ^ A < 2 ^ (e + B) := by
    have a : (2 * m + 1) * 2 ^ (e + B) ≤ 18014398509481983 * 2 ^ (e + B) := Nat.mul_le_mul_right _ (by omega)
    have b : 18014398509481984 * 2 ^ A ≤ (2 * q + σ) * 2 ^ A := Nat.mul_le_mul_right _ (by omega)
    have hY := Nat.two_pow_pos (e + B)
    omega
  obtain ⟨f, hf⟩ := pow_split hbig
  have hpow : 2 ^ (e + B) = 2 ^ f * (4 * 2 ^ A) := by
    rw [hf, Nat.pow_add, Nat.pow_add, show (2 : Nat) ^ 2 = 4 from rfl]
    rw [Nat.mul_comm (2 ^ A) 4, Nat.mul_comm]
  refine ⟨⟨(2 * m + 1) * 2 ^ f, by rw [hsum, hpow, Nat.mul_assoc], ?_⟩, fun Q hQ => ?_⟩
  · rw [hpow, ← Nat.mul_assoc (2 * m + 1)] at k1
    rcases Nat.lt_or_ge ((2 * m + 1) * 2 ^ f) (q + σ) with g | g
    · exfalso
      generalize (2 * m + 1) * 2 ^ f = c at *
      generalize 2 ^ A = X at *
      have e1 : c * (4 * X) = 4 * (c * X) := Nat.mul_left_comm _ _ _
      have e2 : 2 * ((2 * q + σ) * X) = 4 * (q * X) + 2 * (σ * X) := by rw [Nat.add_mul, Nat.mul_add, Nat.mul_assoc 2 q, ← Nat.mul_assoc 2 2]
      rw [e1, e2] at k1
      have h01 : σ = 0 ∨ σ = 1 := by omega
      rcases h01 with h | h
      · have a := Nat.mul_le_mul_right X (show c + 1 ≤ q by omega)
        rw [Nat.add_mul, Nat.one_mul] at a
        omega
      · have a := Nat.mul_le_mul_right X (show c ≤ q by omega)
        rw [h, Nat.one_mul] at k1
        omega
    · exact g
  · have k2 := (k.2.2 Q hQ).1
    by_cases hb : e ≠ 0 ∧ m = 4503599627370496
    · -- the rung is a power of two: the one before has half the step
      obtain ⟨g, hg⟩ : ∃ g, e = g + 1 := ⟨e - 1, by omega⟩
      have hQ2 : Q = g * 4503599627370496 + 9007199254740991 := by omega
      have uq := uval_bin (e := g) (k := 9007199254740991) (.inr (by omega)) (by omega)
      rw [← hQ2] at uq
      have ur : uval R = 9007199254740992 * 2 ^ g := by rw [u0, hb.2, hg, Nat.pow_succ]; omega
      rw [uq, ur, ← Nat.add_mul]
      have e1 : 2 * 2 ^ (g + B) = 2 ^ (e + B) := by rw [hg, show g + 1 + B = g + B + 1 by omega, Nat.pow_succ, Nat.mul_comm]
      have e2 : (9007199254740991 + 9007199254740992) * 2 ^ g * 2 ^ B = 18014398509481983 * 2 ^ (g + B) := by rw [Nat.mul_assoc, ← Nat.pow_add]
      rw [e2]
      rw [uq, ur, ← Nat.add_mul, e2] at k2
      rw [hpow] at e1
      rcases f with _ | f
      · simp only [Nat.pow_zero, Nat.one_mul] at e1
        have a : 9007199254740992 * (4 * 2 ^ A) ≤ q * (4 * 2 ^ A) := Nat.mul_le_mul_right _ hq
        omega
      · have e3 : 2 ^ (g + B) = 2 ^ f * (4 * 2 ^ A) := by
          rw [Nat.pow_succ] at e1
          have : 2 * 2 ^ (g + B) = 2 * (2 ^ f * (4 * 2 ^ A)) := by rw [e1, Nat.mul_right_comm, Nat.mul_comm]
          omega
        rw [e3, ← Nat.mul_assoc] at k2 ⊢
        generalize 18014398509481983 * 2 ^ f = c at *
        rcases Nat.lt_or_ge q c with g | g
        · exfalso
          have a : (q + 1) * (4 * 2 ^ A) ≤ c * (4 * 2 ^ A) := Nat.mul_le_mul_right _ g
          have b : (2 * q + σ) * 2 ^ A ≤ (2 * q + 1) * 2 ^ A := Nat.mul_le_mul_right _ (by omega)
          generalize 2 ^ A = X at *
          have e4 : (q + 1) * (4 * X) = 4 * (q * X) + 4 * X := by rw [Nat.add_mul, Nat.one_mul, Nat.mul_left_comm]
          have e5 : 2 * ((2 * q + 1) * X) = 4 * (q * X) + 2 * X := by rw [Nat.add_mul, Nat.mul_add, Nat.mul_assoc 2 q, ← Nat.mul_assoc 2 2, Nat.one_mul]
          omega
        · exact Nat.mul_le_mul_right _ g
    · have hm0 : 0 < m := by
        rcases hem with g | g
        · omega
        · omega
      have hQ2 : Q = e * 4503599627370496 + (m - 1) := by omega
      have uq := uval_bin (e := e) (k := m - 1) (by omega) (by omega)
      rw [← hQ2] at uq
      have e2 : (uval Q + uval R) * 2 ^ B = (2 * m - 1) * 2 ^ (e + B) := by
        rw [uq, u0, ← Nat.add_mul, Nat.mul_assoc, ← Nat.pow_add]; congr 1; omega
      rw [e2] at k2 ⊢
      rw [hpow, ← Nat.mul_assoc] at k2 ⊢
      generalize (2 * m - 1) * 2 ^ f = c at *
      rcases Nat.lt_or_ge q c with g | g
      · exfalso
        have a : (q + 1) * (4 * 2 ^ A) ≤ c * (4 * 2 ^ A) := Nat.mul_le_mul_right _ g
        have b : (2 * q + σ) * 2 ^ A ≤ (2 * q + 1) * 2 ^ A := Nat.mul_le_mul_right _ (by omega)
        generalize 2 ^ A = X at *
        have e4 : (q + 1) * (4 * X) = 4 * (q * X) + 4 * X := by rw [Nat.add_mul, Nat.one_mul, Nat.mul_left_comm]
        have e5 : 2 * ((2 * q + 1) * X) = 4 * (q * X) + 2 * X := by rw [Nat.add_mul, Nat.mul_add, Nat.mul_assoc 2 q, ← Nat.mul_assoc 2 2, Nat.one_mul]
        omega
      · exact Nat.mul_le_mul_right _ g
end Go.Proofs.YtghcoijinihlnaaGreat.Fl
namespace Go.Proofs.YtghcoijinihlnaaGreat.Fl
open Ieee
theorem quot_big {M N more : Nat} (hM : M ≠ 0) (hN : N ≠ 0) (h : 54 + N.log2 - M.log2 = more) : 9007199254740992 ≤ M * 2 ^ more / N := by
  rw [Nat.le_div_iff_mul_le (by omega)]
  have h1 := Nat.log2_self_le hM
  have h2 := @Nat.lt_log2_self N
  have h3 : 2 ^ (54 + N.log2) ≤ 2 ^ (M.log2 + more) := Nat.pow_le_pow_right (by omega) (by omega)
  have h4 : 2 ^ (M.log2 + more) ≤ M * 2 ^ more := by rw [Nat.pow_add]; exact Nat.mul_le_mul_right _ h1
  have h5 : 9007199254740992 * N ≤ 9007199254740992 * 2 ^ (N.log2 + 1) := Nat.mul_le_mul_left _ (Nat.le_of_lt h2)
  have h6 : 9007199254740992 * 2 ^ (N.log2 + 1) = 2 ^ (54 + N.log2) := by
    rw [show (9007199254740992 : Nat) = 2 ^ 53 by decide, ← Nat.pow_add]; congr 1; omega
  omega
/-- To which rung a quotient is rounded. -/
theorem div_nr {a b s E : Nat} (hE : E = 1074) (fa : mg a < 9218868437227405312) (fb : mg b < 9218868437227405312) (a0 : 0 < mg a) (b0 : 0 < mg b) (hm : double.div a b = some s) :
    ∃ R, mg s = min R 9218868437227405312 ∧ 2 * (uval (mg a) * 2 ^ E) ≤ (uval R + uval (R + 1)) * uval (mg b) ∧ (∀ Q, R = Q + 1 → (uval Q + uval R) * uval (mg b) ≤ 2 * (uval (mg a) * 2 ^ E)) ∧ ng s = (ng a ^^ ng b) := by
  obtain ⟨M, P, e1, p1, v1⟩ := read_fin a fa
  obtain ⟨N, Q, e2, p2, v2⟩ := read_fin b fb
  have hM : M ≠ 0 := fun h => by have := uval_pos a0; rw [← v1, h] at this; simp at this
  have hN : N ≠ 0 := fun h => by have := uval_pos b0; rw [← v2, h] at this; simp at this
  unfold Format.div at hm
  rw [e1, e2] at hm
  simp only [Datum.quotient, if_neg hN] at hm
  have hfb : double.fractionBits + 2 = 54 := rfl
  rw [hfb] at hm
  obtain ⟨more, hmore⟩ : ∃ more, 54 + N.log2 - M.log2 = more := ⟨_, rfl⟩
  rw [hmore, Nat.shiftLeft_eq] at hm
  have hq := quot_big hM hN hmore
  have hdm := Nat.div_add_mod (M * 2 ^ more) N
  have hrl := Nat.mod_lt (M * 2 ^ more) (show N > 0 by omega)
  obtain ⟨dd, hdd⟩ : ∃ dd, M * 2 ^ more = dd := ⟨_, rfl⟩
  rw [hdd] at hm hq hdm hrl
  obtain ⟨q, hqq⟩ : ∃ q, dd / N = q := ⟨_, rfl⟩
  obtain ⟨rest, hrr⟩ : ∃ rest, dd % N = rest := ⟨_, rfl⟩
  rw [hqq] at hm hq hdm
  rw [hrr] at hm hdm hrl
  obtain ⟨σ, hσ⟩ : ∃ σ, (rest != 0).toNat = σ := ⟨_, rfl⟩
  have hσ1 : σ ≤ 1 := by rw [← hσ]; exact Bool.toNat_le _
  have hσr : rest ≤ σ * N := by
    rcases Nat.eq_zero_or_pos rest with g | g
    · omega
    · have : σ = 1 := by rw [← hσ, show (rest != 0) = true from bne_iff_ne.2 (by omega)]; rfl
      rw [this]; omega
  rw [hσ] at hm
  cases hm
  obtain ⟨R, e, hR⟩ := near_spec (ng a ^^ ng b) (2 * q + σ) (P - Q - ↑more - 1)
  have hzz : double.write (.number (ng a ^^ ng b) (2 * q + σ) (P - Q - ↑more - 1)) = double.word (ng a ^^ ng b) (min R 9218868437227405312) := e
  have hw := word_mg (ng a ^^ ng b) (min R 9218868437227405312) (by omega)
  obtain ⟨F, hF⟩ : ∃ F, E = F + 1 := ⟨1073, hE⟩
  obtain ⟨A, hA⟩ : ∃ A, A = (P + 1074).toNat + F := ⟨_, rfl⟩
  obtain ⟨B, hB⟩ : ∃ B, B = (Q + 1074).toNat + more := ⟨_, rfl⟩
  obtain ⟨⟨c, hc1, hc2⟩, hlow⟩ := sticky hR hq hσ1 (A := A) (B := B) (by omega)
  have hX := Nat.two_pow_pos more
  -- both sides times two to the power more
  have hl : 2 * (uval (mg a) * 2 ^ E) * 2 ^ more = dd * (4 * 2 ^ A) := by
    rw [← v1, ← hdd, hA, hF, Nat.pow_succ, Nat.pow_add]
    generalize 2 ^ (P + 1074).toNat = x
    generalize 2 ^ F = y
    generalize 2 ^ more = z
    grind
  have hr : ∀ T, T * uval (mg b) * 2 ^ more = T * 2 ^ B * N := fun T => by
    rw [← v2, hB, Nat.pow_add]
    generalize 2 ^ (Q + 1074).toNat = x
    generalize 2 ^ more = z
    grind
  refine ⟨R, ?_, ?_, fun Q' hQ' => ?_, ?_⟩
  · show mg (double.write (.number (ng a ^^ ng b) (2 * q + σ) (P - Q - ↑more - 1))) = _
    rw [hzz]; exact hw.1
  · refine Nat.le_of_mul_le_mul_right ?_ hX
    rw [hl, hr, hc1, Nat.mul_right_comm]
    refine Nat.mul_le_mul_right _ ?_
    have a1 := Nat.mul_le_mul_right N hc2
    rw [Nat.add_mul] at a1
    rw [Nat.mul_comm] at hdm
    omega
  · refine Nat.le_of_mul_le_mul_right ?_ hX
    rw [hl, hr]
    refine Nat.le_trans (Nat.mul_le_mul_right N (hlow Q' hQ')) ?_
    rw [Nat.mul_right_comm]
    refine Nat.mul_le_mul_right _ ?_
    rw [Nat.mul_comm] at hdm
    omega
  · show ng (double.write (.number (ng a ^^ ng b) (2 * q + σ) (P - Q - ↑more - 1))) = _
    rw [hzz]; exact hw.2
/-- A quotient as a ratio of whole numbers, the lower one above nought. -/
def qnum (a b E : Nat) : Int := if ng b then -(sval a * (2 ^ E : Nat)) else sval a * (2 ^ E : Nat)
theorem qnum_abs (a b E : Nat) : (qnum a b E).natAbs = uval (mg a) * 2 ^ E := by
  unfold qnum; cases ng b <;> simp only [Bool.false_eq_true, if_false, if_true, Int.natAbs_neg] <;> rw [Int.natAbs_mul, sval_abs, Int.natAbs_natCast]
end Go.Proofs.YtghcoijinihlnaaGreat.Fl
namespace Go.Proofs.YtghcoijinihlnaaGreat.Fl
open Ieee
theorem uval_twice {R : Nat} (h : 0 < R) : uval (R + 1) ≤ 2 * uval R := by
  obtain ⟨e, k, hR, u0, u1, hk, hek⟩ := rung_form R
  have hk0 : 1 ≤ k := by
    rcases hek with g | g
    · rw [g, Nat.zero_mul, Nat.zero_add] at hR; omega
    · omega
  rw [u0, u1, ← Nat.mul_assoc]
  exact Nat.mul_le_mul_right _ (by omega)
theorem quot_conds {a _s R ub E : Nat} (hE : E = 1074) (a0 : 0 < mg a) (fa : mg a < 9218868437227405312) (h0 : 0 < R) (h1 : 2 * (uval (mg a) * 2 ^ E) ≤ (uval R + uval (R + 1)) * ub) (h2 : ∀ Q, R = Q + 1 → (uval Q + uval R) * ub ≤ 2 * (uval (mg a) * 2 ^ E)) :
    2 ^ (E - 2) ≤ uval R * ub ∧ (lsmall a = false → 2 ^ (E + 172) ≤ uval R * ub) ∧ (lsmall a = true → uval R * ub ≤ 2 ^ (E + 176)) := by
  obtain ⟨Q, hQ⟩ : ∃ Q, R = Q + 1 := ⟨R - 1, by omega⟩
  have k2 := h2 Q hQ
  have hls := lsmall_is (z := a) (Nat.le_of_lt fa)
  have hu := uval_small900
  have ht := uval_twice h0
  have hua := uval_pos a0
  have e1 : 2 ^ E = 4 * 2 ^ (E - 2) := by
    obtain ⟨F, hF⟩ : ∃ F, E = F + 2 := ⟨E - 2, by omega⟩
    rw [hF, Nat.add_sub_cancel, Nat.pow_add]; omega
  have e2 : 2 ^ (E + 172) = 2 ^ 172 * 2 ^ E := by rw [Nat.pow_add, Nat.mul_comm]
  have e3 : 2 ^ (E + 176) = 16 * (2 ^ 172 * 2 ^ E) := by rw [Nat.pow_add, show (2 : Nat) ^ 176 = 16 * 2 ^ 172 by decide, Nat.mul_comm, Nat.mul_assoc]
  have e4 : (2 : Nat) ^ 174 = 4 * 2 ^ 172 := by decide
  rw [e4] at hu
  rw [e2, e3]
  generalize (2 : Nat) ^ 172 = T at *
  have b1 : (uval R + uval (R + 1)) * ub ≤ 3 * uval R * ub := Nat.mul_le_mul_right _ (by omega)
  have b2 : uval R * ub ≤ (uval Q + uval R) * ub := Nat.mul_le_mul_right _ (by omega)
  rw [Nat.mul_assoc] at b1
  refine ⟨?_, fun k => ?_, fun k => ?_⟩
  · have a := Nat.mul_le_mul_right (2 ^ E) (show 1 ≤ uval (mg a) by omega)
    omega
  · have hge : ¬ mg a < 553942754166571008 := fun g => by rw [hls.2 g] at k; cases k
    have : 4 * T ≤ uval (mg a) := by rw [← hu]; exact uval_le (by omega)
    have a := Nat.mul_le_mul_right (2 ^ E) this
    rw [Nat.mul_assoc] at a
    omega
  · have : uval (mg a) ≤ 4 * T := by rw [← hu]; exact uval_le (Nat.le_of_lt (hls.1 k))
    have a := Nat.mul_le_mul_right (2 ^ E) this
    rw [Nat.mul_assoc] at a
    omega
theorem div_nought {a b s : Nat} (a0 : mg a = 0) (fb : mg b < 9218868437227405312) (b0 : 0 < mg b) (hm : double.div a b = some s) : mg s = 0 := by
  obtain ⟨M, P, e1, p1, v1⟩ := read_fin a (by omega)
  obtain ⟨N, Q, e2, p2, v2⟩ := read_fin b fb
  have hN : N ≠ 0 := fun h => by have := uval_pos b0; rw [← v2, h] at this; simp at this
  have hM : M = 0 := by
    rw [a0, uval_zero] at v1
    rcases Nat.mul_eq_zero.1 v1 with g | g
    · exact g
    · have := Nat.two_pow_pos (P + 1074).toNat; omega
  subst hM
  unfold Format.div at hm
  rw [e1, e2] at hm
  simp only [Datum.quotient, if_neg hN, Nat.zero_shiftLeft, Nat.zero_div, Nat.zero_mod, Option.map_some] at hm
  cases hm
  show mg (double.nearest _ _ _) = 0
  unfold Format.nearest
  rw [if_pos (by decide)]
  exact (word_mg _ 0 (by omega)).1
theorem quo_sign {a b E : Nat} (a0 : 0 < mg a) : (ng a ^^ ng b) = decide (qnum a b E < 0) := by
  have h1 := uval_pos a0
  have hp : (0 : Int) < (uval (mg a) : Int) * (2 ^ E : Nat) := Int.mul_pos (by omega) (Int.natCast_pos.2 (Nat.two_pow_pos _))
  unfold qnum sval
  cases ng a <;> cases ng b <;> simp only [Bool.false_eq_true, if_false, if_true, Bool.xor_false, Bool.xor_true, Bool.not_true, Bool.not_false, Int.neg_mul, Int.neg_neg]
  · exact (decide_eq_false (by omega)).symm
  · exact (decide_eq_true (by omega)).symm
  · exact (decide_eq_true (by omega)).symm
  · exact (decide_eq_false (by omega)).symm
theorem quo_dn {a b s d u E : Nat} (hE : E = 1074) (fa : mg a < 9218868437227405312) (fb : mg b < 9218868437227405312) (b0 : 0 < mg b) (hm : double.div a b = some s) (h : OpIs a b s (QuoLost a b s) d u) :
    Dn (qnum a b E) (uval (mg b)) d ∧ Up (qnum a b E) (uval (mg b)) u := by
  have hsl := (div_told hm).2
  have hX : 0 < uval (mg b) := uval_pos b0
  rcases h with ⟨hz, hd, hu⟩ | ⟨pa, pb, l, ⟨k, hlk, hk⟩, rfl, rfl⟩
  · rw [hd, hu]
    have a0 : mg a = 0 := by unfold Pl at hz; omega
    have hs0 := div_nought a0 fb b0 hm
    have hN : qnum a b E = 0 := by
      have := qnum_abs a b E
      rw [a0, uval_zero, Nat.zero_mul] at this; omega
    exact exact_dn hX (by omega) (by rw [sval_zero.2 hs0, hN, Int.zero_mul])
  · obtain ⟨R, e1, e2, e3, e4⟩ := div_nr hE fa fb pa.1 b0 hm
    have hN : qnum a b E ≠ 0 := fun g => by
      have := qnum_abs a b E
      rw [g] at this
      have h1 := Nat.mul_pos (uval_pos pa.1) (Nat.two_pow_pos E)
      simp at this; omega
    refine lohi_dn (R := R) hX hsl hN e1 (by rw [qnum_abs]; exact e2) (fun Q hQ => by rw [qnum_abs]; exact e3 Q hQ) (by rw [e4]; exact quo_sign pa.1) (fun h0 hf => ?_)
    have hR : R = mg s := by omega
    obtain ⟨r, hr, hr1, hr2⟩ := leftIs_ex hsl (Nat.le_of_lt hf) pb fa
    have hkr := hk r hr
    subst hkr
    have c := quot_conds (_s := s) hE pa.1 fa (by omega) e2 e3
    rw [hR] at c
    have g := left_sign hE hsl ⟨h0, hf⟩ pb fa c.1 c.2.1 c.2.2 hr
    have hng := ngf_is hr2
    have hb : sval b = if ng b then -(uval (mg b) : Int) else uval (mg b) := rfl
    rw [hb] at g
    rw [hlk]
    unfold qnum
    cases hbs : ng b
    · rw [hbs] at g
      simp only [Bool.false_eq_true, if_false] at g ⊢
      exact ⟨hr1, ⟨fun z => by have := g.1.1 z; omega, fun z => g.1.2 (by omega)⟩, fun z => by rw [g.2 (by omega)]; exact decide_eq_decide.2 (by omega)⟩
    · rw [hbs] at g
      simp only [if_true, Int.mul_neg] at g ⊢
      refine ⟨by rw [hng.1]; exact hr1, ⟨fun z => ?_, fun z => ?_⟩, fun z => ?_⟩
      · rw [hng.1] at z
        have := g.1.1 z; omega
      · rw [hng.1]; exact g.1.2 (by omega)
      · rw [hng.2, g.2 (by omega), ← decide_not]
        exact decide_eq_decide.2 (by omega)
end Go.Proofs.YtghcoijinihlnaaGreat.Fl
namespace Go.Proofs.YtghcoijinihlnaaGreat.Fl
open Ieee
end Go.Proofs.YtghcoijinihlnaaGreat.Fl
namespace Go.Proofs.YtghcoijinihlnaaGreat.Fl
open Ieee
/-- What round.Add answers. -/
theorem add_dn {a b s d u : Nat} (ha : a < 18446744073709551616) (hb : b < 18446744073709551616) (fa : mg a < 9218868437227405312) (fb : mg b < 9218868437227405312) (hr : double.add a b = some s) (h : AddIs a b s d u) :
    Dn (sval a + sval b) 1 d ∧ Up (sval a + sval b) 1 u := by
  obtain ⟨R, e1, e2, e3, hsl⟩ := add_nr fa fb hr
  have exact1 : mg s < 9218868437227405312 → sval s = sval a + sval b → Dn (sval a + sval b) 1 s ∧ Up (sval a + sval b) 1 s := fun f k => exact_dn (by omega) f (by rw [k]; simp)
  rcases h with ⟨k, hd, hu⟩ | ⟨pa, pb, hz, l, hl, rfl, rfl⟩
  · rw [hd, hu]
    by_cases h0 : mg s = 0
    · have hR : R = 0 := by omega
      subst hR
      have hS : sval a + sval b = 0 := by have := nr_zero e2; omega
      exact exact1 (by omega) (by rw [sval_zero.2 h0, hS])
    · have hn : mg a = 0 ∨ mg b = 0 := by
        rcases k with k | k
        · unfold Pl at k; omega
        · exact absurd k h0
      have hrep : Rep (sval a + sval b).natAbs ∧ (sval a + sval b).natAbs < uval 9218868437227405312 := by
        rcases hn with k | k
        · rw [sval_zero.2 k, Int.zero_add]; exact ⟨sval_rep b, by rw [sval_abs]; exact uval_fin fb⟩
        · rw [sval_zero.2 k, Int.add_zero]; exact ⟨sval_rep a, by rw [sval_abs]; exact uval_fin fa⟩
      have t := nr_told e1 e2 e3 hrep.1 hrep.2
      exact exact1 t.1 t.2
  · have hS : sval a + sval b ≠ 0 := fun k => by
      rw [k] at e2
      have : uval R = 0 := nr_rep e2 rep_zero
      rcases Nat.eq_zero_or_pos R with g | g
      · omega
      · have := uval_pos g; omega
    refine lohi_dn (R := R) (by omega) hsl hS e1 (by rw [Nat.mul_one]; exact e2.1) (fun Q hQ => by rw [Nat.mul_one]; exact (e2.2.2 Q hQ).1) (e3 hS) (fun h0 hf => ?_)
    have t := two_exact ha hb hr hf hl
    refine ⟨Nat.le_of_lt t.1, ⟨fun g => ?_, fun g => ?_⟩, fun g => ?_⟩
    · have := sval_zero.2 g; simp; omega
    · simp at g; exact sval_zero.1 (by omega)
    · have h1 : mg l ≠ 0 := fun k => g (by have := sval_zero.2 k; simp; omega)
      rw [sval_sign (by omega)]
      refine decide_eq_decide.2 ?_
      simp; omega
end Go.Proofs.YtghcoijinihlnaaGreat.Fl
