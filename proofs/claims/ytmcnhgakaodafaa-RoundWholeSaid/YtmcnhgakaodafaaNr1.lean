/-
  Floats as bits: what they are worth, one operation's laws, what kindOf, plain, about, left, Two, Sqrt, IsNaN return; the nearest float. Conditions: floats of 64 bits, as each theorem states.
-/
import Derived.Test.YtmcnhgakaodafaaRows
import Derived.Laws.FloatArith
import Derived.WalkKit
import Derived.WalkSpells
import Derived.WalkLawsBesides
import Derived.Deep.Draws
import Derived.Lib.Hide
import Derived.Handy
import Derived.OwnWalk
import Derived.Laws.Rows
import Derived.Laws.Externs
import Derived.Laws.BitsAllLaws
namespace Go.Proofs.Ytmcnhgakaodafaa.Fl
open Ieee
/-- The lower 63 bits of a float's word: the floats from nought upward are counted by them. -/
def mg (x : Nat) : Nat := x % 9223372036854775808
/-- The sign's bit. -/
def ng (x : Nat) : Bool := x / 9223372036854775808 % 2 == 1
/-- How many units of the least float a float's size is. -/
def uval (m : Nat) : Nat := if m < 4503599627370496 then m else (4503599627370496 + m % 4503599627370496) * 2 ^ (m / 4503599627370496 - 1)
theorem uval_small {m : Nat} (h : m < 4503599627370496) : uval m = m := by simp [uval, h]
theorem uval_step (m : Nat) : uval m < uval (m + 1) := by
  unfold uval
  by_cases h1 : m < 4503599627370496
  · by_cases h2 : m + 1 < 4503599627370496
    · simp [h1, h2]
    · have : m + 1 = 4503599627370496 := by omega
      rw [if_pos h1, if_neg h2, this]; simp; omega
  · have h2 : ¬ m + 1 < 4503599627370496 := by omega
    rw [if_neg h1, if_neg h2]
    by_cases h3 : m % 4503599627370496 + 1 < 4503599627370496
    · have e1 : (m + 1) / 4503599627370496 = m / 4503599627370496 := by omega
      have e2 : (m + 1) % 4503599627370496 = m % 4503599627370496 + 1 := by omega
      rw [e1, e2]
      exact Nat.mul_lt_mul_of_pos_right (by omega) (Nat.two_pow_pos _)
    · have e1 : (m + 1) / 4503599627370496 = m / 4503599627370496 + 1 := by omega
      have e2 : (m + 1) % 4503599627370496 = 0 := by omega
      obtain ⟨k, hk⟩ : ∃ k, m / 4503599627370496 = k + 1 := ⟨m / 4503599627370496 - 1, by omega⟩
      rw [e1, e2, hk]
      simp only [Nat.add_sub_cancel, Nat.add_zero]
      rw [Nat.pow_succ, Nat.mul_comm (2 ^ k) 2, ← Nat.mul_assoc]
      exact Nat.mul_lt_mul_of_pos_right (by omega) (Nat.two_pow_pos _)
theorem uval_lt {m n : Nat} (h : m < n) : uval m < uval n := by
  induction h with
  | refl => exact uval_step _
  | step _ ih => exact Nat.lt_trans ih (uval_step _)
theorem uval_cmp (m n : Nat) : (uval m < uval n ↔ m < n) ∧ (uval m = uval n ↔ m = n) := by
  rcases Nat.lt_trichotomy m n with h | h | h
  · have := uval_lt h; omega
  · subst h; simp
  · have := uval_lt h; omega
theorem d_binade : double.binade = 4503599627370496 := rfl
theorem d_inf : double.infRung = 9218868437227405312 := by decide
theorem d_sw : double.signWeight = 9223372036854775808 := by decide
theorem d_lp : double.leastPlace = -1074 := by decide
/-- What a finite word stands for. -/
theorem read_fin (x : Nat) (h : mg x < 9218868437227405312) : ∃ (M : Nat) (P : Int), double.read x = .number (ng x) M P ∧ -1074 ≤ P ∧ M * 2 ^ (P + 1074).toNat = uval (mg x) := by
  unfold Format.read
  rw [d_binade, d_inf, d_sw, d_lp]
  simp only []
  change ∃ M P, (if mg x < 4503599627370496 then Datum.number (ng x) (mg x) (-1074) else if mg x < 9218868437227405312 then Datum.number (ng x) (4503599627370496 + mg x % 4503599627370496) (-1074 + (mg x / 4503599627370496 - 1 : Nat)) else _) = _ ∧ _
  by_cases h1 : mg x < 4503599627370496
  · rw [if_pos h1]
    exact ⟨_, _, rfl, by omega, by simp [uval, h1]⟩
  · rw [if_neg h1, if_pos h]
    refine ⟨_, _, rfl, by omega, ?_⟩
    rw [uval, if_neg h1]
    congr 2
    omega
theorem read_inf (x : Nat) (h : mg x = 9218868437227405312) : double.read x = .infinity (ng x) := by
  unfold Format.read
  rw [d_binade, d_inf, d_sw]
  simp only []
  change (if mg x < 4503599627370496 then _ else if mg x < 9218868437227405312 then _ else if mg x = 9218868437227405312 then Datum.infinity (ng x) else _) = _
  rw [if_neg (by omega), if_neg (by omega), if_pos h]
theorem read_nan (x : Nat) (h : 9218868437227405312 < mg x) : double.read x = .nan (ng x) (mg x - 9218868437227405312) := by
  unfold Format.read
  rw [d_binade, d_inf, d_sw]
  simp only []
  change (if mg x < 4503599627370496 then _ else if mg x < 9218868437227405312 then _ else if mg x = 9218868437227405312 then _ else Datum.nan (ng x) (mg x - 9218868437227405312)) = _
  rw [if_neg (by omega), if_neg (by omega), if_neg (by omega)]
/-- The floats in their order: by sign and size. -/
def key (x : Nat) : Int := if ng x then -(mg x : Int) else mg x
/-- A finite float's worth, in units of the least one. -/
def sval (x : Nat) : Int := if ng x then -(uval (mg x) : Int) else uval (mg x)
theorem cmp_lt {a b : Int} (h : a < b) : compare a b = .lt := by simp [compare, compareOfLessAndEq, h]
theorem cmp_gt {a b : Int} (h : b < a) : compare a b = .gt := by
  have h1 : ¬ a < b := by omega
  have h2 : a ≠ b := by omega
  simp [compare, compareOfLessAndEq, h1, h2]
theorem cmp_eq (a : Int) : compare a a = .eq := by simp [compare, compareOfLessAndEq]
theorem cmp_same {a b c d : Int} (h1 : a < b ↔ c < d) (h2 : a = b ↔ c = d) : compare a b = compare c d := by
  simp [compare, compareOfLessAndEq, h1, h2]
theorem signed_scale (s : Bool) (M : Nat) (i j : Nat) : signed s M (i + j) = signed s M i * (2 ^ j : Nat) := by
  unfold signed
  rw [Nat.shiftLeft_eq, Nat.shiftLeft_eq, Nat.pow_add, ← Nat.mul_assoc]
  split
  · rw [Int.natCast_mul]; exact (Int.neg_mul _ _).symm
  · rw [Int.natCast_mul]
theorem signed_sval {x M : Nat} {P base : Int} (h : M * 2 ^ (P + 1074).toNat = uval (mg x)) (hb : base ≤ P) (hp : -1074 ≤ base) : sval x = signed (ng x) M (P - base).toNat * (2 ^ (base + 1074).toNat : Nat) := by
  rw [← signed_scale, show (P - base).toNat + (base + 1074).toNat = (P + 1074).toNat by omega]
  unfold sval signed
  rw [Nat.shiftLeft_eq, h]
theorem sval_cmp (x y : Nat) : (sval x < sval y ↔ key x < key y) ∧ (sval x = sval y ↔ key x = key y) := by
  have h1 := uval_cmp (mg x) (mg y)
  have h2 := uval_cmp (mg y) (mg x)
  have h0 : uval 0 = 0 := uval_small (by omega)
  have h3 := uval_cmp 0 (mg x)
  have h4 := uval_cmp 0 (mg y)
  rw [h0] at h3 h4
  unfold sval key
  split <;> split <;> constructor <;> omega
theorem order_key (x y : Nat) (hx : mg x ≤ 9218868437227405312) (hy : mg y ≤ 9218868437227405312) : double.order x y = some (compare (key x) (key y)) := by
  unfold Format.order
  have hxy : mg x < 9218868437227405312 ∨ mg x = 9218868437227405312 := by omega
  have hyy : mg y < 9218868437227405312 ∨ mg y = 9218868437227405312 := by omega
  rcases hxy with h | h
  · obtain ⟨M, P, e1, p1, v1⟩ := read_fin x h
    rcases hyy with k | k
    · obtain ⟨N, Q, e2, p2, v2⟩ := read_fin y k
      rw [e1, e2]
      simp only [Datum.order]
      congr 1
      have a1 := signed_sval v1 (Int.min_le_left P Q) (by omega)
      have a2 := signed_sval v2 (Int.min_le_right P Q) (by omega)
      have hk : 0 < ((2 ^ (min P Q + 1074).toNat : Nat) : Int) := Int.natCast_pos.2 (Nat.two_pow_pos _)
      have s := sval_cmp x y
      rw [a1, a2] at s
      refine cmp_same ?_ ?_
      · rw [← s.1]; exact (Int.mul_lt_mul_right hk).symm
      · rw [← s.2]; exact (Int.mul_eq_mul_right_iff (by omega)).symm
    · rw [e1, read_inf y k]
      simp only [Datum.order]
      congr 1
      unfold key
      cases ng y <;> simp only [Bool.false_eq_true, if_false, if_true]
      · exact (cmp_lt (by split <;> omega)).symm
      · exact (cmp_gt (by split <;> omega)).symm
  · rcases hyy with k | k
    · obtain ⟨N, Q, e2, p2, v2⟩ := read_fin y k
      rw [e2, read_inf x h]
      simp only [Datum.order]
      congr 1
      unfold key
      cases ng x <;> simp only [Bool.false_eq_true, if_false, if_true]
      · exact (cmp_gt (by split <;> omega)).symm
      · exact (cmp_lt (by split <;> omega)).symm
    · rw [read_inf x h, read_inf y k]
      simp only [Datum.order]
      congr 1
      unfold key
      rw [h, k]
      cases ng x <;> cases ng y <;> rfl
theorem order_nan (x y : Nat) (h : 9218868437227405312 < mg x ∨ 9218868437227405312 < mg y) : double.order x y = none := by
  unfold Format.order
  rcases h with h | h
  · rw [read_nan x h]; rfl
  · rw [read_nan y h]; cases double.read x <;> rfl
/-- Which datum is a number or an infinity. -/
def Told : Datum → Prop
  | .nan .. => False
  | _ => True
theorem word_mg (s : Bool) (k : Nat) (h : k < 9223372036854775808) : mg (double.word s k) = k ∧ ng (double.word s k) = s := by
  unfold Format.word mg ng
  rw [d_sw]
  cases s
  · simp only [Bool.false_eq_true, if_false]
    refine ⟨by omega, ?_⟩
    rw [Nat.div_eq_of_lt h]; rfl
  · simp only [if_true]
    refine ⟨by omega, ?_⟩
    rw [show (9223372036854775808 + k) / 9223372036854775808 = 1 by omega]; rfl
theorem word_lt64 (s : Bool) (k : Nat) (h : k < 9223372036854775808) : double.word s k < 18446744073709551616 := by
  unfold Format.word
  rw [d_sw]
  split <;> omega
/-- A word is its sign and its size. -/
theorem word_of (x : Nat) (h : x < 18446744073709551616) : double.word (ng x) (mg x) = x := by
  unfold Format.word ng mg
  rw [d_sw]
  rcases Nat.lt_or_ge x 9223372036854775808 with g | g
  · rw [Nat.div_eq_of_lt g]; simp; omega
  · rw [show x / 9223372036854775808 = 1 by omega]; simp; omega
theorem nearest_mg (s : Bool) (m : Nat) (p : Int) : mg (double.nearest s m p) ≤ 9218868437227405312 ∧ ng (double.nearest s m p) = s := by
  unfold Format.nearest
  rw [d_inf]
  dsimp only
  split
  · have := word_mg s 0 (by omega); exact ⟨by omega, this.2⟩
  · have := word_mg s (min ((max (p + ↑m.log2 - ↑double.fractionBits) double.leastPlace - double.leastPlace).toNat * double.binade + Toward.even.cut s (m <<< (p - max (p + ↑m.log2 - ↑double.fractionBits) double.leastPlace).toNat) (max (p + ↑m.log2 - ↑double.fractionBits) double.leastPlace - p).toNat) 9218868437227405312) (by omega)
    exact ⟨by omega, this.2⟩
theorem write_mg (d : Datum) (h : Told d) : mg (double.write d) ≤ 9218868437227405312 ∧ ng (double.write d) = d.neg ∧ double.write d < 18446744073709551616 := by
  refine ⟨?_, ?_, double.write_lt d⟩
  · cases d with
    | number s m p => exact (nearest_mg s m p).1
    | infinity s => have := word_mg s 9218868437227405312 (by omega); show mg (double.word s double.infRung) ≤ _; rw [d_inf]; omega
    | nan => exact h.elim
  · cases d with
    | number s m p => exact (nearest_mg s m p).2
    | infinity s => have := word_mg s 9218868437227405312 (by omega); show ng (double.word s double.infRung) = _; rw [d_inf]; exact this.2
    | nan => exact h.elim
theorem sum_told {a b d : Datum} (h : a.sum b = some d) : Told d := by
  cases a <;> cases b <;> simp [Datum.sum] at h <;> first | (subst h; trivial) | (obtain ⟨_, rfl⟩ := h; trivial) | (split at h <;> first | (cases h; trivial) | cases h)
theorem product_told {a b d : Datum} (h : a.product b = some d) : Told d := by
  cases a <;> cases b <;> simp [Datum.product] at h <;> first | (subst h; trivial) | (obtain ⟨_, rfl⟩ := h; trivial) | (split at h <;> first | (cases h; trivial) | cases h)
theorem quotient_told {n : Nat} {a b d : Datum} (h : a.quotient n b = some d) : Told d := by
  cases a <;> cases b <;> simp only [Datum.quotient] at h <;> first | (cases h; trivial) | (cases h; done) | skip
  split at h
  · split at h <;> cases h; trivial
  · cases h; trivial
theorem root_told {n : Nat} {a d : Datum} (h : a.root n = some d) : Told d := by
  cases a <;> simp only [Datum.root] at h <;> first | (cases h; done) | skip
  · split at h
    · cases h; trivial
    · split at h
      · cases h
      · cases h; trivial
  · split at h <;> cases h; trivial
/-- What an operation answers, if it answers, is a float of 64 bits and no NaN. -/
theorem map_told {o : Option Datum} {r : Nat} (ho : ∀ d, o = some d → Told d) (h : o.map double.write = some r) : mg r ≤ 9218868437227405312 ∧ r < 18446744073709551616 := by
  cases o with
  | none => cases h
  | some d => cases h; exact ⟨(write_mg d (ho d rfl)).1, (write_mg d (ho d rfl)).2.2⟩
theorem add_told {x y r : Nat} (h : double.add x y = some r) : mg r ≤ 9218868437227405312 ∧ r < 18446744073709551616 := map_told (fun _ => sum_told) h
theorem sub_told {x y r : Nat} (h : double.sub x y = some r) : mg r ≤ 9218868437227405312 ∧ r < 18446744073709551616 := map_told (fun _ => sum_told) h
theorem mul_told {x y r : Nat} (h : double.mul x y = some r) : mg r ≤ 9218868437227405312 ∧ r < 18446744073709551616 := map_told (fun _ => product_told) h
theorem div_told {x y r : Nat} (h : double.div x y = some r) : mg r ≤ 9218868437227405312 ∧ r < 18446744073709551616 := map_told (fun _ => quotient_told) h
theorem sqrt_told {x r : Nat} (h : double.sqrt x = some r) : mg r ≤ 9218868437227405312 ∧ r < 18446744073709551616 := map_told (fun _ => root_told) h
theorem fma_told {x y z r : Nat} (h : double.fma x y z = some r) : mg r ≤ 9218868437227405312 ∧ r < 18446744073709551616 := by
  refine map_told (fun d hd => ?_) h
  cases hp : (double.read x).product (double.read y) with
  | none => rw [hp] at hd; cases hd
  | some e => rw [hp] at hd; exact sum_told hd
/-- Finite operands are answered. -/
theorem add_fin {x y : Nat} (hx : mg x < 9218868437227405312) (hy : mg y < 9218868437227405312) : ∃ r, double.add x y = some r := by
  obtain ⟨M, P, e1, _, _⟩ := read_fin x hx
  obtain ⟨N, Q, e2, _, _⟩ := read_fin y hy
  unfold Format.add; rw [e1, e2]; exact ⟨_, rfl⟩
theorem sub_fin {x y : Nat} (hx : mg x < 9218868437227405312) (hy : mg y < 9218868437227405312) : ∃ r, double.sub x y = some r := by
  obtain ⟨M, P, e1, _, _⟩ := read_fin x hx
  obtain ⟨N, Q, e2, _, _⟩ := read_fin y hy
  unfold Format.sub; rw [e1, e2]; exact ⟨_, rfl⟩
theorem mul_fin {x y : Nat} (hx : mg x < 9218868437227405312) (hy : mg y < 9218868437227405312) : ∃ r, double.mul x y = some r := by
  obtain ⟨M, P, e1, _, _⟩ := read_fin x hx
  obtain ⟨N, Q, e2, _, _⟩ := read_fin y hy
  unfold Format.mul; rw [e1, e2]; exact ⟨_, rfl⟩
theorem uval_pos {m : Nat} (h : 0 < m) : 0 < uval m := by
  have := uval_lt h
  rw [uval_small (by omega)] at this; omega
theorem div_fin {x y : Nat} (hx : mg x < 9218868437227405312) (hy : mg y < 9218868437227405312) (h0 : 0 < mg y) : ∃ r, double.div x y = some r := by
  obtain ⟨M, P, e1, _, _⟩ := read_fin x hx
  obtain ⟨N, Q, e2, _, v2⟩ := read_fin y hy
  have hN : N ≠ 0 := by
    have := uval_pos h0
    intro h; subst h; simp at v2; omega
  unfold Format.div; rw [e1, e2]
  simp only [Datum.quotient, if_neg hN]; exact ⟨_, rfl⟩
theorem sqrt_fin {x : Nat} (hx : mg x < 9218868437227405312) (h : ng x = false ∨ mg x = 0) : ∃ r, double.sqrt x = some r := by
  obtain ⟨M, P, e1, _, v1⟩ := read_fin x hx
  unfold Format.sqrt; rw [e1]
  simp only [Datum.root]
  by_cases hM : M = 0
  · rw [if_pos hM]; exact ⟨_, rfl⟩
  · rw [if_neg hM]
    have hs : ng x = false := by
      rcases h with h | h
      · exact h
      · rw [h, uval_small (by omega)] at v1
        rcases Nat.mul_eq_zero.1 v1 with h2 | h2
        · exact absurd h2 hM
        · have := Nat.two_pow_pos (P + 1074).toNat; omega
    rw [hs]; exact ⟨_, rfl⟩
end Go.Proofs.Ytmcnhgakaodafaa.Fl

namespace Go.Proofs.Ytmcnhgakaodafaa.Fl
open Go.RowKit Ieee
/-- The NaN that is drawn. -/
def nanw (w : World) (x y : Nat) : Nat := Question.cut (.nanBits .f64 x y) (w.tape w.drawn (.nanBits .f64 x y))
theorem nanw_is (w : World) (x y : Nat) : 9218868437227405312 < mg (nanw w x y) ∧ nanw w x y < 18446744073709551616 := by
  unfold nanw Question.cut mg
  generalize w.tape w.drawn (.nanBits .f64 x y) = t
  show 9218868437227405312 < (t % 2 * 9223372036854775808 + 9218868437227405312 + 1 + t / 2 % 4503599627370495) % 9223372036854775808 ∧ t % 2 * 9223372036854775808 + 9218868437227405312 + 1 + t / 2 % 4503599627370495 < 18446744073709551616
  have h1 : t / 2 % 4503599627370495 < 4503599627370495 := Nat.mod_lt _ (by omega)
  generalize t / 2 % 4503599627370495 = u at *
  rcases Nat.mod_two_eq_zero_or_one t with h | h <;> rw [h] <;> omega
/-- What an operation answers in a world. -/
def fop (op : BinOp) (x y : Nat) (w : World) : Nat := (floatBits op .f64 x y).getD (nanw w x y)
/-- How many draws it takes. -/
def nd (op : BinOp) (x y : Nat) : Nat := if (floatBits op .f64 x y).isSome then 0 else 1
theorem run_fop {P : Program} (op : BinOp) (ho : op = .add ∨ op = .sub ∨ op = .mul ∨ op = .quo) (t : TypeId) (x y : Nat) (w : World) : (binOp op t (.float .f64 x) (.float .f64 y)).run P w = .ok (.float .f64 (fop op x y w)) (w.drewN (nd op x y)) := by
  unfold fop nd
  cases h : floatBits op .f64 x y with
  | some r => exact run_float_arith w op t .f64 x y r h
  | none =>
    rcases ho with rfl | rfl | rfl | rfl <;> (
      simp only [floatBits] at h
      simp [binOp, Op.floatArith, h, nanw, Question.forced]
      rfl)
theorem run_add {P : Program} (t : TypeId) (x y : Nat) (w : World) : (binOp .add t (.float .f64 x) (.float .f64 y)).run P w = .ok (.float .f64 (fop .add x y w)) (w.drewN (nd .add x y)) := run_fop .add (.inl rfl) t x y w
theorem run_sub {P : Program} (t : TypeId) (x y : Nat) (w : World) : (binOp .sub t (.float .f64 x) (.float .f64 y)).run P w = .ok (.float .f64 (fop .sub x y w)) (w.drewN (nd .sub x y)) := run_fop .sub (.inr (.inl rfl)) t x y w
theorem run_mul {P : Program} (t : TypeId) (x y : Nat) (w : World) : (binOp .mul t (.float .f64 x) (.float .f64 y)).run P w = .ok (.float .f64 (fop .mul x y w)) (w.drewN (nd .mul x y)) := run_fop .mul (.inr (.inr (.inl rfl))) t x y w
theorem run_quo {P : Program} (t : TypeId) (x y : Nat) (w : World) : (binOp .quo t (.float .f64 x) (.float .f64 y)).run P w = .ok (.float .f64 (fop .quo x y w)) (w.drewN (nd .quo x y)) := run_fop .quo (.inr (.inr (.inr rfl))) t x y w
theorem fop_some {op : BinOp} {x y r : Nat} (h : floatBits op .f64 x y = some r) (w : World) : fop op x y w = r ∧ nd op x y = 0 := by simp [fop, nd, h]
theorem fop_none {op : BinOp} {x y : Nat} (h : floatBits op .f64 x y = none) (w : World) : fop op x y w = nanw w x y ∧ nd op x y = 1 := by simp [fop, nd, h]
theorem andNot63 (x : Nat) (h : x < 18446744073709551616) : bits .andNot .u64 (x : Int) 9223372036854775808 = (mg x : Int) := by
  have h1 := u64_andNot_nat x 9223372036854775808 h (by omega)
  rw [show ((9223372036854775808 : Nat) : Int) = 9223372036854775808 from rfl] at h1
  rw [h1]
  congr 1
  show x &&& (2 ^ 63 - 1) = x % 9223372036854775808
  rw [Nat.and_two_pow_sub_one_eq_mod]
theorem run_bits (x : Nat) (w : World) : (callFunc 9 #[.float .f64 x]).run Try.prog w = .ok (.value (.int .u64 x)) w := by
  rw [run_callFunc_extern Try.func9 (by kernel_rfl) (by kernel_rfl) (by kernel_rfl) (e := Extern.MathFloatBits.float64bits) (by kernel_rfl)]
  rfl
theorem run_from (n : Int) (w : World) : (callFunc 23 #[.int .u64 n]).run Try.prog w = .ok (.value (.float .f64 n.toNat)) w := by
  rw [run_callFunc_extern Try.func23 (by kernel_rfl) (by kernel_rfl) (by kernel_rfl) (e := Extern.MathFloatBits.float64frombits) (by kernel_rfl)]
  rfl
/-- Which kind: nought, finite, beyond. -/
def kd (x : Nat) : Int := if mg x = 0 then 0 else if mg x < 9218868437227405312 then 1 else 2
set_option maxHeartbeats 400000 in
theorem kindOf_any (x : Nat) (w : World) (h : x < 18446744073709551616) : Calls Try.prog 12 #[.float .f64 x] w fun e w' => e = .returned (.int .u8 (kd x)) ∧ w' = w := by
  have hb := andNot63 x h
  have hfb := run_bits
  have hff := run_from
  unfold kd
  by_cases h0 : mg x = 0
  · rw [h0] at hb
    rw [if_pos h0]
    clear h0
    go_enter Try.func12, Try.ntmps12
    go_wp2
    go_ret; exact ⟨rfl, rfl⟩
  · rw [if_neg h0]
    have h0' : ((mg x : Nat) : Int) ≠ 0 := by omega
    by_cases h1 : mg x < 9218868437227405312
    · rw [if_pos h1]
      have h1' : ((mg x : Nat) : Int) < 9218868437227405312 := by omega
      obtain ⟨m, hm⟩ : ∃ m : Int, ((mg x : Nat) : Int) = m := ⟨_, rfl⟩
      rw [hm] at hb h0' h1'
      clear hm h h0 h1
      go_enter Try.func12, Try.ntmps12
      go_wp2
      go_ret; exact ⟨rfl, rfl⟩
    · rw [if_neg h1]
      have h1' : ¬ ((mg x : Nat) : Int) < 9218868437227405312 := by omega
      obtain ⟨m, hm⟩ : ∃ m : Int, ((mg x : Nat) : Int) = m := ⟨_, rfl⟩
      rw [hm] at hb h0' h1'
      clear hm h h0 h1
      go_enter Try.func12, Try.ntmps12
      go_wp2
      go_ret; exact ⟨rfl, rfl⟩
set_option maxHeartbeats 400000 in
theorem abs_any (x : Nat) (w : World) (h : x < 18446744073709551616) : Calls Try.prog 13 #[.float .f64 x] w fun e w' => e = .returned (.float .f64 (mg x)) ∧ w' = w := by
  have hb := andNot63 x h
  have hfb := run_bits
  have hff := run_from
  go_enter Try.func13, Try.ntmps13
  go_wp2
  go_ret; exact ⟨rfl, rfl⟩
set_option maxHeartbeats 400000 in
theorem signbit_any (x : Nat) (w : World) (h : x < 18446744073709551616) : Calls Try.prog 46 #[.float .f64 x] w fun e w' => e = .returned (.bool (ng x)) ∧ w' = w := by
  have hfb := run_bits
  have hw : decide (wrap64 (x : Int) < 0) = ng x := by
    unfold wrap64 ng
    rcases Nat.lt_or_ge x 9223372036854775808 with g | g
    · rw [Nat.div_eq_of_lt g]; simp; omega
    · rw [show x / 9223372036854775808 = 1 by omega]; simp; omega
  go_enter Try.func46, Try.ntmps46
  go_wp2
  go_ret; exact ⟨rfl, rfl⟩
end Go.Proofs.Ytmcnhgakaodafaa.Fl

namespace Go.Proofs.Ytmcnhgakaodafaa.Fl
open Go.RowKit Ieee
theorem run_fma_some {x y z r : Nat} (h : double.fma x y z = some r) (w : World) : (callFunc 45 #[.float .f64 x, .float .f64 y, .float .f64 z]).run Try.prog w = .ok (.value (.float .f64 r)) w := by
  rw [run_callFunc_extern Try.func45 (by kernel_rfl) (by kernel_rfl) (by kernel_rfl) (e := Extern.MathFMA.fma) (by kernel_rfl)]
  have e : Extern.MathFMA.fma #[.float .f64 x, .float .f64 y, .float .f64 z] = pure (.float .f64 r) := by
    have h' : FloatKind.f64.format.fma x y z = some r := h
    show (match FloatKind.f64.format.fma x y z with | some r => pure (Value.float .f64 r) | none => _) = _
    rw [h']
  rw [e]; rfl
theorem run_sqrt_some {x r : Nat} (h : double.sqrt x = some r) (w : World) : (callFunc 47 #[.float .f64 x]).run Try.prog w = .ok (.value (.float .f64 r)) w := by
  rw [run_callFunc_extern Try.func47 (by kernel_rfl) (by kernel_rfl) (by kernel_rfl) (e := Extern.MathSqrt.sqrt) (by kernel_rfl)]
  have e : Extern.MathSqrt.sqrt #[.float .f64 x] = pure (.float .f64 r) := by
    have h' : FloatKind.f64.format.sqrt x = some r := h
    show (match FloatKind.f64.format.sqrt x with | some r => pure (Value.float .f64 r) | none => _) = _
    rw [h']
  rw [e]; rfl
theorem run_sqrt_none {x : Nat} (h : double.sqrt x = none) (w : World) : (callFunc 47 #[.float .f64 x]).run Try.prog w = .ok (.value (.float .f64 (nanw w x x))) (w.drewN 1) := by
  rw [run_callFunc_extern Try.func47 (by kernel_rfl) (by kernel_rfl) (by kernel_rfl) (e := Extern.MathSqrt.sqrt) (by kernel_rfl)]
  have e : Extern.MathSqrt.sqrt #[.float .f64 x] = (do pure (.float .f64 (← choose (.nanBits .f64 x x)))) := by
    have h' : FloatKind.f64.format.sqrt x = none := h
    show (match FloatKind.f64.format.sqrt x with | some r => pure (Value.float .f64 r) | none => (do pure (Value.float .f64 (← choose (.nanBits .f64 x x))))) = _
    rw [h']
  rw [e]
  simp [Question.forced, nanw]
  rfl
/-- Finite and not nought. -/
def Pl (x : Nat) : Prop := 0 < mg x ∧ mg x < 9218868437227405312
theorem kd_pl (x : Nat) : (kd x = 1 ↔ Pl x) := by unfold kd Pl; split <;> (try split) <;> omega
theorem kd_cases (x : Nat) : kd x = 1 ∧ Pl x ∨ (kd x = 0 ∨ kd x = 2) ∧ ¬ Pl x := by unfold kd Pl; split <;> (try split) <;> omega
set_option maxHeartbeats 1000000 in
theorem plain1_any (g x : Nat) (w : World) (hx : x < 18446744073709551616) (hc : w.cell? ⟨g, 0, none⟩ = some (.float .f64 x)) :
    Calls Try.prog 28 #[.slice (some ⟨g, 0, none⟩) 1 1] w fun e w' => ∃ b, e = .returned (.bool b) ∧ (b = true ↔ Pl x) ∧ w' = w := by
  have HX := Lib.hid (fun W => kindOf_any x W hx)
  clear hx
  rcases kd_cases x with ⟨h, hp⟩ | ⟨h, hp⟩
  · rw [h] at HX
    have HP := Lib.hid hp
    clear h hp
    go_enter Try.func28, Try.ntmps28
    go_wp2
    refine wp_loop_rounds 2 ?_
    rw [rounds_succ]
    go_wp2_with (go_at_call 12; refine (HX.out _).mono ?_; rintro e w' ⟨rfl, rfl⟩)
    rw [rounds_succ]
    go_wp2
    go_ret; exact ⟨true, rfl, by simp [HP.out], rfl⟩
  · rcases h with h | h <;>
    (rw [h] at HX
     have HP := Lib.hid hp
     clear h hp
     go_enter Try.func28, Try.ntmps28
     go_wp2
     refine wp_loop_rounds 2 ?_
     rw [rounds_succ]
     go_wp2_with (go_at_call 12; refine (HX.out _).mono ?_; rintro e w' ⟨rfl, rfl⟩)
     go_ret; exact ⟨false, rfl, by simp [HP.out], rfl⟩)
set_option maxHeartbeats 1000000 in
theorem plain2_any (g x y : Nat) (w : World) (hx : x < 18446744073709551616) (hy : y < 18446744073709551616) (hc : w.cell? ⟨g, 0, none⟩ = some (.float .f64 x)) (hd : w.cell? ⟨g, 1, none⟩ = some (.float .f64 y)) :
    Calls Try.prog 28 #[.slice (some ⟨g, 0, none⟩) 2 2] w fun e w' => ∃ b, e = .returned (.bool b) ∧ (b = true ↔ Pl x ∧ Pl y) ∧ w' = w := by
  have HX := Lib.hid (fun W => kindOf_any x W hx)
  have HY := Lib.hid (fun W => kindOf_any y W hy)
  clear hx hy
  rcases kd_cases x with ⟨h, hp⟩ | ⟨h, hp⟩
  · rw [h] at HX
    have HP := Lib.hid hp
    clear h hp
    rcases kd_cases y with ⟨h, hp⟩ | ⟨h, hp⟩
    · rw [h] at HY
      have HQ := Lib.hid hp
      clear h hp
      go_enter Try.func28, Try.ntmps28
      go_wp2
      refine wp_loop_rounds 3 ?_
      rw [rounds_succ]
      go_wp2_with (go_at_call 12; refine (HX.out _).mono ?_; rintro e w' ⟨rfl, rfl⟩)
      rw [rounds_succ]
      go_wp2_with (go_at_call 12; refine (HY.out _).mono ?_; rintro e w' ⟨rfl, rfl⟩)
      rw [rounds_succ]
      go_wp2
      go_ret; exact ⟨true, rfl, by simp [HP.out, HQ.out], rfl⟩
    · rcases h with h | h <;>
      (rw [h] at HY
       have HQ := Lib.hid hp
       clear h hp
       go_enter Try.func28, Try.ntmps28
       go_wp2
       refine wp_loop_rounds 3 ?_
       rw [rounds_succ]
       go_wp2_with (go_at_call 12; refine (HX.out _).mono ?_; rintro e w' ⟨rfl, rfl⟩)
       rw [rounds_succ]
       go_wp2_with (go_at_call 12; refine (HY.out _).mono ?_; rintro e w' ⟨rfl, rfl⟩)
       go_ret; exact ⟨false, rfl, by simp [HP.out, HQ.out], rfl⟩)
  · rcases h with h | h <;>
    (rw [h] at HX
     have HP := Lib.hid hp
     clear h hp
     go_enter Try.func28, Try.ntmps28
     go_wp2
     refine wp_loop_rounds 3 ?_
     rw [rounds_succ]
     go_wp2_with (go_at_call 12; refine (HX.out _).mono ?_; rintro e w' ⟨rfl, rfl⟩)
     go_ret; exact ⟨false, rfl, by simp [HP.out], rfl⟩)
/-- Is the answer exact? -/
def exactly (own lost : Nat) : Bool := decide (0 < mg own ∧ mg own < 9218868437227405312) && (double.order lost 0 == some .eq)
/-- The rung behind which the exact result lies: that of the own answer, or the one before it. -/
def near (own lost : Nat) : Nat := if mg own = 0 then 0 else if mg own < 9218868437227405312 ∧ (double.order lost 0 == some .gt) = (double.order own 0 == some .gt) then mg own else mg own - 1
/-- The own answer twice, or the two floats at that rung. -/
def lo (own lost : Nat) : Nat := if exactly own lost then own else double.word (ng own) (near own lost + (ng own).toNat)
def hi (own lost : Nat) : Nat := if exactly own lost then own else double.word (ng own) (near own lost + (!ng own).toNat)
theorem lohi_exact {own lost : Nat} (h : 0 < mg own) (h1 : mg own < 9218868437227405312) (h2 : (double.order lost 0 == some .eq) = true) : lo own lost = own ∧ hi own lost = own := by
  have : exactly own lost = true := by unfold exactly; rw [h2, Bool.and_true]; exact decide_eq_true ⟨h, h1⟩
  unfold lo hi; rw [this]; exact ⟨rfl, rfl⟩
theorem lohi_out {own lost : Nat} (ho : own < 18446744073709551616) (hx : exactly own lost = false) (hn : near own lost = mg own) : (ng own = false → lo own lost = own ∧ hi own lost = own + 1) ∧ (ng own = true → lo own lost = own + 1 ∧ hi own lost = own) := by
  have hw := word_of own ho
  unfold lo hi
  rw [hx, hn]
  unfold Format.word at *
  rw [d_sw] at *
  cases h : ng own <;> rw [h] at hw <;> simp at hw ⊢ <;> omega
theorem lohi_in {own lost : Nat} (ho : own < 18446744073709551616) (hx : exactly own lost = false) (hn : near own lost + 1 = mg own) : (ng own = false → lo own lost = own - 1 ∧ hi own lost = own) ∧ (ng own = true → lo own lost = own ∧ hi own lost = own - 1) := by
  have hw := word_of own ho
  unfold lo hi
  rw [hx]
  unfold Format.word at *
  rw [d_sw] at *
  cases h : ng own <;> rw [h] at hw <;> simp at hw ⊢ <;> omega
set_option maxHeartbeats 4000000 in
theorem about_any (own lost : Nat) (w : World) (ho : own < 18446744073709551616) (hn : mg own ≤ 9218868437227405312) :
    Calls Try.prog 30 #[.float .f64 own, .float .f64 lost] w fun e w' => e = .returned (.tuple #[.float .f64 (lo own lost), .float .f64 (hi own lost)]) ∧ w' = w := by
  have HK := Lib.hid (fun W => kindOf_any own W ho)
  have HS := Lib.hid (fun W => signbit_any own W ho)
  have hfb := run_bits
  have hff := run_from
  have hlt : mg own ≤ own := Nat.mod_le _ _
  have hoi0 : (0 : Int) ≤ own := by omega
  have hoi : (own : Int) ≤ 18442240474082181120 := by unfold mg at hn; omega
  rcases Nat.eq_zero_or_pos (mg own) with h0 | h0
  · have hx : exactly own lost = false := by unfold exactly; rw [decide_eq_false (by omega)]; rfl
    have hr : near own lost = mg own := by unfold near; rw [if_pos h0, h0]
    have HV := Lib.hid (lohi_out ho hx hr)
    have hk : kd own = 0 := by unfold kd; rw [if_pos h0]
    rw [hk] at HK
    clear hx hr hk h0 hn ho hlt
    cases hs : ng own
    · rw [hs] at HS HV
      go_enter Try.func30, Try.ntmps30
      go_wp2_with (first | (go_at_call 12; refine (HK.out _).mono ?_; rintro e w' ⟨rfl, rfl⟩) | (go_at_call 46; refine (HS.out _).mono ?_; rintro e w' ⟨rfl, rfl⟩))
      go_ret2
      have h := (HV.out).1 (by trivial)
      rw [h.1, h.2]; exact ⟨rfl, rfl⟩
    · rw [hs] at HS HV
      go_enter Try.func30, Try.ntmps30
      go_wp2_with (first | (go_at_call 12; refine (HK.out _).mono ?_; rintro e w' ⟨rfl, rfl⟩) | (go_at_call 46; refine (HS.out _).mono ?_; rintro e w' ⟨rfl, rfl⟩))
      go_ret2
      have h := (HV.out).2 (by trivial)
      rw [h.1, h.2]; exact ⟨rfl, rfl⟩
  · have hpos : 0 < own := by omega
    have hpi : (1 : Int) ≤ own := by omega
    rcases Nat.lt_or_ge (mg own) 9218868437227405312 with h1 | h1
    · have hk : kd own = 1 := by unfold kd; rw [if_neg (by omega), if_pos h1]
      rw [hk] at HK
      cases he : (double.order lost 0 == some .eq)
      · have hx : exactly own lost = false := by unfold exactly; rw [he, Bool.and_false]
        have he' : (FloatKind.f64.format.order lost 0 == some .eq) = false := he
        obtain ⟨p, hp⟩ : ∃ p, (double.order lost 0 == some .gt) = p := ⟨_, rfl⟩
        obtain ⟨q, hq⟩ : ∃ q, (double.order own 0 == some .gt) = q := ⟨_, rfl⟩
        have hp' : (FloatKind.f64.format.order lost 0 == some .gt) = p := hp
        have hq' : (FloatKind.f64.format.order own 0 == some .gt) = q := hq
        by_cases hpq : p = q
        · have hr : near own lost = mg own := by unfold near; rw [if_neg (by omega), if_pos ⟨h1, by rw [hp, hq, hpq]⟩]
          have HV := Lib.hid (lohi_out ho hx hr)
          have hd : (p == q) = true := by simp [hpq]
          clear hx hr hk h0 hn ho hlt hpos h1 hp hq he hpq
          cases hs : ng own
          · rw [hs] at HS HV
            go_enter Try.func30, Try.ntmps30
            go_wp2_with (first | (go_at_call 12; refine (HK.out _).mono ?_; rintro e w' ⟨rfl, rfl⟩) | (go_at_call 46; refine (HS.out _).mono ?_; rintro e w' ⟨rfl, rfl⟩))
            go_ret2
            have h := (HV.out).1 (by trivial)
            rw [h.1, h.2]; exact ⟨rfl, rfl⟩
          · rw [hs] at HS HV
            go_enter Try.func30, Try.ntmps30
            go_wp2_with (first | (go_at_call 12; refine (HK.out _).mono ?_; rintro e w' ⟨rfl, rfl⟩) | (go_at_call 46; refine (HS.out _).mono ?_; rintro e w' ⟨rfl, rfl⟩))
            go_ret2
            have h := (HV.out).2 (by trivial)
            rw [h.1, h.2]; exact ⟨rfl, rfl⟩
        · have hr : near own lost + 1 = mg own := by unfold near; rw [if_neg (by omega), if_neg (fun h => hpq (by rw [← hp, ← hq]; exact h.2))]; omega
          have HV := Lib.hid (lohi_in ho hx hr)
          have hd : (p == q) = false := by simp [hpq]
          clear hx hr hk h0 hn ho hlt h1 hp hq he hpq
          cases hs : ng own
          · rw [hs] at HS HV
            go_enter Try.func30, Try.ntmps30
            go_wp2_with (first | (go_at_call 12; refine (HK.out _).mono ?_; rintro e w' ⟨rfl, rfl⟩) | (go_at_call 46; refine (HS.out _).mono ?_; rintro e w' ⟨rfl, rfl⟩))
            go_ret2
            have h := (HV.out).1 (by trivial)
            rw [h.1, h.2]; exact ⟨rfl, rfl⟩
          · rw [hs] at HS HV
            go_enter Try.func30, Try.ntmps30
            go_wp2_with (first | (go_at_call 12; refine (HK.out _).mono ?_; rintro e w' ⟨rfl, rfl⟩) | (go_at_call 46; refine (HS.out _).mono ?_; rintro e w' ⟨rfl, rfl⟩))
            go_ret2
            have h := (HV.out).2 (by trivial)
            rw [h.1, h.2]; exact ⟨rfl, rfl⟩
      · have hv := lohi_exact h0 h1 he
        have he' : (FloatKind.f64.format.order lost 0 == some .eq) = true := he
        clear hk h0 hn ho hlt h1 he HS
        rw [hv.1, hv.2]
        clear hv
        go_enter Try.func30, Try.ntmps30
        go_wp2_with (go_at_call 12; refine (HK.out _).mono ?_; rintro e w' ⟨rfl, rfl⟩)
        go_ret2
        exact ⟨rfl, rfl⟩
    · have hx : exactly own lost = false := by unfold exactly; rw [decide_eq_false (by omega)]; rfl
      have hr : near own lost + 1 = mg own := by unfold near; rw [if_neg (by omega), if_neg (by omega)]; omega
      have HV := Lib.hid (lohi_in ho hx hr)
      have hk : kd own = 2 := by unfold kd; rw [if_neg (by omega), if_neg (by omega)]
      rw [hk] at HK
      clear hx hr hk h0 hn ho hlt h1
      cases hs : ng own
      · rw [hs] at HS HV
        go_enter Try.func30, Try.ntmps30
        go_wp2_with (first | (go_at_call 12; refine (HK.out _).mono ?_; rintro e w' ⟨rfl, rfl⟩) | (go_at_call 46; refine (HS.out _).mono ?_; rintro e w' ⟨rfl, rfl⟩))
        go_ret2
        have h := (HV.out).1 (by trivial)
        rw [h.1, h.2]; exact ⟨rfl, rfl⟩
      · rw [hs] at HS HV
        go_enter Try.func30, Try.ntmps30
        go_wp2_with (first | (go_at_call 12; refine (HK.out _).mono ?_; rintro e w' ⟨rfl, rfl⟩) | (go_at_call 46; refine (HS.out _).mono ?_; rintro e w' ⟨rfl, rfl⟩))
        go_ret2
        have h := (HV.out).2 (by trivial)
        rw [h.1, h.2]; exact ⟨rfl, rfl⟩
end Go.Proofs.Ytmcnhgakaodafaa.Fl

namespace Go.Proofs.Ytmcnhgakaodafaa.Fl
open Go.RowKit Ieee
/-- A float with the other sign. -/
def ngf (x : Nat) : Nat := x ^^^ 9223372036854775808
theorem ngf_lt {x : Nat} (h : x < 18446744073709551616) : ngf x < 18446744073709551616 := Nat.xor_lt_two_pow (n := 64) h (by decide)
theorem ngf_is {x : Nat} (h : x < 18446744073709551616) : mg (ngf x) = mg x ∧ ng (ngf x) = !ng x := by
  have e0 : ngf x % 2 ^ 63 = x % 2 ^ 63 := by
    unfold ngf
    rw [Nat.xor_mod_two_pow]; simp
  have e1 : ngf x / 2 ^ 63 = (x / 2 ^ 63) ^^^ 1 := by
    unfold ngf
    have := Nat.shiftRight_xor_distrib (a := x) (b := 9223372036854775808) (i := 63)
    rw [Nat.shiftRight_eq_div_pow, Nat.shiftRight_eq_div_pow, Nat.shiftRight_eq_div_pow] at this
    rw [this]
  refine ⟨e0, ?_⟩
  unfold ng
  rw [show (9223372036854775808 : Nat) = 2 ^ 63 by decide, e1]
  have : x / 2 ^ 63 = 0 ∨ x / 2 ^ 63 = 1 := by omega
  rcases this with h | h <;> rw [h] <;> rfl
theorem run_ngf (x : Nat) : Op.unary .neg (.float .f64 x) = pure (.float .f64 (ngf x)) := rfl
theorem ord_lt (x y : Nat) : (FloatKind.f64.format.order x y == some .lt) = decide (mg x ≤ 9218868437227405312 ∧ mg y ≤ 9218868437227405312 ∧ key x < key y) := by
  show (double.order x y == some .lt) = _
  by_cases h : mg x ≤ 9218868437227405312 ∧ mg y ≤ 9218868437227405312
  · rw [order_key x y h.1 h.2]
    rcases Int.lt_trichotomy (key x) (key y) with g | g | g
    · rw [cmp_lt g, decide_eq_true ⟨h.1, h.2, g⟩]; rfl
    · rw [g, cmp_eq, decide_eq_false (by omega)]; rfl
    · rw [cmp_gt g, decide_eq_false (by omega)]; rfl
  · rw [order_nan x y (by omega), decide_eq_false (fun g => h ⟨g.1, g.2.1⟩)]; rfl
theorem ord_gt (x y : Nat) : (FloatKind.f64.format.order x y == some .gt) = decide (mg x ≤ 9218868437227405312 ∧ mg y ≤ 9218868437227405312 ∧ key y < key x) := by
  show (double.order x y == some .gt) = _
  by_cases h : mg x ≤ 9218868437227405312 ∧ mg y ≤ 9218868437227405312
  · rw [order_key x y h.1 h.2]
    rcases Int.lt_trichotomy (key x) (key y) with g | g | g
    · rw [cmp_lt g, decide_eq_false (by omega)]; rfl
    · rw [g, cmp_eq, decide_eq_false (by omega)]; rfl
    · rw [cmp_gt g, decide_eq_true ⟨h.1, h.2, g⟩]; rfl
  · rw [order_nan x y (by omega), decide_eq_false (fun g => h ⟨g.1, g.2.1⟩)]; rfl
theorem ord_eq (x y : Nat) : (FloatKind.f64.format.order x y == some .eq) = decide (mg x ≤ 9218868437227405312 ∧ mg y ≤ 9218868437227405312 ∧ key x = key y) := by
  show (double.order x y == some .eq) = _
  by_cases h : mg x ≤ 9218868437227405312 ∧ mg y ≤ 9218868437227405312
  · rw [order_key x y h.1 h.2]
    rcases Int.lt_trichotomy (key x) (key y) with g | g | g
    · rw [cmp_lt g, decide_eq_false (by omega)]; rfl
    · rw [g, cmp_eq, decide_eq_true ⟨h.1, h.2, rfl⟩]; rfl
    · rw [cmp_gt g, decide_eq_false (by omega)]; rfl
  · rw [order_nan x y (by omega), decide_eq_false (fun g => h ⟨g.1, g.2.1⟩)]; rfl
theorem isNaN_any (x : Nat) (w : World) : Calls Try.prog 8 #[.float .f64 x] w fun e w' => e = .returned (.bool (decide (9218868437227405312 < mg x))) ∧ w' = w := by
  have h : (!(FloatKind.f64.format.order x x == some .eq)) = decide (9218868437227405312 < mg x) := by
    rw [ord_eq]
    by_cases h : mg x ≤ 9218868437227405312
    · rw [decide_eq_true ⟨h, h, rfl⟩, decide_eq_false (by omega)]; rfl
    · rw [decide_eq_false (by omega), decide_eq_true (by omega)]; rfl
  have h' : (FloatKind.f64.format.order x x != some .eq) = decide (9218868437227405312 < mg x) := h
  clear h
  go_enter Try.func8, Try.ntmps8
  go_wp2
  go_ret; exact ⟨rfl, rfl⟩
theorem mg_max : mg 9218868437227405311 = 9218868437227405311 ∧ ng 9218868437227405311 = false := by decide
theorem gt_max (x : Nat) : (FloatKind.f64.format.order x 9218868437227405311 == some .gt) = decide (mg x = 9218868437227405312 ∧ ng x = false) := by
  rw [ord_gt, mg_max.1]
  have : key 9218868437227405311 = 9218868437227405311 := by decide
  rw [this]
  unfold key
  by_cases h : mg x = 9218868437227405312
  · rw [h]
    cases ng x <;> simp
  · rw [decide_eq_false (p := mg x = _ ∧ _) (fun g => h g.1)]
    refine decide_eq_false ?_
    split <;> omega
/-- The float beside. -/
def nextf (v : Nat) (up : Bool) : Nat :=
  if 9218868437227405312 < mg v then v else if mg v = 9218868437227405312 ∧ ng v = !up then v
  else if mg v = 0 then (if up then 1 else 9223372036854775809) else if ng v = !up then v + 1 else v - 1
theorem eq_zero (x : Nat) : (FloatKind.f64.format.order x 0 == some .eq) = decide (mg x = 0) := by
  rw [ord_eq]
  have : mg 0 = 0 := by decide
  have h0 : key 0 = 0 := by decide
  rw [this, h0]
  unfold key
  by_cases h : mg x = 0
  · rw [h]; simp
  · rw [decide_eq_false h]
    refine decide_eq_false ?_
    split <;> omega
theorem gt_zero (x : Nat) (h0 : 0 < mg x) (h : mg x ≤ 9218868437227405312) : (FloatKind.f64.format.order x 0 == some .gt) = !ng x := by
  rw [ord_gt]
  have : mg 0 = 0 := by decide
  have hk : key 0 = 0 := by decide
  rw [this, hk]
  unfold key
  cases ng x <;> simp <;> omega
end Go.Proofs.Ytmcnhgakaodafaa.Fl

namespace Go.Proofs.Ytmcnhgakaodafaa.Fl
open Go.RowKit Ieee
/-- math.FMA's answer in a world, and how many draws it takes. -/
def fmaw (x y z : Nat) (w : World) : Nat := (double.fma x y z).getD (if Extern.MathFMA.isNaN x then nanw w x y else if Extern.MathFMA.isNaN y then nanw w y z else nanw w z z)
def fman (x y z : Nat) : Nat := if (double.fma x y z).isSome then 0 else 1
theorem run_fma (x y z : Nat) (w : World) : (callFunc 45 #[.float .f64 x, .float .f64 y, .float .f64 z]).run Try.prog w = .ok (.value (.float .f64 (fmaw x y z w))) (w.drewN (fman x y z)) := by
  unfold fmaw fman
  cases h : double.fma x y z with
  | some r => exact run_fma_some h w
  | none =>
    rw [run_callFunc_extern Try.func45 (by kernel_rfl) (by kernel_rfl) (by kernel_rfl) (e := Extern.MathFMA.fma) (by kernel_rfl)]
    have e : Extern.MathFMA.fma #[.float .f64 x, .float .f64 y, .float .f64 z] = (do
      let (a, b) := if Extern.MathFMA.isNaN x then (x, y) else if Extern.MathFMA.isNaN y then (y, z) else (z, z)
      pure (.float .f64 (← choose (.nanBits .f64 a b)))) := by
      have h' : FloatKind.f64.format.fma x y z = none := h
      show (match FloatKind.f64.format.fma x y z with | some r => pure (Value.float .f64 r) | none => (do
        let (a, b) := if Extern.MathFMA.isNaN x then (x, y) else if Extern.MathFMA.isNaN y then (y, z) else (z, z)
        pure (Value.float .f64 (← choose (.nanBits .f64 a b))))) = _
      rw [h']
    rw [e]
    by_cases h1 : Extern.MathFMA.isNaN x
    · simp [h1, Question.forced, nanw]; rfl
    · by_cases h2 : Extern.MathFMA.isNaN y
      · simp [h1, h2, Question.forced, nanw]; rfl
      · simp [h1, h2, Question.forced, nanw]; rfl
theorem fmaw_some {x y z r : Nat} (h : double.fma x y z = some r) (w : World) : fmaw x y z w = r ∧ fman x y z = 0 := by simp [fmaw, fman, h]
def sqw (x : Nat) (w : World) : Nat := (double.sqrt x).getD (nanw w x x)
def sqn (x : Nat) : Nat := if (double.sqrt x).isSome then 0 else 1
theorem run_sqrt (x : Nat) (w : World) : (callFunc 47 #[.float .f64 x]).run Try.prog w = .ok (.value (.float .f64 (sqw x w))) (w.drewN (sqn x)) := by
  unfold sqw sqn
  cases h : double.sqrt x with
  | some r => exact run_sqrt_some h w
  | none => exact run_sqrt_none h w
theorem sqrt_any (x : Nat) (w : World) : Calls Try.prog 31 #[.float .f64 x] w fun e w' => e = .returned (.float .f64 (sqw x w)) ∧ w' = w.drewN (sqn x) := by
  have hs := run_sqrt
  go_enter Try.func31, Try.ntmps31
  go_wp2
  go_ret; exact ⟨rfl, rfl⟩
/-- Is the number so small that left lifts it? -/
def lsmall (z : Nat) : Bool := FloatKind.f64.format.order (mg z) 553942754166571008 == some .lt
/-- What left's formula says. -/
def LeftIs (x y z r : Nat) : Prop := ∃ x1 z1, (if lsmall z then double.mul x 5507902344274116608 = some x1 ∧ double.mul z 5507902344274116608 = some z1 else x1 = x ∧ z1 = z) ∧ double.fma (ngf x1) y z1 = some r
set_option maxHeartbeats 400000 in
theorem left_any (x y z : Nat) (w : World) (hz : z < 18446744073709551616) :
    Calls Try.prog 29 #[.float .f64 x, .float .f64 y, .float .f64 z] w fun e w' => ∃ l n, e = .returned (.float .f64 l) ∧ w' = w.drewN n ∧ ∀ r, LeftIs x y z r → l = r ∧ n = 0 := by
  have HA := Lib.hid (fun W => abs_any z W hz)
  have hf := run_fma
  have hm := fun t x y w => run_mul (P := Try.prog) t x y w
  have hn := run_ngf
  clear hz
  cases hs : lsmall z
  · have HL : Hid (∀ r, LeftIs x y z r → double.fma (ngf x) y z = some r) := Lib.hid (fun r ⟨x1, z1, h, h2⟩ => by
      rw [hs] at h; obtain ⟨rfl, rfl⟩ := h; exact h2)
    unfold lsmall at hs
    go_enter Try.func29, Try.ntmps29
    go_wp2_with (go_at_call 13; refine (HA.out _).mono ?_; rintro e w' ⟨rfl, rfl⟩)
    go_ret
    exact ⟨_, _, rfl, rfl, fun r hr => fmaw_some (HL.out r hr) _⟩
  · have HL : Hid (∀ r, LeftIs x y z r → ∃ x1 z1, double.mul x 5507902344274116608 = some x1 ∧ double.mul z 5507902344274116608 = some z1 ∧ double.fma (ngf x1) y z1 = some r) := Lib.hid (fun r ⟨x1, z1, h, h2⟩ => by
      rw [hs] at h; exact ⟨x1, z1, h.1, h.2, h2⟩)
    unfold lsmall at hs
    go_enter Try.func29, Try.ntmps29
    go_wp2_with (go_at_call 13; refine (HA.out _).mono ?_; rintro e w' ⟨rfl, rfl⟩)
    go_ret
    refine ⟨_, _, rfl, rfl, fun r hr => ?_⟩
    obtain ⟨x1, z1, h1, h2, h3⟩ := HL.out r hr
    have e1 := fop_some (op := .mul) h1
    have e2 := fop_some (op := .mul) h2
    rw [(e1 _).1, (e1 w').2, (e2 _).1, (e2 w').2, (fmaw_some h3 _).1, (fmaw_some h3 w').2]
    exact ⟨rfl, rfl⟩
/-- The sum and what it has lost: what Two's formula says. -/
def TwoIs (a b s l : Nat) : Prop := (9218868437227405312 ≤ mg s ∧ l = 0) ∨ (mg s < 9218868437227405312 ∧ ∃ z y, (if FloatKind.f64.format.order (mg a) (mg b) == some .lt then double.sub s b = some z ∧ double.sub a z = some y else double.sub s a = some z ∧ double.sub b z = some y) ∧ double.add y 0 = some l)
theorem sum_fin {x y r : Nat} (h : double.add x y = some r) (hr : mg r < 9218868437227405312) : mg x < 9218868437227405312 ∧ mg y < 9218868437227405312 := by
  have inf_w : ∀ s, mg (double.write (.infinity s)) = 9218868437227405312 := fun s => by
    show mg (double.word s double.infRung) = _; rw [d_inf]; exact (word_mg s _ (by omega)).1
  rcases Nat.lt_or_ge (mg x) 9218868437227405312 with g | g
  · refine ⟨g, ?_⟩
    rcases Nat.lt_or_ge (mg y) 9218868437227405312 with k | k
    · exact k
    · exfalso
      obtain ⟨M, P, e1, _, _⟩ := read_fin x g
      unfold Format.add at h
      rcases Nat.lt_or_eq_of_le k with k | k
      · rw [e1, read_nan y k] at h; cases h
      · rw [e1, read_inf y k.symm] at h; cases h; rw [inf_w] at hr; omega
  · exfalso
    unfold Format.add at h
    rcases Nat.lt_or_eq_of_le g with g | g
    · rw [read_nan x g] at h; cases h
    · rw [read_inf x g.symm] at h
      rcases Nat.lt_or_ge (mg y) 9218868437227405312 with k | k
      · obtain ⟨M, P, e1, _, _⟩ := read_fin y k
        rw [e1] at h; cases h; rw [inf_w] at hr; omega
      · rcases Nat.lt_or_eq_of_le k with k | k
        · rw [read_nan y k] at h; cases h
        · rw [read_inf y k.symm] at h
          simp only [Datum.sum] at h
          split at h
          · cases h; rw [inf_w] at hr; omega
          · cases h
theorem add_zero_some {y : Nat} (h : mg y ≤ 9218868437227405312) : ∃ l, double.add y 0 = some l := by
  rcases Nat.lt_or_eq_of_le h with g | g
  · exact add_fin g (by decide)
  · unfold Format.add
    obtain ⟨M, P, e1, _, _⟩ := read_fin 0 (by decide)
    rw [read_inf y g, e1]; exact ⟨_, rfl⟩
theorem sub_fin_any {x y : Nat} (hx : mg x < 9218868437227405312) (hy : mg y ≤ 9218868437227405312) : ∃ l, double.sub x y = some l := by
  rcases Nat.lt_or_eq_of_le hy with g | g
  · exact sub_fin hx g
  · unfold Format.sub
    obtain ⟨M, P, e1, _, _⟩ := read_fin x hx
    rw [read_inf y g, e1]; exact ⟨_, rfl⟩
theorem fop_lt (op : BinOp) (x y : Nat) (w : World) : fop op x y w < 18446744073709551616 := by
  unfold fop
  cases h : floatBits op .f64 x y with
  | none => exact (nanw_is w x y).2
  | some r =>
    have := floatBits_wf h
    simp [Lit.wf] at this
    exact this
theorem fop_mg (op : BinOp) (x y : Nat) (w : World) : mg (fop op x y w) ≤ 9218868437227405312 ∧ (∃ r, floatBits op .f64 x y = some r ∧ fop op x y w = r ∧ nd op x y = 0) ∨ 9218868437227405312 < mg (fop op x y w) ∧ floatBits op .f64 x y = none := by
  cases h : floatBits op .f64 x y with
  | none => right; rw [(fop_none h w).1]; exact ⟨(nanw_is w x y).1, rfl⟩
  | some r =>
    left
    have h2 := fop_some h w
    rw [h2.1]
    refine ⟨?_, r, rfl, rfl, h2.2⟩
    cases op <;> simp only [floatBits] at h <;> first | cases h | exact (add_told h).1 | exact (sub_told h).1 | exact (mul_told h).1 | exact (div_told h).1
theorem add_fop {x y s : Nat} (h : double.add x y = some s) (w : World) : fop .add x y w = s ∧ nd .add x y = 0 := fop_some (op := .add) h w
theorem sub_fop {x y s : Nat} (h : double.sub x y = some s) (w : World) : fop .sub x y w = s ∧ nd .sub x y = 0 := fop_some (op := .sub) h w
set_option maxHeartbeats 2000000 in
theorem two_any (a b : Nat) (w : World) (ha : a < 18446744073709551616) (hb : b < 18446744073709551616) :
    Calls Try.prog 4 #[.float .f64 a, .float .f64 b] w fun e w' => ∃ l, e = .returned (.tuple #[.float .f64 (fop .add a b w), .float .f64 l]) ∧ w' = w.drewN (nd .add a b) ∧ TwoIs a b (fop .add a b w) l := by
  have hadd := fun t x y w => run_add (P := Try.prog) t x y w
  have hsub := fun t x y w => run_sub (P := Try.prog) t x y w
  have HK := Lib.hid (fun W => kindOf_any (fop .add a b w) W (fop_lt .add a b w))
  have HA := Lib.hid (fun W => abs_any a W ha)
  have HB := Lib.hid (fun W => abs_any b W hb)
  obtain ⟨s, hs⟩ : ∃ s, fop .add a b w = s := ⟨_, rfl⟩
  obtain ⟨n, hn⟩ : ∃ n, nd .add a b = n := ⟨_, rfl⟩
  have hm := fop_mg .add a b w
  rw [hs] at HK hm
  have hadd0 : ∀ t, (binOp .add t (.float .f64 a) (.float .f64 b)).run Try.prog w = .ok (.float .f64 s) (w.drewN n) := fun t => by rw [hadd, hs, hn]
  rw [hs, hn]
  rcases Nat.lt_or_ge (mg s) 9218868437227405312 with h1 | h1
  · have hk : kd s ≠ 2 := by unfold kd; split <;> (try split) <;> omega
    rw [hn] at hm
    obtain ⟨r, hr, rfl, rfl⟩ : ∃ r, floatBits .add .f64 a b = some r ∧ s = r ∧ n = 0 := by
      rcases hm with ⟨_, r, h⟩ | ⟨h, _⟩
      · exact ⟨r, h⟩
      · omega
    have hfin := sum_fin (show double.add a b = some s from hr) h1
    cases ho : (FloatKind.f64.format.order (mg a) (mg b) == some .lt)
    · obtain ⟨z, hz⟩ := sub_fin h1 hfin.1
      obtain ⟨y, hy⟩ := sub_fin_any hfin.2 (sub_told hz).1
      obtain ⟨l, hl⟩ := add_zero_some (sub_told hy).1
      have hT : Hid (TwoIs a b s l) := Lib.hid (.inr ⟨h1, z, y, by rw [ho]; exact ⟨hz, hy⟩, hl⟩)
      have e1 : ∀ t W, (binOp .sub t (.float .f64 s) (.float .f64 a)).run Try.prog W = .ok (.float .f64 z) W := fun t W => by rw [hsub, (sub_fop hz W).1, (sub_fop hz W).2]; rfl
      have e2 : ∀ t W, (binOp .sub t (.float .f64 b) (.float .f64 z)).run Try.prog W = .ok (.float .f64 y) W := fun t W => by rw [hsub, (sub_fop hy W).1, (sub_fop hy W).2]; rfl
      have e3 : ∀ t W, (binOp .add t (.float .f64 y) (.float .f64 0)).run Try.prog W = .ok (.float .f64 l) W := fun t W => by rw [hadd, (add_fop hl W).1, (add_fop hl W).2]; rfl
      obtain ⟨k, hkk⟩ : ∃ k, kd s = k := ⟨_, rfl⟩
      rw [hkk] at HK hk
      have hkd : (k == 2) = false := by simpa using hk
      clear hz hy hl hfin hr h1 hm hs hn hadd hsub ha hb hkk
      go_enter Try.func4, Try.ntmps4
      go_wp2_with (first | (go_at_call 12; refine (HK.out _).mono ?_; rintro e w' ⟨rfl, rfl⟩) | (go_at_call 13; with_reducible refine (HA.out _).mono ?_; rintro e w' ⟨rfl, rfl⟩) | (go_at_call 13; with_reducible refine (HB.out _).mono ?_; rintro e w' ⟨rfl, rfl⟩))
      go_ret2
      exact ⟨_, rfl, rfl, hT.out⟩
    · obtain ⟨z, hz⟩ := sub_fin h1 hfin.2
      obtain ⟨y, hy⟩ := sub_fin_any hfin.1 (sub_told hz).1
      obtain ⟨l, hl⟩ := add_zero_some (sub_told hy).1
      have hT : Hid (TwoIs a b s l) := Lib.hid (.inr ⟨h1, z, y, by rw [ho]; exact ⟨hz, hy⟩, hl⟩)
      have e1 : ∀ t W, (binOp .sub t (.float .f64 s) (.float .f64 b)).run Try.prog W = .ok (.float .f64 z) W := fun t W => by rw [hsub, (sub_fop hz W).1, (sub_fop hz W).2]; rfl
      have e2 : ∀ t W, (binOp .sub t (.float .f64 a) (.float .f64 z)).run Try.prog W = .ok (.float .f64 y) W := fun t W => by rw [hsub, (sub_fop hy W).1, (sub_fop hy W).2]; rfl
      have e3 : ∀ t W, (binOp .add t (.float .f64 y) (.float .f64 0)).run Try.prog W = .ok (.float .f64 l) W := fun t W => by rw [hadd, (add_fop hl W).1, (add_fop hl W).2]; rfl
      obtain ⟨k, hkk⟩ : ∃ k, kd s = k := ⟨_, rfl⟩
      rw [hkk] at HK hk
      have hkd : (k == 2) = false := by simpa using hk
      clear hz hy hl hfin hr h1 hm hs hn hadd hsub ha hb hkk
      go_enter Try.func4, Try.ntmps4
      go_wp2_with (first | (go_at_call 12; refine (HK.out _).mono ?_; rintro e w' ⟨rfl, rfl⟩) | (go_at_call 13; with_reducible refine (HA.out _).mono ?_; rintro e w' ⟨rfl, rfl⟩) | (go_at_call 13; with_reducible refine (HB.out _).mono ?_; rintro e w' ⟨rfl, rfl⟩))
      go_ret2
      exact ⟨_, rfl, rfl, hT.out⟩
  · have hk : kd s = 2 := by unfold kd; split <;> (try split) <;> omega
    rw [hk] at HK
    have hT : Hid (TwoIs a b s 0) := Lib.hid (.inl ⟨h1, rfl⟩)
    clear h1 hm hs hn hadd hsub ha hb hk HA HB
    go_enter Try.func4, Try.ntmps4
    go_wp2_with (go_at_call 12; refine (HK.out _).mono ?_; rintro e w' ⟨rfl, rfl⟩)
    go_ret2
    exact ⟨_, rfl, rfl, hT.out⟩
end Go.Proofs.Ytmcnhgakaodafaa.Fl

namespace Go.Proofs.Ytmcnhgakaodafaa.Fl
open Ieee
theorem cut_even (s : Bool) (n d : Nat) : ∃ k r, n = k * 2 ^ d + r ∧ r < 2 ^ d ∧
    ((Toward.even.cut s n d = k ∧ 2 * r ≤ 2 ^ d ∧ (2 * r = 2 ^ d → k % 2 = 0)) ∨ (Toward.even.cut s n d = k + 1 ∧ 2 ^ d ≤ 2 * r ∧ (2 * r = 2 ^ d → k % 2 = 1))) := by
  have hd : 0 < 2 ^ d := Nat.two_pow_pos _
  refine ⟨n / 2 ^ d, n % 2 ^ d, by rw [Nat.mul_comm]; exact (Nat.div_add_mod _ _).symm, Nat.mod_lt _ hd, ?_⟩
  unfold Toward.cut
  rw [Nat.shiftLeft_eq, Nat.one_mul]
  dsimp only
  by_cases h : d ≤ n.log2 + 2
  · rw [Nat.min_eq_left h]
    obtain ⟨g, hg⟩ : ∃ g, 2 ^ d = g := ⟨_, rfl⟩
    rw [hg] at hd ⊢
    obtain ⟨k, hk⟩ : ∃ k, n / g = k := ⟨_, rfl⟩
    obtain ⟨r, hr⟩ : ∃ r, n % g = r := ⟨_, rfl⟩
    rw [hk, hr]
    by_cases h1 : g < 2 * r
    · right; simp [h1]; omega
    · by_cases h2 : g = 2 * r
      · rcases Nat.mod_two_eq_zero_or_one k with h3 | h3
        · left; simp [h1, h3]; omega
        · right; simp [h2, h3]
      · left; simp [h1, h2]; omega
  · rw [Nat.min_eq_right (by omega)]
    have h1 := @Nat.lt_log2_self n
    have h2 : n * 2 < 2 ^ (n.log2 + 2) := by rw [Nat.pow_succ]; omega
    have h3 : 2 ^ (n.log2 + 2) ≤ 2 ^ d := Nat.pow_le_pow_right (by omega) (by omega)
    obtain ⟨g, hg⟩ : ∃ g, 2 ^ (n.log2 + 2) = g := ⟨_, rfl⟩
    rw [hg] at h2 h3 ⊢
    left
    rw [Nat.div_eq_of_lt (by omega), Nat.mod_eq_of_lt (by omega), Nat.div_eq_of_lt (show n < 2 ^ d by omega), Nat.mod_eq_of_lt (show n < 2 ^ d by omega)]
    have h4 : ¬ g < 2 * n := by omega
    have h5 : ¬ g = 2 * n := by omega
    simp [h4]; omega
theorem uval_bin {e k : Nat} (h : e = 0 ∨ 4503599627370496 ≤ k) (hk : k ≤ 9007199254740992) : uval (e * 4503599627370496 + k) = k * 2 ^ e := by
  unfold uval
  rcases Nat.lt_or_ge k 4503599627370496 with h1 | h1
  · have : e = 0 := by omega
    subst this
    rw [if_pos (by omega)]; simp
  · rw [if_neg (by omega)]
    rcases Nat.lt_or_eq_of_le hk with h2 | h2
    · have e1 : (e * 4503599627370496 + k) / 4503599627370496 = e + 1 := by omega
      have e2 : (e * 4503599627370496 + k) % 4503599627370496 = k - 4503599627370496 := by omega
      rw [e1, e2, show 4503599627370496 + (k - 4503599627370496) = k by omega, Nat.add_sub_cancel]
    · have e1 : (e * 4503599627370496 + k) / 4503599627370496 = e + 2 := by omega
      have e2 : (e * 4503599627370496 + k) % 4503599627370496 = 0 := by omega
      rw [e1, e2, h2, show e + 2 - 1 = e + 1 by omega, Nat.pow_succ, Nat.mul_comm (2 ^ e) 2, ← Nat.mul_assoc]
/-- R is the rung nearest to m times 2 to the p; between two the even one. -/
def NearR (m : Nat) (p : Int) (R : Nat) : Prop := ∀ A B : Nat, (A : Int) - B = p + 1074 →
  2 * (m * 2 ^ A) ≤ (uval R + uval (R + 1)) * 2 ^ B ∧ (2 * (m * 2 ^ A) = (uval R + uval (R + 1)) * 2 ^ B → R % 2 = 0) ∧
  ∀ Q, R = Q + 1 → (uval Q + uval R) * 2 ^ B ≤ 2 * (m * 2 ^ A) ∧ ((uval Q + uval R) * 2 ^ B = 2 * (m * 2 ^ A) → R % 2 = 0)
theorem near_spec (s : Bool) (m : Nat) (p : Int) : ∃ R, double.nearest s m p = double.word s (min R 9218868437227405312) ∧ NearR m p R := by
  rcases Nat.eq_zero_or_pos m with h0 | h0
  · subst h0
    refine ⟨0, by simp [Format.nearest], fun A B _ => ⟨by simp, fun h => rfl, fun Q h => by omega⟩⟩
  · unfold Format.nearest
    rw [d_inf, d_binade, d_lp, if_neg (by omega)]
    dsimp only
    have hfb : (double.fractionBits : Int) = 52 := rfl
    rw [hfb]
    obtain ⟨last, hlast⟩ : ∃ last, max (p + ↑m.log2 - 52) (-1074) = last := ⟨_, rfl⟩
    rw [hlast]
    obtain ⟨e, he⟩ : ∃ e : Nat, last = (e : Int) - 1074 := ⟨(last + 1074).toNat, by omega⟩
    have hen : (last - -1074).toNat = e := by omega
    rw [hen]
    have l1 := Nat.log2_self_le (n := m) (by omega)
    have l2 := @Nat.lt_log2_self m
    by_cases hp : last ≤ p
    · -- nothing is dropped
      have hz : (last - p).toNat = 0 := by omega
      obtain ⟨j, hj⟩ : ∃ j : Nat, p = last + j := ⟨(p - last).toNat, by omega⟩
      have hjn : (p - last).toNat = j := by omega
      rw [hz, hjn]
      obtain ⟨k, r, h1, h2, h3⟩ := cut_even s (m <<< j) 0
      simp only [Nat.pow_zero] at h1 h2 h3
      have hr : r = 0 := by omega
      subst hr
      have hcut : Toward.even.cut s (m <<< j) 0 = k := by rcases h3 with h | h <;> omega
      rw [hcut]
      have hk : k = m * 2 ^ j := by rw [← Nat.shiftLeft_eq]; omega
      have hlo : e = 0 ∨ 4503599627370496 ≤ k := by
        rcases Nat.eq_zero_or_pos e with h | h
        · exact .inl h
        · right
          have : m.log2 + j = 52 := by omega
          have h5 := Nat.mul_le_mul_right (2 ^ j) l1
          rw [← Nat.pow_add, this] at h5
          rw [hk]; exact h5
      have hhi : k < 9007199254740992 := by
        have : m.log2 + 1 + j ≤ 53 := by omega
        have h5 := Nat.mul_lt_mul_of_pos_right l2 (Nat.two_pow_pos j)
        rw [← Nat.pow_add] at h5
        have h6 := Nat.pow_le_pow_right (n := 2) (by omega) this
        rw [hk]; exact Nat.lt_of_lt_of_le h5 h6
      have hu := uval_bin hlo (Nat.le_of_lt hhi)
      refine ⟨_, rfl, fun A B hab => ?_⟩
      have hA : A = j + e + B := by omega
      have hv : m * 2 ^ A = uval (e * 4503599627370496 + k) * 2 ^ B := by
        rw [hu, hk, hA, Nat.pow_add, Nat.pow_add, Nat.mul_assoc, Nat.mul_assoc, Nat.mul_assoc]
      have hB := Nat.two_pow_pos B
      have hs := uval_step (e * 4503599627370496 + k)
      rw [hv]
      obtain ⟨R, hR⟩ : ∃ R, e * 4503599627370496 + k = R := ⟨_, rfl⟩
      rw [hR] at hs hv ⊢
      rw [hR] at hu
      clear hu hhi hlo
      have t1 := Nat.mul_lt_mul_of_pos_right hs hB
      refine ⟨by rw [Nat.add_mul]; omega, fun h => by rw [Nat.add_mul] at h; omega, fun Q hQ => ?_⟩
      subst hQ
      have t2 := Nat.mul_lt_mul_of_pos_right (uval_step Q) hB
      exact ⟨by rw [Nat.add_mul]; omega, fun h => by rw [Nat.add_mul] at h; omega⟩
    · obtain ⟨d, hd⟩ : ∃ d : Nat, last = p + d := ⟨(last - p).toNat, by omega⟩
      have hdn : (last - p).toNat = d := by omega
      have hz : (p - last).toNat = 0 := by omega
      rw [hdn, hz, Nat.shiftLeft_zero]
      obtain ⟨k, r, h1, h2, h3⟩ := cut_even s m d
      have hD := Nat.two_pow_pos d
      have hlo : e = 0 ∨ 4503599627370496 ≤ k := by
        rcases Nat.eq_zero_or_pos e with h | h
        · exact .inl h
        · right
          have : m.log2 = 52 + d := by omega
          rw [this, Nat.pow_add, show (2 : Nat) ^ 52 = 4503599627370496 by decide] at l1
          rcases Nat.lt_or_ge k 4503599627370496 with h5 | h5
          · exfalso
            have h6 := Nat.mul_le_mul_right (2 ^ d) (show k + 1 ≤ 4503599627370496 by omega)
            rw [Nat.add_mul] at h6; omega
          · exact h5
      have hhi : k < 9007199254740992 := by
        have : m.log2 + 1 ≤ 53 + d := by omega
        have h6 := Nat.pow_le_pow_right (n := 2) (by omega) this
        rw [Nat.pow_add 2 53 d, show (2 : Nat) ^ 53 = 9007199254740992 by decide] at h6
        rcases Nat.lt_or_ge k 9007199254740992 with h5 | h5
        · exact h5
        · exfalso
          have h7 := Nat.mul_le_mul_right (2 ^ d) h5
          omega
      have u0 := uval_bin hlo (Nat.le_of_lt hhi)
      have u1 := uval_bin (e := e) (k := k + 1) (by omega) (by omega)
      rw [show e * 4503599627370496 + (k + 1) = e * 4503599627370496 + k + 1 by omega] at u1
      -- 2 m 2^A against odd multiples, over a common factor
      have key : ∀ A B : Nat, (A : Int) - B = p + 1074 → ∀ x : Nat, (2 * (m * 2 ^ A) ≤ x * 2 ^ e * 2 ^ B ↔ 2 * m ≤ x * 2 ^ d) ∧ (x * 2 ^ e * 2 ^ B ≤ 2 * (m * 2 ^ A) ↔ x * 2 ^ d ≤ 2 * m) := fun A B hab x => by
        have hA : A + d = e + B := by omega
        have hF := Nat.two_pow_pos (e + B)
        have a1 : 2 * (m * 2 ^ A) * 2 ^ d = 2 * m * 2 ^ (e + B) := by
          rw [← hA, Nat.pow_add]; simp only [Nat.mul_assoc]
        have a2 : x * 2 ^ e * 2 ^ B * 2 ^ d = x * 2 ^ d * 2 ^ (e + B) := by
          rw [Nat.pow_add]; simp only [Nat.mul_assoc]
          rw [Nat.mul_comm (2 ^ d) (2 ^ e * 2 ^ B)]; simp only [Nat.mul_assoc]
        constructor
        · constructor
          · intro h
            have := Nat.mul_le_mul_right (2 ^ d) h
            rw [a1, a2] at this
            exact Nat.le_of_mul_le_mul_right this hF
          · intro h
            have := Nat.mul_le_mul_right (2 ^ (e + B)) h
            rw [← a1, ← a2] at this
            exact Nat.le_of_mul_le_mul_right this hD
        · constructor
          · intro h
            have := Nat.mul_le_mul_right (2 ^ d) h
            rw [a1, a2] at this
            exact Nat.le_of_mul_le_mul_right this hF
          · intro h
            have := Nat.mul_le_mul_right (2 ^ (e + B)) h
            rw [← a1, ← a2] at this
            exact Nat.le_of_mul_le_mul_right this hD
      have hs2 : uval (e * 4503599627370496 + k) + uval (e * 4503599627370496 + k + 1) = (2 * k + 1) * 2 ^ e := by
        rw [u0, u1, ← Nat.add_mul]; congr 1; omega
      have hm : 2 * m = 2 * (k * 2 ^ d) + 2 * r := by omega
      have hx : (2 * k + 1) * 2 ^ d = 2 * (k * 2 ^ d) + 2 ^ d := by rw [Nat.add_mul, Nat.one_mul, Nat.mul_assoc]
      rcases h3 with ⟨hc, h4, h5⟩ | ⟨hc, h4, h5⟩
      · rw [hc]
        refine ⟨_, rfl, fun A B hab => ?_⟩
        have kk := key A B hab (2 * k + 1)
        have k2 := key A B hab (2 * k)
        rw [hs2]
        refine ⟨kk.1.2 (by omega), fun h => ?_, fun Q hQ => ?_⟩
        · have := kk.2.1 (Nat.le_of_eq h.symm)
          have := h5 (by omega)
          omega
        · have hq := uval_step Q
          rw [← hQ] at hq
          have e3 : uval (e * 4503599627370496 + k) * 2 ^ B ≤ m * 2 ^ A := by
            have h9 := k2.2.2 (by rw [Nat.mul_assoc]; omega)
            rw [u0]
            rw [Nat.mul_assoc 2 k, Nat.mul_assoc 2] at h9
            omega
          have t2 := Nat.mul_lt_mul_of_pos_right hq (Nat.two_pow_pos B)
          exact ⟨by rw [Nat.add_mul]; omega, fun h => by rw [Nat.add_mul] at h; omega⟩
      · rw [hc]
        refine ⟨_, rfl, fun A B hab => ?_⟩
        have kk := key A B hab (2 * k + 1)
        have k2 := key A B hab (2 * (k + 1))
        rw [show e * 4503599627370496 + (k + 1) = e * 4503599627370496 + k + 1 by omega]
        have e3 : m * 2 ^ A ≤ uval (e * 4503599627370496 + k + 1) * 2 ^ B := by
          have h9 := k2.1.2 (by rw [Nat.mul_assoc, Nat.add_mul, Nat.one_mul]; omega)
          rw [u1]
          rw [Nat.mul_assoc 2 (k + 1), Nat.mul_assoc 2] at h9
          omega
        have hq := uval_step (e * 4503599627370496 + k + 1)
        have t2 := Nat.mul_lt_mul_of_pos_right hq (Nat.two_pow_pos B)
        refine ⟨by rw [Nat.add_mul]; omega, fun h => by rw [Nat.add_mul] at h; omega, fun Q hQ => ?_⟩
        obtain rfl : Q = e * 4503599627370496 + k := by omega
        rw [hs2]
        refine ⟨kk.2.2 (by omega), fun h => ?_⟩
        have := kk.1.1 (Nat.le_of_eq h.symm)
        have := h5 (by omega)
        omega
end Go.Proofs.Ytmcnhgakaodafaa.Fl

namespace Go.Proofs.Ytmcnhgakaodafaa.Fl
open Ieee
theorem nearR_unique {m : Nat} {p : Int} {R S : Nat} (h : NearR m p R) (k : NearR m p S) : R = S := by
  have main : ∀ {R S : Nat}, NearR m p R → NearR m p S → ¬ R < S := fun {R S} h k hlt => by
    obtain ⟨A, B, hab⟩ : ∃ A B : Nat, (A : Int) - B = p + 1074 := ⟨(p + 1074).toNat, (-(p + 1074)).toNat, by omega⟩
    have h1 := h A B hab
    obtain ⟨Q, rfl⟩ : ∃ Q, S = Q + 1 := ⟨S - 1, by omega⟩
    have k1 := (k A B hab).2.2 Q rfl
    have hB := Nat.two_pow_pos B
    rcases Nat.lt_or_eq_of_le (show R ≤ Q by omega) with g | g
    · have a := Nat.mul_lt_mul_of_pos_right (show uval R + uval (R + 1) < uval Q + uval (Q + 1) by
        have := uval_lt g; have := uval_lt (show R + 1 < Q + 1 by omega); omega) hB
      omega
    · subst g
      have e : 2 * (m * 2 ^ A) = (uval R + uval (R + 1)) * 2 ^ B := by omega
      have := h1.2.1 e
      have := k1.2 e.symm
      omega
  have a := main h k
  have b := main k h
  omega
/-- A greater number is not rounded to a lesser rung. -/
theorem nearR_mono {m n : Nat} {p q : Int} {R S : Nat} (h : NearR m p R) (k : NearR n q S) (A B C D : Nat) (h1 : (A : Int) - B = p + 1074) (h2 : (C : Int) - D = q + 1074) (hle : m * 2 ^ A * 2 ^ D ≤ n * 2 ^ C * 2 ^ B) : R ≤ S := by
  rcases Nat.lt_or_ge S R with g | g
  · exfalso
    obtain ⟨Q, rfl⟩ : ∃ Q, R = Q + 1 := ⟨R - 1, by omega⟩
    have a := (h A B h1).2.2 Q rfl
    have b := k C D h2
    have hBD : 0 < 2 ^ B * 2 ^ D := Nat.mul_pos (Nat.two_pow_pos B) (Nat.two_pow_pos D)
    have x1 := Nat.mul_le_mul_right (2 ^ D) a.1
    have x2 := Nat.mul_le_mul_right (2 ^ B) b.1
    have e1 : 2 * (m * 2 ^ A) * 2 ^ D = 2 * (m * 2 ^ A * 2 ^ D) := by rw [Nat.mul_assoc]
    have e2 : 2 * (n * 2 ^ C) * 2 ^ B = 2 * (n * 2 ^ C * 2 ^ B) := by rw [Nat.mul_assoc]
    have e3 : (uval S + uval (S + 1)) * 2 ^ D * 2 ^ B = (uval S + uval (S + 1)) * (2 ^ B * 2 ^ D) := by rw [Nat.mul_assoc, Nat.mul_comm (2 ^ D)]
    have e4 : (uval Q + uval (Q + 1)) * 2 ^ B * 2 ^ D = (uval Q + uval (Q + 1)) * (2 ^ B * 2 ^ D) := by rw [Nat.mul_assoc]
    rw [e1, e4] at x1
    rw [e2, e3] at x2
    rcases Nat.lt_or_eq_of_le (show S ≤ Q by omega) with g | g
    · have c := Nat.mul_lt_mul_of_pos_right (show uval S + uval (S + 1) < uval Q + uval (Q + 1) by
        have := uval_lt g; have := uval_lt (show S + 1 < Q + 1 by omega); omega) hBD
      omega
    · subst g
      have eq1 : (uval S + uval (S + 1)) * (2 ^ B * 2 ^ D) = 2 * (m * 2 ^ A * 2 ^ D) := by omega
      have eq2 : 2 * (n * 2 ^ C * 2 ^ B) = (uval S + uval (S + 1)) * (2 ^ B * 2 ^ D) := by omega
      have f1 : (uval S + uval (S + 1)) * 2 ^ B = 2 * (m * 2 ^ A) := by
        refine Nat.eq_of_mul_eq_mul_right (Nat.two_pow_pos D) ?_
        rw [e4, e1]; exact eq1
      have f2 : 2 * (n * 2 ^ C) = (uval S + uval (S + 1)) * 2 ^ D := by
        refine Nat.eq_of_mul_eq_mul_right (Nat.two_pow_pos B) ?_
        rw [e2, e3]; exact eq2
      have := a.2 f1
      have := b.2.1 f2
      omega
  · exact g
/-- What a float is worth is rounded to that float. -/
theorem nearR_exact {m : Nat} {p : Int} {R : Nat} (A B : Nat) (h1 : (A : Int) - B = p + 1074) (h : m * 2 ^ A = uval R * 2 ^ B) : NearR m p R := by
  intro C D hcd
  have hv : m * 2 ^ C = uval R * 2 ^ D := by
    refine Nat.eq_of_mul_eq_mul_right (Nat.two_pow_pos B) ?_
    have e : C + B = A + D := by omega
    rw [Nat.mul_assoc, ← Nat.pow_add, e, Nat.pow_add, ← Nat.mul_assoc, h]
    simp only [Nat.mul_assoc]; rw [Nat.mul_comm (2 ^ B)]
  have hD := Nat.two_pow_pos D
  have s1 := Nat.mul_lt_mul_of_pos_right (uval_step R) hD
  rw [hv]
  refine ⟨by rw [Nat.add_mul]; omega, fun h => by rw [Nat.add_mul] at h; omega, fun Q hQ => ?_⟩
  subst hQ
  have s2 := Nat.mul_lt_mul_of_pos_right (uval_step Q) hD
  exact ⟨by rw [Nat.add_mul]; omega, fun h => by rw [Nat.add_mul] at h; omega⟩
theorem nearest_exact (s : Bool) {m : Nat} {p : Int} {R : Nat} (A B : Nat) (h1 : (A : Int) - B = p + 1074) (h : m * 2 ^ A = uval R * 2 ^ B) (hR : R ≤ 9218868437227405312) : double.nearest s m p = double.word s R := by
  obtain ⟨S, e, hS⟩ := near_spec s m p
  rw [e, nearR_unique hS (nearR_exact A B h1 h), Nat.min_eq_left hR]
/-- A sign is of no matter to how far it is rounded. -/
theorem nearest_sign (s : Bool) (m : Nat) (p : Int) : ∃ R, R ≤ 9218868437227405312 ∧ ∀ s, double.nearest s m p = double.word s R := by
  obtain ⟨S, _, hS⟩ := near_spec s m p
  refine ⟨min S 9218868437227405312, Nat.min_le_right _ _, fun t => ?_⟩
  obtain ⟨S', e', hS'⟩ := near_spec t m p
  rw [e', nearR_unique hS' hS]
end Go.Proofs.Ytmcnhgakaodafaa.Fl
