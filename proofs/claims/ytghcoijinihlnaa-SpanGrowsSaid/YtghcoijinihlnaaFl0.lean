/-
  Floats of 64 bits, read off their words: their order, what a finite one is worth, and that an operation on finite ones is answered. No conditions but those that each law names.
-/
import Derived.Test.YtghcoijinihlnaaRows
import Derived.Laws.FloatArith
namespace Go.Proofs.Ytghcoijinihlnaa.Fl
open Ieee
/-- The lower 63 bits of a float's word: the floats from nought upward are counted by them. -/
def mg (x : Nat) : Nat := x % 9223372036854775808
/-- The sign's bit. -/
def ng (x : Nat) : Bool := x / 9223372036854775808 % 2 == 1
/-- How many units of the least float a float's size is. -/
def uval (m : Nat) : Nat := if m < 4503599627370496 then m else (4503599627370496 + m % 4503599627370496) * 2 ^ (m / 4503599627370496 - 1)
theorem uval_small {m : Nat} (h : m < 4503599627370496) : uval m = m := by simp [uval, h]
theorem uval_step (m : Nat) : uval m < uval (m + 1) := by
  unfold uval
  by_cases h1 : m < 4503599627370496
  · by_cases h2 : m + 1 < 4503599627370496
    · simp [h1, h2]
    · have : m + 1 = 4503599627370496 := by omega
      rw [if_pos h1, if_neg h2, this]; simp; omega
  · have h2 : ¬ m + 1 < 4503599627370496 := by omega
    rw [if_neg h1, if_neg h2]
    by_cases h3 : m % 4503599627370496 + 1 < 4503599627370496
    · have e1 : (m + 1) / 4503599627370496 = m / 4503599627370496 := by omega
      have e2 : (m + 1) % 4503599627370496 = m % 4503599627370496 + 1 := by omega
      rw [e1, e2]
      exact Nat.mul_lt_mul_of_pos_right (by omega) (Nat.two_pow_pos _)
    · have e1 : (m + 1) / 4503599627370496 = m / 4503599627370496 + 1 := by omega
      have e2 : (m + 1) % 4503599627370496 = 0 := by omega
      obtain ⟨k, hk⟩ : ∃ k, m / 4503599627370496 = k + 1 := ⟨m / 4503599627370496 - 1, by omega⟩
      rw [e1, e2, hk]
      simp only [Nat.add_sub_cancel, Nat.add_zero]
      rw [Nat.pow_succ, Nat.mul_comm (2 ^ k) 2, ← Nat.mul_assoc]
      exact Nat.mul_lt_mul_of_pos_right (by omega) (Nat.two_pow_pos _)
theorem uval_lt {m n : Nat} (h : m < n) : uval m < uval n := by
  induction h with
  | refl => exact uval_step _
  | step _ ih => exact Nat.lt_trans ih (uval_step _)
theorem uval_cmp (m n : Nat) : (uval m < uval n ↔ m < n) ∧ (uval m = uval n ↔ m = n) := by
  rcases Nat.lt_trichotomy m n with h | h | h
  · have := uval_lt h; omega
  · subst h; simp
  · have := uval_lt h; omega
theorem d_binade : double.binade = 4503599627370496 := rfl
theorem d_inf : double.infRung = 9218868437227405312 := by decide
theorem d_sw : double.signWeight = 9223372036854775808 := by decide
theorem d_lp : double.leastPlace = -1074 := by decide
/-- What a finite word stands for. -/
theorem read_fin (x : Nat) (h : mg x < 9218868437227405312) : ∃ (M : Nat) (P : Int), double.read x = .number (ng x) M P ∧ -1074 ≤ P ∧ M * 2 ^ (P + 1074).toNat = uval (mg x) := by
  unfold Format.read
  rw [d_binade, d_inf, d_sw, d_lp]
  simp only []
  change ∃ M P, (if mg x < 4503599627370496 then Datum.number (ng x) (mg x) (-1074) else if mg x < 9218868437227405312 then Datum.number (ng x) (4503599627370496 + mg x % 4503599627370496) (-1074 + (mg x / 4503599627370496 - 1 : Nat)) else _) = _ ∧ _
  by_cases h1 : mg x < 4503599627370496
  · rw [if_pos h1]
    exact ⟨_, _, rfl, by omega, by simp [uval, h1]⟩
  · rw [if_neg h1, if_pos h]
    refine ⟨_, _, rfl, by omega, ?_⟩
    rw [uval, if_neg h1]
    congr 2
    omega
theorem read_inf (x : Nat) (h : mg x = 9218868437227405312) : double.read x = .infinity (ng x) := by
  unfold Format.read
  rw [d_binade, d_inf, d_sw]
  simp only []
  change (if mg x < 4503599627370496 then _ else if mg x < 9218868437227405312 then _ else if mg x = 9218868437227405312 then Datum.infinity (ng x) else _) = _
  rw [if_neg (by omega), if_neg (by omega), if_pos h]
theorem read_nan (x : Nat) (h : 9218868437227405312 < mg x) : double.read x = .nan (ng x) (mg x - 9218868437227405312) := by
  unfold Format.read
  rw [d_binade, d_inf, d_sw]
  simp only []
  change (if mg x < 4503599627370496 then _ else if mg x < 9218868437227405312 then _ else if mg x = 9218868437227405312 then _ else Datum.nan (ng x) (mg x - 9218868437227405312)) = _
  rw [if_neg (by omega), if_neg (by omega), if_neg (by omega)]
/-- The floats in their order: by sign and size. -/
def key (x : Nat) : Int := if ng x then -(mg x : Int) else mg x
/-- A finite float's worth, in units of the least one. -/
def sval (x : Nat) : Int := if ng x then -(uval (mg x) : Int) else uval (mg x)
theorem cmp_lt {a b : Int} (h : a < b) : compare a b = .lt := by simp [compare, compareOfLessAndEq, h]
theorem cmp_gt {a b : Int} (h : b < a) : compare a b = .gt := by
  have h1 : ¬ a < b := by omega
  have h2 : a ≠ b := by omega
  simp [compare, compareOfLessAndEq, h1, h2]
theorem cmp_eq (a : Int) : compare a a = .eq := by simp [compare, compareOfLessAndEq]
theorem cmp_same {a b c d : Int} (h1 : a < b ↔ c < d) (h2 : a = b ↔ c = d) : compare a b = compare c d := by
  simp [compare, compareOfLessAndEq, h1, h2]
theorem signed_scale (s : Bool) (M : Nat) (i j : Nat) : signed s M (i + j) = signed s M i * (2 ^ j : Nat) := by
  unfold signed
  rw [Nat.shiftLeft_eq, Nat.shiftLeft_eq, Nat.pow_add, ← Nat.mul_assoc]
  split
  · rw [Int.natCast_mul]; exact (Int.neg_mul _ _).symm
  · rw [Int.natCast_mul]
theorem signed_sval {x M : Nat} {P base : Int} (h : M * 2 ^ (P + 1074).toNat = uval (mg x)) (hb : base ≤ P) (hp : -1074 ≤ base) : sval x = signed (ng x) M (P - base).toNat * (2 ^ (base + 1074).toNat : Nat) := by
  rw [← signed_scale, show (P - base).toNat + (base + 1074).toNat = (P + 1074).toNat by omega]
  unfold sval signed
  rw [Nat.shiftLeft_eq, h]
theorem sval_cmp (x y : Nat) : (sval x < sval y ↔ key x < key y) ∧ (sval x = sval y ↔ key x = key y) := by
  have h1 := uval_cmp (mg x) (mg y)
  have h2 := uval_cmp (mg y) (mg x)
  have h0 : uval 0 = 0 := uval_small (by omega)
  have h3 := uval_cmp 0 (mg x)
  have h4 := uval_cmp 0 (mg y)
  rw [h0] at h3 h4
  unfold sval key
  split <;> split <;> constructor <;> omega
theorem order_key (x y : Nat) (hx : mg x ≤ 9218868437227405312) (hy : mg y ≤ 9218868437227405312) : double.order x y = some (compare (key x) (key y)) := by
  unfold Format.order
  have hxy : mg x < 9218868437227405312 ∨ mg x = 9218868437227405312 := by omega
  have hyy : mg y < 9218868437227405312 ∨ mg y = 9218868437227405312 := by omega
  rcases hxy with h | h
  · obtain ⟨M, P, e1, p1, v1⟩ := read_fin x h
    rcases hyy with k | k
    · obtain ⟨N, Q, e2, p2, v2⟩ := read_fin y k
      rw [e1, e2]
      simp only [Datum.order]
      congr 1
      have a1 := signed_sval v1 (Int.min_le_left P Q) (by omega)
      have a2 := signed_sval v2 (Int.min_le_right P Q) (by omega)
      have hk : 0 < ((2 ^ (min P Q + 1074).toNat : Nat) : Int) := Int.natCast_pos.2 (Nat.two_pow_pos _)
      have s := sval_cmp x y
      rw [a1, a2] at s
      refine cmp_same ?_ ?_
      · rw [← s.1]; exact (Int.mul_lt_mul_right hk).symm
      · rw [← s.2]; exact (Int.mul_eq_mul_right_iff (by omega)).symm
    · rw [e1, read_inf y k]
      simp only [Datum.order]
      congr 1
      unfold key
      cases ng y <;> simp only [Bool.false_eq_true, if_false, if_true]
      · exact (cmp_lt (by split <;> omega)).symm
      · exact (cmp_gt (by split <;> omega)).symm
  · rcases hyy with k | k
    · obtain ⟨N, Q, e2, p2, v2⟩ := read_fin y k
      rw [e2, read_inf x h]
      simp only [Datum.order]
      congr 1
      unfold key
      cases ng x <;> simp only [Bool.false_eq_true, if_false, if_true]
      · exact (cmp_gt (by split <;> omega)).symm
      · exact (cmp_lt (by split <;> omega)).symm
    · rw [read_inf x h, read_inf y k]
      simp only [Datum.order]
      congr 1
      unfold key
      rw [h, k]
      cases ng x <;> cases ng y <;> rfl
theorem order_nan (x y : Nat) (h : 9218868437227405312 < mg x ∨ 9218868437227405312 < mg y) : double.order x y = none := by
  unfold Format.order
  rcases h with h | h
  · rw [read_nan x h]; rfl
  · rw [read_nan y h]; cases double.read x <;> rfl
/-- Which datum is a number or an infinity. -/
def Told : Datum → Prop
  | .nan .. => False
  | _ => True
theorem word_mg (s : Bool) (k : Nat) (h : k < 9223372036854775808) : mg (double.word s k) = k ∧ ng (double.word s k) = s := by
  unfold Format.word mg ng
  rw [d_sw]
  cases s
  · simp only [Bool.false_eq_true, if_false]
    refine ⟨by omega, ?_⟩
    rw [Nat.div_eq_of_lt h]; rfl
  · simp only [if_true]
    refine ⟨by omega, ?_⟩
    rw [show (9223372036854775808 + k) / 9223372036854775808 = 1 by omega]; rfl
theorem word_lt64 (s : Bool) (k : Nat) (h : k < 9223372036854775808) : double.word s k < 18446744073709551616 := by
  unfold Format.word
  rw [d_sw]
  split <;> omega
/-- A word is its sign and its size. -/
theorem word_of (x : Nat) (h : x < 18446744073709551616) : double.word (ng x) (mg x) = x := by
  unfold Format.word ng mg
  rw [d_sw]
  rcases Nat.lt_or_ge x 9223372036854775808 with g | g
  · rw [Nat.div_eq_of_lt g]; simp; omega
  · rw [show x / 9223372036854775808 = 1 by omega]; simp; omega
theorem nearest_mg (s : Bool) (m : Nat) (p : Int) : mg (double.nearest s m p) ≤ 9218868437227405312 ∧ ng (double.nearest s m p) = s := by
  unfold Format.nearest
  rw [d_inf]
  dsimp only
  split
  · have := word_mg s 0 (by omega); exact ⟨by omega, this.2⟩
  · have := word_mg s (min ((max (p + ↑m.log2 - ↑double.fractionBits) double.leastPlace - double.leastPlace).toNat * double.binade + Toward.even.cut s (m <<< (p - max (p + ↑m.log2 - ↑double.fractionBits) double.leastPlace).toNat) (max (p + ↑m.log2 - ↑double.fractionBits) double.leastPlace - p).toNat) 9218868437227405312) (by omega)
    exact ⟨by omega, this.2⟩
theorem write_mg (d : Datum) (h : Told d) : mg (double.write d) ≤ 9218868437227405312 ∧ ng (double.write d) = d.neg ∧ double.write d < 18446744073709551616 := by
  refine ⟨?_, ?_, double.write_lt d⟩
  · cases d with
    | number s m p => exact (nearest_mg s m p).1
    | infinity s => have := word_mg s 9218868437227405312 (by omega); show mg (double.word s double.infRung) ≤ _; rw [d_inf]; omega
    | nan => exact h.elim
  · cases d with
    | number s m p => exact (nearest_mg s m p).2
    | infinity s => have := word_mg s 9218868437227405312 (by omega); show ng (double.word s double.infRung) = _; rw [d_inf]; exact this.2
    | nan => exact h.elim
theorem sum_told {a b d : Datum} (h : a.sum b = some d) : Told d := by
  cases a <;> cases b <;> simp [Datum.sum] at h <;> first | (subst h; trivial) | (obtain ⟨_, rfl⟩ := h; trivial) | (split at h <;> first | (cases h; trivial) | cases h)
theorem product_told {a b d : Datum} (h : a.product b = some d) : Told d := by
  cases a <;> cases b <;> simp [Datum.product] at h <;> first | (subst h; trivial) | (obtain ⟨_, rfl⟩ := h; trivial) | (split at h <;> first | (cases h; trivial) | cases h)
theorem quotient_told {n : Nat} {a b d : Datum} (h : a.quotient n b = some d) : Told d := by
  cases a <;> cases b <;> simp only [Datum.quotient] at h <;> first | (cases h; trivial) | (cases h; done) | skip
  split at h
  · split at h <;> cases h; trivial
  · cases h; trivial
theorem root_told {n : Nat} {a d : Datum} (h : a.root n = some d) : Told d := by
  cases a <;> simp only [Datum.root] at h <;> first | (cases h; done) | skip
  · split at h
    · cases h; trivial
    · split at h
      · cases h
      · cases h; trivial
  · split at h <;> cases h; trivial
/-- What an operation answers, if it answers, is a float of 64 bits and no NaN. -/
theorem map_told {o : Option Datum} {r : Nat} (ho : ∀ d, o = some d → Told d) (h : o.map double.write = some r) : mg r ≤ 9218868437227405312 ∧ r < 18446744073709551616 := by
  cases o with
  | none => cases h
  | some d => cases h; exact ⟨(write_mg d (ho d rfl)).1, (write_mg d (ho d rfl)).2.2⟩
theorem add_told {x y r : Nat} (h : double.add x y = some r) : mg r ≤ 9218868437227405312 ∧ r < 18446744073709551616 := map_told (fun _ => sum_told) h
theorem sub_told {x y r : Nat} (h : double.sub x y = some r) : mg r ≤ 9218868437227405312 ∧ r < 18446744073709551616 := map_told (fun _ => sum_told) h
theorem mul_told {x y r : Nat} (h : double.mul x y = some r) : mg r ≤ 9218868437227405312 ∧ r < 18446744073709551616 := map_told (fun _ => product_told) h
theorem div_told {x y r : Nat} (h : double.div x y = some r) : mg r ≤ 9218868437227405312 ∧ r < 18446744073709551616 := map_told (fun _ => quotient_told) h
theorem sqrt_told {x r : Nat} (h : double.sqrt x = some r) : mg r ≤ 9218868437227405312 ∧ r < 18446744073709551616 := map_told (fun _ => root_told) h
theorem fma_told {x y z r : Nat} (h : double.fma x y z = some r) : mg r ≤ 9218868437227405312 ∧ r < 18446744073709551616 := by
  refine map_told (fun d hd => ?_) h
  cases hp : (double.read x).product (double.read y) with
  | none => rw [hp] at hd; cases hd
  | some e => rw [hp] at hd; exact sum_told hd
/-- Finite operands are answered. -/
theorem add_fin {x y : Nat} (hx : mg x < 9218868437227405312) (hy : mg y < 9218868437227405312) : ∃ r, double.add x y = some r := by
  obtain ⟨M, P, e1, _, _⟩ := read_fin x hx
  obtain ⟨N, Q, e2, _, _⟩ := read_fin y hy
  unfold Format.add; rw [e1, e2]; exact ⟨_, rfl⟩
theorem sub_fin {x y : Nat} (hx : mg x < 9218868437227405312) (hy : mg y < 9218868437227405312) : ∃ r, double.sub x y = some r := by
  obtain ⟨M, P, e1, _, _⟩ := read_fin x hx
  obtain ⟨N, Q, e2, _, _⟩ := read_fin y hy
  unfold Format.sub; rw [e1, e2]; exact ⟨_, rfl⟩
theorem mul_fin {x y : Nat} (hx : mg x < 9218868437227405312) (hy : mg y < 9218868437227405312) : ∃ r, double.mul x y = some r := by
  obtain ⟨M, P, e1, _, _⟩ := read_fin x hx
  obtain ⟨N, Q, e2, _, _⟩ := read_fin y hy
  unfold Format.mul; rw [e1, e2]; exact ⟨_, rfl⟩
theorem uval_pos {m : Nat} (h : 0 < m) : 0 < uval m := by
  have := uval_lt h
  rw [uval_small (by omega)] at this; omega
theorem div_fin {x y : Nat} (hx : mg x < 9218868437227405312) (hy : mg y < 9218868437227405312) (h0 : 0 < mg y) : ∃ r, double.div x y = some r := by
  obtain ⟨M, P, e1, _, _⟩ := read_fin x hx
  obtain ⟨N, Q, e2, _, v2⟩ := read_fin y hy
  have hN : N ≠ 0 := by
    have := uval_pos h0
    intro h; subst h; simp at v2; omega
  unfold Format.div; rw [e1, e2]
  simp only [Datum.quotient, if_neg hN]; exact ⟨_, rfl⟩
theorem sqrt_fin {x : Nat} (hx : mg x < 9218868437227405312) (h : ng x = false ∨ mg x = 0) : ∃ r, double.sqrt x = some r := by
  obtain ⟨M, P, e1, _, v1⟩ := read_fin x hx
  unfold Format.sqrt; rw [e1]
  simp only [Datum.root]
  by_cases hM : M = 0
  · rw [if_pos hM]; exact ⟨_, rfl⟩
  · rw [if_neg hM]
    have hs : ng x = false := by
      rcases h with h | h
      · exact h
      · rw [h, uval_small (by omega)] at v1
        rcases Nat.mul_eq_zero.1 v1 with h2 | h2
        · exact absurd h2 hM
        · have := Nat.two_pow_pos (P + 1074).toNat; omega
    rw [hs]; exact ⟨_, rfl⟩
end Go.Proofs.Ytghcoijinihlnaa.Fl
