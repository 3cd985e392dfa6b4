/-
  Floats as bits; what round's calls return of them; the greatest float not above a ratio and the least not below. Conditions: floats of 64 bits, as each theorem states.
-/
import Derived.Test.YtobbedcaeffbaaaGreatDoorRows
import Derived.Laws.FloatArith
import Derived.WalkKit
import Derived.WalkSpells
import Derived.WalkLawsBesides
import Derived.Deep.Draws
import Derived.Lib.Hide
import Derived.Handy
import Derived.OwnWalk
import Derived.Laws.Rows
import Derived.Laws.Externs
import Derived.Laws.BitsAllLaws
namespace Go.Proofs.YtobbedcaeffbaaaGreatDoor.Fl
open Ieee
/-- The lower 63 bits of a float's word: the floats from nought upward are counted by them. -/
def mg (x : Nat) : Nat := x % 9223372036854775808
/-- The sign's bit. -/
def ng (x : Nat) : Bool := x / 9223372036854775808 % 2 == 1
/-- How many units of the least float a float's size is. -/
def uval (m : Nat) : Nat := if m < 4503599627370496 then m else (4503599627370496 + m % 4503599627370496) * 2 ^ (m / 4503599627370496 - 1)
theorem uval_small {m : Nat} (h : m < 4503599627370496) : uval m = m := by simp [uval, h]
theorem uval_step (m : Nat) : uval m < uval (m + 1) := by
  unfold uval
  by_cases h1 : m < 4503599627370496
  · by_cases h2 : m + 1 < 4503599627370496
    · simp [h1, h2]
    · have : m + 1 = 4503599627370496 := by omega
      rw [if_pos h1, if_neg h2, this]; simp; omega
  · have h2 : ¬ m + 1 < 4503599627370496 := by omega
    rw [if_neg h1, if_neg h2]
    by_cases h3 : m % 4503599627370496 + 1 < 4503599627370496
    · have e1 : (m + 1) / 4503599627370496 = m / 4503599627370496 := by omega
      have e2 : (m + 1) % 4503599627370496 = m % 4503599627370496 + 1 := by omega
      rw [e1, e2]
      exact Nat.mul_lt_mul_of_pos_right (by omega) (Nat.two_pow_pos _)
    · have e1 : (m + 1) / 4503599627370496 = m / 4503599627370496 + 1 := by omega
      have e2 : (m + 1) % 4503599627370496 = 0 := by omega
      obtain ⟨k, hk⟩ : ∃ k, m / 4503599627370496 = k + 1 := ⟨m / 4503599627370496 - 1, by omega⟩
      rw [e1, e2, hk]
      simp only [Nat.add_sub_cancel, Nat.add_zero]
      rw [Nat.pow_succ, Nat.mul_comm (2 ^ k) 2, ← Nat.mul_assoc]
      exact Nat.mul_lt_mul_of_pos_right (by omega) (Nat.two_pow_pos _)
theorem uval_lt {m n : Nat} (h : m < n) : uval m < uval n := by
  induction h with
  | refl => exact uval_step _
  | step _ ih => exact Nat.lt_trans ih (uval_step _)
theorem uval_cmp (m n : Nat) : (uval m < uval n ↔ m < n) ∧ (uval m = uval n ↔ m = n) := by
  rcases Nat.lt_trichotomy m n with h | h | h
  · have := uval_lt h; omega
  · subst h; simp
  · have := uval_lt h; omega
theorem d_binade : double.binade = 4503599627370496 := rfl
theorem d_inf : double.infRung = 9218868437227405312 := by decide
theorem d_sw : double.signWeight = 9223372036854775808 := by decide
theorem d_lp : double.leastPlace = -1074 := by decide
/-- What a finite word stands for. -/
theorem read_fin (x : Nat) (h : mg x < 9218868437227405312) : ∃ (M : Nat) (P : Int), double.read x = .number (ng x) M P ∧ -1074 ≤ P ∧ M * 2 ^ (P + 1074).toNat = uval (mg x) := by
  unfold Format.read
  rw [d_binade, d_inf, d_sw, d_lp]
  simp only []
  change ∃ M P, (if mg x < 4503599627370496 then Datum.number (ng x) (mg x) (-1074) else if mg x < 9218868437227405312 then Datum.number (ng x) (4503599627370496 + mg x % 4503599627370496) (-1074 + (mg x / 4503599627370496 - 1 : Nat)) else _) = _ ∧ _
  by_cases h1 : mg x < 4503599627370496
  · rw [if_pos h1]
    exact ⟨_, _, rfl, by omega, by simp [uval, h1]⟩
  · rw [if_neg h1, if_pos h]
    refine ⟨_, _, rfl, by omega, ?_⟩
    rw [uval, if_neg h1]
    congr 2
    omega
theorem read_inf (x : Nat) (h : mg x = 9218868437227405312) : double.read x = .infinity (ng x) := by
  unfold Format.read
  rw [d_binade, d_inf, d_sw]
  simp only []
  change (if mg x < 4503599627370496 then _ else if mg x < 9218868437227405312 then _ else if mg x = 9218868437227405312 then Datum.infinity (ng x) else _) = _
  rw [if_neg (by omega), if_neg (by omega), if_pos h]
theorem read_nan (x : Nat) (h : 9218868437227405312 < mg x) : double.read x = .nan (ng x) (mg x - 9218868437227405312) := by
  unfold Format.read
  rw [d_binade, d_inf, d_sw]
  simp only []
  change (if mg x < 4503599627370496 then _ else if mg x < 9218868437227405312 then _ else if mg x = 9218868437227405312 then _ else Datum.nan (ng x) (mg x - 9218868437227405312)) = _
  rw [if_neg (by omega), if_neg (by omega), if_neg (by omega)]
/-- The floats in their order: by sign and size. -/
def key (x : Nat) : Int := if ng x then -(mg x : Int) else mg x
/-- A finite float's worth, in units of the least one. -/
def sval (x : Nat) : Int := if ng x then -(uval (mg x) : Int) else uval (mg x)
theorem cmp_lt {a b : Int} (h : a < b) : compare a b = .lt := by simp [compare, compareOfLessAndEq, h]
theorem cmp_gt {a b : Int} (h : b < a) : compare a b = .gt := by
  have h1 : ¬ a < b := by omega
  have h2 : a ≠ b := by omega
  simp [compare, compareOfLessAndEq, h1, h2]
theorem cmp_eq (a : Int) : compare a a = .eq := by simp [compare, compareOfLessAndEq]
theorem cmp_same {a b c d : Int} (h1 : a < b ↔ c < d) (h2 : a = b ↔ c = d) : compare a b = compare c d := by
  simp [compare, compareOfLessAndEq, h1, h2]
theorem signed_scale (s : Bool) (M : Nat) (i j : Nat) : signed s M (i + j) = signed s M i * (2 ^ j : Nat) := by
  unfold signed
  rw [Nat.shiftLeft_eq, Nat.shiftLeft_eq, Nat.pow_add, ← Nat.mul_assoc]
  split
  · rw [Int.natCast_mul]; exact (Int.neg_mul _ _).symm
  · rw [Int.natCast_mul]
theorem signed_sval {x M : Nat} {P base : Int} (h : M * 2 ^ (P + 1074).toNat = uval (mg x)) (hb : base ≤ P) (hp : -1074 ≤ base) : sval x = signed (ng x) M (P - base).toNat * (2 ^ (base + 1074).toNat : Nat) := by
  rw [← signed_scale, show (P - base).toNat + (base + 1074).toNat = (P + 1074).toNat by omega]
  unfold sval signed
  rw [Nat.shiftLeft_eq, h]
theorem sval_cmp (x y : Nat) : (sval x < sval y ↔ key x < key y) ∧ (sval x = sval y ↔ key x = key y) := by
  have h1 := uval_cmp (mg x) (mg y)
  have h2 := uval_cmp (mg y) (mg x)
  have h0 : uval 0 = 0 := uval_small (by omega)
  have h3 := uval_cmp 0 (mg x)
  have h4 := uval_cmp 0 (mg y)
  rw [h0] at h3 h4
  unfold sval key
  split <;> split <;> constructor <;> omega
theorem order_key (x y : Nat) (hx : mg x ≤ 9218868437227405312) (hy : mg y ≤ 9218868437227405312) : double.order x y = some (compare (key x) (key y)) := by
  unfold Format.order
  have hxy : mg x < 9218868437227405312 ∨ mg x = 9218868437227405312 := by omega
  have hyy : mg y < 9218868437227405312 ∨ mg y = 9218868437227405312 := by omega
  rcases hxy with h | h
  · obtain ⟨M, P, e1, p1, v1⟩ := read_fin x h
    rcases hyy with k | k
    · obtain ⟨N, Q, e2, p2, v2⟩ := read_fin y k
      rw [e1, e2]
      simp only [Datum.order]
      congr 1
      have a1 := signed_sval v1 (Int.min_le_left P Q) (by omega)
      have a2 := signed_sval v2 (Int.min_le_right P Q) (by omega)
      have hk : 0 < ((2 ^ (min P Q + 1074).toNat : Nat) : Int) := Int.natCast_pos.2 (Nat.two_pow_pos _)
      have s := sval_cmp x y
      rw [a1, a2] at s
      refine cmp_same ?_ ?_
      · rw [← s.1]; exact (Int.mul_lt_mul_right hk).symm
      · rw [← s.2]; exact (Int.mul_eq_mul_right_iff (by omega)).symm
    · rw [e1, read_inf y k]
      simp only [Datum.order]
      congr 1
      unfold key
      cases ng y <;> simp only [Bool.false_eq_true, if_false, if_true]
      · exact (cmp_lt (by split <;> omega)).symm
      · exact (cmp_gt (by split <;> omega)).symm
  · rcases hyy with k | k
    · obtain ⟨N, Q, e2, p2, v2⟩ := read_fin y k
      rw [e2, read_inf x h]
      simp only [Datum.order]
      congr 1
      unfold key
      cases ng x <;> simp only [Bool.false_eq_true, if_false, if_true]
      · exact (cmp_gt (by split <;> omega)).symm
      · exact (cmp_lt (by split <;> omega)).symm
    · rw [read_inf x h, read_inf y k]
      simp only [Datum.order]
      congr 1
      unfold key
      rw [h, k]
      cases ng x <;> cases ng y <;> rfl
theorem order_nan (x y : Nat) (h : 9218868437227405312 < mg x ∨ 9218868437227405312 < mg y) : double.order x y = none := by
  unfold Format.order
  rcases h with h | h
  · rw [read_nan x h]; rfl
  · rw [read_nan y h]; cases double.read x <;> rfl
/-- Which datum is a number or an infinity. -/
def Told : Datum → Prop
  | .nan .. => False
  | _ => True
theorem word_mg (s : Bool) (k : Nat) (h : k < 9223372036854775808) : mg (double.word s k) = k ∧ ng (double.word s k) = s := by
  unfold Format.word mg ng
  rw [d_sw]
  cases s
  · simp only [Bool.false_eq_true, if_false]
    refine ⟨by omega, ?_⟩
    rw [Nat.div_eq_of_lt h]; rfl
  · simp only [if_true]
    refine ⟨by omega, ?_⟩
    rw [show (9223372036854775808 + k) / 9223372036854775808 = 1 by omega]; rfl
theorem nearest_mg (s : Bool) (m : Nat) (p : Int) : mg (double.nearest s m p) ≤ 9218868437227405312 ∧ ng (double.nearest s m p) = s := by
  unfold Format.nearest
  rw [d_inf]
  dsimp only
  split
  · have := word_mg s 0 (by omega); exact ⟨by omega, this.2⟩
  · have := word_mg s (min ((max (p + ↑m.log2 - ↑double.fractionBits) double.leastPlace - double.leastPlace).toNat * double.binade + Toward.even.cut s (m <<< (p - max (p + ↑m.log2 - ↑double.fractionBits) double.leastPlace).toNat) (max (p + ↑m.log2 - ↑double.fractionBits) double.leastPlace - p).toNat) 9218868437227405312) (by omega)
    exact ⟨by omega, this.2⟩
theorem write_mg (d : Datum) (h : Told d) : mg (double.write d) ≤ 9218868437227405312 ∧ ng (double.write d) = d.neg ∧ double.write d < 18446744073709551616 := by
  refine ⟨?_, ?_, double.write_lt d⟩
  · cases d with
    | number s m p => exact (nearest_mg s m p).1
    | infinity s => have := word_mg s 9218868437227405312 (by omega); show mg (double.word s double.infRung) ≤ _; rw [d_inf]; omega
    | nan => exact h.elim
  · cases d with
    | number s m p => exact (nearest_mg s m p).2
    | infinity s => have := word_mg s 9218868437227405312 (by omega); show ng (double.word s double.infRung) = _; rw [d_inf]; exact this.2
    | nan => exact h.elim
theorem sum_told {a b d : Datum} (h : a.sum b = some d) : Told d := by
  cases a <;> cases b <;> simp [Datum.sum] at h <;> first | (subst h; trivial) | (obtain ⟨_, rfl⟩ := h; trivial) | (split at h <;> first | (cases h; trivial) | cases h)
/-- What an operation answers, if it answers, is a float of 64 bits and no NaN. -/
theorem map_told {o : Option Datum} {r : Nat} (ho : ∀ d, o = some d → Told d) (h : o.map double.write = some r) : mg r ≤ 9218868437227405312 ∧ r < 18446744073709551616 := by
  cases o with
  | none => cases h
  | some d => cases h; exact ⟨(write_mg d (ho d rfl)).1, (write_mg d (ho d rfl)).2.2⟩
theorem add_told {x y r : Nat} (h : double.add x y = some r) : mg r ≤ 9218868437227405312 ∧ r < 18446744073709551616 := map_told (fun _ => sum_told) h
theorem uval_pos {m : Nat} (h : 0 < m) : 0 < uval m := by
  have := uval_lt h
  rw [uval_small (by omega)] at this; omega
end Go.Proofs.YtobbedcaeffbaaaGreatDoor.Fl
namespace Go.Proofs.YtobbedcaeffbaaaGreatDoor.Fl
open Go.RowKit Ieee
theorem run_bits (x : Nat) (w : World) : (callFunc 27 #[.float .f64 x]).run Tryz.prog w = .ok (.value (.int .u64 x)) w := by
  rw [run_callFunc_extern Tryz.func27 (by kernel_rfl) (by kernel_rfl) (by kernel_rfl) (e := Extern.MathFloatBits.float64bits) (by kernel_rfl)]
  rfl
theorem run_from (n : Int) (w : World) : (callFunc 67 #[.int .u64 n]).run Tryz.prog w = .ok (.value (.float .f64 n.toNat)) w := by
  rw [run_callFunc_extern Tryz.func67 (by kernel_rfl) (by kernel_rfl) (by kernel_rfl) (e := Extern.MathFloatBits.float64frombits) (by kernel_rfl)]
  rfl
end Go.Proofs.YtobbedcaeffbaaaGreatDoor.Fl
namespace Go.Proofs.YtobbedcaeffbaaaGreatDoor.Fl
open Go.RowKit Ieee
/-- Is the answer exact? -/
def exactly (own lost : Nat) : Bool := decide (0 < mg own ∧ mg own < 9218868437227405312) && (double.order lost 0 == some .eq)
/-- The rung behind which the exact result lies: that of the own answer, or the one before it. -/
def near (own lost : Nat) : Nat := if mg own = 0 then 0 else if mg own < 9218868437227405312 ∧ (double.order lost 0 == some .gt) = (double.order own 0 == some .gt) then mg own else mg own - 1
/-- The own answer twice, or the two floats at that rung. -/
def lo (own lost : Nat) : Nat := if exactly own lost then own else double.word (ng own) (near own lost + (ng own).toNat)
def hi (own lost : Nat) : Nat := if exactly own lost then own else double.word (ng own) (near own lost + (!ng own).toNat)
end Go.Proofs.YtobbedcaeffbaaaGreatDoor.Fl
namespace Go.Proofs.YtobbedcaeffbaaaGreatDoor.Fl
open Go.RowKit Ieee
/-- A float with the other sign. -/
def ngf (x : Nat) : Nat := x ^^^ 9223372036854775808
theorem ngf_is {x : Nat} (h : x < 18446744073709551616) : mg (ngf x) = mg x ∧ ng (ngf x) = !ng x := by
  have e0 : ngf x % 2 ^ 63 = x % 2 ^ 63 := by
    unfold ngf
    rw [Nat.xor_mod_two_pow]; simp
  have e1 : ngf x / 2 ^ 63 = (x / 2 ^ 63) ^^^ 1 := by
    unfold ngf
    have := Nat.shiftRight_xor_distrib (a := x) (b := 9223372036854775808) (i := 63)
    rw [Nat.shiftRight_eq_div_pow, Nat.shiftRight_eq_div_pow, Nat.shiftRight_eq_div_pow] at this
    rw [this]
  refine ⟨e0, ?_⟩
  unfold ng
  rw [show (9223372036854775808 : Nat) = 2 ^ 63 by decide, e1]
  have : x / 2 ^ 63 = 0 ∨ x / 2 ^ 63 = 1 := by omega
  rcases this with h | h <;> rw [h] <;> rfl
theorem run_ngf (x : Nat) : Op.unary .neg (.float .f64 x) = pure (.float .f64 (ngf x)) := rfl
theorem ord_eq (x y : Nat) : (FloatKind.f64.format.order x y == some .eq) = decide (mg x ≤ 9218868437227405312 ∧ mg y ≤ 9218868437227405312 ∧ key x = key y) := by
  show (double.order x y == some .eq) = _
  by_cases h : mg x ≤ 9218868437227405312 ∧ mg y ≤ 9218868437227405312
  · rw [order_key x y h.1 h.2]
    rcases Int.lt_trichotomy (key x) (key y) with g | g | g
    · rw [cmp_lt g, decide_eq_false (by omega)]; rfl
    · rw [g, cmp_eq, decide_eq_true ⟨h.1, h.2, rfl⟩]; rfl
    · rw [cmp_gt g, decide_eq_false (by omega)]; rfl
  · rw [order_nan x y (by omega), decide_eq_false (fun g => h ⟨g.1, g.2.1⟩)]; rfl
end Go.Proofs.YtobbedcaeffbaaaGreatDoor.Fl
namespace Go.Proofs.YtobbedcaeffbaaaGreatDoor.Fl
open Go.RowKit Ieee
end Go.Proofs.YtobbedcaeffbaaaGreatDoor.Fl
namespace Go.Proofs.YtobbedcaeffbaaaGreatDoor.Fl
open Ieee
theorem cut_even (s : Bool) (n d : Nat) : ∃ k r, n = k * 2 ^ d + r ∧ r < 2 ^ d ∧
    ((Toward.even.cut s n d = k ∧ 2 * r ≤ 2 ^ d ∧ (2 * r = 2 ^ d → k % 2 = 0)) ∨ (Toward.even.cut s n d = k + 1 ∧ 2 ^ d ≤ 2 * r ∧ (2 * r = 2 ^ d → k % 2 = 1))) := by
  have hd : 0 < 2 ^ d := Nat.two_pow_pos _
  refine ⟨n / 2 ^ d, n % 2 ^ d, by rw [Nat.mul_comm]; exact (Nat.div_add_mod _ _).symm, Nat.mod_lt _ hd, ?_⟩
  unfold Toward.cut
  rw [Nat.shiftLeft_eq, Nat.one_mul]
  dsimp only
  by_cases h : d ≤ n.log2 + 2
  · rw [Nat.min_eq_left h]
    obtain ⟨g, hg⟩ : ∃ g, 2 ^ d = g := ⟨_, rfl⟩
    rw [hg] at hd ⊢
    obtain ⟨k, hk⟩ : ∃ k, n / g = k := ⟨_, rfl⟩
    obtain ⟨r, hr⟩ : ∃ r, n % g = r := ⟨_, rfl⟩
    rw [hk, hr]
    by_cases h1 : g < 2 * r
    · right; simp [h1]; omega
    · by_cases h2 : g = 2 * r
      · rcases Nat.mod_two_eq_zero_or_one k with h3 | h3
        · left; simp [h1, h3]; omega
        · right; simp [h2, h3]
      · left; simp [h1, h2]; omega
  · rw [Nat.min_eq_right (by omega)]
    have h1 := @Nat.lt_log2_self n
    have h2 : n * 2 < 2 ^ (n.log2 + 2) := by rw [Nat.pow_succ]; omega
    have h3 : 2 ^ (n.log2 + 2) ≤ 2 ^ d := Nat.pow_le_pow_right (by omega) (by omega)
    obtain ⟨g, hg⟩ : ∃ g, 2 ^ (n.log2 + 2) = g := ⟨_, rfl⟩
    rw [hg] at h2 h3 ⊢
    left
    rw [Nat.div_eq_of_lt (by omega), Nat.mod_eq_of_lt (by omega), Nat.div_eq_of_lt (show n < 2 ^ d by omega), Nat.mod_eq_of_lt (show n < 2 ^ d by omega)]
    have h4 : ¬ g < 2 * n := by omega
    have h5 : ¬ g = 2 * n := by omega
    simp [h4]; omega
theorem uval_bin {e k : Nat} (h : e = 0 ∨ 4503599627370496 ≤ k) (hk : k ≤ 9007199254740992) : uval (e * 4503599627370496 + k) = k * 2 ^ e := by
  unfold uval
  rcases Nat.lt_or_ge k 4503599627370496 with h1 | h1
  · have : e = 0 := by omega
    subst this
    rw [if_pos (by omega)]; simp
  · rw [if_neg (by omega)]
    rcases Nat.lt_or_eq_of_le hk with h2 | h2
    · have e1 : (e * 4503599627370496 + k) / 4503599627370496 = e + 1 := by omega
      have e2 : (e * 4503599627370496 + k) % 4503599627370496 = k - 4503599627370496 := by omega
      rw [e1, e2, show 4503599627370496 + (k - 4503599627370496) = k by omega, Nat.add_sub_cancel]
    · have e1 : (e * 4503599627370496 + k) / 4503599627370496 = e + 2 := by omega
      have e2 : (e * 4503599627370496 + k) % 4503599627370496 = 0 := by omega
      rw [e1, e2, h2, show e + 2 - 1 = e + 1 by omega, Nat.pow_succ, Nat.mul_comm (2 ^ e) 2, ← Nat.mul_assoc]
/-- R is the rung nearest to m times 2 to the p; between two the even one. -/
def NearR (m : Nat) (p : Int) (R : Nat) : Prop := ∀ A B : Nat, (A : Int) - B = p + 1074 →
  2 * (m * 2 ^ A) ≤ (uval R + uval (R + 1)) * 2 ^ B ∧ (2 * (m * 2 ^ A) = (uval R + uval (R + 1)) * 2 ^ B → R % 2 = 0) ∧
  ∀ Q, R = Q + 1 → (uval Q + uval R) * 2 ^ B ≤ 2 * (m * 2 ^ A) ∧ ((uval Q + uval R) * 2 ^ B = 2 * (m * 2 ^ A) → R % 2 = 0)
theorem near_spec (s : Bool) (m : Nat) (p : Int) : ∃ R, double.nearest s m p = double.word s (min R 9218868437227405312) ∧ NearR m p R := by
  rcases Nat.eq_zero_or_pos m with h0 | h0
  · subst h0
    refine ⟨0, by simp [Format.nearest], fun A B _ => ⟨by simp, fun h => rfl, fun Q h => by omega⟩⟩
  · unfold Format.nearest
    rw [d_inf, d_binade, d_lp, if_neg (by omega)]
    dsimp only
    have hfb : (double.fractionBits : Int) = 52 := rfl
    rw [hfb]
    obtain ⟨last, hlast⟩ : ∃ last, max (p + ↑m.log2 - 52) (-1074) = last := ⟨_, rfl⟩
    rw [hlast]
    obtain ⟨e, he⟩ : ∃ e : Nat, last = (e : Int) - 1074 := ⟨(last + 1074).toNat, by omega⟩
    have hen : (last - -1074).toNat = e := by omega
    rw [hen]
    have l1 := Nat.log2_self_le (n := m) (by omega)
    have l2 := @Nat.lt_log2_self m
    by_cases hp : last ≤ p
    · -- nothing is dropped
      have hz : (last - p).toNat = 0 := by omega
      obtain ⟨j, hj⟩ : ∃ j : Nat, p = last + j := ⟨(p - last).toNat, by omega⟩
      have hjn : (p - last).toNat = j := by omega
      rw [hz, hjn]
      obtain ⟨k, r, h1, h2, h3⟩ := cut_even s (m <<< j) 0
      simp only [Nat.pow_zero] at h1 h2 h3
      have hr : r = 0 := by omega
      subst hr
      have hcut : Toward.even.cut s (m <<< j) 0 = k := by rcases h3 with h | h <;> omega
      rw [hcut]
      have hk : k = m * 2 ^ j := by rw [← Nat.shiftLeft_eq]; omega
      have hlo : e = 0 ∨ 4503599627370496 ≤ k := by
        rcases Nat.eq_zero_or_pos e with h | h
        · exact .inl h
        · right
          have : m.log2 + j = 52 := by omega
          have h5 := Nat.mul_le_mul_right (2 ^ j) l1
          rw [← Nat.pow_add, this] at h5
          rw [hk]; exact h5
      have hhi : k < 9007199254740992 := by
        have : m.log2 + 1 + j ≤ 53 := by omega
        have h5 := Nat.mul_lt_mul_of_pos_right l2 (Nat.two_pow_pos j)
        rw [← Nat.pow_add] at h5
        have h6 := Nat.pow_le_pow_right (n := 2) (by omega) this
        rw [hk]; exact Nat.lt_of_lt_of_le h5 h6
      have hu := uval_bin hlo (Nat.le_of_lt hhi)
      refine ⟨_, rfl, fun A B hab => ?_⟩
      have hA : A = j + e + B := by omega
      have hv : m * 2 ^ A = uval (e * 4503599627370496 + k) * 2 ^ B := by
        rw [hu, hk, hA, Nat.pow_add, Nat.pow_add, Nat.mul_assoc, Nat.mul_assoc, Nat.mul_assoc]
      have hB := Nat.two_pow_pos B
      have hs := uval_step (e * 4503599627370496 + k)
      rw [hv]
      obtain ⟨R, hR⟩ : ∃ R, e * 4503599627370496 + k = R := ⟨_, rfl⟩
      rw [hR] at hs hv ⊢
      rw [hR] at hu
      clear hu hhi hlo
      have t1 := Nat.mul_lt_mul_of_pos_right hs hB
      refine ⟨by rw [Nat.add_mul]; omega, fun h => by rw [Nat.add_mul] at h; omega, fun Q hQ => ?_⟩
      subst hQ
      have t2 := Nat.mul_lt_mul_of_pos_right (uval_step Q) hB
      exact ⟨by rw [Nat.add_mul]; omega, fun h => by rw [Nat.add_mul] at h; omega⟩
    · obtain ⟨d, hd⟩ : ∃ d : Nat, last = p + d := ⟨(last - p).toNat, by omega⟩
      have hdn : (last - p).toNat = d := by omega
      have hz : (p - last).toNat = 0 := by omega
      rw [hdn, hz, Nat.shiftLeft_zero]
      obtain ⟨k, r, h1, h2, h3⟩ := cut_even s m d
      have hD := Nat.two_pow_pos d
      have hlo : e = 0 ∨ 4503599627370496 ≤ k := by
        rcases Nat.eq_zero_or_pos e with h | h
        · exact .inl h
        · right
          have : m.log2 = 52 + d := by omega
          rw [this, Nat.pow_add, show (2 : Nat) ^ 52 = 4503599627370496 by decide] at l1
          rcases Nat.lt_or_ge k 4503599627370496 with h5 | h5
          · exfalso
            have h6 := Nat.mul_le_mul_right (2 ^ d) (show k + 1 ≤ 4503599627370496 by omega)
            rw [Nat.add_mul] at h6; omega
          · exact h5
      have hhi : k < 9007199254740992 := by
        have : m.log2 + 1 ≤ 53 + d := by omega
        have h6 := Nat.pow_le_pow_right (n := 2) (by omega) this
        rw [Nat.pow_add 2 53 d, show (2 : Nat) ^ 53 = 9007199254740992 by decide] at h6
        rcases Nat.lt_or_ge k 9007199254740992 with h5 | h5
        · exact h5
        · exfalso
          have h7 := Nat.mul_le_mul_right (2 ^ d) h5
          omega
      have u0 := uval_bin hlo (Nat.le_of_lt hhi)
      have u1 := uval_bin (e := e) (k := k + 1) (by omega) (by omega)
      rw [show e * 4503599627370496 + (k + 1) = e * 4503599627370496 + k + 1 by omega] at u1
      -- 2 m 2^A against odd multiples, over a common factor
      have key : ∀ A B : Nat, (A : Int) - B = p + 1074 → ∀ x : Nat, (2 * (m * 2 ^ A) ≤ x * 2 ^ e * 2 ^ B ↔ 2 * m ≤ x * 2 ^ d) ∧ (x * 2 ^ e * 2 ^ B ≤ 2 * (m * 2 ^ A) ↔ x * 2 ^ d ≤ 2 * m) := fun A B hab x => by
        have hA : A + d = e + B := by omega
        have hF := Nat.two_pow_pos (e + B)
        have a1 : 2 * (m * 2 ^ A) * 2 ^ d = 2 * m * 2 ^ (e + B) := by
          rw [← hA, Nat.pow_add]; simp only [Nat.mul_assoc]
        have a2 : x * 2 ^ e * 2 ^ B * 2 ^ d = x * 2 ^ d * 2 ^ (e + B) := by
          rw [Nat.pow_add]; simp only [Nat.mul_assoc]
          rw [Nat.mul_comm (2 ^ d) (2 ^ e * 2 ^ B)]; simp only [Nat.mul_assoc]
        constructor
        · constructor
          · intro h
            have := Nat.mul_le_mul_right (2 ^ d) h
            rw [a1, a2] at this
            exact Nat.le_of_mul_le_mul_right this hF
          · intro h
            have := Nat.mul_le_mul_right (2 ^ (e + B)) h
            rw [← a1, ← a2] at this
            exact Nat.le_of_mul_le_mul_right this hD
        · constructor
          · intro h
            have := Nat.mul_le_mul_right (2 ^ d) h
            rw [a1, a2] at this
            exact Nat.le_of_mul_le_mul_right this hF
          · intro h
            have := Nat.mul_le_mul_right (2 ^ (e + B)) h
            rw [← a1, ← a2] at this
            exact Nat.le_of_mul_le_mul_right this hD
      have hs2 : uval (e * 4503599627370496 + k) + uval (e * 4503599627370496 + k + 1) = (2 * k + 1) * 2 ^ e := by
        rw [u0, u1, ← Nat.add_mul]; congr 1; omega
      have hm : 2 * m = 2 * (k * 2 ^ d) + 2 * r := by omega
      have hx : (2 * k + 1) * 2 ^ d = 2 * (k * 2 ^ d) + 2 ^ d := by rw [Nat.add_mul, Nat.one_mul, Nat.mul_assoc]
      rcases h3 with ⟨hc, h4, h5⟩ | ⟨hc, h4, h5⟩
      · rw [hc]
        refine ⟨_, rfl, fun A B hab => ?_⟩
        have kk := key A B hab (2 * k + 1)
        have k2 := key A B hab (2 * k)
        rw [hs2]
        refine ⟨kk.1.2 (by omega), fun h => ?_, fun Q hQ => ?_⟩
        · have := kk.2.1 (Nat.le_of_eq h.symm)
          have := h5 (by omega)
          omega
        · have hq := uval_step Q
          rw [← hQ] at hq
          have e3 : uval (e * 4503599627370496 + k) * 2 ^ B ≤ m * 2 ^ A := by
            have h9 := k2.2.2 (by rw [Nat.mul_assoc]; omega)
            rw [u0]
            rw [Nat.mul_assoc 2 k, Nat.mul_assoc 2] at h9
            omega
          have t2 := Nat.mul_lt_mul_of_pos_right hq (Nat.two_pow_pos B)
          exact ⟨by rw [Nat.add_mul]; omega, fun h => by rw [Nat.add_mul] at h; omega⟩
      · rw [hc]
        refine ⟨_, rfl, fun A B hab => ?_⟩
        have kk := key A B hab (2 * k + 1)
        have k2 := key A B hab (2 * (k + 1))
        rw [show e * 4503599627370496 + (k + 1) = e * 4503599627370496 + k + 1 by omega]
        have e3 : m * 2 ^ A ≤ uval (e * 4503599627370496 + k + 1) * 2 ^ B := by
          have h9 := k2.1.2 (by rw [Nat.mul_assoc, Nat.add_mul, Nat.one_mul]; omega)
          rw [u1]
          rw [Nat.mul_assoc 2 (k + 1), Nat.mul_assoc 2] at h9
          omega
        have hq := uval_step (e * 4503599627370496 + k + 1)
        have t2 := Nat.mul_lt_mul_of_pos_right hq (Nat.two_pow_pos B)
        refine ⟨by rw [Nat.add_mul]; omega, fun h => by rw [Nat.add_mul] at h; omega, fun Q hQ => ?_⟩
        obtain rfl : Q = e * 4503599627370496 + k := by omega
        rw [hs2]
        refine ⟨kk.2.2 (by omega), fun h => ?_⟩
        have := kk.1.1 (Nat.le_of_eq h.symm)
        have := h5 (by omega)
        omega
end Go.Proofs.YtobbedcaeffbaaaGreatDoor.Fl
namespace Go.Proofs.YtobbedcaeffbaaaGreatDoor.Fl
open Ieee
theorem nearR_unique {m : Nat} {p : Int} {R S : Nat} (h : NearR m p R) (k : NearR m p S) : R = S := by
  have main : ∀ {R S : Nat}, NearR m p R → NearR m p S → ¬ R < S := fun {R S} h k hlt => by
    obtain ⟨A, B, hab⟩ : ∃ A B : Nat, (A : Int) - B = p + 1074 := ⟨(p + 1074).toNat, (-(p + 1074)).toNat, by omega⟩
    have h1 := h A B hab
    obtain ⟨Q, rfl⟩ : ∃ Q, S = Q + 1 := ⟨S - 1, by omega⟩
    have k1 := (k A B hab).2.2 Q rfl
    have hB := Nat.two_pow_pos B
    rcases Nat.lt_or_eq_of_le (show R ≤ Q by omega) with g | g
    · have a := Nat.mul_lt_mul_of_pos_right (show uval R + uval (R + 1) < uval Q + uval (Q + 1) by
        have := uval_lt g; have := uval_lt (show R + 1 < Q + 1 by omega); omega) hB
      omega
    · subst g
      have e : 2 * (m * 2 ^ A) = (uval R + uval (R + 1)) * 2 ^ B := by omega
      have := h1.2.1 e
      have := k1.2 e.symm
      omega
  have a := main h k
  have b := main k h
  omega
/-- A greater number is not rounded to a lesser rung. -/
theorem nearR_mono {m n : Nat} {p q : Int} {R S : Nat} (h : NearR m p R) (k : NearR n q S) (A B C D : Nat) (h1 : (A : Int) - B = p + 1074) (h2 : (C : Int) - D = q + 1074) (hle : m * 2 ^ A * 2 ^ D ≤ n * 2 ^ C * 2 ^ B) : R ≤ S := by
  rcases Nat.lt_or_ge S R with g | g
  · exfalso
    obtain ⟨Q, rfl⟩ : ∃ Q, R = Q + 1 := ⟨R - 1, by omega⟩
    have a := (h A B h1).2.2 Q rfl
    have b := k C D h2
    have hBD : 0 < 2 ^ B * 2 ^ D := Nat.mul_pos (Nat.two_pow_pos B) (Nat.two_pow_pos D)
    have x1 := Nat.mul_le_mul_right (2 ^ D) a.1
    have x2 := Nat.mul_le_mul_right (2 ^ B) b.1
    have e1 : 2 * (m * 2 ^ A) * 2 ^ D = 2 * (m * 2 ^ A * 2 ^ D) := by rw [Nat.mul_assoc]
    have e2 : 2 * (n * 2 ^ C) * 2 ^ B = 2 * (n * 2 ^ C * 2 ^ B) := by rw [Nat.mul_assoc]
    have e3 : (uval S + uval (S + 1)) * 2 ^ D * 2 ^ B = (uval S + uval (S + 1)) * (2 ^ B * 2 ^ D) := by rw [Nat.mul_assoc, Nat.mul_comm (2 ^ D)]
    have e4 : (uval Q + uval (Q + 1)) * 2 ^ B * 2 ^ D = (uval Q + uval (Q + 1)) * (2 ^ B * 2 ^ D) := by rw [Nat.mul_assoc]
    rw [e1, e4] at x1
    rw [e2, e3] at x2
    rcases Nat.lt_or_eq_of_le (show S ≤ Q by omega) with g | g
    · have c := Nat.mul_lt_mul_of_pos_right (show uval S + uval (S + 1) < uval Q + uval (Q + 1) by
        have := uval_lt g; have := uval_lt (show S + 1 < Q + 1 by omega); omega) hBD
      omega
    · subst g
      have eq1 : (uval S + uval (S + 1)) * (2 ^ B * 2 ^ D) = 2 * (m * 2 ^ A * 2 ^ D) := by omega
      have eq2 : 2 * (n * 2 ^ C * 2 ^ B) = (uval S + uval (S + 1)) * (2 ^ B * 2 ^ D) := by omega
      have f1 : (uval S + uval (S + 1)) * 2 ^ B = 2 * (m * 2 ^ A) := by
        refine Nat.eq_of_mul_eq_mul_right (Nat.two_pow_pos D) ?_
        rw [e4, e1]; exact eq1
      have f2 : 2 * (n * 2 ^ C) = (uval S + uval (S + 1)) * 2 ^ D := by
        refine Nat.eq_of_mul_eq_mul_right (Nat.two_pow_pos B) ?_
        rw [e2, e3]; exact eq2
      have := a.2 f1
      have := b.2.1 f2
      omega
  · exact g
end Go.Proofs.YtobbedcaeffbaaaGreatDoor.Fl
namespace Go.Proofs.YtobbedcaeffbaaaGreatDoor.Fl
open Go.RowKit Ieee
end Go.Proofs.YtobbedcaeffbaaaGreatDoor.Fl
namespace Go.Proofs.YtobbedcaeffbaaaGreatDoor.Fl
open Go.RowKit Ieee
end Go.Proofs.YtobbedcaeffbaaaGreatDoor.Fl
namespace Go.Proofs.YtobbedcaeffbaaaGreatDoor.Fl
open Ieee
/-- A word's datum hangs on its sign and its size. -/
def rd (s : Bool) (m : Nat) : Datum := if m < 4503599627370496 then .number s m (-1074) else if m < 9218868437227405312 then .number s (4503599627370496 + m % 4503599627370496) (-1074 + (m / 4503599627370496 - 1 : Nat)) else if m = 9218868437227405312 then .infinity s else .nan s (m - 9218868437227405312)
theorem read_rd (x : Nat) : double.read x = rd (ng x) (mg x) := by
  unfold Format.read
  rw [d_binade, d_inf, d_sw, d_lp]
  rfl
theorem read_ngf' {y : Nat} (hy : y < 18446744073709551616) : double.read (ngf y) = (double.read y).opposite := by
  rw [read_rd, read_rd, (ngf_is hy).1, (ngf_is hy).2]
  unfold rd
  split
  · rfl
  · split
    · rfl
    · split <;> rfl
end Go.Proofs.YtobbedcaeffbaaaGreatDoor.Fl
namespace Go.Proofs.YtobbedcaeffbaaaGreatDoor.Fl
open Ieee
/-- Each number of at most 53 binary digits, and noughts behind, is a float's size (infinity aside). -/
theorem uval_surj : ∀ (e k : Nat), k < 9007199254740992 → ∃ R, uval R = k * 2 ^ e
  | 0, k, hk => ⟨k, by have := uval_bin (e := 0) (k := k) (.inl rfl) (Nat.le_of_lt hk); simpa using this⟩
  | e + 1, k, hk => by
    by_cases h : 4503599627370496 ≤ k
    · exact ⟨_, uval_bin (.inr h) (Nat.le_of_lt hk)⟩
    · obtain ⟨R, hR⟩ := uval_surj e (2 * k) (by omega)
      exact ⟨R, by rw [hR, Nat.pow_succ, Nat.mul_comm 2 k, Nat.mul_assoc, Nat.mul_comm 2]⟩
end Go.Proofs.YtobbedcaeffbaaaGreatDoor.Fl
namespace Go.Proofs.YtobbedcaeffbaaaGreatDoor.Fl
open Ieee
end Go.Proofs.YtobbedcaeffbaaaGreatDoor.Fl
namespace Go.Proofs.YtobbedcaeffbaaaGreatDoor.Fl
open Ieee
end Go.Proofs.YtobbedcaeffbaaaGreatDoor.Fl
namespace Go.Proofs.YtobbedcaeffbaaaGreatDoor.Fl
open Go.RowKit Ieee
end Go.Proofs.YtobbedcaeffbaaaGreatDoor.Fl
namespace Go.Proofs.YtobbedcaeffbaaaGreatDoor.Fl
open Ieee
/-- R is the rung nearest to n units; between two the even one. -/
def Nr (n R : Nat) : Prop := 2 * n ≤ uval R + uval (R + 1) ∧ (2 * n = uval R + uval (R + 1) → R % 2 = 0) ∧ ∀ Q, R = Q + 1 → uval Q + uval R ≤ 2 * n ∧ (uval Q + uval R = 2 * n → R % 2 = 0)
theorem nr_of {m : Nat} {p : Int} {R n A : Nat} (h : NearR m p R) (hA : (A : Int) = p + 1074) (hn : m * 2 ^ A = n) : Nr n R := by
  have k := h A 0 (by omega)
  rw [hn, Nat.pow_zero, Nat.mul_one] at k
  refine ⟨k.1, k.2.1, fun Q hQ => ?_⟩
  have k2 := k.2.2 Q hQ
  rw [Nat.mul_one] at k2
  exact k2
theorem nr_near {n R : Nat} (h : Nr n R) : NearR n (-1074) R := by
  intro A B hab
  obtain rfl : A = B := by omega
  have hA := Nat.two_pow_pos A
  have e : 2 * (n * 2 ^ A) = 2 * n * 2 ^ A := by rw [Nat.mul_assoc]
  rw [e]
  refine ⟨Nat.mul_le_mul_right _ h.1, fun g => h.2.1 (Nat.eq_of_mul_eq_mul_right hA g), fun Q hQ => ?_⟩
  have k := h.2.2 Q hQ
  exact ⟨Nat.mul_le_mul_right _ k.1, fun g => k.2 (Nat.eq_of_mul_eq_mul_right hA g)⟩
theorem nr_unique {n R S : Nat} (h : Nr n R) (k : Nr n S) : R = S := nearR_unique (nr_near h) (nr_near k)
theorem nr_exact (R : Nat) : Nr (uval R) R := by
  have s := uval_step R
  refine ⟨by omega, fun h => by omega, fun Q hQ => ?_⟩
  subst hQ
  have t := uval_step Q
  exact ⟨by omega, fun h => by omega⟩
theorem nr_mono {n m R S : Nat} (h : Nr n R) (k : Nr m S) (hle : n ≤ m) : R ≤ S := nearR_mono (nr_near h) (nr_near k) 0 0 0 0 (by omega) (by omega) (by simpa using hle)
theorem uval_le {m n : Nat} (h : m ≤ n) : uval m ≤ uval n := by
  rcases Nat.lt_or_eq_of_le h with g | g
  · exact Nat.le_of_lt (uval_lt g)
  · rw [g]; exact Nat.le_refl _
/-- No float is nearer. -/
theorem nr_best {n R : Nat} (h : Nr n R) (Q : Nat) : ((n : Int) - uval R).natAbs ≤ ((n : Int) - uval Q).natAbs := by
  rcases Nat.lt_trichotomy Q R with g | g | g
  · obtain ⟨P, rfl⟩ : ∃ P, R = P + 1 := ⟨R - 1, by omega⟩
    have h1 := (h.2.2 P rfl).1
    have h2 := uval_le (show Q ≤ P by omega)
    have h3 := uval_step P
    omega
  · rw [g]; exact Nat.le_refl _
  · have h1 := h.1
    have h2 := uval_le (show R + 1 ≤ Q by omega)
    have h3 := uval_step R
    omega
/-- A float's size (of whatever exponent). -/
def Rep (n : Nat) : Prop := ∃ R, uval R = n
theorem rep_of {k e : Nat} (h : k < 9007199254740992) : Rep (k * 2 ^ e) := uval_surj e k h
theorem rep_zero : Rep 0 := ⟨0, uval_small (by omega)⟩
theorem rep_form {n : Nat} (h : Rep n) : ∃ e k, k < 9007199254740992 ∧ n = k * 2 ^ e ∧ (e = 0 ∨ 4503599627370496 ≤ k) := by
  obtain ⟨R, rfl⟩ := h
  unfold uval
  by_cases h : R < 4503599627370496
  · exact ⟨0, R, by omega, by rw [if_pos h]; simp, .inl rfl⟩
  · exact ⟨R / 4503599627370496 - 1, 4503599627370496 + R % 4503599627370496, by omega, by rw [if_neg h], .inr (by omega)⟩
theorem nr_rep {n R : Nat} (h : Nr n R) (k : Rep n) : uval R = n := by
  obtain ⟨S, rfl⟩ := k
  rw [nr_unique h (nr_exact S)]
theorem form_le {kx ex ky ey : Nat} (hx : kx < 9007199254740992) (hy : ey = 0 ∨ 4503599627370496 ≤ ky) (h : ky * 2 ^ ey ≤ kx * 2 ^ ex) (_h0 : 0 < kx) : ey ≤ ex := by
  rcases Nat.lt_or_ge ex ey with g | g
  · exfalso
    have hk : 4503599627370496 ≤ ky := by omega
    have h1 : kx * 2 ^ ex < 9007199254740992 * 2 ^ ex := Nat.mul_lt_mul_of_pos_right hx (Nat.two_pow_pos _)
    have h2 : 4503599627370496 * 2 ^ ey ≤ ky * 2 ^ ey := Nat.mul_le_mul_right _ hk
    have h3 : 2 ^ (ex + 1) ≤ 2 ^ ey := Nat.pow_le_pow_right (by omega) g
    rw [Nat.pow_succ] at h3
    omega
  · exact g
theorem sterbenz {X Y : Nat} (hX : Rep X) (hY : Rep Y) (h1 : Y ≤ X) (h2 : X ≤ 2 * Y) : Rep (X - Y) := by
  obtain ⟨ex, kx, bx, rfl, _⟩ := rep_form hX
  obtain ⟨ey, ky, bY, rfl, cy⟩ := rep_form hY
  rcases Nat.eq_zero_or_pos kx with h0 | h0
  · subst h0; simpa using rep_zero
  · have he := form_le bx cy h1 h0
    obtain ⟨d, rfl⟩ : ∃ d, ex = ey + d := ⟨ex - ey, by omega⟩
    have e1 : kx * 2 ^ (ey + d) = kx * 2 ^ d * 2 ^ ey := by rw [Nat.pow_add, Nat.mul_comm (2 ^ ey), Nat.mul_assoc]
    rw [e1] at h1 h2 ⊢
    rw [← Nat.sub_mul]
    refine rep_of ?_
    have hp := Nat.two_pow_pos ey
    have h3 : kx * 2 ^ d ≤ 2 * ky := by
      refine Nat.le_of_mul_le_mul_right ?_ hp
      rw [Nat.mul_assoc 2]; exact h2
    omega
/-- Both floats that a fast sum needs, where the greater one is above nought. -/
theorem fast_two {A : Nat} {B : Int} {R : Nat} (hA : Rep A) (hB : Rep B.natAbs) (hle : B.natAbs ≤ A) (h : Nr (A + B).natAbs R) : Rep ((uval R : Int) - A).natAbs ∧ Rep ((A : Int) + B - uval R).natAbs ∧ ((A : Int) + B - uval R).natAbs ≤ B.natAbs := by
  obtain ⟨a, ha⟩ := hA
  obtain ⟨S, hS⟩ : ∃ S : Nat, (A : Int) + B = S := ⟨(A + B).toNat, by omega⟩
  rw [hS] at h ⊢
  rw [Int.natAbs_natCast] at h
  have hbest : ((S : Int) - uval R).natAbs ≤ B.natAbs := by
    have := nr_best h a
    rw [ha] at this
    omega
  refine ⟨?_, ?_, hbest⟩
  · rcases Int.lt_or_le B 0 with hb | hb
    · by_cases h2 : A < 2 * B.natAbs
      · have hr : Rep S := by
          have := sterbenz ⟨a, ha⟩ hB hle (by omega)
          rw [show A - B.natAbs = S by omega] at this
          exact this
        rw [nr_rep h hr]
        rw [show ((S : Int) - A).natAbs = B.natAbs by omega]; exact hB
      · have hRA : uval R ≤ A := by
          have := nr_mono h (by rw [← ha]; exact nr_exact a : Nr A a) (by omega)
          rw [← ha]; exact uval_le this
        have hAR : A ≤ 2 * uval R := by
          by_cases h53 : S < 9007199254740992
          · have hr : Rep S := by simpa using rep_of (e := 0) h53
            rw [nr_rep h hr]; omega
          · obtain ⟨e, k, hk, hke, hc⟩ := rep_form (⟨a, ha⟩ : Rep A)
            obtain ⟨f, rfl⟩ : ∃ f, e = f + 1 := by
              rcases e with _ | f
              · exfalso; simp at hke; omega
              · exact ⟨f, rfl⟩
            obtain ⟨T, hT⟩ := uval_surj f k hk
            have h3 : 2 * uval T = A := by
              have e9 : k * 2 ^ (f + 1) = k * 2 ^ f * 2 := by rw [Nat.pow_succ, Nat.mul_assoc]
              rw [hT, hke, e9]; omega
            have := uval_le (nr_mono (nr_exact T) h (by omega))
            omega
        have := sterbenz ⟨a, ha⟩ ⟨R, rfl⟩ hRA hAR
        rw [show ((uval R : Int) - A).natAbs = A - uval R by omega]; exact this
    · have hAR : A ≤ uval R := by
        have := nr_mono (by rw [← ha]; exact nr_exact a : Nr A a) h (by omega)
        rw [← ha]; exact uval_le this
      have hR2 : uval R ≤ 2 * A := by
        obtain ⟨e, k, hk, hke, hc⟩ := rep_form (⟨a, ha⟩ : Rep A)
        obtain ⟨T, hT⟩ := uval_surj (e + 1) k hk
        have h3 : uval T = 2 * A := by
          have e9 : k * 2 ^ (e + 1) = k * 2 ^ e * 2 := by rw [Nat.pow_succ, Nat.mul_assoc]
          rw [hT, hke, e9]; omega
        have := uval_le (nr_mono h (nr_exact T) (by omega))
        omega
      have := sterbenz ⟨R, rfl⟩ ⟨a, ha⟩ hAR hR2
      rw [show ((uval R : Int) - A).natAbs = uval R - A by omega]; exact this
  · obtain ⟨ea, ka, bka, hka, ca⟩ := rep_form (⟨a, ha⟩ : Rep A)
    obtain ⟨eb, kb, bkb, hkb, cb⟩ := rep_form hB
    rcases Nat.eq_zero_or_pos A with h0 | h0
    · have : S = 0 := by omega
      subst this
      rw [nr_rep h rep_zero]; simpa using rep_zero
    · have hka0 : 0 < ka := by
        rcases Nat.eq_zero_or_pos ka with h | h
        · subst h; simp at hka; omega
        · exact h
      have hee := form_le bka cb (by rw [← hka, ← hkb]; exact hle) hka0
      obtain ⟨d, rfl⟩ : ∃ d, ea = eb + d := ⟨ea - eb, by omega⟩
      have hp := Nat.two_pow_pos eb
      have e1 : A = ka * 2 ^ d * 2 ^ eb := by rw [hka, Nat.pow_add, Nat.mul_comm (2 ^ eb), Nat.mul_assoc]
      obtain ⟨m, hm⟩ : ∃ m, S = m * 2 ^ eb := by
        rcases Int.lt_or_le B 0 with hb | hb
        · exact ⟨ka * 2 ^ d - kb, by rw [Nat.sub_mul, ← e1, ← hkb]; omega⟩
        · exact ⟨ka * 2 ^ d + kb, by rw [Nat.add_mul, ← e1, ← hkb]; omega⟩
      by_cases h53 : m < 9007199254740992
      · rw [nr_rep h (by rw [hm]; exact rep_of h53)]; simpa using rep_zero
      · have hlow : 9007199254740992 * 2 ^ eb ≤ uval R := by
          obtain ⟨T, hT⟩ := uval_surj (eb + 1) 4503599627370496 (by omega)
          have h3 : uval T = 9007199254740992 * 2 ^ eb := by rw [hT, Nat.pow_succ]; omega
          have h4 : 9007199254740992 * 2 ^ eb ≤ S := by rw [hm]; exact Nat.mul_le_mul_right _ (by omega)
          have := uval_le (nr_mono (nr_exact T) h (by omega))
          omega
        obtain ⟨er, kr, bkr, hkr, cr⟩ := rep_form (⟨R, rfl⟩ : Rep (uval R))
        have her : eb ≤ er := by
          rcases Nat.lt_or_ge er eb with g | g
          · exfalso
            have h1 : kr * 2 ^ er < 9007199254740992 * 2 ^ er := Nat.mul_lt_mul_of_pos_right bkr (Nat.two_pow_pos _)
            have h2 : 2 ^ er ≤ 2 ^ eb := Nat.pow_le_pow_right (by omega) (by omega)
            omega
          · exact g
        obtain ⟨f, rfl⟩ : ∃ f, er = eb + f := ⟨er - eb, by omega⟩
        have e2 : uval R = kr * 2 ^ f * 2 ^ eb := by rw [hkr, Nat.pow_add, Nat.mul_comm (2 ^ eb), Nat.mul_assoc]
        rw [hkb] at hbest
        rw [hm, e2] at hbest ⊢
        have e3 : (((m * 2 ^ eb : Nat) : Int) - ((kr * 2 ^ f * 2 ^ eb : Nat) : Int)).natAbs = ((m : Int) - (kr * 2 ^ f : Nat)).natAbs * 2 ^ eb := by
          rw [Int.natCast_mul m, Int.natCast_mul (kr * 2 ^ f), ← Int.sub_mul, Int.natAbs_mul, Int.natAbs_natCast]
        rw [e3] at hbest ⊢
        refine rep_of ?_
        have := Nat.le_of_mul_le_mul_right hbest hp
        omega
end Go.Proofs.YtobbedcaeffbaaaGreatDoor.Fl
namespace Go.Proofs.YtobbedcaeffbaaaGreatDoor.Fl
open Ieee
theorem sval_ngf {x : Nat} (h : x < 18446744073709551616) : sval (ngf x) = - sval x := by
  unfold sval; rw [(ngf_is h).1, (ngf_is h).2]; cases ng x <;> simp
theorem sval_abs (x : Nat) : (sval x).natAbs = uval (mg x) := by unfold sval; cases ng x <;> simp
theorem sval_rep (x : Nat) : Rep (sval x).natAbs := ⟨mg x, (sval_abs x).symm⟩
theorem uval_zero : uval 0 = 0 := uval_small (by omega)
theorem sval_zero {x : Nat} : sval x = 0 ↔ mg x = 0 := by
  have h := sval_abs x
  constructor
  · intro e; rw [e] at h
    rcases Nat.eq_zero_or_pos (mg x) with g | g
    · exact g
    · have := uval_pos g; simp at h; omega
  · intro e; rw [e, uval_zero] at h; omega
theorem sval_of {x : Nat} {S : Int} (h : uval (mg x) = S.natAbs) (hs : S ≠ 0 → ng x = decide (S < 0)) : sval x = S := by
  unfold sval
  rw [h]
  by_cases h0 : S = 0
  · subst h0; simp
  · rw [hs h0]
    by_cases h1 : S < 0
    · rw [decide_eq_true h1]; simp; omega
    · rw [decide_eq_false h1]; simp; omega
/-- The sum of two finite floats: the nearest float. -/
theorem add_nr {x y r : Nat} (hx : mg x < 9218868437227405312) (hy : mg y < 9218868437227405312) (h : double.add x y = some r) : ∃ R, mg r = min R 9218868437227405312 ∧ Nr (sval x + sval y).natAbs R ∧ (sval x + sval y ≠ 0 → ng r = decide (sval x + sval y < 0)) ∧ r < 18446744073709551616 := by
  obtain ⟨M, P, e1, p1, v1⟩ := read_fin x hx
  obtain ⟨N, Q, e2, p2, v2⟩ := read_fin y hy
  have hl := (add_told h).2
  unfold Format.add at h
  rw [e1, e2] at h
  cases h
  obtain ⟨T, hT⟩ : ∃ T, signed (ng x) M (P - min P Q).toNat + signed (ng y) N (Q - min P Q).toNat = T := ⟨_, rfl⟩
  have hS : T * (2 ^ (min P Q + 1074).toNat : Nat) = sval x + sval y := by
    rw [← hT, Int.add_mul, signed_sval v1 (Int.min_le_left P Q) (by omega), signed_sval v2 (Int.min_le_right P Q) (by omega)]
  have hp : (0 : Int) < (2 ^ (min P Q + 1074).toNat : Nat) := Int.natCast_pos.2 (Nat.two_pow_pos _)
  obtain ⟨sg, hsg⟩ : ∃ sg, (if T = 0 then ng x && ng y else decide (T < 0)) = sg := ⟨_, rfl⟩
  obtain ⟨R, e, hR⟩ := near_spec sg T.natAbs (min P Q)
  have hw : double.write (.number (if signed (ng x) M (P - min P Q).toNat + signed (ng y) N (Q - min P Q).toNat = 0 then ng x && ng y else decide (signed (ng x) M (P - min P Q).toNat + signed (ng y) N (Q - min P Q).toNat < 0)) (signed (ng x) M (P - min P Q).toNat + signed (ng y) N (Q - min P Q).toNat).natAbs (min P Q)) = double.word sg (min R 9218868437227405312) := by
    rw [hT, hsg]; exact e
  have hmw := word_mg sg (min R 9218868437227405312) (by omega)
  refine ⟨R, ?_, ?_, ?_, hl⟩
  · exact (congrArg mg hw).trans hmw.1
  · refine nr_of hR (A := (min P Q + 1074).toNat) (by omega) ?_
    rw [← hS, Int.natAbs_mul, Int.natAbs_natCast]
  · intro hne
    refine (congrArg ng hw).trans (hmw.2.trans ?_)
    have hT0 : T ≠ 0 := fun h => hne (by rw [← hS, h, Int.zero_mul])
    rw [← hsg, if_neg hT0]
    refine decide_eq_decide.2 ?_
    rw [← hS]
    constructor
    · intro h; exact Int.mul_neg_of_neg_of_pos h hp
    · intro h
      rcases Int.lt_or_le T 0 with g | g
      · exact g
      · have := Int.mul_nonneg g (Int.le_of_lt hp); omega
theorem sub_nr {x y r : Nat} (hx : mg x < 9218868437227405312) (hy : mg y < 9218868437227405312) (hyl : y < 18446744073709551616) (h : double.sub x y = some r) : ∃ R, mg r = min R 9218868437227405312 ∧ Nr (sval x - sval y).natAbs R ∧ (sval x - sval y ≠ 0 → ng r = decide (sval x - sval y < 0)) ∧ r < 18446744073709551616 := by
  have e : double.sub x y = double.add x (ngf y) := by unfold Format.sub Format.add; rw [read_ngf' hyl]
  rw [e] at h
  have k := add_nr hx (by rw [(ngf_is hyl).1]; exact hy) h
  rw [sval_ngf hyl] at k
  exact k
/-- Where the exact result is a float, it is told. -/
theorem nr_told {S : Int} {r R : Nat} (hm : mg r = min R 9218868437227405312) (hn : Nr S.natAbs R) (hs : S ≠ 0 → ng r = decide (S < 0)) (hrep : Rep S.natAbs) (hlt : S.natAbs < uval 9218868437227405312) : mg r < 9218868437227405312 ∧ sval r = S := by
  have hu := nr_rep hn hrep
  have hR : R < 9218868437227405312 := by rw [← (uval_cmp R 9218868437227405312).1, hu]; exact hlt
  have hmr : mg r = R := by omega
  exact ⟨by omega, sval_of (by rw [hmr]; exact hu) hs⟩
theorem uval_fin {m : Nat} (h : m < 9218868437227405312) : uval m < uval 9218868437227405312 := uval_lt h
/-- What Two tells, the greater one above nought. -/
theorem two_pos {a b r l : Nat} (ha : a < 18446744073709551616) (_hb : b < 18446744073709551616) (fa : mg a < 9218868437227405312) (fb : mg b < 9218868437227405312) (hab : mg b ≤ mg a) (sa : ng a = false) (hr : double.add a b = some r) (fr : mg r < 9218868437227405312) {z y : Nat}
    (h1 : double.sub r a = some z) (h2 : double.sub b z = some y) (h3 : double.add y 0 = some l) : mg l < 9218868437227405312 ∧ sval l = sval a + sval b - sval r := by
  obtain ⟨R, e1, e2, e3, hrl⟩ := add_nr fa fb hr
  have hrR : mg r = R := by omega
  subst hrR
  have hva : sval a = uval (mg a) := by unfold sval; rw [sa]; rfl
  have hB := sval_abs b
  have hle := uval_le hab
  rw [hva] at e2 e3
  have hfast := fast_two (A := uval (mg a)) (B := sval b) ⟨mg a, rfl⟩ (sval_rep b) (by rw [hB]; exact hle) e2
  have hsr : sval r = uval (mg r) := by
    by_cases h0 : (uval (mg a) : Int) + sval b = 0
    · rw [h0] at e2
      have hz : uval (mg r) = 0 := nr_rep e2 rep_zero
      have := sval_abs r
      rw [hz] at this ⊢
      omega
    · have h := e3 h0
      rw [decide_eq_false (by omega)] at h
      unfold sval; rw [h]; rfl
  have ia := uval_fin fa
  have ib := uval_fin fb
  have ir := uval_fin fr
  obtain ⟨Z, f1, f2, f3, hzl⟩ := sub_nr fr fa ha h1
  rw [hsr, hva] at f2 f3
  obtain ⟨fz, vz⟩ := nr_told f1 f2 f3 hfast.1 (by omega)
  obtain ⟨Y, g1, g2, g3, hyl⟩ := sub_nr fb fz hzl h2
  rw [vz] at g2 g3
  have hd : sval b - ((uval (mg r) : Int) - uval (mg a)) = (uval (mg a) : Int) + sval b - uval (mg r) := by omega
  rw [hd] at g2 g3
  obtain ⟨fy, vy⟩ := nr_told g1 g2 g3 hfast.2.1 (by omega)
  obtain ⟨L, k1, k2, k3, _⟩ := add_nr fy (show mg 0 < _ by decide) h3
  have hs0 : sval 0 = 0 := sval_zero.2 (by decide)
  rw [hs0, vy, Int.add_zero] at k2 k3
  obtain ⟨fl, vl⟩ := nr_told k1 k2 k3 hfast.2.1 (by omega)
  exact ⟨fl, by rw [vl, hva, hsr]⟩
end Go.Proofs.YtobbedcaeffbaaaGreatDoor.Fl
namespace Go.Proofs.YtobbedcaeffbaaaGreatDoor.Fl
open Go.RowKit Ieee
end Go.Proofs.YtobbedcaeffbaaaGreatDoor.Fl
namespace Go.Proofs.YtobbedcaeffbaaaGreatDoor.Fl
open Go.RowKit Ieee
end Go.Proofs.YtobbedcaeffbaaaGreatDoor.Fl
namespace Go.Proofs.YtobbedcaeffbaaaGreatDoor.Fl
open Go.RowKit Ieee
end Go.Proofs.YtobbedcaeffbaaaGreatDoor.Fl
namespace Go.Proofs.YtobbedcaeffbaaaGreatDoor.Fl
open Ieee
end Go.Proofs.YtobbedcaeffbaaaGreatDoor.Fl
namespace Go.Proofs.YtobbedcaeffbaaaGreatDoor.Fl
open Ieee
end Go.Proofs.YtobbedcaeffbaaaGreatDoor.Fl
namespace Go.Proofs.YtobbedcaeffbaaaGreatDoor.Fl
open Ieee
/-- d is the greatest float that is not above N / D (minus infinity where no finite one is). -/
structure Dn (N : Int) (D d : Nat) : Prop where
  le : mg d ≤ 9218868437227405312
  inf : mg d = 9218868437227405312 → ng d = true
  below : mg d < 9218868437227405312 → sval d * (D : Int) ≤ N
  best : ∀ f, mg f < 9218868437227405312 → sval f * (D : Int) ≤ N → key f ≤ key d
/-- u is the least float that is not below it (plus infinity where no finite one is). -/
structure Up (N : Int) (D u : Nat) : Prop where
  le : mg u ≤ 9218868437227405312
  inf : mg u = 9218868437227405312 → ng u = false
  above : mg u < 9218868437227405312 → N ≤ sval u * (D : Int)
  best : ∀ f, mg f < 9218868437227405312 → N ≤ sval f * (D : Int) → key u ≤ key f
theorem key_bounds {x : Nat} (h : mg x ≤ 9218868437227405312) : -9218868437227405312 ≤ key x ∧ key x ≤ 9218868437227405312 := by unfold key; split <;> omega
theorem scale_le {x N N' : Int} {D D' : Nat} (hD : 0 < D) (h : x * D ≤ N) (k : N * D' ≤ N' * D) : x * D' ≤ N' := by
  have h1 : x * D * D' ≤ N * D' := Int.mul_le_mul_of_nonneg_right h (Int.natCast_nonneg _)
  have h2 : x * D' * D ≤ N' * D := by
    have e : x * D' * D = x * D * D' := by rw [Int.mul_assoc, Int.mul_assoc, Int.mul_comm (D' : Int)]
    rw [e]; exact Int.le_trans h1 k
  exact Int.le_of_mul_le_mul_right h2 (by omega)
theorem scale_ge {x N N' : Int} {D D' : Nat} (hD : 0 < D) (h : N ≤ x * D) (k : N' * D ≤ N * D') : N' ≤ x * D' := by
  have h1 : N * D' ≤ x * D * D' := Int.mul_le_mul_of_nonneg_right h (Int.natCast_nonneg _)
  have h2 : N' * D ≤ x * D' * D := by
    have e : x * D' * D = x * D * D' := by rw [Int.mul_assoc, Int.mul_assoc, Int.mul_comm (D' : Int)]
    rw [e]; exact Int.le_trans k h1
  exact Int.le_of_mul_le_mul_right h2 (by omega)
theorem Dn.mono {N N' : Int} {D D' d d' : Nat} (h : Dn N D d) (k : Dn N' D' d') (hD : 0 < D) (hle : N * D' ≤ N' * D) : key d ≤ key d' := by
  rcases Nat.lt_or_eq_of_le h.le with g | g
  · exact k.best d g (scale_le hD (h.below g) hle)
  · have h1 := h.inf g
    have h2 := (key_bounds k.le).1
    unfold key
    rw [h1, g]
    unfold key at h2
    simpa using h2
theorem Up.mono {N N' : Int} {D D' u u' : Nat} (h : Up N D u) (k : Up N' D' u') (hD' : 0 < D') (hle : N * D' ≤ N' * D) : key u ≤ key u' := by
  rcases Nat.lt_or_eq_of_le k.le with g | g
  · exact h.best u' g (scale_ge hD' (k.above g) hle)
  · have h1 := k.inf g
    have h2 := (key_bounds h.le).2
    unfold key at h2 ⊢
    rw [h1, g]
    simpa using h2
end Go.Proofs.YtobbedcaeffbaaaGreatDoor.Fl
namespace Go.Proofs.YtobbedcaeffbaaaGreatDoor.Fl
open Ieee
end Go.Proofs.YtobbedcaeffbaaaGreatDoor.Fl
namespace Go.Proofs.YtobbedcaeffbaaaGreatDoor.Fl
open Ieee
end Go.Proofs.YtobbedcaeffbaaaGreatDoor.Fl
namespace Go.Proofs.YtobbedcaeffbaaaGreatDoor.Fl
open Ieee
end Go.Proofs.YtobbedcaeffbaaaGreatDoor.Fl
namespace Go.Proofs.YtobbedcaeffbaaaGreatDoor.Fl
open Ieee
end Go.Proofs.YtobbedcaeffbaaaGreatDoor.Fl
namespace Go.Proofs.YtobbedcaeffbaaaGreatDoor.Fl
open Ieee
end Go.Proofs.YtobbedcaeffbaaaGreatDoor.Fl
namespace Go.Proofs.YtobbedcaeffbaaaGreatDoor.Fl
open Ieee
theorem sq_le {x y : Nat} (h : x ≤ y) : x * x ≤ y * y := Nat.mul_le_mul h h
theorem sq_lt {x y : Nat} (h : x * x < y * y) : x < y := by
  rcases Nat.lt_or_ge x y with g | g
  · exact g
  · have := sq_le g; omega
end Go.Proofs.YtobbedcaeffbaaaGreatDoor.Fl
namespace Go.Proofs.YtobbedcaeffbaaaGreatDoor.Fl
open Ieee
end Go.Proofs.YtobbedcaeffbaaaGreatDoor.Fl
