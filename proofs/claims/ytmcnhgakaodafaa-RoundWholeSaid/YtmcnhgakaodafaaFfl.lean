/-
  How great the parts of fractions grow; what a float is worth as a fraction; large's shift upward; frac.balance, frac.FromFloat. Conditions: floats of 64 bits; numbers no longer than memory.
-/
import Derived.Test.YtmcnhgakaodafaaNr1
import Derived.Test.YtmcnhgakaodafaaKp
import Derived.Test.YtmcnhgakaodafaaShs
import Derived.Test.YtmcnhgakaodafaaInt3
import Derived.Deep.RegionHeld3
import Derived.Test.YtmcnhgakaodafaaFix
import Derived.Deep.DeepCutAuto
import Derived.BigRegion
namespace Go.Proofs.Ytmcnhgakaodafaa
open Go.RowKit Nb
theorem rat_int (n : Int) : Rat.divInt n 1 = (n : Rat) := by rw [Rat.divInt_eq_div]; grind
theorem int_num (n : Int) : (n : Rat).num = n := rfl
theorem int_den (n : Int) : (n : Rat).den = 1 := rfl
theorem fits_int {n : Int} (h : n.natAbs < 2 ^ 100) : FitsQ (n : Rat) := ⟨by rw [int_num]; exact fits_low h, by rw [int_den]; exact fits_low (by decide)⟩
theorem lof_n {n : Int} {w : World} (h0 : -9223372036854775808 ≤ n) (h1 : n ≤ 9223372036854775807) : Calls Try.prog 26 #[.int .i64 n] w (GivesN w n 1) := by
 refine (large_of_any n w h0 h1).mono ?_
 rintro _ w1 ⟨g, rfl, hs, _, hb⟩
 refine ⟨_, _, _, _, rfl, ⟨⟨hs, ofL_dig h0 h1, ofL_norm n, fun e => ?_, by have := ofL_len n; omega, Nat.le_refl _⟩, ?_⟩, hb⟩
 ·have := ofL_val n
  rw [e] at this
  have h3 : n = 0 := by simp [val] at this; omega
  rw [h3]; rfl
 ·rw [ofL_val]
  unfold sv
  by_cases h : n < 0
  ·rw [decide_eq_true h, if_pos rfl]; omega
  ·rw [decide_eq_false h]; simp; omega
theorem q_ratio {X Y : Int} {n m : Bool} {A B : Option Addr} {xs ds : List Nat} {c d C : Nat} {w : World} (h : Nw w X C n A xs c) (k : Nw w Y C m B ds d) (hY : Y ≠ 0) (hC : C ≤ 1759218604390) :
  Calls Try.prog 24 #[big n A xs.length c, big m B ds.length d] w (GQ w (Rat.divInt X Y) (C + 1)) := by
 refine (ratio_any X Y n m A B xs ds c d C w h k hY hC).mono ?_
 rintro _ _ ⟨n, A, xs, c, B, ds, d, rfl, hL, hb⟩
 exact ⟨⟨n, A, xs, c, false, B, ds, d⟩, rfl, ⟨rfl, hL⟩, hb⟩
theorem rat_sq (s : Rat) : 0 ≤ s * s := by
 rcases Rat.le_total (a := 0) (b := s) with h | h
 ·exact Rat.mul_nonneg h h
 ·have h1 : 0 ≤ -s := by grind
  have := Rat.mul_nonneg h1 h1
  grind
section
variable {k l : Nat} {a b : Int} {z y s t : Rat}
theorem bd_mul (ha : a.natAbs ≤ 2 ^ k) (hb : b.natAbs ≤ 2 ^ l) : (a * b).natAbs ≤ 2 ^ (k + l) := by
  rw [Int.natAbs_mul, Nat.pow_add]; exact Nat.mul_le_mul ha hb
theorem bd_add (ha : a.natAbs ≤ 2 ^ k) (hb : b.natAbs ≤ 2 ^ k) : (a + b).natAbs ≤ 2 ^ (k + 1) := by
  have := Int.natAbs_add_le a b
  rw [Nat.pow_succ]; omega
theorem bd_sub (ha : a.natAbs ≤ 2 ^ k) (hb : b.natAbs ≤ 2 ^ k) : (a - b).natAbs ≤ 2 ^ (k + 1) := by
  rw [Int.sub_eq_add_neg]; exact bd_add ha (by rw [Int.natAbs_neg]; exact hb)
theorem bd_mono (ha : a.natAbs ≤ 2 ^ k) (h : k ≤ l) : a.natAbs ≤ 2 ^ l := Nat.le_trans ha (Nat.pow_le_pow_right (by decide) h)
/-- A fraction of whole numbers of k binary digits. -/
def Hq (k : Nat) (z : Rat) : Prop := ∃ (D a : Int), 0 < D ∧ z * (D : Rat) = (a : Rat) ∧ D.natAbs ≤ 2 ^ k ∧ a.natAbs ≤ 2 ^ k
/-- Two of them, by one denominator. -/
def Hg (k : Nat) (z y : Rat) : Prop := ∃ (D a b : Int), 0 < D ∧ z * (D : Rat) = (a : Rat) ∧ y * (D : Rat) = (b : Rat) ∧ D.natAbs ≤ 2 ^ k ∧ a.natAbs ≤ 2 ^ k ∧ b.natAbs ≤ 2 ^ k
theorem rat_whole (z : Rat) : z * ((z.den : Int) : Rat) = (z.num : Rat) := by
  have h : z = (z.num : Rat) / ((z.den : Int) : Rat) := by
    conv => lhs; rw [← Rat.num_divInt_den z, Rat.divInt_eq_div]
  have hd : ((z.den : Int) : Rat) ≠ 0 := fun e => z.den_nz (by
    have e2 : ((z.den : Int) : Rat) = ((0 : Int) : Rat) := e
    have := Rat.intCast_inj.1 e2
    omega)
  generalize ((z.den : Int) : Rat) = d at *
  generalize (z.num : Rat) = n at *
  subst h
  grind
theorem Hq.parts (h : Hq k z) : z.den ≤ 2 ^ k ∧ z.num.natAbs ≤ 2 ^ k := by
  obtain ⟨D, a, hD, he, bD, ba⟩ := h
  have h1 := rat_whole z
  have h2 : ((z.num * D : Int) : Rat) = ((a * (z.den : Int) : Int) : Rat) := by
    rw [Rat.intCast_mul, Rat.intCast_mul, ← h1, ← he]; grind
  have h3 := Rat.intCast_inj.1 h2
  have h4 : z.num.natAbs * D.natAbs = a.natAbs * z.den := by
    have := congrArg Int.natAbs h3
    rwa [Int.natAbs_mul, Int.natAbs_mul, Int.natAbs_natCast] at this
  have h5 : z.den ∣ D.natAbs := by
    refine Nat.Coprime.dvd_of_dvd_mul_left (k := z.den) (m := z.num.natAbs) z.reduced.symm ?_
    rw [h4]; exact Nat.dvd_mul_left _ _
  have hDp : 0 < D.natAbs := by omega
  refine ⟨Nat.le_trans (Nat.le_of_dvd hDp h5) bD, ?_⟩
  obtain ⟨m, hm⟩ := h5
  have hmp : 0 < m := Nat.pos_of_ne_zero fun e => by rw [e] at hm; omega
  have h6 : z.num.natAbs * m = a.natAbs := by
    have := h4
    rw [hm, show z.num.natAbs * (z.den * m) = (z.num.natAbs * m) * z.den by grind] at this
    exact Nat.eq_of_mul_eq_mul_right z.den_pos this
  refine Nat.le_trans ?_ ba
  rw [← h6]
  exact Nat.le_mul_of_pos_right _ hmp
theorem pow_32 (n : Nat) : W32 ^ n = 2 ^ (32 * n) := by rw [show W32 = 2 ^ 32 from rfl, ← Nat.pow_mul]
theorem pow_lt_w (n : Nat) (hk : k < 32 * n) : 2 ^ k < W32 ^ n := by rw [pow_32]; exact Nat.pow_lt_pow_right (by decide) hk
theorem Hq.fits (h : Hq k z) (hk : k < 65536) : FitsQ z := by
  obtain ⟨h1, h2⟩ := h.parts
  have h3 := pow_lt_w (k := k) 2048 (by omega)
  refine ⟨?_, ?_⟩
  · unfold Fits; exact Nat.lt_of_le_of_lt h2 h3
  · unfold Fits; rw [Int.natAbs_natCast]; exact Nat.lt_of_le_of_lt h1 h3
theorem Hg.re (h : Hg k z y) : Hq k z := by obtain ⟨D, a, b, h0, h1, h2, h3, h4, h5⟩ := h; exact ⟨D, a, h0, h1, h3, h4⟩
theorem Hg.im (h : Hg k z y) : Hq k y := by obtain ⟨D, a, b, h0, h1, h2, h3, h4, h5⟩ := h; exact ⟨D, b, h0, h2, h3, h5⟩
theorem Hg.add (h : Hg k z y) (g : Hg l s t) : Hg (k + l + 1) (z + s) (y + t) := by
  obtain ⟨D, a, b, h0, h1, h2, h3, h4, h5⟩ := h
  obtain ⟨E, c, d, g0, g1, g2, g3, g4, g5⟩ := g
  refine ⟨D * E, a * E + c * D, b * E + d * D, Int.mul_pos h0 g0, ?_, ?_, bd_mono (bd_mul h3 g3) (by omega), bd_add (bd_mul h4 g3) (by have := bd_mul g4 h3; rwa [Nat.add_comm] at this), bd_add (bd_mul h5 g3) (by have := bd_mul g5 h3; rwa [Nat.add_comm] at this)⟩
  · simp only [Rat.intCast_mul, Rat.intCast_add]; rw [← h1, ← g1]; grind
  · simp only [Rat.intCast_mul, Rat.intCast_add]; rw [← h2, ← g2]; grind
theorem Hg.neg (h : Hg k z y) : Hg k z (-y) := by
  obtain ⟨D, a, b, h0, h1, h2, h3, h4, h5⟩ := h
  refine ⟨D, a, -b, h0, h1, ?_, h3, h4, by rw [Int.natAbs_neg]; exact h5⟩
  rw [Rat.intCast_neg, ← h2]; grind
theorem Hg.mul (h : Hg k z y) (g : Hg l s t) : Hg (k + l + 1) (z * s - y * t) (z * t + y * s) := by
  obtain ⟨D, a, b, h0, h1, h2, h3, h4, h5⟩ := h
  obtain ⟨E, c, d, g0, g1, g2, g3, g4, g5⟩ := g
  refine ⟨D * E, a * c - b * d, a * d + b * c, Int.mul_pos h0 g0, ?_, ?_, bd_mono (bd_mul h3 g3) (by omega), bd_sub (bd_mul h4 g4) (bd_mul h5 g5), bd_add (bd_mul h4 g5) (bd_mul h5 g4)⟩
  · simp only [Rat.intCast_mul, Rat.intCast_sub]; rw [← h1, ← g1, ← h2, ← g2]; grind
  · simp only [Rat.intCast_mul, Rat.intCast_add]; rw [← h1, ← g1, ← h2, ← g2]; grind
theorem Hg.norm (h : Hg k z y) : Hq (k + k + 1) (z * z + y * y) := by
  obtain ⟨D, a, b, h0, h1, h2, h3, h4, h5⟩ := h
  refine ⟨D * D, a * a + b * b, Int.mul_pos h0 h0, ?_, bd_mono (bd_mul h3 h3) (by omega), bd_add (bd_mul h4 h4) (bd_mul h5 h5)⟩
  simp only [Rat.intCast_mul, Rat.intCast_add]; rw [← h1, ← h2]; grind
theorem Hq.mul (h : Hq k z) (g : Hq l s) : Hq (k + l) (z * s) := by
  obtain ⟨D, a, h0, h1, h2, h3⟩ := h
  obtain ⟨E, c, g0, g1, g2, g3⟩ := g
  refine ⟨D * E, a * c, Int.mul_pos h0 g0, ?_, bd_mul h2 g2, bd_mul h3 g3⟩
  simp only [Rat.intCast_mul]; rw [← h1, ← g1]; grind
theorem Hq.add (h : Hq k z) (g : Hq l s) : Hq (k + l + 1) (z + s) := by
  obtain ⟨D, a, h0, h1, h2, h3⟩ := h
  obtain ⟨E, c, g0, g1, g2, g3⟩ := g
  refine ⟨D * E, a * E + c * D, Int.mul_pos h0 g0, ?_, bd_mono (bd_mul h2 g2) (by omega), bd_add (bd_mul h3 g2) (by have := bd_mul g3 h2; rwa [Nat.add_comm] at this)⟩
  simp only [Rat.intCast_mul, Rat.intCast_add]; rw [← h1, ← g1]; grind
theorem Hq.sub (h : Hq k z) (g : Hq l s) : Hq (k + l + 1) (z - s) := by
  obtain ⟨D, a, h0, h1, h2, h3⟩ := h
  obtain ⟨E, c, g0, g1, g2, g3⟩ := g
  refine ⟨D * E, a * E - c * D, Int.mul_pos h0 g0, ?_, bd_mono (bd_mul h2 g2) (by omega), bd_sub (bd_mul h3 g2) (by have := bd_mul g3 h2; rwa [Nat.add_comm] at this)⟩
  simp only [Rat.intCast_mul, Rat.intCast_sub]; rw [← h1, ← g1]; grind
theorem Hq.one : Hq 0 1 := ⟨1, 1, by decide, by decide +kernel, by decide, by decide⟩
theorem Hq.quo (h : Hq k z) (g : Hq l s) (hs : s ≠ 0) : Hq (k + l) (z / s) := by
  obtain ⟨D, a, h0, h1, h2, h3⟩ := h
  obtain ⟨E, c, g0, g1, g2, g3⟩ := g
  have hE : (E : Rat) ≠ 0 := fun e => by
    have e2 : (E : Rat) = ((0 : Int) : Rat) := e
    have := Rat.intCast_inj.1 e2; omega
  have hc : c ≠ 0 := fun e => by
    rw [e] at g1
    have : s * (E : Rat) = 0 := g1
    grind
  rcases Int.lt_or_lt_of_ne hc with hn | hp
  · refine ⟨D * -c, a * -E, Int.mul_pos h0 (by omega), ?_, bd_mul h2 (by rw [Int.natAbs_neg]; exact g3), bd_mul h3 (by rw [Int.natAbs_neg]; exact g2)⟩
    simp only [Rat.intCast_mul, Rat.intCast_neg]; rw [← h1, ← g1]; grind
  · refine ⟨D * c, a * E, Int.mul_pos h0 hp, ?_, bd_mul h2 g3, bd_mul h3 g2⟩
    simp only [Rat.intCast_mul]; rw [← h1, ← g1]; grind
theorem one_sq (s : Rat) : 1 + s * s ≠ 0 := fun e => by
  have := rat_sq s
  grind
theorem Hq.unit (h : Hq k s) : Hg (k + k + 1) ((1 - s * s) / (1 + s * s)) ((s + s) / (1 + s * s)) := by
  obtain ⟨D, a, h0, h1, h2, h3⟩ := h
  have hp : 0 < D * D + a * a := by
    have := Int.mul_pos h0 h0
    have h5 : 0 ≤ a * a := by
      rcases Int.le_total 0 a with g | g
      · exact Int.mul_nonneg g g
      · exact Int.mul_nonneg_of_nonpos_of_nonpos g g
    omega
  have hs := one_sq s
  have hD : (D : Rat) ≠ 0 := fun e => by
    have e2 : (D : Rat) = ((0 : Int) : Rat) := e
    have := Rat.intCast_inj.1 e2; omega
  refine ⟨D * D + a * a, D * D - a * a, a * D + a * D, hp, ?_, ?_, bd_add (bd_mul h2 h2) (bd_mul h3 h3), bd_sub (bd_mul h2 h2) (bd_mul h3 h3), bd_add (bd_mul h3 h2) (bd_mul h3 h2)⟩
  · simp only [Rat.intCast_mul, Rat.intCast_add, Rat.intCast_sub]; rw [← h1]; grind
  · simp only [Rat.intCast_mul, Rat.intCast_add]; rw [← h1]; grind
theorem Hq.pair (h : Hq k z) (g : Hq l y) : Hg (k + l) z y := by
  obtain ⟨D, a, h0, h1, h2, h3⟩ := h
  obtain ⟨E, c, g0, g1, g2, g3⟩ := g
  refine ⟨D * E, a * E, c * D, Int.mul_pos h0 g0, ?_, ?_, bd_mul h2 g2, bd_mul h3 g2, by have := bd_mul g3 h2; rwa [Nat.add_comm] at this⟩
  · simp only [Rat.intCast_mul]; rw [← h1]; grind
  · simp only [Rat.intCast_mul]; rw [← g1]; grind
theorem Hg.mono (h : Hg k z y) (hk : k ≤ l) : Hg l z y := by
  obtain ⟨D, a, b, h0, h1, h2, h3, h4, h5⟩ := h
  exact ⟨D, a, b, h0, h1, h2, bd_mono h3 hk, bd_mono h4 hk, bd_mono h5 hk⟩
theorem Hq.mono (h : Hq k z) (hk : k ≤ l) : Hq l z := by
  obtain ⟨D, a, h0, h1, h3, h4⟩ := h
  exact ⟨D, a, h0, h1, bd_mono h3 hk, bd_mono h4 hk⟩
theorem Ff.hq {w : World} {q : Rat} {f : Fv} (h : Ff w q f) : Hq (32 * (f.xs.length + f.ds.length)) q := by
  have h1 := val_lt h.2.num.lm.dig
  have h2 := val_lt h.2.den.lm.dig
  rw [h.2.num_val, pow_32] at h1
  rw [h.2.den_val, pow_32] at h2
  refine ⟨(q.den : Int), q.num, by have := q.den_pos; omega, rat_whole q, ?_, bd_mono (Nat.le_of_lt h1) (by omega)⟩
  rw [Int.natAbs_natCast]
  exact Nat.le_trans (Nat.le_of_lt h2) (Nat.pow_le_pow_right (by decide) (by omega))
end
open Fl
/-- The exponent as FromFloat takes it: at least 1. -/
def fe (x : Nat) : Nat := max (mg x / 4503599627370496) 1
/-- The units that it counts. -/
def fu (x : Nat) : Nat := if mg x / 4503599627370496 = 0 then mg x % 4503599627370496 else mg x % 4503599627370496 + 4503599627370496
def fs (x : Nat) : Int := if ng x then -(fu x : Int) else fu x
theorem uval_fu (x : Nat) : uval (mg x) = fu x * 2 ^ (fe x - 1) := by
  unfold uval fu fe
  by_cases h : mg x < 4503599627370496
  · have h2 : mg x / 4503599627370496 = 0 := Nat.div_eq_of_lt h
    rw [if_pos h, if_pos h2, h2, Nat.mod_eq_of_lt h]; simp
  · have h2 : mg x / 4503599627370496 ≠ 0 := by omega
    rw [if_neg h, if_neg h2, Nat.max_eq_left (by omega), Nat.add_comm]
theorem sval_fs (x : Nat) : sval x = fs x * ((2 ^ (fe x - 1) : Nat) : Int) := by
  unfold sval fs
  rw [uval_fu]
  cases ng x
  · simp only [Bool.false_eq_true, if_false, Int.natCast_mul]
  · simp only [if_true, Int.natCast_mul, Int.neg_mul]
theorem fu_lt (x : Nat) : fu x < 9007199254740992 := by
  unfold fu
  have := Nat.mod_lt (mg x) (y := 4503599627370496) (by decide)
  split <;> omega
theorem fe_le {x : Nat} (h : mg x < 9218868437227405312) : 1 ≤ fe x ∧ fe x ≤ 2046 := by
  unfold fe
  have : mg x / 4503599627370496 ≤ 2046 := by omega
  omega
/-- A power of two that stays as it is. -/
def tw (k : Nat) : Nat := 2 ^ k
theorem tw_add (a b : Nat) : tw (a + b) = tw a * tw b := Nat.pow_add ..
theorem tw_le {a b : Nat} (h : a ≤ b) : tw a ≤ tw b := Nat.pow_le_pow_right (by decide) h
theorem two_pos (k : Nat) : 0 < (tw k : Int) := Int.natCast_pos.2 (Nat.pow_pos (by decide))
theorem two_ne (k : Nat) : ((tw k : Int) : Rat) ≠ 0 := by
  intro e
  have := two_pos k
  have h : (tw k : Int) = 0 := by exact_mod_cast e
  omega
/-- What it is worth. -/
def fl (x : Nat) : Rat := (sval x : Rat) / ((tw 1074 : Int) : Rat)
theorem fl_shift {x a b : Nat} (h : a + 1074 = fe x - 1 + b) : Rat.divInt (fs x * (tw a : Int)) (tw b : Int) = fl x := by
  have hp : (tw a : Int) * (tw 1074 : Int) = (tw (fe x - 1) : Int) * (tw b : Int) := by
    rw [← Int.natCast_mul, ← Int.natCast_mul, ← tw_add, ← tw_add, h]
  rw [Rat.divInt_eq_div]
  unfold fl
  rw [sval_fs, show 2 ^ (fe x - 1) = tw (fe x - 1) from rfl]
  have t0 := two_ne 1074
  have b0 := two_ne b
  generalize (tw a : Int) = A at *
  generalize (tw b : Int) = B at *
  generalize (tw (fe x - 1) : Int) = E at *
  generalize (tw 1074 : Int) = T at *
  generalize fs x = s at *
  have hq : (A : Rat) * (T : Rat) = (E : Rat) * (B : Rat) := by rw [← Rat.intCast_mul, ← Rat.intCast_mul, hp]
  rw [Rat.intCast_mul, Rat.intCast_mul]
  grind
theorem uval_le {x : Nat} (h : mg x < 9218868437227405312) : uval (mg x) ≤ tw 2098 := by
  rw [uval_fu, show 2098 = 53 + 2045 from rfl, tw_add]
  exact Nat.mul_le_mul (Nat.le_of_lt (fu_lt x)) (tw_le (by have := (fe_le h).2; omega))
theorem fl_hq {x k : Nat} (h : mg x < 9218868437227405312) (hk : 2098 ≤ k) : Hq k (fl x) := by
  refine ⟨(tw 1074 : Int), sval x, two_pos _, ?_, ?_, ?_⟩
  · unfold fl
    have t0 := two_ne 1074
    generalize ((tw 1074 : Int) : Rat) = T at *
    grind
  · rw [Int.natAbs_natCast]; exact tw_le (by omega)
  · have := Nat.le_trans (uval_le h) (tw_le hk)
    unfold sval
    cases ng x
    · simpa [tw] using this
    · simpa [tw] using this
theorem fl_fits {x : Nat} (h : mg x < 9218868437227405312) : FitsQ (fl x) := by
  obtain ⟨k, hk⟩ : ∃ k : Nat, k = 2098 := ⟨_, rfl⟩
  exact (fl_hq (k := k) h (by omega)).fits (by omega)
theorem fl_add {a b r l : Nat} (h : sval l = sval a + sval b - sval r) : fl a + fl b = fl r + fl l := by
  unfold fl
  rw [h]
  generalize ((tw 1074 : Int) : Rat) = T
  rw [Rat.intCast_sub, Rat.intCast_add]
  grind
end Go.Proofs.Ytmcnhgakaodafaa

namespace Go.Proofs.Ytmcnhgakaodafaa
open Go.RowKit Nb
set_option linter.unusedSimpArgs false
theorem sv_shl (n : Bool) (v k : Nat) : sv n (v * 2 ^ k) = sv n v * 2 ^ k := by
  have h : ((v * 2 ^ k : Nat) : Int) = (v : Int) * 2 ^ k := by rw [Int.natCast_mul, Int.natCast_pow]; rfl
  cases n
  · exact h
  · show -((v * 2 ^ k : Nat) : Int) = -(v : Int) * 2 ^ k
    rw [h, Int.neg_mul]
theorem sv_shr_pos (v k : Nat) : sv false (v / 2 ^ k) = sv false v / 2 ^ k := by
  show ((v / 2 ^ k : Nat) : Int) = (v : Int) / 2 ^ k
  rw [Int.natCast_ediv, Int.natCast_pow]; rfl
theorem sv_shr_neg {v : Nat} (k : Nat) (hv : 0 < v) : sv true ((v - 1) / 2 ^ k + 1) = sv true v / 2 ^ k := by
  obtain ⟨u, rfl⟩ : ∃ u, v = u + 1 := ⟨v - 1, by omega⟩
  show -(((u + 1 - 1) / 2 ^ k + 1 : Nat) : Int) = -((u + 1 : Nat) : Int) / 2 ^ k
  have hp : (0 : Int) < 2 ^ k := Int.pow_pos (by decide)
  have h : -((u : Int) + 1) / 2 ^ k = -((u : Int) / 2 ^ k + 1) := by
    have h1 := Int.negSucc_ediv u hp
    rw [Int.negSucc_eq] at h1
    exact h1
  have e : ((u / 2 ^ k : Nat) : Int) = (u : Int) / 2 ^ k := by rw [Int.natCast_ediv, Int.natCast_pow]; rfl
  rw [Nat.add_sub_cancel, Int.natCast_add, e, Int.natCast_add]
  exact h.symm
set_option maxHeartbeats 4000000 in
set_option maxRecDepth 20000 in
theorem lshift_up (neg : Bool) (A : Option Addr) (xs : List Nat) (c n C : Nat) (w : World) (hx : Sl .u64 w w.heap.size A xs) (dx : Dig W64 xs) (hn : n ≤ 9223372036854775807)
    (hm : 0 < xs.length → (xs.length + n / 64 + 1) * 8 ≤ 140737488351232) (hC : 0 < xs.length → xs.length + n / 64 + 1 ≤ C) (hC2 : C ≤ 17592186043904) :
    Calls Try.prog 40 #[big neg A xs.length c, .int .i64 n] w (Gives w (sv neg (val W64 xs) * 2 ^ n) C) := by
  have hU : ∀ W : World, Sl .u64 W W.heap.size A xs → Calls Try.prog 58 #[.slice A xs.length c, .int .u64 n] W (Words W (val W64 xs * 2 ^ n) C) := fun W h => by
    rcases Nat.eq_zero_or_pos xs.length with h0 | h0
    · have e : xs = [] := List.eq_nil_of_length_eq_zero h0
      subst e
      simp only [val_nil, Nat.zero_mul]
      exact (shiftUp_nil n c A W).mono fun _ _ h => h.mono (Nat.zero_le _)
    · exact (shiftUp_pos A xs c n W h dx h0 (by simp only [W64]; omega) (hm h0)).mono fun _ _ h => h.mono (hC h0)
  have HU := Lib.hid hU
  have hlen : xs.length ≤ 17592186043904 := by
    rcases Nat.eq_zero_or_pos xs.length with h0 | h0
    · omega
    · have := hm h0; omega
  have hni : (0 : Int) ≤ (n : Int) := by omega
  have hni2 : (n : Int) ≤ 9223372036854775807 := by omega
  have hwr : IntKind.u64.wrap (n : Int) = (n : Int) := by rw [IntKind.wrap_u64]; omega
  clear hU hm hC
  have hb0 : Below w.heap.size w ((w.alloc (.cells #[.bool neg, .slice A xs.length c] 51)).alloc (.cells #[.bool false, .slice none 0 0] 51)) := by go_grown
  have hre := Rest.new (w.alloc (.cells #[.bool neg, .slice A xs.length c] 51))
  rw [World.size_alloc] at hre
  have c0 : ((w.alloc (.cells #[.bool neg, .slice A xs.length c] 51)).alloc (.cells #[.bool false, .slice none 0 0] 51)).cell? ⟨w.heap.size, 0, none⟩ = some (.bool neg) := by go_cell
  have c1 : ((w.alloc (.cells #[.bool neg, .slice A xs.length c] 51)).alloc (.cells #[.bool false, .slice none 0 0] 51)).cell? ⟨w.heap.size, 1, none⟩ = some (.slice A xs.length c) := by go_cell
  have hz : ((w.alloc (.cells #[.bool neg, .slice A xs.length c] 51)).alloc (.cells #[.bool false, .slice none 0 0] 51)).heap.size = w.heap.size + 1 + 1 := by go_size
  have hs := hx.below hb0
  go_enter Try.func40, Try.ntmps40
  go_wp2_with fail
  generalize ((w.alloc (.cells #[.bool neg, .slice A xs.length c] 51)).alloc (.cells #[.bool false, .slice none 0 0] 51)) = W at *
  have HZ := Lib.hid hz
  clear hz hx
  have hlt : w.heap.size < W.heap.size := by have := HZ.out; omega
  refine wp_region_noPanic ?_
  have B0 : Below W.heap.size W W.drew := (Below.refl _ _).drew
  refine wp_region_held_drew (S := (fun wx => wx.cell? ⟨w.heap.size, 0, none⟩ = some (.bool neg) ∧ wx.cell? ⟨w.heap.size, 1, none⟩ = some (.slice A xs.length c))) (by kernel_rfl) ⟨((B0).cell (p := ⟨w.heap.size, 0, none⟩) hlt).trans c0, ((B0).cell (p := ⟨w.heap.size, 1, none⟩) hlt).trans c1⟩ (fun hHeld => ?_)
  generalize W.drew = Vd at *
  refine wpAnyH_take (i := 0) (v := ?_) (by (simp only [List.getElem?_toArray, List.getElem?_cons_succ, List.getElem?_cons_zero]; rfl)) (by kernel_rfl) (by kernel_rfl) (by kernel_rfl) (fun _ _ _ h => h) (Or.inl ⟨by rfl, ?_⟩) (by assumption) ?_
  rotate_left
  · intro wt hSw
    (try dsimp only at hSw)
    go_simp
    (try with_reducible rfl)
  (try simp only [Act.put, List.setIfInBounds_toArray, List.set_cons_zero, List.set_cons_succ])
  refine wpAnyH_take (i := 1) (v := ?_) (by (simp only [List.getElem?_toArray, List.getElem?_cons_succ, List.getElem?_cons_zero]; rfl)) (by kernel_rfl) (by kernel_rfl) (by kernel_rfl) (fun _ _ _ h => h) (Or.inl ⟨by rfl, ?_⟩) (by assumption) ?_
  rotate_left
  · intro wt hSw
    (try dsimp only at hSw)
    go_simp
    (try with_reducible rfl)
  (try simp only [Act.put, List.setIfInBounds_toArray, List.set_cons_zero, List.set_cons_succ])
  refine wpAnyH_take (i := 2) (v := ?_) (by (simp only [List.getElem?_toArray, List.getElem?_cons_succ, List.getElem?_cons_zero]; rfl)) (by kernel_rfl) (by kernel_rfl) (by kernel_rfl) (fun _ _ _ h => h) (Or.inl ⟨by rfl, ?_⟩) (by assumption) ?_
  rotate_left
  · intro wt hSw
    (try dsimp only at hSw)
    go_simp
    (try with_reducible rfl)
  (try simp only [Act.put, List.setIfInBounds_toArray, List.set_cons_zero, List.set_cons_succ])
  refine wpAnyH_take (i := 3) (v := ?_) (by (simp only [List.getElem?_toArray, List.getElem?_cons_succ, List.getElem?_cons_zero]; rfl)) (by kernel_rfl) (by kernel_rfl) (by kernel_rfl) (fun _ _ _ h => h) (Or.inl ⟨by rfl, ?_⟩) (by assumption) ?_
  rotate_left
  · intro wt hSw
    (try dsimp only at hSw)
    go_simp
    (try with_reducible rfl)
  (try simp only [Act.put, List.setIfInBounds_toArray, List.set_cons_zero, List.set_cons_succ])
  refine wpAnyH_take (i := 4) (v := ?_) (by (simp only [List.getElem?_toArray, List.getElem?_cons_succ, List.getElem?_cons_zero]; rfl)) (by kernel_rfl) (by kernel_rfl) (by kernel_rfl) (fun _ _ _ h => h) (Or.inl ⟨by rfl, ?_⟩) (by assumption) ?_
  rotate_left
  · intro wt hSw
    (try dsimp only at hSw)
    go_simp
    (try with_reducible rfl)
  (try simp only [Act.put, List.setIfInBounds_toArray, List.set_cons_zero, List.set_cons_succ])
  refine wpAnyH_take (i := 5) (v := ?_) (by (simp only [List.getElem?_toArray, List.getElem?_cons_succ, List.getElem?_cons_zero]; rfl)) (by kernel_rfl) (by kernel_rfl) (by kernel_rfl) (fun _ _ _ h => h) (Or.inl ⟨by rfl, ?_⟩) (by assumption) ?_
  rotate_left
  · intro wt hSw
    (try dsimp only at hSw)
    go_simp
    (try with_reducible rfl)
  (try simp only [Act.put, List.setIfInBounds_toArray, List.set_cons_zero, List.set_cons_succ])
  refine wpAnyH_ready (rs := [6]) (by kernel_rfl) (by simp) (AllReadyH.cons (by (simp only [List.getElem?_toArray, List.getElem?_cons_succ, List.getElem?_cons_zero]; rfl)) (fun K hK => ?_) AllReadyH.nil)
  go_simp
  (go_at_call 58; (with_reducible refine (HU.out Vd ((hs.below (B0.mono hb0.size)).more (Nat.le_trans hb0.size B0.size))).mono ?_))
  rintro e wa ⟨V, zs, k, rfl, hs1, hd1, hn1, hv1, hk1, hk2, hb⟩
  (try go_wp2_with fail)
  have B1 := B0.trans (hb.mono B0.size)
  refine hK.out _ _ ⟨((B1).cell (p := ⟨w.heap.size, 0, none⟩) hlt).trans c0, ((B1).cell (p := ⟨w.heap.size, 1, none⟩) hlt).trans c1⟩ (fun hHeld => ?_)
  clear hK
  (try simp only [Act.put, List.setIfInBounds_toArray, List.set_cons_zero, List.set_cons_succ])
  refine wpAnyH_ready (rs := [7]) (by kernel_rfl) (by simp) (AllReadyH.cons (by (simp only [List.getElem?_toArray, List.getElem?_cons_succ, List.getElem?_cons_zero]; rfl)) (fun K hK => ?_) AllReadyH.nil)
  go_simp
  (go_at_call 41; (with_reducible refine (made_any _ V zs.length k wa (by unfold maxLen; omega)).mono ?_))
  rintro e wb ⟨rfl, hb2⟩
  (try go_wp2_with fail)
  have B2 := B1.trans (hb2.mono B1.size)
  refine hK.out _ _ ⟨((B2).cell (p := ⟨w.heap.size, 0, none⟩) hlt).trans c0, ((B2).cell (p := ⟨w.heap.size, 1, none⟩) hlt).trans c1⟩ (fun hHeld => ?_)
  clear hK
  (try simp only [Act.put, List.setIfInBounds_toArray, List.set_cons_zero, List.set_cons_succ])
  have hr2 := hre.on B2
  have hw2 := hb0.trans (B2.mono hb0.size)
  have g0 := hr2.r0
  have g1 := hr2.r1
  have g2 := hr2.f0
  have g3 := hr2.f1
  have hB : Bg wb (neg && decide (0 < zs.length)) V zs k C := ⟨(hs1.below hb2).more hb2.size, hd1, hn1, sign_made, hk1, hk2⟩
  have hL := hr2.laid hw2 (by omega) hB
  refine wpAnyH_ready (rs := [8]) (by kernel_rfl) (by simp) (AllReadyH.cons (by (simp only [List.getElem?_toArray, List.getElem?_cons_succ, List.getElem?_cons_zero]; rfl)) (fun K hK => ?_) AllReadyH.nil)
  go_simp
  refine hK.out _ _ ⟨(by rw [World.cell?_setCell_other _ _ _ _ (by simp), World.cell?_setCell_other _ _ _ _ (by simp)]; exact ((B2).cell (p := ⟨w.heap.size, 0, none⟩) hlt).trans c0), (by rw [World.cell?_setCell_other _ _ _ _ (by simp), World.cell?_setCell_other _ _ _ _ (by simp)]; exact ((B2).cell (p := ⟨w.heap.size, 1, none⟩) hlt).trans c1)⟩ (fun hHeld => ?_)
  clear hK
  (try simp only [Act.put, List.setIfInBounds_toArray, List.set_cons_zero, List.set_cons_succ])
  refine wpAnyH_done (by kernel_rfl) (NoPanic.normal ?_) _
  go_wp2
  refine bodyPost_ret (v := big (neg && decide (0 < zs.length)) V zs.length k) (by simp [results, Try.results40, go_sem, g0, g1]) rfl ⟨_, V, zs, k, rfl, hL.1, ?_, hL.2⟩
  rw [sv_made, hv1, sv_shl]
end Go.Proofs.Ytmcnhgakaodafaa

namespace Go.Proofs.Ytmcnhgakaodafaa
open Go.RowKit Nb
theorem l_shift {X : Int} {n : Bool} {A : Option Addr} {xs : List Nat} {c C k : Nat} {w : World} (h : Nw w X C n A xs c) (hC : C ≤ 1000000) (hk : k ≤ 4096) :
    Calls Try.prog 40 #[big n A xs.length c, .int .i64 k] w (GivesN w (X * (tw k : Int)) (C + 65)) := by
  have hl := h.bg.len
  have hc := h.bg.cap
  refine (lshift_up n A xs c k (C + 65) w h.bg.sl h.bg.dig (by omega) (fun _ => by omega) (fun _ => by omega) (by omega)).mono ?_
  rintro _ w1 ⟨m, V, zs, d, rfl, hb, hv, hw⟩
  refine ⟨m, V, zs, d, rfl, ⟨hb, ?_⟩, hw⟩
  rw [hv, h.v]
  show X * 2 ^ k = X * ((2 ^ k : Nat) : Int)
  rw [Int.natCast_pow]; rfl
end Go.Proofs.Ytmcnhgakaodafaa

namespace Go.Proofs.Ytmcnhgakaodafaa
open Go.RowKit Nb

set_option maxHeartbeats 8000000 in
set_option maxRecDepth 20000 in
theorem bal_any {X Y k : Int} {n m : Bool} {A B : Option Addr} {xs ys : List Nat} {c d C a b : Nat} {w : World} (NX : Nw w X C n A xs c) (NY : Nw w Y C m B ys d) (ha : max k 0 = (a : Int)) (hb : max (-k) 0 = (b : Int)) (hk : IntKind.i64.wrap (-k) = -k) (hal : a ≤ 4096) (hbl : b ≤ 4096 ∧ C ≤ 1000000 ∧ True) :
    Calls Try.prog 25 #[big n A xs.length c, big m B ys.length d, .int .i64 k] w (fun e w' => ∃ (n1 : Bool) (A1 : Option Addr) (z1 : List Nat) (k1 : Nat) (n2 : Bool) (A2 : Option Addr) (z2 : List Nat) (k2 : Nat), e = .returned (.tuple #[big n1 A1 z1.length k1, big n2 A2 z2.length k2]) ∧ Nw w' (X * (tw a : Int)) (C + 65) n1 A1 z1 k1 ∧ Nw w' (Y * (tw b : Int)) (C + 65) n2 A2 z2 k2 ∧ Below w.heap.size w w') := by
  have HA := Lib.hid ha
  have HB := Lib.hid hb
  have HK := Lib.hid hk
  have HL := Lib.hid (And.intro hal hbl)
  clear ha hb hk hal hbl
  have BW : Below w.heap.size w w := Below.refl _ _
  obtain ⟨V2, e3, hb4, K5, -, z1⟩ := alloc_new w [.bool n, .slice A xs.length c] 51
  replace NX := NX.kp (Kept.of hb4)
  replace NY := NY.kp (Kept.of hb4)
  replace BW := BW.trans (hb4.mono BW.size)
  clear hb4
  obtain ⟨V7, e8, hb9, K10, -, z6⟩ := alloc_new V2 [.bool m, .slice B ys.length d] 51
  rw [z1] at K10 z6
  replace K5 := K5.on hb9
  replace NX := NX.kp (Kept.of hb9)
  replace NY := NY.kp (Kept.of hb9)
  replace BW := BW.trans (hb9.mono BW.size)
  clear hb9
  obtain ⟨V12, e13, hb14, K15, Z16, z11⟩ := alloc_new V7 [.bool false, .slice none 0 0] 51
  rw [z6] at K15 Z16 z11
  have n17 : w.heap.size ≠ w.heap.size + 1 + 1 := Nat.ne_of_lt (z6 ▸ K5.lt)
  have n18 : w.heap.size + 1 ≠ w.heap.size + 1 + 1 := Nat.ne_of_lt (z6 ▸ K10.lt)
  have g19 : w.heap.size ≤ w.heap.size + 1 + 1 := z6 ▸ BW.size
  replace K5 := K5.on hb14
  replace K10 := K10.on hb14
  replace NX := NX.kp (Kept.of hb14)
  replace NY := NY.kp (Kept.of hb14)
  replace BW := BW.trans (hb14.mono BW.size)
  clear hb14
  obtain ⟨V20, e21, hb22, K23, Z24, -⟩ := alloc_new V12 [.bool false, .slice none 0 0] 51
  rw [z11] at K23 Z24
  have n25 : w.heap.size ≠ w.heap.size + 1 + 1 + 1 := Nat.ne_of_lt (z11 ▸ K5.lt)
  have n26 : w.heap.size + 1 ≠ w.heap.size + 1 + 1 + 1 := Nat.ne_of_lt (z11 ▸ K10.lt)
  have n27 : w.heap.size + 1 + 1 ≠ w.heap.size + 1 + 1 + 1 := Nat.ne_of_lt (z11 ▸ K15.lt)
  have g28 : w.heap.size ≤ w.heap.size + 1 + 1 + 1 := z11 ▸ BW.size
  replace K5 := K5.on hb22
  replace K10 := K10.on hb22
  replace K15 := K15.on hb22
  replace Z16 := Z16.on hb22
  replace NX := NX.kp (Kept.of hb22)
  replace NY := NY.kp (Kept.of hb22)
  replace BW := BW.trans (hb22.mono BW.size)
  clear hb22
  clear z1 z6 z11
  go_enter Try.func25, Try.ntmps25
  go_wp2_with fail
  rw [← e3, ← e8, ← e13, ← e21]
  clear e3 e8 e13 e21
  refine wp_region_noPanic ?_
  have hb : Below V20.heap.size V20 V20.drew := (Below.refl _ _).drew
  replace K5 := K5.on hb
  replace K10 := K10.on hb
  replace K15 := K15.on hb
  replace K23 := K23.on hb
  replace Z16 := Z16.on hb
  replace Z24 := Z24.on hb
  replace NX := NX.kp (Kept.of hb)
  replace NY := NY.kp (Kept.of hb)
  replace BW := BW.trans (hb.mono BW.size)
  clear hb
  refine wp_region_held_drew (S := (fun wx => Cs wx (w.heap.size) 0 [.bool n, .slice A xs.length c] ∧ Cs wx (w.heap.size + 1) 0 [.bool m, .slice B ys.length d])) (by kernel_rfl) (by exact ⟨K5.cs, K10.cs⟩) (fun hHeld => ?_)
  generalize V20.drew = Vd29 at *
  refine pT 0 ?_
  (try simp only [p0, p1, p2, p3])
  refine pT 1 ?_
  (try simp only [p0, p1, p2, p3])
  refine pT 2 ?_
  (try simp only [p0, p1, p2, p3])
  refine pT 4 ?_
  (try simp only [p0, p1, p2, p3])
  refine pT 5 ?_
  (try simp only [p0, p1, p2, p3])
  refine pT 6 ?_
  (try simp only [p0, p1, p2, p3])
  refine pT 7 ?_
  (try simp only [p0, p1, p2, p3])
  refine pR1 3 (fun K hK => ?_)
  go_simp
  rw [HA.out]
  (go_at_call 40; with_reducible refine (l_shift NX HL.out.2.2.1 HL.out.1).mono ?_)
  rintro _ w30 ⟨n1, A1, z1, k1, rfl, N1, hb⟩
  (try go_wp2_with fail)
  replace K5 := K5.on hb
  replace K10 := K10.on hb
  replace K15 := K15.on hb
  replace K23 := K23.on hb
  replace Z16 := Z16.on hb
  replace Z24 := Z24.on hb
  replace NY := NY.kp (Kept.of hb)
  replace BW := BW.trans (hb.mono BW.size)
  clear hb
  refine hK.out _ _ (by exact ⟨K5.cs, K10.cs⟩) (fun hHeld => ?_)
  clear hK
  (try simp only [p0, p1, p2, p3])
  refine pR1 8 (fun K hK => ?_)
  go_simp
  rw [HK.out, HB.out]
  (go_at_call 40; with_reducible refine (l_shift NY HL.out.2.2.1 HL.out.2.1).mono ?_)
  rintro _ w31 ⟨n2, A2, z2, k2, rfl, N2, hb⟩
  (try go_wp2_with fail)
  replace K5 := K5.on hb
  replace K10 := K10.on hb
  replace K15 := K15.on hb
  replace K23 := K23.on hb
  replace Z16 := Z16.on hb
  replace Z24 := Z24.on hb
  replace N1 := N1.kp (Kept.of hb)
  replace BW := BW.trans (hb.mono BW.size)
  clear hb
  refine hK.out _ _ (by exact ⟨K5.cs, K10.cs⟩) (fun hHeld => ?_)
  clear hK
  (try simp only [p0, p1, p2, p3])
  refine pR1 9 (fun K hK => ?_)
  obtain ⟨c32, c33⟩ := K15.c2
  obtain ⟨c34, c35⟩ := Z16.f2
  go_simp
  clear c32 c33 c34 c35
  obtain ⟨V36, hk38⟩ : ∃ V36, V36 = w31.setCells (w.heap.size + 1 + 1) 0 [.bool n1, .slice A1 z1.length k1] := ⟨_, rfl⟩
  have e37 := hk38
  simp only [World.setCells, Nat.zero_add] at e37
  have hk39 := Kept.overE hk38 K15 rfl (by simp)
  replace K5 := K5.awayE hk38 n17
  replace K10 := K10.awayE hk38 n18
  replace K15 := K15.overE hk38 rfl
  replace K23 := K23.awayE hk38 n27.symm
  replace Z24 := Z24.putE hk38
  replace N1 := N1.kp hk39
  replace N2 := N2.kp hk39
  replace BW := Below.putE BW hk38 g19
  clear hk38 hk39
  rw [← e37]
  clear e37
  refine hK.out _ _ (by exact ⟨K5.cs, K10.cs⟩) (fun hHeld => ?_)
  clear hK
  (try simp only [p0, p1, p2, p3])
  refine pR1 10 (fun K hK => ?_)
  obtain ⟨c40, c41⟩ := K23.c2
  obtain ⟨c42, c43⟩ := Z24.f2
  go_simp
  clear c40 c41 c42 c43
  obtain ⟨V44, hk46⟩ : ∃ V44, V44 = V36.setCells (w.heap.size + 1 + 1 + 1) 0 [.bool n2, .slice A2 z2.length k2] := ⟨_, rfl⟩
  have e45 := hk46
  simp only [World.setCells, Nat.zero_add] at e45
  have hk47 := Kept.overE hk46 K23 rfl (by simp)
  replace K5 := K5.awayE hk46 n25
  replace K10 := K10.awayE hk46 n26
  replace K15 := K15.awayE hk46 n27
  replace K23 := K23.overE hk46 rfl
  replace N1 := N1.kp hk47
  replace N2 := N2.kp hk47
  replace BW := Below.putE BW hk46 g28
  clear hk46 hk47
  rw [← e45]
  clear e45
  refine hK.out _ _ (by exact ⟨K5.cs, K10.cs⟩) (fun hHeld => ?_)
  clear hK
  (try simp only [p0, p1, p2, p3])
  refine wpAnyH_done (by kernel_rfl) (NoPanic.normal ?_) _
  go_wp2
  obtain ⟨c48, c49⟩ := K15.c2
  obtain ⟨c50, c51⟩ := K23.c2
  exact bodyPost_ret (v := .tuple #[big n1 A1 z1.length k1, big n2 A2 z2.length k2]) (by simp [results, Try.results25, go_sem, c48, c49, c50, c51]) rfl ⟨n1, A1, z1, k1, n2, A2, z2, k2, rfl, N1, N2, BW⟩
end Go.Proofs.Ytmcnhgakaodafaa

namespace Go.Proofs.Ytmcnhgakaodafaa
open Go.RowKit Nb

open Fl
theorem w64_in (n : Int) (h : -9223372036854775808 ≤ n ∧ n ≤ 9223372036854775807) : wrap64 n = n := by unfold wrap64; omega
theorem i64_in (n : Int) (h1 : -9223372036854775808 ≤ n) (h2 : n ≤ 9223372036854775807) : IntKind.i64.wrap n = n := by rw [IntKind.wrap_i64]; omega
theorem and_exp {x : Nat} (h : x < 18446744073709551616) : bits .and .u64 ((x : Int) / 4503599627370496) 2047 = ((mg x / 4503599627370496 : Nat) : Int) := by
  have h1 := u64_and_nat (x / 4503599627370496) 2047 (by omega) (by omega)
  rw [show (((x / 4503599627370496 : Nat)) : Int) = (x : Int) / 4503599627370496 from rfl, show ((2047 : Nat) : Int) = 2047 from rfl] at h1
  rw [h1, show 2047 = 2 ^ 11 - 1 from rfl, Nat.and_two_pow_sub_one_eq_mod]
  unfold mg
  congr 1
  show x / 4503599627370496 % 2048 = x % 9223372036854775808 / 4503599627370496
  omega
theorem mod_units (x : Nat) : (x : Int) % 4503599627370496 = ((mg x % 4503599627370496 : Nat) : Int) := by
  unfold mg; omega
theorem sign_bit {x : Nat} (h : x < 18446744073709551616) : ((x : Int) / 9223372036854775808 != 0) = ng x := by
  unfold ng
  rcases Nat.lt_or_ge x 9223372036854775808 with g | g
  · have h1 : (x : Int) / 9223372036854775808 = 0 := by omega
    have h2 : x / 9223372036854775808 % 2 = 0 := by omega
    rw [h1, h2]; rfl
  · have h1 : (x : Int) / 9223372036854775808 = 1 := by omega
    have h2 : x / 9223372036854775808 % 2 = 1 := by omega
    rw [h1, h2]; rfl
set_option maxHeartbeats 8000000 in
set_option maxRecDepth 20000 in
theorem from_no {x : Nat} {w : World} (h : x < 18446744073709551616) (hf : 9218868437227405312 ≤ mg x) :
    Calls Try.prog 14 #[.float .f64 x] w (fun e w' => e = .returned (.tuple #[fv fv0, .int .i64 6]) ∧ Below w.heap.size w w') := by
  have hfb := run_bits
  have f1 := and_exp h
  have f5 := mod_units x
  have hr : mg x % 4503599627370496 < 4503599627370496 := Nat.mod_lt _ (by decide)
  have hm : mg x < 9223372036854775808 := Nat.mod_lt _ (by decide)
  have he : mg x / 4503599627370496 = 2047 := by omega
  obtain ⟨n, hn⟩ : ∃ n : Int, ((mg x / 4503599627370496 : Nat) : Int) = n := ⟨_, rfl⟩
  rw [hn] at f1
  have f2 : wrap64 n = n := w64_in n (by omega)
  have f3 : (n == 2047) = true := by simp; omega
  obtain ⟨b, hb⟩ : ∃ b : Int, (x : Int) = b := ⟨_, rfl⟩
  rw [hb] at f1 f5
  have hb0 : 0 ≤ b := by omega
  have hb1 : b < 18446744073709551616 := by omega
  obtain ⟨u, hu⟩ : ∃ u : Int, ((mg x % 4503599627370496 : Nat) : Int) = u := ⟨_, rfl⟩
  rw [hu] at f5
  have f6 : wrap64 u = u := w64_in u (by omega)
  clear hr hm he hu hf h hn
  have BW : Below w.heap.size w w := Below.refl _ _
  obtain ⟨V1, e2, hb3, K4, Z5, -⟩ := alloc_new w [.bool false, .slice none 0 0, .bool false, .slice none 0 0] 37
  have g6 : w.heap.size ≤ w.heap.size := BW.size
  replace BW := BW.trans (hb3.mono BW.size)
  clear hb3
  go_enter Try.func14, Try.ntmps14
  go_wp2_with fail
  rw [← e2]
  clear e2
  obtain ⟨c7, c8, c9, c10⟩ := K4.c4
  exact bodyPost_ret (v := .tuple #[.agg #[.bool false, .slice none 0 0, .bool false, .slice none 0 0], .int .i64 6]) (by simp [results, Try.results14, go_sem, c7, c8, c9, c10]) rfl ⟨rfl, BW⟩
set_option maxHeartbeats 8000000 in
set_option maxRecDepth 20000 in
theorem from_fl {x : Nat} {w : World} (h : x < 18446744073709551616) (hf : mg x < 9218868437227405312) :
    Calls Try.prog 14 #[.float .f64 x] w (fun e w' => ∃ f : Fv, e = .returned (.tuple #[fv f, .int .i64 0]) ∧ Ff w' (fl x) f ∧ Below w.heap.size w w') := by
  have hfb := run_bits
  have f1 := and_exp h
  have f5 := mod_units x
  have f8 := sign_bit h
  have hE := fe_le hf
  have hl : mg x / 4503599627370496 ≤ 2046 := by omega
  have hr : mg x % 4503599627370496 < 4503599627370496 := Nat.mod_lt _ (by decide)
  obtain ⟨b, hb⟩ : ∃ b : Int, (x : Int) = b := ⟨_, rfl⟩
  rw [hb] at f1 f5 f8
  have hb0 : 0 ≤ b := by omega
  have hb1 : b < 18446744073709551616 := by omega
  by_cases hz : mg x / 4503599627370496 = 0
  · cases hg : ng x
    · rw [hg] at f8
      obtain ⟨n, hn⟩ : ∃ n : Int, ((mg x / 4503599627370496 : Nat) : Int) = n := ⟨_, rfl⟩
      rw [hn] at f1
      have f2 : wrap64 n = n := w64_in n (by omega)
      have f3 : (n == 2047) = false := by simp; omega
      have f4 : (n == 0) = true := by simp; omega
      have HE : Hid (fe x = 1) := Lib.hid (by unfold fe; rw [hz]; rfl)
      have HU : Hid (fu x = mg x % 4503599627370496) := Lib.hid (by unfold fu; rw [if_pos hz])
      obtain ⟨m, hm⟩ : ∃ m : Nat, mg x % 4503599627370496 = m := ⟨_, rfl⟩
      rw [hm] at f5 HU hr
      obtain ⟨u, hu⟩ : ∃ u : Int, ((m : Nat) : Int) = u := ⟨_, rfl⟩
      rw [hu] at f5
      have f6 : wrap64 u = u := w64_in u (by omega)
      have hu0 : 0 ≤ u := by omega
      have hu1 : u < 4503599627370496 := by omega
      have HS : Hid (u = fs x ∧ -9223372036854775808 ≤ u ∧ u ≤ 9223372036854775807) := Lib.hid (by have := HU.out; unfold fs; rw [hg]; refine ⟨?_, by omega, by omega⟩; simp; omega)
      have HA : Hid (max (-1074 : Int) 0 = ((0 : Nat) : Int) ∧ max (-(-1074 : Int)) 0 = ((1074 : Nat) : Int) ∧ IntKind.i64.wrap (-(-1074)) = -(-1074) ∧ (0 : Nat) ≤ 4096 ∧ 1074 ≤ 4096 ∧ 0 + 1074 = fe x - 1 + 1074) := Lib.hid ⟨by decide, by decide, i64_in _ (by decide) (by decide), by decide, by decide, by rw [HE.out]⟩
      have HF := Lib.hid (fl_fits hf)
      clear hz hn hm hu hr hE hl hf h hg HE HU
      have BW : Below w.heap.size w w := Below.refl _ _
      obtain ⟨V1, e2, hb3, K4, Z5, -⟩ := alloc_new w [.bool false, .slice none 0 0, .bool false, .slice none 0 0] 37
      have g6 : w.heap.size ≤ w.heap.size := BW.size
      replace BW := BW.trans (hb3.mono BW.size)
      clear hb3
      go_enter Try.func14, Try.ntmps14
      go_wp2_with fail
      rw [← e2]
      clear e2
      clear hu0 hu1
      refine (lof_n (n := u) HS.out.2.1 HS.out.2.2).mono ?_
      rintro _ w7 ⟨n1, A1, z1, k1, rfl, N1, hb⟩
      replace K4 := K4.on hb
      replace Z5 := Z5.on hb
      replace BW := BW.trans (hb.mono BW.size)
      clear hb
      go_wp2_with fail
      refine (lof_n (n := 1) (by decide) (by decide)).mono ?_
      rintro _ w8 ⟨n2, A2, z2, k2, rfl, N2, hb⟩
      replace K4 := K4.on hb
      replace Z5 := Z5.on hb
      replace N1 := N1.kp (Kept.of hb)
      replace BW := BW.trans (hb.mono BW.size)
      clear hb
      go_wp2_with fail
      refine (bal_any (k := (-1074)) N1 N2 HA.out.1 HA.out.2.1 HA.out.2.2.1 HA.out.2.2.2.1 ⟨HA.out.2.2.2.2.1, by decide, trivial⟩).mono ?_
      rintro _ w9 ⟨n3, A3, z3, k3, n4, A4, z4, k4, rfl, N3, N4, hb⟩
      replace K4 := K4.on hb
      replace Z5 := Z5.on hb
      replace N1 := N1.kp (Kept.of hb)
      replace N2 := N2.kp (Kept.of hb)
      replace BW := BW.trans (hb.mono BW.size)
      clear hb
      clear N1 N2
      go_wp2_with fail
      refine (q_ratio N3 N4 (by rw [Int.one_mul]; exact Int.ne_of_gt (two_pos _)) (by decide)).mono ?_
      rintro _ w10 ⟨o, rfl, Fo, hb⟩
      replace K4 := K4.on hb
      replace Z5 := Z5.on hb
      replace N3 := N3.kp (Kept.of hb)
      replace N4 := N4.kp (Kept.of hb)
      replace BW := BW.trans (hb.mono BW.size)
      clear hb
      replace Fo := Fo.to (p := fl x) (by rw [Int.one_mul, HS.out.1]; exact fl_shift HA.out.2.2.2.2.2)
      clear N3 N4
      go_wp2_with fail
      refine (q_fit Fo (by decide)).mono ?_
      rintro _ w11 ⟨f, er, rfl, R, hb⟩
      replace K4 := K4.on hb
      replace Z5 := Z5.on hb
      replace Fo := Fo.kp (Kept.of hb)
      replace BW := BW.trans (hb.mono BW.size)
      clear hb
      obtain ⟨rfl, L⟩ := R.yes not_false HF.out
      clear R Fo
      obtain ⟨c12, c13, c14, c15⟩ := K4.c4
      obtain ⟨c16, c17, c18, c19⟩ := Z5.f4
      obtain ⟨V20, hk22⟩ : ∃ V20, V20 = w11.setCells (w.heap.size) 0 [.bool f.n, .slice f.A f.xs.length f.c, .bool f.m, .slice f.B f.ds.length f.d] := ⟨_, rfl⟩
      have e21 := hk22
      simp only [World.setCells, Nat.zero_add, Nat.reduceAdd] at e21
      have hk23 := Kept.overE hk22 K4 rfl (by simp)
      replace K4 := K4.overE hk22 rfl
      replace L := L.kp hk23
      replace BW := Below.putE BW hk22 g6
      clear hk22 hk23
      go_wp2_with fail
      clear c12 c13 c14 c15 c16 c17 c18 c19
      rw [← e21]
      clear e21
      obtain ⟨c24, c25, c26, c27⟩ := K4.c4
      exact bodyPost_ret (v := .tuple #[fv f, .int .i64 0]) (by simp [results, Try.results14, go_sem, c24, c25, c26, c27]) rfl ⟨f, rfl, L, BW⟩
    · rw [hg] at f8
      obtain ⟨n, hn⟩ : ∃ n : Int, ((mg x / 4503599627370496 : Nat) : Int) = n := ⟨_, rfl⟩
      rw [hn] at f1
      have f2 : wrap64 n = n := w64_in n (by omega)
      have f3 : (n == 2047) = false := by simp; omega
      have f4 : (n == 0) = true := by simp; omega
      have HE : Hid (fe x = 1) := Lib.hid (by unfold fe; rw [hz]; rfl)
      have HU : Hid (fu x = mg x % 4503599627370496) := Lib.hid (by unfold fu; rw [if_pos hz])
      obtain ⟨m, hm⟩ : ∃ m : Nat, mg x % 4503599627370496 = m := ⟨_, rfl⟩
      rw [hm] at f5 HU hr
      obtain ⟨u, hu⟩ : ∃ u : Int, ((m : Nat) : Int) = u := ⟨_, rfl⟩
      rw [hu] at f5
      have f6 : wrap64 u = u := w64_in u (by omega)
      have hu0 : 0 ≤ u := by omega
      have hu1 : u < 4503599627370496 := by omega
      obtain ⟨s, hs⟩ : ∃ s : Int, -u = s := ⟨_, rfl⟩
      have HM := Lib.hid hs
      have HS : Hid (s = fs x ∧ -9223372036854775808 ≤ s ∧ s ≤ 9223372036854775807) := Lib.hid (by have := HU.out; unfold fs; rw [hg]; refine ⟨?_, by omega, by omega⟩; simp; omega)
      have HA : Hid (max (-1074 : Int) 0 = ((0 : Nat) : Int) ∧ max (-(-1074 : Int)) 0 = ((1074 : Nat) : Int) ∧ IntKind.i64.wrap (-(-1074)) = -(-1074) ∧ (0 : Nat) ≤ 4096 ∧ 1074 ≤ 4096 ∧ 0 + 1074 = fe x - 1 + 1074) := Lib.hid ⟨by decide, by decide, i64_in _ (by decide) (by decide), by decide, by decide, by rw [HE.out]⟩
      have HF := Lib.hid (fl_fits hf)
      clear hz hn hm hu hr hE hl hf h hg HE HU hs
      have BW : Below w.heap.size w w := Below.refl _ _
      obtain ⟨V1, e2, hb3, K4, Z5, -⟩ := alloc_new w [.bool false, .slice none 0 0, .bool false, .slice none 0 0] 37
      have g6 : w.heap.size ≤ w.heap.size := BW.size
      replace BW := BW.trans (hb3.mono BW.size)
      clear hb3
      go_enter Try.func14, Try.ntmps14
      go_wp2_with fail
      rw [← e2]
      clear e2
      rw [HM.out]
      clear hu0 hu1
      refine (lof_n (n := s) HS.out.2.1 HS.out.2.2).mono ?_
      rintro _ w7 ⟨n1, A1, z1, k1, rfl, N1, hb⟩
      replace K4 := K4.on hb
      replace Z5 := Z5.on hb
      replace BW := BW.trans (hb.mono BW.size)
      clear hb
      go_wp2_with fail
      refine (lof_n (n := 1) (by decide) (by decide)).mono ?_
      rintro _ w8 ⟨n2, A2, z2, k2, rfl, N2, hb⟩
      replace K4 := K4.on hb
      replace Z5 := Z5.on hb
      replace N1 := N1.kp (Kept.of hb)
      replace BW := BW.trans (hb.mono BW.size)
      clear hb
      go_wp2_with fail
      refine (bal_any (k := (-1074)) N1 N2 HA.out.1 HA.out.2.1 HA.out.2.2.1 HA.out.2.2.2.1 ⟨HA.out.2.2.2.2.1, by decide, trivial⟩).mono ?_
      rintro _ w9 ⟨n3, A3, z3, k3, n4, A4, z4, k4, rfl, N3, N4, hb⟩
      replace K4 := K4.on hb
      replace Z5 := Z5.on hb
      replace N1 := N1.kp (Kept.of hb)
      replace N2 := N2.kp (Kept.of hb)
      replace BW := BW.trans (hb.mono BW.size)
      clear hb
      clear N1 N2
      go_wp2_with fail
      refine (q_ratio N3 N4 (by rw [Int.one_mul]; exact Int.ne_of_gt (two_pos _)) (by decide)).mono ?_
      rintro _ w10 ⟨o, rfl, Fo, hb⟩
      replace K4 := K4.on hb
      replace Z5 := Z5.on hb
      replace N3 := N3.kp (Kept.of hb)
      replace N4 := N4.kp (Kept.of hb)
      replace BW := BW.trans (hb.mono BW.size)
      clear hb
      replace Fo := Fo.to (p := fl x) (by rw [Int.one_mul, HS.out.1]; exact fl_shift HA.out.2.2.2.2.2)
      clear N3 N4
      go_wp2_with fail
      refine (q_fit Fo (by decide)).mono ?_
      rintro _ w11 ⟨f, er, rfl, R, hb⟩
      replace K4 := K4.on hb
      replace Z5 := Z5.on hb
      replace Fo := Fo.kp (Kept.of hb)
      replace BW := BW.trans (hb.mono BW.size)
      clear hb
      obtain ⟨rfl, L⟩ := R.yes not_false HF.out
      clear R Fo
      obtain ⟨c12, c13, c14, c15⟩ := K4.c4
      obtain ⟨c16, c17, c18, c19⟩ := Z5.f4
      obtain ⟨V20, hk22⟩ : ∃ V20, V20 = w11.setCells (w.heap.size) 0 [.bool f.n, .slice f.A f.xs.length f.c, .bool f.m, .slice f.B f.ds.length f.d] := ⟨_, rfl⟩
      have e21 := hk22
      simp only [World.setCells, Nat.zero_add, Nat.reduceAdd] at e21
      have hk23 := Kept.overE hk22 K4 rfl (by simp)
      replace K4 := K4.overE hk22 rfl
      replace L := L.kp hk23
      replace BW := Below.putE BW hk22 g6
      clear hk22 hk23
      go_wp2_with fail
      clear c12 c13 c14 c15 c16 c17 c18 c19
      rw [← e21]
      clear e21
      obtain ⟨c24, c25, c26, c27⟩ := K4.c4
      exact bodyPost_ret (v := .tuple #[fv f, .int .i64 0]) (by simp [results, Try.results14, go_sem, c24, c25, c26, c27]) rfl ⟨f, rfl, L, BW⟩
  · cases hg : ng x
    · rw [hg] at f8
      have HE : Hid ((fe x : Int) = ((mg x / 4503599627370496 : Nat) : Int)) := Lib.hid (by unfold fe; omega)
      have HU : Hid (fu x = mg x % 4503599627370496 + 4503599627370496) := Lib.hid (by unfold fu; rw [if_neg hz])
      obtain ⟨n, hn⟩ : ∃ n : Int, ((mg x / 4503599627370496 : Nat) : Int) = n := ⟨_, rfl⟩
      have hn2 : 1 ≤ n ∧ n ≤ 2046 := by omega
      rw [hn] at f1 HE
      have f2 : wrap64 n = n := w64_in n (by omega)
      have f3 : (n == 2047) = false := by simp; omega
      have f4 : (n == 0) = false := by simp; omega
      obtain ⟨m, hm⟩ : ∃ m : Nat, mg x % 4503599627370496 = m := ⟨_, rfl⟩
      rw [hm] at f5 HU hr
      obtain ⟨v, hv⟩ : ∃ v : Int, ((m : Nat) : Int) = v := ⟨_, rfl⟩
      rw [hv] at f5
      have f6 : wrap64 v = v := w64_in v (by omega)
      obtain ⟨u, hu⟩ : ∃ u : Int, v + 4503599627370496 = u := ⟨_, rfl⟩
      have HV := Lib.hid hu
      have hv0 : 0 ≤ v := by omega
      have hv1 : v < 4503599627370496 := by omega
      have hn3 : 1 ≤ n := hn2.1
      have hn4 : n ≤ 2046 := hn2.2
      obtain ⟨k, hk⟩ : ∃ k : Int, n - 1 + -1074 = k := ⟨_, rfl⟩
      have HN := Lib.hid hk
      have HS : Hid (u = fs x ∧ -9223372036854775808 ≤ u ∧ u ≤ 9223372036854775807) := Lib.hid (by have := HU.out; unfold fs; rw [hg]; refine ⟨?_, by omega, by omega⟩; simp; omega)
      obtain ⟨a, ha⟩ : ∃ a : Nat, k.toNat = a := ⟨_, rfl⟩
      obtain ⟨c, hc⟩ : ∃ c : Nat, (-k).toNat = c := ⟨_, rfl⟩
      have HA : Hid (max k 0 = (a : Int) ∧ max (-k) 0 = (c : Int) ∧ IntKind.i64.wrap (-k) = -k ∧ a ≤ 4096 ∧ c ≤ 4096 ∧ a + 1074 = fe x - 1 + c) := Lib.hid ⟨by omega, by omega, i64_in _ (by omega) (by omega), by omega, by omega, by have := HE.out; omega⟩
      have HF := Lib.hid (fl_fits hf)
      clear hz hn hn2 hm hv hu hk ha hc hr hE hl hf h hg HE HU
      have BW : Below w.heap.size w w := Below.refl _ _
      obtain ⟨V1, e2, hb3, K4, Z5, -⟩ := alloc_new w [.bool false, .slice none 0 0, .bool false, .slice none 0 0] 37
      have g6 : w.heap.size ≤ w.heap.size := BW.size
      replace BW := BW.trans (hb3.mono BW.size)
      clear hb3
      go_enter Try.func14, Try.ntmps14
      go_wp2_with fail
      rw [← e2]
      clear e2
      rw [HV.out]
      clear hv0 hv1
      refine (lof_n (n := u) HS.out.2.1 HS.out.2.2).mono ?_
      rintro _ w7 ⟨n1, A1, z1, k1, rfl, N1, hb⟩
      replace K4 := K4.on hb
      replace Z5 := Z5.on hb
      replace BW := BW.trans (hb.mono BW.size)
      clear hb
      go_wp2_with fail
      refine (lof_n (n := 1) (by decide) (by decide)).mono ?_
      rintro _ w8 ⟨n2, A2, z2, k2, rfl, N2, hb⟩
      replace K4 := K4.on hb
      replace Z5 := Z5.on hb
      replace N1 := N1.kp (Kept.of hb)
      replace BW := BW.trans (hb.mono BW.size)
      clear hb
      go_wp2_with fail
      rw [HN.out]
      refine (bal_any (k := k) N1 N2 HA.out.1 HA.out.2.1 HA.out.2.2.1 HA.out.2.2.2.1 ⟨HA.out.2.2.2.2.1, by decide, trivial⟩).mono ?_
      rintro _ w9 ⟨n3, A3, z3, k3, n4, A4, z4, k4, rfl, N3, N4, hb⟩
      replace K4 := K4.on hb
      replace Z5 := Z5.on hb
      replace N1 := N1.kp (Kept.of hb)
      replace N2 := N2.kp (Kept.of hb)
      replace BW := BW.trans (hb.mono BW.size)
      clear hb
      clear N1 N2
      go_wp2_with fail
      refine (q_ratio N3 N4 (by rw [Int.one_mul]; exact Int.ne_of_gt (two_pos _)) (by decide)).mono ?_
      rintro _ w10 ⟨o, rfl, Fo, hb⟩
      replace K4 := K4.on hb
      replace Z5 := Z5.on hb
      replace N3 := N3.kp (Kept.of hb)
      replace N4 := N4.kp (Kept.of hb)
      replace BW := BW.trans (hb.mono BW.size)
      clear hb
      replace Fo := Fo.to (p := fl x) (by rw [Int.one_mul, HS.out.1]; exact fl_shift HA.out.2.2.2.2.2)
      clear N3 N4
      go_wp2_with fail
      refine (q_fit Fo (by decide)).mono ?_
      rintro _ w11 ⟨f, er, rfl, R, hb⟩
      replace K4 := K4.on hb
      replace Z5 := Z5.on hb
      replace Fo := Fo.kp (Kept.of hb)
      replace BW := BW.trans (hb.mono BW.size)
      clear hb
      obtain ⟨rfl, L⟩ := R.yes not_false HF.out
      clear R Fo
      obtain ⟨c12, c13, c14, c15⟩ := K4.c4
      obtain ⟨c16, c17, c18, c19⟩ := Z5.f4
      obtain ⟨V20, hk22⟩ : ∃ V20, V20 = w11.setCells (w.heap.size) 0 [.bool f.n, .slice f.A f.xs.length f.c, .bool f.m, .slice f.B f.ds.length f.d] := ⟨_, rfl⟩
      have e21 := hk22
      simp only [World.setCells, Nat.zero_add, Nat.reduceAdd] at e21
      have hk23 := Kept.overE hk22 K4 rfl (by simp)
      replace K4 := K4.overE hk22 rfl
      replace L := L.kp hk23
      replace BW := Below.putE BW hk22 g6
      clear hk22 hk23
      go_wp2_with fail
      clear c12 c13 c14 c15 c16 c17 c18 c19
      rw [← e21]
      clear e21
      obtain ⟨c24, c25, c26, c27⟩ := K4.c4
      exact bodyPost_ret (v := .tuple #[fv f, .int .i64 0]) (by simp [results, Try.results14, go_sem, c24, c25, c26, c27]) rfl ⟨f, rfl, L, BW⟩
    · rw [hg] at f8
      have HE : Hid ((fe x : Int) = ((mg x / 4503599627370496 : Nat) : Int)) := Lib.hid (by unfold fe; omega)
      have HU : Hid (fu x = mg x % 4503599627370496 + 4503599627370496) := Lib.hid (by unfold fu; rw [if_neg hz])
      obtain ⟨n, hn⟩ : ∃ n : Int, ((mg x / 4503599627370496 : Nat) : Int) = n := ⟨_, rfl⟩
      have hn2 : 1 ≤ n ∧ n ≤ 2046 := by omega
      rw [hn] at f1 HE
      have f2 : wrap64 n = n := w64_in n (by omega)
      have f3 : (n == 2047) = false := by simp; omega
      have f4 : (n == 0) = false := by simp; omega
      obtain ⟨m, hm⟩ : ∃ m : Nat, mg x % 4503599627370496 = m := ⟨_, rfl⟩
      rw [hm] at f5 HU hr
      obtain ⟨v, hv⟩ : ∃ v : Int, ((m : Nat) : Int) = v := ⟨_, rfl⟩
      rw [hv] at f5
      have f6 : wrap64 v = v := w64_in v (by omega)
      obtain ⟨u, hu⟩ : ∃ u : Int, v + 4503599627370496 = u := ⟨_, rfl⟩
      have HV := Lib.hid hu
      have hv0 : 0 ≤ v := by omega
      have hv1 : v < 4503599627370496 := by omega
      have hn3 : 1 ≤ n := hn2.1
      have hn4 : n ≤ 2046 := hn2.2
      obtain ⟨k, hk⟩ : ∃ k : Int, n - 1 + -1074 = k := ⟨_, rfl⟩
      have HN := Lib.hid hk
      obtain ⟨s, hs⟩ : ∃ s : Int, -u = s := ⟨_, rfl⟩
      have HM := Lib.hid hs
      have HS : Hid (s = fs x ∧ -9223372036854775808 ≤ s ∧ s ≤ 9223372036854775807) := Lib.hid (by have := HU.out; unfold fs; rw [hg]; refine ⟨?_, by omega, by omega⟩; simp; omega)
      obtain ⟨a, ha⟩ : ∃ a : Nat, k.toNat = a := ⟨_, rfl⟩
      obtain ⟨c, hc⟩ : ∃ c : Nat, (-k).toNat = c := ⟨_, rfl⟩
      have HA : Hid (max k 0 = (a : Int) ∧ max (-k) 0 = (c : Int) ∧ IntKind.i64.wrap (-k) = -k ∧ a ≤ 4096 ∧ c ≤ 4096 ∧ a + 1074 = fe x - 1 + c) := Lib.hid ⟨by omega, by omega, i64_in _ (by omega) (by omega), by omega, by omega, by have := HE.out; omega⟩
      have HF := Lib.hid (fl_fits hf)
      clear hz hn hn2 hm hv hu hk ha hc hr hE hl hf h hg HE HU hs
      have BW : Below w.heap.size w w := Below.refl _ _
      obtain ⟨V1, e2, hb3, K4, Z5, -⟩ := alloc_new w [.bool false, .slice none 0 0, .bool false, .slice none 0 0] 37
      have g6 : w.heap.size ≤ w.heap.size := BW.size
      replace BW := BW.trans (hb3.mono BW.size)
      clear hb3
      go_enter Try.func14, Try.ntmps14
      go_wp2_with fail
      rw [← e2]
      clear e2
      rw [HV.out, HM.out]
      clear hv0 hv1
      refine (lof_n (n := s) HS.out.2.1 HS.out.2.2).mono ?_
      rintro _ w7 ⟨n1, A1, z1, k1, rfl, N1, hb⟩
      replace K4 := K4.on hb
      replace Z5 := Z5.on hb
      replace BW := BW.trans (hb.mono BW.size)
      clear hb
      go_wp2_with fail
      refine (lof_n (n := 1) (by decide) (by decide)).mono ?_
      rintro _ w8 ⟨n2, A2, z2, k2, rfl, N2, hb⟩
      replace K4 := K4.on hb
      replace Z5 := Z5.on hb
      replace N1 := N1.kp (Kept.of hb)
      replace BW := BW.trans (hb.mono BW.size)
      clear hb
      go_wp2_with fail
      rw [HN.out]
      refine (bal_any (k := k) N1 N2 HA.out.1 HA.out.2.1 HA.out.2.2.1 HA.out.2.2.2.1 ⟨HA.out.2.2.2.2.1, by decide, trivial⟩).mono ?_
      rintro _ w9 ⟨n3, A3, z3, k3, n4, A4, z4, k4, rfl, N3, N4, hb⟩
      replace K4 := K4.on hb
      replace Z5 := Z5.on hb
      replace N1 := N1.kp (Kept.of hb)
      replace N2 := N2.kp (Kept.of hb)
      replace BW := BW.trans (hb.mono BW.size)
      clear hb
      clear N1 N2
      go_wp2_with fail
      refine (q_ratio N3 N4 (by rw [Int.one_mul]; exact Int.ne_of_gt (two_pos _)) (by decide)).mono ?_
      rintro _ w10 ⟨o, rfl, Fo, hb⟩
      replace K4 := K4.on hb
      replace Z5 := Z5.on hb
      replace N3 := N3.kp (Kept.of hb)
      replace N4 := N4.kp (Kept.of hb)
      replace BW := BW.trans (hb.mono BW.size)
      clear hb
      replace Fo := Fo.to (p := fl x) (by rw [Int.one_mul, HS.out.1]; exact fl_shift HA.out.2.2.2.2.2)
      clear N3 N4
      go_wp2_with fail
      refine (q_fit Fo (by decide)).mono ?_
      rintro _ w11 ⟨f, er, rfl, R, hb⟩
      replace K4 := K4.on hb
      replace Z5 := Z5.on hb
      replace Fo := Fo.kp (Kept.of hb)
      replace BW := BW.trans (hb.mono BW.size)
      clear hb
      obtain ⟨rfl, L⟩ := R.yes not_false HF.out
      clear R Fo
      obtain ⟨c12, c13, c14, c15⟩ := K4.c4
      obtain ⟨c16, c17, c18, c19⟩ := Z5.f4
      obtain ⟨V20, hk22⟩ : ∃ V20, V20 = w11.setCells (w.heap.size) 0 [.bool f.n, .slice f.A f.xs.length f.c, .bool f.m, .slice f.B f.ds.length f.d] := ⟨_, rfl⟩
      have e21 := hk22
      simp only [World.setCells, Nat.zero_add, Nat.reduceAdd] at e21
      have hk23 := Kept.overE hk22 K4 rfl (by simp)
      replace K4 := K4.overE hk22 rfl
      replace L := L.kp hk23
      replace BW := Below.putE BW hk22 g6
      clear hk22 hk23
      go_wp2_with fail
      clear c12 c13 c14 c15 c16 c17 c18 c19
      rw [← e21]
      clear e21
      obtain ⟨c24, c25, c26, c27⟩ := K4.c4
      exact bodyPost_ret (v := .tuple #[fv f, .int .i64 0]) (by simp [results, Try.results14, go_sem, c24, c25, c26, c27]) rfl ⟨f, rfl, L, BW⟩
end Go.Proofs.Ytmcnhgakaodafaa
