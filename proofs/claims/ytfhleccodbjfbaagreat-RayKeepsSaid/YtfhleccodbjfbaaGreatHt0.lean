/-
  Whole numbers as fractions; how great the parts of fractions grow. No conditions.
-/
import Derived.Test.YtfhleccodbjfbaaGreatKp
namespace Go.Proofs.YtfhleccodbjfbaaGreat
open Go.RowKit Nb
theorem rat_int (n : Int) : Rat.divInt n 1 = (n : Rat) := by rw [Rat.divInt_eq_div]; grind
theorem int_num (n : Int) : (n : Rat).num = n := rfl
theorem int_den (n : Int) : (n : Rat).den = 1 := rfl
theorem fits_int {n : Int} (h : n.natAbs < 2 ^ 100) : FitsQ (n : Rat) := ⟨by rw [int_num]; exact fits_low h, by rw [int_den]; exact fits_low (by decide)⟩
theorem f_int {n : Int} {w : World} (h0 : -9223372036854775808 ≤ n) (h1 : n ≤ 9223372036854775807) :
  Calls Tryz.prog 15 #[.int .i64 n, .int .i64 1] w fun e w' => ∃ f : Fv, e = .returned (.tuple #[fv f, .int .i64 0]) ∧ Ff w' (n : Rat) f ∧ Below w.heap.size w w' := by
 refine (r_of n 1 w h0 h1 (by decide) (by decide)).mono ?_
 rintro _ w1 ⟨f, er, rfl, h, hb⟩
 rw [rat_int] at h
 obtain ⟨rfl, k⟩ := h.yes (by decide) (fits_int (by omega))
 exact ⟨f, rfl, k, hb⟩
section
variable {k l : Nat} {a b : Int} {z y s t : Rat}
theorem bd_mul (ha : a.natAbs ≤ 2 ^ k) (hb : b.natAbs ≤ 2 ^ l) : (a * b).natAbs ≤ 2 ^ (k + l) := by
  rw [Int.natAbs_mul, Nat.pow_add]; exact Nat.mul_le_mul ha hb
theorem bd_add (ha : a.natAbs ≤ 2 ^ k) (hb : b.natAbs ≤ 2 ^ k) : (a + b).natAbs ≤ 2 ^ (k + 1) := by
  have := Int.natAbs_add_le a b
  rw [Nat.pow_succ]; omega
theorem bd_sub (ha : a.natAbs ≤ 2 ^ k) (hb : b.natAbs ≤ 2 ^ k) : (a - b).natAbs ≤ 2 ^ (k + 1) := by
  rw [Int.sub_eq_add_neg]; exact bd_add ha (by rw [Int.natAbs_neg]; exact hb)
theorem bd_mono (ha : a.natAbs ≤ 2 ^ k) (h : k ≤ l) : a.natAbs ≤ 2 ^ l := Nat.le_trans ha (Nat.pow_le_pow_right (by decide) h)
/-- A fraction of whole numbers of k binary digits. -/
def Hq (k : Nat) (z : Rat) : Prop := ∃ (D a : Int), 0 < D ∧ z * (D : Rat) = (a : Rat) ∧ D.natAbs ≤ 2 ^ k ∧ a.natAbs ≤ 2 ^ k
/-- Two of them, by one denominator. -/
def Hg (k : Nat) (z y : Rat) : Prop := ∃ (D a b : Int), 0 < D ∧ z * (D : Rat) = (a : Rat) ∧ y * (D : Rat) = (b : Rat) ∧ D.natAbs ≤ 2 ^ k ∧ a.natAbs ≤ 2 ^ k ∧ b.natAbs ≤ 2 ^ k
theorem rat_whole (z : Rat) : z * ((z.den : Int) : Rat) = (z.num : Rat) := by
  have h : z = (z.num : Rat) / ((z.den : Int) : Rat) := by
    conv => lhs; rw [← Rat.num_divInt_den z, Rat.divInt_eq_div]
  have hd : ((z.den : Int) : Rat) ≠ 0 := fun e => z.den_nz (by
    have e2 : ((z.den : Int) : Rat) = ((0 : Int) : Rat) := e
    have := Rat.intCast_inj.1 e2
    omega)
  generalize ((z.den : Int) : Rat) = d at *
  generalize (z.num : Rat) = n at *
  subst h
  grind
theorem Hq.parts (h : Hq k z) : z.den ≤ 2 ^ k ∧ z.num.natAbs ≤ 2 ^ k := by
  obtain ⟨D, a, hD, he, bD, ba⟩ := h
  have h1 := rat_whole z
  have h2 : ((z.num * D : Int) : Rat) = ((a * (z.den : Int) : Int) : Rat) := by
    rw [Rat.intCast_mul, Rat.intCast_mul, ← h1, ← he]; grind
  have h3 := Rat.intCast_inj.1 h2
  have h4 : z.num.natAbs * D.natAbs = a.natAbs * z.den := by
    have := congrArg Int.natAbs h3
    rwa [Int.natAbs_mul, Int.natAbs_mul, Int.natAbs_natCast] at this
  have h5 : z.den ∣ D.natAbs := by
    refine Nat.Coprime.dvd_of_dvd_mul_left (k := z.den) (m := z.num.natAbs) z.reduced.symm ?_
    rw [h4]; exact Nat.dvd_mul_left _ _
  have hDp : 0 < D.natAbs := by omega
  refine ⟨Nat.le_trans (Nat.le_of_dvd hDp h5) bD, ?_⟩
  obtain ⟨m, hm⟩ := h5
  have hmp : 0 < m := Nat.pos_of_ne_zero fun e => by rw [e] at hm; omega
  have h6 : z.num.natAbs * m = a.natAbs := by
    have := h4
    rw [hm, show z.num.natAbs * (z.den * m) = (z.num.natAbs * m) * z.den by grind] at this
    exact Nat.eq_of_mul_eq_mul_right z.den_pos this
  refine Nat.le_trans ?_ ba
  rw [← h6]
  exact Nat.le_mul_of_pos_right _ hmp
theorem pow_32 (n : Nat) : W32 ^ n = 2 ^ (32 * n) := by rw [show W32 = 2 ^ 32 from rfl, ← Nat.pow_mul]
theorem pow_lt_w (n : Nat) (hk : k < 32 * n) : 2 ^ k < W32 ^ n := by rw [pow_32]; exact Nat.pow_lt_pow_right (by decide) hk
theorem Hq.fits (h : Hq k z) (hk : k < 65536) : FitsQ z := by
  obtain ⟨h1, h2⟩ := h.parts
  have h3 := pow_lt_w (k := k) 2048 (by omega)
  refine ⟨?_, ?_⟩
  · unfold Fits; exact Nat.lt_of_le_of_lt h2 h3
  · unfold Fits; rw [Int.natAbs_natCast]; exact Nat.lt_of_le_of_lt h1 h3
theorem Hg.add (h : Hg k z y) (g : Hg l s t) : Hg (k + l + 1) (z + s) (y + t) := by
  obtain ⟨D, a, b, h0, h1, h2, h3, h4, h5⟩ := h
  obtain ⟨E, c, d, g0, g1, g2, g3, g4, g5⟩ := g
  refine ⟨D * E, a * E + c * D, b * E + d * D, Int.mul_pos h0 g0, ?_, ?_, bd_mono (bd_mul h3 g3) (by omega), bd_add (bd_mul h4 g3) (by have := bd_mul g4 h3; rwa [Nat.add_comm] at this), bd_add (bd_mul h5 g3) (by have := bd_mul g5 h3; rwa [Nat.add_comm] at this)⟩
  · simp only [Rat.intCast_mul, Rat.intCast_add]; rw [← h1, ← g1]; grind
  · simp only [Rat.intCast_mul, Rat.intCast_add]; rw [← h2, ← g2]; grind
theorem Hg.neg (h : Hg k z y) : Hg k z (-y) := by
  obtain ⟨D, a, b, h0, h1, h2, h3, h4, h5⟩ := h
  refine ⟨D, a, -b, h0, h1, ?_, h3, h4, by rw [Int.natAbs_neg]; exact h5⟩
  rw [Rat.intCast_neg, ← h2]; grind
theorem Hg.mul (h : Hg k z y) (g : Hg l s t) : Hg (k + l + 1) (z * s - y * t) (z * t + y * s) := by
  obtain ⟨D, a, b, h0, h1, h2, h3, h4, h5⟩ := h
  obtain ⟨E, c, d, g0, g1, g2, g3, g4, g5⟩ := g
  refine ⟨D * E, a * c - b * d, a * d + b * c, Int.mul_pos h0 g0, ?_, ?_, bd_mono (bd_mul h3 g3) (by omega), bd_sub (bd_mul h4 g4) (bd_mul h5 g5), bd_add (bd_mul h4 g5) (bd_mul h5 g4)⟩
  · simp only [Rat.intCast_mul, Rat.intCast_sub]; rw [← h1, ← g1, ← h2, ← g2]; grind
  · simp only [Rat.intCast_mul, Rat.intCast_add]; rw [← h1, ← g1, ← h2, ← g2]; grind
theorem Hq.mul (h : Hq k z) (g : Hq l s) : Hq (k + l) (z * s) := by
  obtain ⟨D, a, h0, h1, h2, h3⟩ := h
  obtain ⟨E, c, g0, g1, g2, g3⟩ := g
  refine ⟨D * E, a * c, Int.mul_pos h0 g0, ?_, bd_mul h2 g2, bd_mul h3 g3⟩
  simp only [Rat.intCast_mul]; rw [← h1, ← g1]; grind
theorem Hq.add (h : Hq k z) (g : Hq l s) : Hq (k + l + 1) (z + s) := by
  obtain ⟨D, a, h0, h1, h2, h3⟩ := h
  obtain ⟨E, c, g0, g1, g2, g3⟩ := g
  refine ⟨D * E, a * E + c * D, Int.mul_pos h0 g0, ?_, bd_mono (bd_mul h2 g2) (by omega), bd_add (bd_mul h3 g2) (by have := bd_mul g3 h2; rwa [Nat.add_comm] at this)⟩
  simp only [Rat.intCast_mul, Rat.intCast_add]; rw [← h1, ← g1]; grind
theorem Hq.sub (h : Hq k z) (g : Hq l s) : Hq (k + l + 1) (z - s) := by
  obtain ⟨D, a, h0, h1, h2, h3⟩ := h
  obtain ⟨E, c, g0, g1, g2, g3⟩ := g
  refine ⟨D * E, a * E - c * D, Int.mul_pos h0 g0, ?_, bd_mono (bd_mul h2 g2) (by omega), bd_sub (bd_mul h3 g2) (by have := bd_mul g3 h2; rwa [Nat.add_comm] at this)⟩
  simp only [Rat.intCast_mul, Rat.intCast_sub]; rw [← h1, ← g1]; grind
theorem Hq.one : Hq 0 1 := ⟨1, 1, by decide, by decide +kernel, by decide, by decide⟩
theorem Hq.pair (h : Hq k z) (g : Hq l y) : Hg (k + l) z y := by
  obtain ⟨D, a, h0, h1, h2, h3⟩ := h
  obtain ⟨E, c, g0, g1, g2, g3⟩ := g
  refine ⟨D * E, a * E, c * D, Int.mul_pos h0 g0, ?_, ?_, bd_mul h2 g2, bd_mul h3 g2, by have := bd_mul g3 h2; rwa [Nat.add_comm] at this⟩
  · simp only [Rat.intCast_mul]; rw [← h1]; grind
  · simp only [Rat.intCast_mul]; rw [← g1]; grind
theorem Hg.mono (h : Hg k z y) (hk : k ≤ l) : Hg l z y := by
  obtain ⟨D, a, b, h0, h1, h2, h3, h4, h5⟩ := h
  exact ⟨D, a, b, h0, h1, h2, bd_mono h3 hk, bd_mono h4 hk, bd_mono h5 hk⟩
theorem Hq.mono (h : Hq k z) (hk : k ≤ l) : Hq l z := by
  obtain ⟨D, a, h0, h1, h3, h4⟩ := h
  exact ⟨D, a, h0, h1, bd_mono h3 hk, bd_mono h4 hk⟩
theorem Ff.hq {w : World} {q : Rat} {f : Fv} (h : Ff w q f) : Hq (32 * (f.xs.length + f.ds.length)) q := by
  have h1 := val_lt h.2.num.lm.dig
  have h2 := val_lt h.2.den.lm.dig
  rw [h.2.num_val, pow_32] at h1
  rw [h.2.den_val, pow_32] at h2
  refine ⟨(q.den : Int), q.num, by have := q.den_pos; omega, rat_whole q, ?_, bd_mono (Nat.le_of_lt h1) (by omega)⟩
  rw [Int.natAbs_natCast]
  exact Nat.le_trans (Nat.le_of_lt h2) (Nat.pow_le_pow_right (by decide) (by omega))
end
end Go.Proofs.YtfhleccodbjfbaaGreat
