/-
  To which float a number is rounded: the rung that is nearest, between two the even one; beyond the greatest, infinity. No conditions.
-/
import Derived.Test.YtghcoijinihlnaaFl4
namespace Go.Proofs.Ytghcoijinihlnaa.Fl
open Ieee
theorem cut_even (s : Bool) (n d : Nat) : ∃ k r, n = k * 2 ^ d + r ∧ r < 2 ^ d ∧
    ((Toward.even.cut s n d = k ∧ 2 * r ≤ 2 ^ d ∧ (2 * r = 2 ^ d → k % 2 = 0)) ∨ (Toward.even.cut s n d = k + 1 ∧ 2 ^ d ≤ 2 * r ∧ (2 * r = 2 ^ d → k % 2 = 1))) := by
  have hd : 0 < 2 ^ d := Nat.two_pow_pos _
  refine ⟨n / 2 ^ d, n % 2 ^ d, by rw [Nat.mul_comm]; exact (Nat.div_add_mod _ _).symm, Nat.mod_lt _ hd, ?_⟩
  unfold Toward.cut
  rw [Nat.shiftLeft_eq, Nat.one_mul]
  dsimp only
  by_cases h : d ≤ n.log2 + 2
  · rw [Nat.min_eq_left h]
    obtain ⟨g, hg⟩ : ∃ g, 2 ^ d = g := ⟨_, rfl⟩
    rw [hg] at hd ⊢
    obtain ⟨k, hk⟩ : ∃ k, n / g = k := ⟨_, rfl⟩
    obtain ⟨r, hr⟩ : ∃ r, n % g = r := ⟨_, rfl⟩
    rw [hk, hr]
    by_cases h1 : g < 2 * r
    · right; simp [h1]; omega
    · by_cases h2 : g = 2 * r
      · rcases Nat.mod_two_eq_zero_or_one k with h3 | h3
        · left; simp [h1, h3]; omega
        · right; simp [h2, h3]
      · left; simp [h1, h2]; omega
  · rw [Nat.min_eq_right (by omega)]
    have h1 := @Nat.lt_log2_self n
    have h2 : n * 2 < 2 ^ (n.log2 + 2) := by rw [Nat.pow_succ]; omega
    have h3 : 2 ^ (n.log2 + 2) ≤ 2 ^ d := Nat.pow_le_pow_right (by omega) (by omega)
    obtain ⟨g, hg⟩ : ∃ g, 2 ^ (n.log2 + 2) = g := ⟨_, rfl⟩
    rw [hg] at h2 h3 ⊢
    left
    rw [Nat.div_eq_of_lt (by omega), Nat.mod_eq_of_lt (by omega), Nat.div_eq_of_lt (show n < 2 ^ d by omega), Nat.mod_eq_of_lt (show n < 2 ^ d by omega)]
    have h4 : ¬ g < 2 * n := by omega
    have h5 : ¬ g = 2 * n := by omega
    simp [h4]; omega
theorem uval_bin {e k : Nat} (h : e = 0 ∨ 4503599627370496 ≤ k) (hk : k ≤ 9007199254740992) : uval (e * 4503599627370496 + k) = k * 2 ^ e := by
  unfold uval
  rcases Nat.lt_or_ge k 4503599627370496 with h1 | h1
  · have : e = 0 := by omega
    subst this
    rw [if_pos (by omega)]; simp
  · rw [if_neg (by omega)]
    rcases Nat.lt_or_eq_of_le hk with h2 | h2
    · have e1 : (e * 4503599627370496 + k) / 4503599627370496 = e + 1 := by omega
      have e2 : (e * 4503599627370496 + k) % 4503599627370496 = k - 4503599627370496 := by omega
      rw [e1, e2, show 4503599627370496 + (k - 4503599627370496) = k by omega, Nat.add_sub_cancel]
    · have e1 : (e * 4503599627370496 + k) / 4503599627370496 = e + 2 := by omega
      have e2 : (e * 4503599627370496 + k) % 4503599627370496 = 0 := by omega
      rw [e1, e2, h2, show e + 2 - 1 = e + 1 by omega, Nat.pow_succ, Nat.mul_comm (2 ^ e) 2, ← Nat.mul_assoc]
/-- R is the rung nearest to m times 2 to the p; between two the even one. -/
def NearR (m : Nat) (p : Int) (R : Nat) : Prop := ∀ A B : Nat, (A : Int) - B = p + 1074 →
  2 * (m * 2 ^ A) ≤ (uval R + uval (R + 1)) * 2 ^ B ∧ (2 * (m * 2 ^ A) = (uval R + uval (R + 1)) * 2 ^ B → R % 2 = 0) ∧
  ∀ Q, R = Q + 1 → (uval Q + uval R) * 2 ^ B ≤ 2 * (m * 2 ^ A) ∧ ((uval Q + uval R) * 2 ^ B = 2 * (m * 2 ^ A) → R % 2 = 0)
theorem near_spec (s : Bool) (m : Nat) (p : Int) : ∃ R, double.nearest s m p = double.word s (min R 9218868437227405312) ∧ NearR m p R := by
  rcases Nat.eq_zero_or_pos m with h0 | h0
  · subst h0
    refine ⟨0, by simp [Format.nearest], fun A B _ => ⟨by simp, fun h => rfl, fun Q h => by omega⟩⟩
  · unfold Format.nearest
    rw [d_inf, d_binade, d_lp, if_neg (by omega)]
    dsimp only
    have hfb : (double.fractionBits : Int) = 52 := rfl
    rw [hfb]
    obtain ⟨last, hlast⟩ : ∃ last, max (p + ↑m.log2 - 52) (-1074) = last := ⟨_, rfl⟩
    rw [hlast]
    obtain ⟨e, he⟩ : ∃ e : Nat, last = (e : Int) - 1074 := ⟨(last + 1074).toNat, by omega⟩
    have hen : (last - -1074).toNat = e := by omega
    rw [hen]
    have l1 := Nat.log2_self_le (n := m) (by omega)
    have l2 := @Nat.lt_log2_self m
    by_cases hp : last ≤ p
    · -- nothing is dropped
      have hz : (last - p).toNat = 0 := by omega
      obtain ⟨j, hj⟩ : ∃ j : Nat, p = last + j := ⟨(p - last).toNat, by omega⟩
      have hjn : (p - last).toNat = j := by omega
      rw [hz, hjn]
      obtain ⟨k, r, h1, h2, h3⟩ := cut_even s (m <<< j) 0
      simp only [Nat.pow_zero] at h1 h2 h3
      have hr : r = 0 := by omega
      subst hr
      have hcut : Toward.even.cut s (m <<< j) 0 = k := by rcases h3 with h | h <;> omega
      rw [hcut]
      have hk : k = m * 2 ^ j := by rw [← Nat.shiftLeft_eq]; omega
      have hlo : e = 0 ∨ 4503599627370496 ≤ k := by
        rcases Nat.eq_zero_or_pos e with h | h
        · exact .inl h
        · right
          have : m.log2 + j = 52 := by omega
          have h5 := Nat.mul_le_mul_right (2 ^ j) l1
          rw [← Nat.pow_add, this] at h5
          rw [hk]; exact h5
      have hhi : k < 9007199254740992 := by
        have : m.log2 + 1 + j ≤ 53 := by omega
        have h5 := Nat.mul_lt_mul_of_pos_right l2 (Nat.two_pow_pos j)
        rw [← Nat.pow_add] at h5
        have h6 := Nat.pow_le_pow_right (n := 2) (by omega) this
        rw [hk]; exact Nat.lt_of_lt_of_le h5 h6
      have hu := uval_bin hlo (Nat.le_of_lt hhi)
      refine ⟨_, rfl, fun A B hab => ?_⟩
      have hA : A = j + e + B := by omega
      have hv : m * 2 ^ A = uval (e * 4503599627370496 + k) * 2 ^ B := by
        rw [hu, hk, hA, Nat.pow_add, Nat.pow_add, Nat.mul_assoc, Nat.mul_assoc, Nat.mul_assoc]
      have hB := Nat.two_pow_pos B
      have hs := uval_step (e * 4503599627370496 + k)
      rw [hv]
      obtain ⟨R, hR⟩ : ∃ R, e * 4503599627370496 + k = R := ⟨_, rfl⟩
      rw [hR] at hs hv ⊢
      rw [hR] at hu
      clear hu hhi hlo
      have t1 := Nat.mul_lt_mul_of_pos_right hs hB
      refine ⟨by rw [Nat.add_mul]; omega, fun h => by rw [Nat.add_mul] at h; omega, fun Q hQ => ?_⟩
      subst hQ
      have t2 := Nat.mul_lt_mul_of_pos_right (uval_step Q) hB
      exact ⟨by rw [Nat.add_mul]; omega, fun h => by rw [Nat.add_mul] at h; omega⟩
    · obtain ⟨d, hd⟩ : ∃ d : Nat, last = p + d := ⟨(last - p).toNat, by omega⟩
      have hdn : (last - p).toNat = d := by omega
      have hz : (p - last).toNat = 0 := by omega
      rw [hdn, hz, Nat.shiftLeft_zero]
      obtain ⟨k, r, h1, h2, h3⟩ := cut_even s m d
      have hD := Nat.two_pow_pos d
      have hlo : e = 0 ∨ 4503599627370496 ≤ k := by
        rcases Nat.eq_zero_or_pos e with h | h
        · exact .inl h
        · right
          have : m.log2 = 52 + d := by omega
          rw [this, Nat.pow_add, show (2 : Nat) ^ 52 = 4503599627370496 by decide] at l1
          rcases Nat.lt_or_ge k 4503599627370496 with h5 | h5
          · exfalso
            have h6 := Nat.mul_le_mul_right (2 ^ d) (show k + 1 ≤ 4503599627370496 by omega)
            rw [Nat.add_mul] at h6; omega
          · exact h5
      have hhi : k < 9007199254740992 := by
        have : m.log2 + 1 ≤ 53 + d := by omega
        have h6 := Nat.pow_le_pow_right (n := 2) (by omega) this
        rw [Nat.pow_add 2 53 d, show (2 : Nat) ^ 53 = 9007199254740992 by decide] at h6
        rcases Nat.lt_or_ge k 9007199254740992 with h5 | h5
        · exact h5
        · exfalso
          have h7 := Nat.mul_le_mul_right (2 ^ d) h5
          omega
      have u0 := uval_bin hlo (Nat.le_of_lt hhi)
      have u1 := uval_bin (e := e) (k := k + 1) (by omega) (by omega)
      rw [show e * 4503599627370496 + (k + 1) = e * 4503599627370496 + k + 1 by omega] at u1
      -- 2 m 2^A against odd multiples, over a common factor
      have key : ∀ A B : Nat, (A : Int) - B = p + 1074 → ∀ x : Nat, (2 * (m * 2 ^ A) ≤ x * 2 ^ e * 2 ^ B ↔ 2 * m ≤ x * 2 ^ d) ∧ (x * 2 ^ e * 2 ^ B ≤ 2 * (m * 2 ^ A) ↔ x * 2 ^ d ≤ 2 * m) := fun A B hab x => by
        have hA : A + d = e + B := by omega
        have hF := Nat.two_pow_pos (e + B)
        have a1 : 2 * (m * 2 ^ A) * 2 ^ d = 2 * m * 2 ^ (e + B) := by
          rw [← hA, Nat.pow_add]; simp only [Nat.mul_assoc]
        have a2 : x * 2 ^ e * 2 ^ B * 2 ^ d = x * 2 ^ d * 2 ^ (e + B) := by
          rw [Nat.pow_add]; simp only [Nat.mul_assoc]
          rw [Nat.mul_comm (2 ^ d) (2 ^ e * 2 ^ B)]; simp only [Nat.mul_assoc]
        constructor
        · constructor
          · intro h
            have := Nat.mul_le_mul_right (2 ^ d) h
            rw [a1, a2] at this
            exact Nat.le_of_mul_le_mul_right this hF
          · intro h
            have := Nat.mul_le_mul_right (2 ^ (e + B)) h
            rw [← a1, ← a2] at this
            exact Nat.le_of_mul_le_mul_right this hD
        · constructor
          · intro h
            have := Nat.mul_le_mul_right (2 ^ d) h
            rw [a1, a2] at this
            exact Nat.le_of_mul_le_mul_right this hF
          · intro h
            have := Nat.mul_le_mul_right (2 ^ (e + B)) h
            rw [← a1, ← a2] at this
            exact Nat.le_of_mul_le_mul_right this hD
      have hs2 : uval (e * 4503599627370496 + k) + uval (e * 4503599627370496 + k + 1) = (2 * k + 1) * 2 ^ e := by
        rw [u0, u1, ← Nat.add_mul]; congr 1; omega
      have hm : 2 * m = 2 * (k * 2 ^ d) + 2 * r := by omega
      have hx : (2 * k + 1) * 2 ^ d = 2 * (k * 2 ^ d) + 2 ^ d := by rw [Nat.add_mul, Nat.one_mul, Nat.mul_assoc]
      rcases h3 with ⟨hc, h4, h5⟩ | ⟨hc, h4, h5⟩
      · rw [hc]
        refine ⟨_, rfl, fun A B hab => ?_⟩
        have kk := key A B hab (2 * k + 1)
        have k2 := key A B hab (2 * k)
        rw [hs2]
        refine ⟨kk.1.2 (by omega), fun h => ?_, fun Q hQ => ?_⟩
        · have := kk.2.1 (Nat.le_of_eq h.symm)
          have := h5 (by omega)
          omega
        · have hq := uval_step Q
          rw [← hQ] at hq
          have e3 : uval (e * 4503599627370496 + k) * 2 ^ B ≤ m * 2 ^ A := by
            have h9 := k2.2.2 (by rw [Nat.mul_assoc]; omega)
            rw [u0]
            rw [Nat.mul_assoc 2 k, Nat.mul_assoc 2] at h9
            omega
          have t2 := Nat.mul_lt_mul_of_pos_right hq (Nat.two_pow_pos B)
          exact ⟨by rw [Nat.add_mul]; omega, fun h => by rw [Nat.add_mul] at h; omega⟩
      · rw [hc]
        refine ⟨_, rfl, fun A B hab => ?_⟩
        have kk := key A B hab (2 * k + 1)
        have k2 := key A B hab (2 * (k + 1))
        rw [show e * 4503599627370496 + (k + 1) = e * 4503599627370496 + k + 1 by omega]
        have e3 : m * 2 ^ A ≤ uval (e * 4503599627370496 + k + 1) * 2 ^ B := by
          have h9 := k2.1.2 (by rw [Nat.mul_assoc, Nat.add_mul, Nat.one_mul]; omega)
          rw [u1]
          rw [Nat.mul_assoc 2 (k + 1), Nat.mul_assoc 2] at h9
          omega
        have hq := uval_step (e * 4503599627370496 + k + 1)
        have t2 := Nat.mul_lt_mul_of_pos_right hq (Nat.two_pow_pos B)
        refine ⟨by rw [Nat.add_mul]; omega, fun h => by rw [Nat.add_mul] at h; omega, fun Q hQ => ?_⟩
        obtain rfl : Q = e * 4503599627370496 + k := by omega
        rw [hs2]
        refine ⟨kk.2.2 (by omega), fun h => ?_⟩
        have := kk.1.1 (Nat.le_of_eq h.symm)
        have := h5 (by omega)
        omega
end Go.Proofs.Ytghcoijinihlnaa.Fl
