/-
  Plain facts on words cut in limbs; no Go and no program is named here. No conditions.
-/
import Derived.Test.YtplgheabhekedaaGreatDoorNums
namespace Go.Proofs.YtplgheabhekedaaGreatDoor
open Nb

theorem bitLen_le64 (x : Nat) (hx : x < 18446744073709551616) : bitLen x ≤ 64 := by
  have := bitLen_spec x
  rcases Nat.lt_or_ge 64 (bitLen x) with h | h
  · have h2 := Nat.pow_le_pow_right (n := 2) (by omega) (show 64 ≤ bitLen x - 1 by omega)
    have : x ≠ 0 := by intro e; subst e; revert h; decide
    omega
  · omega
theorem bitLen_pos {x : Nat} (hx : x ≠ 0) : 0 < bitLen x := by unfold bitLen; rw [if_neg hx]; omega
theorem bitLen_le_iff {x k : Nat} : bitLen x ≤ k ↔ x < 2 ^ k := by
  have h := bitLen_spec x
  constructor
  · intro hk
    have := Nat.pow_le_pow_right (n := 2) (by omega) hk
    omega
  · intro hk
    rcases Nat.lt_or_ge k (bitLen x) with h1 | h1
    · have h2 := Nat.pow_le_pow_right (n := 2) (by omega) (show k ≤ bitLen x - 1 by omega)
      have : x ≠ 0 := by intro e; subst e; revert h1; simp [bitLen]
      omega
    · exact h1
/-- The length in binary digits is the only number between whose powers of two it lies. -/
theorem bitLen_eq {x k : Nat} (h1 : x < 2 ^ k) (h2 : k = 0 ∨ 2 ^ (k - 1) ≤ x) : bitLen x = k := by
  have h3 := bitLen_le_iff.2 h1
  rcases h2 with h2 | h2
  · omega
  · rcases Nat.lt_or_ge (bitLen x) k with h4 | h4
    · have := bitLen_le_iff.1 (show bitLen x ≤ k - 1 by omega)
      omega
    · omega
/-- How many binary digits a list of words has. -/
def lenL (ls : List Nat) : Nat := if h : ls.length = 0 then 0 else 64 * (ls.length - 1) + bitLen (ls[ls.length - 1]'(by omega))
theorem lenL_nil : lenL [] = 0 := rfl
theorem lenL_pos {ls : List Nat} {j : Nat} (h : ls.length = j + 1) : lenL ls = 64 * j + bitLen (ls[j]'(by omega)) := by
  unfold lenL
  rw [dif_neg (by omega)]
  simp only [h, Nat.add_sub_cancel]
theorem val_last {B : Nat} {xs : List Nat} {j : Nat} (h : xs.length = j + 1) : val B xs = val B (xs.take j) + B ^ j * xs[j] := by
  have h3 := val_take_succ B (xs := xs) (k := j) (by omega)
  rw [← h, List.take_length] at h3
  exact h3
theorem pow64 (j : Nat) : (18446744073709551616 : Nat) ^ j = 2 ^ (64 * j) := by
  rw [show (18446744073709551616 : Nat) = 2 ^ 64 from by decide, ← Nat.pow_mul]
theorem pow32 (j : Nat) : (4294967296 : Nat) ^ j = 2 ^ (32 * j) := by
  rw [show (4294967296 : Nat) = 2 ^ 32 from by decide, ← Nat.pow_mul]
/-- Of digits of b binary places: the length of the whole by that of the last one. -/
theorem bitLen_val {b : Nat} {xs : List Nat} (hd : Dig (2 ^ b) xs) {j : Nat} (h : xs.length = j + 1) (hz : xs[j] ≠ 0) : bitLen (val (2 ^ b) xs) = b * j + bitLen xs[j] := by
  have h1 := val_lt (hd.take j)
  rw [List.length_take, Nat.min_eq_left (by omega), ← Nat.pow_mul] at h1
  have h2 := bitLen_spec xs[j]
  rw [val_last h, ← Nat.pow_mul]
  have hp := bitLen_pos hz
  generalize xs[j] = x at *
  apply bitLen_eq
  · rw [Nat.pow_add]
    have h3 : 2 ^ (b * j) * (x + 1) ≤ 2 ^ (b * j) * 2 ^ bitLen x := Nat.mul_le_mul_left _ h2.1
    rw [Nat.mul_add] at h3
    omega
  · right
    rw [show b * j + bitLen x - 1 = b * j + (bitLen x - 1) by omega, Nat.pow_add]
    have h3 : 2 ^ (b * j) * 2 ^ (bitLen x - 1) ≤ 2 ^ (b * j) * x := Nat.mul_le_mul_left _ (h2.2 hz)
    omega
theorem lenL_val {ws : List Nat} (hd : Dig 18446744073709551616 ws) (hn : Norm ws) : lenL ws = bitLen (val 18446744073709551616 ws) := by
  rcases h : ws.length with _ | j
  · have : ws = [] := List.eq_nil_of_length_eq_zero h
    subst this; rfl
  · have hz := (norm_iff (xs := ws) (by omega)).1 hn
    simp only [h, Nat.add_sub_cancel] at hz
    rw [lenL_pos h]
    have := bitLen_val (b := 64) hd h hz
    exact this.symm

/-! ### Words in limbs -/
def limbsL (ws : List Nat) : Nat := (lenL ws + 31) / 32
def unpack (ws : List Nat) : List Nat := (List.range (limbsL ws)).map fun i => ws.getD (i / 2) 0 / 4294967296 ^ (i % 2) % 4294967296
theorem unpack_length (ws : List Nat) : (unpack ws).length = limbsL ws := by simp [unpack]
theorem unpack_get (ws : List Nat) {i : Nat} (h : i < (unpack ws).length) : (unpack ws)[i] = ws.getD (i / 2) 0 / 4294967296 ^ (i % 2) % 4294967296 := by simp [unpack]
theorem dig_unpack (ws : List Nat) : Dig 4294967296 (unpack ws) := by
  intro x hx
  simp only [unpack, List.mem_map] at hx
  obtain ⟨i, _, rfl⟩ := hx
  exact Nat.mod_lt _ (by decide)
theorem limbs_bounds {ws : List Nat} (hd : Dig 18446744073709551616 ws) {j : Nat} (h : ws.length = j + 1) (hz : ws[j] ≠ 0) :
    (ws[j] < 4294967296 ∧ limbsL ws = 2 * j + 1) ∨ (4294967296 ≤ ws[j] ∧ limbsL ws = 2 * j + 2) := by
  unfold limbsL
  rw [lenL_pos h]
  have h1 := bitLen_pos hz
  have h2 := bitLen_le64 ws[j] (hd.get (by omega))
  have h3 := @bitLen_le_iff ws[j] 32
  rw [show (2 : Nat) ^ 32 = 4294967296 from by decide] at h3
  rcases Nat.lt_or_ge ws[j] 4294967296 with h4 | h4
  · have := h3.2 h4
    exact .inl ⟨h4, by omega⟩
  · have : ¬ bitLen ws[j] ≤ 32 := fun h5 => by have := h3.1 h5; omega
    exact .inr ⟨h4, by omega⟩
theorem pack_unpack {ws : List Nat} (hd : Dig 18446744073709551616 ws) (hn : Norm ws) : pack (unpack ws) = ws := by
  rcases h : ws.length with _ | j
  · have : ws = [] := List.eq_nil_of_length_eq_zero h
    subst this; rfl
  · have hz := (norm_iff (xs := ws) (by omega)).1 hn
    simp only [h, Nat.add_sub_cancel] at hz
    have hb := limbs_bounds hd h hz
    have hl := unpack_length ws
    apply List.ext_getElem
    · rw [pack_length, hl]; omega
    · intro i h1 h2
      have hg : ws.getD i 0 = ws[i] := by rw [List.getD_eq_getElem?_getD, List.getElem?_eq_getElem h2]; rfl
      have hdi := hd.get h2
      rw [show (pack (unpack ws))[i] = (unpack ws).getD (2 * i) 0 + 4294967296 * (unpack ws).getD (2 * i + 1) 0 from packG_get _ _ _ _]
      have e1 : (unpack ws).getD (2 * i) 0 = ws[i] % 4294967296 := by
        rw [List.getD_eq_getElem?_getD, List.getElem?_eq_getElem (by omega), Option.getD_some, unpack_get, show 2 * i / 2 = i by omega, show 2 * i % 2 = 0 by omega, hg]
        simp
      rw [e1]
      by_cases hc : 2 * i + 1 < limbsL ws
      · have e2 : (unpack ws).getD (2 * i + 1) 0 = ws[i] / 4294967296 := by
          rw [List.getD_eq_getElem?_getD, List.getElem?_eq_getElem (by omega), Option.getD_some, unpack_get, show (2 * i + 1) / 2 = i by omega, show (2 * i + 1) % 2 = 1 by omega, hg]
          simp; omega
        rw [e2]; omega
      · have e2 : (unpack ws).getD (2 * i + 1) 0 = 0 := by
          rw [List.getD_eq_getElem?_getD, List.getElem?_eq_none (by omega)]; rfl
        rw [e2]
        obtain rfl : i = j := by omega
        omega
theorem val_unpack {ws : List Nat} (hd : Dig 18446744073709551616 ws) (hn : Norm ws) : val 4294967296 (unpack ws) = val 18446744073709551616 ws := by
  have h := val_pack (unpack ws)
  rw [pack_unpack hd hn] at h
  exact h.symm
theorem norm_unpack {ws : List Nat} (hd : Dig 18446744073709551616 ws) (hn : Norm ws) : Norm (unpack ws) := by
  rcases h : ws.length with _ | j
  · have : ws = [] := List.eq_nil_of_length_eq_zero h
    subst this; exact Norm.nil
  · have hz := (norm_iff (xs := ws) (by omega)).1 hn
    simp only [h, Nat.add_sub_cancel] at hz
    have hb := limbs_bounds hd h hz
    have hl := unpack_length ws
    have hg : ws.getD j 0 = ws[j] := by rw [List.getD_eq_getElem?_getD, List.getElem?_eq_getElem (by omega)]; rfl
    have hdi := hd.get (k := j) (by omega)
    rw [norm_iff (by omega), unpack_get]
    rw [hl]
    rcases hb with ⟨h1, h2⟩ | ⟨h1, h2⟩
    · rw [h2, show (2 * j + 1 - 1) / 2 = j by omega, show (2 * j + 1 - 1) % 2 = 0 by omega, hg]
      simp; omega
    · rw [h2, show (2 * j + 2 - 1) / 2 = j by omega, show (2 * j + 2 - 1) % 2 = 1 by omega, hg]
      simp; omega
theorem unpack_nil_iff {ws : List Nat} (hd : Dig 18446744073709551616 ws) (hn : Norm ws) : unpack ws = [] ↔ ws = [] := by
  rw [← norm_zero (B := 4294967296) (by decide) (norm_unpack hd hn), val_unpack hd hn, norm_zero (by decide) hn]
/-- A list that is filled from below. -/
theorem fill_set (us : List Nat) {k : Nat} (hk : k < us.length) : (us.take k ++ List.replicate (us.length - k) 0).set k us[k] = us.take (k + 1) ++ List.replicate (us.length - (k + 1)) 0 := by
  rw [List.set_append_right _ _ (by simp; omega)]
  have e : us.length - k = us.length - (k + 1) + 1 := by omega
  rw [e, List.replicate_succ, List.length_take, Nat.min_eq_left (by omega), Nat.sub_self, List.set_cons_zero, take_succ' hk, List.append_assoc]
  rfl
theorem fill_end (us : List Nat) : us.take us.length ++ List.replicate (us.length - us.length) 0 = us := by simp
theorem fill_len (us : List Nat) {k : Nat} (hk : k ≤ us.length) : (us.take k ++ List.replicate (us.length - k) 0).length = us.length := by simp; omega
end Go.Proofs.YtplgheabhekedaaGreatDoor
