/-
  Digits by tens. No conditions.
-/
import Derived.Test.YtjamfkafgfpobaaGreatDoorNums
import Derived.WalkKit
import Derived.Lib.ItoaNum
namespace Go.Proofs.YtjamfkafgfpobaaGreatDoor
namespace Nb
open Lib
/-- k digits, noughts ahead. -/
def padDec : Nat → Nat → List UInt8
  | 0, _ => []
  | k + 1, g => padDec k (g / 10) ++ [UInt8.ofNat (48 + g % 10)]
end Nb
end Go.Proofs.YtjamfkafgfpobaaGreatDoor
namespace Go.Proofs.YtjamfkafgfpobaaGreatDoor
namespace Nb
open Lib
theorem dec_small {n : Nat} (h : n < 10) : decDigits n = [UInt8.ofNat (48 + n)] := decDigits_one h
end Nb
end Go.Proofs.YtjamfkafgfpobaaGreatDoor
namespace Go.Proofs.YtjamfkafgfpobaaGreatDoor
namespace Nb
open Lib
theorem dec_big {n : Nat} (h : ¬ n < 10) : decDigits n = decDigits (n / 10) ++ [UInt8.ofNat (48 + n % 10)] := by
  rw [decDigits, dif_neg h]
end Nb
end Go.Proofs.YtjamfkafgfpobaaGreatDoor
namespace Go.Proofs.YtjamfkafgfpobaaGreatDoor
namespace Nb
open Lib
theorem padDec_zero (k : Nat) : padDec k 0 = List.replicate k 48 := by
  induction k with
  | zero => rfl
  | succ k ih => rw [padDec, Nat.zero_div, ih, List.replicate_succ']; rfl
end Nb
end Go.Proofs.YtjamfkafgfpobaaGreatDoor
namespace Go.Proofs.YtjamfkafgfpobaaGreatDoor
namespace Nb
open Lib
theorem nDigits_le {k g : Nat} (hk : 0 < k) (h : g < 10 ^ k) : nDigits g ≤ k := by
  induction k generalizing g with
  | zero => omega
  | succ k ih =>
    by_cases h10 : g < 10
    · rw [nDigits_small h10]; omega
    · rw [nDigits_big h10]
      have : 0 < k := by
        rcases Nat.eq_zero_or_pos k with rfl | h
        · simp at h; omega
        · exact h
      have := ih this (g := g / 10) (by rw [Nat.pow_succ] at h; omega)
      omega
end Nb
end Go.Proofs.YtjamfkafgfpobaaGreatDoor
namespace Go.Proofs.YtjamfkafgfpobaaGreatDoor
namespace Nb
open Lib
theorem padDec_eq {k g : Nat} (hk : 0 < k) (h : g < 10 ^ k) : padDec k g = List.replicate (k - nDigits g) 48 ++ decDigits g := by
  induction k generalizing g with
  | zero => omega
  | succ k ih =>
    by_cases h10 : g < 10
    · rw [padDec, Nat.div_eq_of_lt h10, padDec_zero, dec_small h10, nDigits_small h10, Nat.mod_eq_of_lt h10]; rfl
    · have hk0 : 0 < k := by
        rcases Nat.eq_zero_or_pos k with rfl | h0
        · simp at h; omega
        · exact h0
      rw [padDec, ih hk0 (by rw [Nat.pow_succ] at h; omega), dec_big h10, nDigits_big h10, List.append_assoc, Nat.add_sub_add_right]
end Nb
end Go.Proofs.YtjamfkafgfpobaaGreatDoor
namespace Go.Proofs.YtjamfkafgfpobaaGreatDoor
namespace Nb
open Lib
theorem dec_join {h g k : Nat} (hh : 0 < h) (hg : g < 10 ^ k) : decDigits (h * 10 ^ k + g) = decDigits h ++ padDec k g := by
  induction k generalizing g with
  | zero => simp at hg; subst hg; simp [padDec]
  | succ k ih =>
    have hp : 0 < 10 ^ k := Nat.pow_pos (by decide)
    have e : h * 10 ^ (k + 1) + g = 10 * (h * 10 ^ k) + g := by rw [Nat.pow_succ]; grind
    have h1 : 1 ≤ h * 10 ^ k := Nat.mul_pos hh hp
    have hb : ¬ h * 10 ^ (k + 1) + g < 10 := by omega
    have hd : (h * 10 ^ (k + 1) + g) / 10 = h * 10 ^ k + g / 10 := by omega
    have hm : (h * 10 ^ (k + 1) + g) % 10 = g % 10 := by omega
    rw [dec_big hb, hd, hm, ih (by rw [Nat.pow_succ] at hg; omega), padDec, List.append_assoc]
end Nb
end Go.Proofs.YtjamfkafgfpobaaGreatDoor
