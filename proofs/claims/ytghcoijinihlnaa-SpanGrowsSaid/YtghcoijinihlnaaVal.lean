/-
  A rounded result hangs on the number alone, not on how it is written; so left does not hang on the order of its factors. No conditions but those that each law names.
-/
import Derived.Test.YtghcoijinihlnaaLif
namespace Go.Proofs.Ytghcoijinihlnaa.Fl
open Ieee
theorem nearR_val {m m' : Nat} {p p' : Int} {a a' R : Nat} (hv : m * 2 ^ a = m' * 2 ^ a') (he : (a : Int) - a' = p - p') (h : NearR m p R) : NearR m' p' R := by
  intro A' B' hab
  have ha' := Nat.two_pow_pos a'
  have k := h (A' + a) (B' + a') (by omega)
  have e1 : 2 * (m * 2 ^ (A' + a)) = 2 * (m' * 2 ^ A') * 2 ^ a' := by
    rw [Nat.pow_add, Nat.mul_comm (2 ^ A'), ← Nat.mul_assoc m, hv]
    simp only [Nat.mul_assoc, Nat.mul_left_comm, Nat.mul_comm]
  have e2 : ∀ x, x * 2 ^ (B' + a') = x * 2 ^ B' * 2 ^ a' := fun x => by rw [Nat.pow_add, Nat.mul_assoc]
  rw [e1, e2] at k
  refine ⟨Nat.le_of_mul_le_mul_right k.1 ha', fun h => k.2.1 (by rw [h]), fun Q hQ => ?_⟩
  have k2 := k.2.2 Q hQ
  rw [e2] at k2
  exact ⟨Nat.le_of_mul_le_mul_right k2.1 ha', fun h => k2.2 (by rw [h])⟩
theorem nearest_val (s : Bool) {m m' : Nat} {p p' : Int} {a a' : Nat} (hv : m * 2 ^ a = m' * 2 ^ a') (he : (a : Int) - a' = p - p') : double.nearest s m p = double.nearest s m' p' := by
  obtain ⟨R, e, h⟩ := near_spec s m p
  obtain ⟨S, f, k⟩ := near_spec s m' p'
  rw [e, f, nearR_unique (nearR_val hv he h) k]
/-- The same number, written otherwise. -/
def SameV : Datum → Datum → Prop
  | .number s m i, .number t n j => t = s ∧ ∃ a b : Nat, (a : Int) - b = i - j ∧ m * 2 ^ a = n * 2 ^ b
  | _, _ => False
theorem signed_same {s : Bool} {m n : Nat} {i j L : Int} {a b : Nat} (h : m * 2 ^ a = n * 2 ^ b) (he : (a : Int) - b = i - j) (hi : L ≤ i) (hj : L ≤ j) : signed s m (i - L).toNat = signed s n (j - L).toNat := by
  have : m * 2 ^ (i - L).toNat = n * 2 ^ (j - L).toNat := by
    refine Nat.eq_of_mul_eq_mul_right (Nat.two_pow_pos b) ?_
    rw [Nat.mul_assoc, ← Nat.pow_add, show (i - L).toNat + b = a + (j - L).toNat by omega, Nat.pow_add, ← Nat.mul_assoc, h]
    exact Nat.mul_right_comm _ _ _
  unfold signed
  rw [Nat.shiftLeft_eq, Nat.shiftLeft_eq, this]
theorem sum_val {d d' : Datum} (h : SameV d d') (u : Bool) (K : Nat) (W : Int) : (d.sum (.number u K W)).map double.write = (d'.sum (.number u K W)).map double.write := by
  cases d <;> cases d' <;> simp only [SameV] at h <;> first | (exact h.elim; done) | skip
  rename_i s m i t n j
  obtain ⟨rfl, a, b, he, hv⟩ := h
  simp only [Datum.sum, Option.map_some]
  congr 1
  obtain ⟨L, hL⟩ : ∃ L, L = min (min i W) (min j W) := ⟨_, rfl⟩
  obtain ⟨x, hx⟩ : ∃ x : Nat, min i W = L + x := ⟨(min i W - L).toNat, by omega⟩
  obtain ⟨y, hy⟩ : ∃ y : Nat, min j W = L + y := ⟨(min j W - L).toNat, by omega⟩
  obtain ⟨T, hT⟩ : ∃ T, signed t m (i - min i W).toNat + signed u K (W - min i W).toNat = T := ⟨_, rfl⟩
  obtain ⟨S, hS⟩ : ∃ S, signed t n (j - min j W).toNat + signed u K (W - min j W).toNat = S := ⟨_, rfl⟩
  have e1 : T * (2 ^ x : Nat) = signed t m (i - L).toNat + signed u K (W - L).toNat := by
    rw [← hT, Int.add_mul, ← signed_scale, ← signed_scale]
    congr 2 <;> omega
  have e2 : S * (2 ^ y : Nat) = signed t n (j - L).toNat + signed u K (W - L).toNat := by
    rw [← hS, Int.add_mul, ← signed_scale, ← signed_scale]
    congr 2 <;> omega
  have e3 : T * (2 ^ x : Nat) = S * (2 ^ y : Nat) := by
    rw [e1, e2, signed_same hv he (by omega) (by omega)]
  have hxp : (0 : Int) < (2 ^ x : Nat) := Int.natCast_pos.2 (Nat.two_pow_pos _)
  have hyp : (0 : Int) < (2 ^ y : Nat) := Int.natCast_pos.2 (Nat.two_pow_pos _)
  have hab : T.natAbs * 2 ^ x = S.natAbs * 2 ^ y := by
    have := congrArg Int.natAbs e3
    rw [Int.natAbs_mul, Int.natAbs_mul, Int.natAbs_natCast, Int.natAbs_natCast] at this
    exact this
  have hz : T = 0 ↔ S = 0 := by
    constructor
    · intro h
      rw [h, Int.zero_mul] at e3
      rcases Int.mul_eq_zero.1 e3.symm with g | g
      · exact g
      · omega
    · intro h
      rw [h, Int.zero_mul] at e3
      rcases Int.mul_eq_zero.1 e3 with g | g
      · exact g
      · omega
  have hn : T < 0 ↔ S < 0 := by
    constructor
    · intro h
      have := Int.mul_neg_of_neg_of_pos h hxp
      rw [e3] at this
      rcases Int.lt_or_le S 0 with g | g
      · exact g
      · have := Int.mul_nonneg g (Int.le_of_lt hyp); omega
    · intro h
      have := Int.mul_neg_of_neg_of_pos h hyp
      rw [← e3] at this
      rcases Int.lt_or_le T 0 with g | g
      · exact g
      · have := Int.mul_nonneg g (Int.le_of_lt hxp); omega
  rw [hT, hS]
  show double.nearest _ T.natAbs (min i W) = double.nearest _ S.natAbs (min j W)
  have hsg : (if T = 0 then t && u else decide (T < 0)) = (if S = 0 then t && u else decide (S < 0)) := by
    by_cases h : T = 0
    · rw [if_pos h, if_pos (hz.1 h)]
    · rw [if_neg h, if_neg (fun g => h (hz.2 g))]
      exact decide_eq_decide.2 hn
  rw [hsg]
  exact nearest_val _ hab (by omega)
end Go.Proofs.Ytghcoijinihlnaa.Fl
