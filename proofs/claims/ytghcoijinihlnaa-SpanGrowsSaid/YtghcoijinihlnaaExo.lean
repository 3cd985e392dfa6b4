/-
  The greatest float not above a ratio, and the least one not below it: what 'lo' and 'hi' are, where the own answer is the nearest and what is lost has the right sign. No conditions but those that each law names.
-/
import Derived.Test.YtghcoijinihlnaaLsh
namespace Go.Proofs.Ytghcoijinihlnaa.Fl
open Ieee
/-- d is the greatest float that is not above N / D (minus infinity where no finite one is). -/
structure Dn (N : Int) (D d : Nat) : Prop where
  le : mg d ≤ 9218868437227405312
  inf : mg d = 9218868437227405312 → ng d = true
  below : mg d < 9218868437227405312 → sval d * (D : Int) ≤ N
  best : ∀ f, mg f < 9218868437227405312 → sval f * (D : Int) ≤ N → key f ≤ key d
/-- u is the least float that is not below it (plus infinity where no finite one is). -/
structure Up (N : Int) (D u : Nat) : Prop where
  le : mg u ≤ 9218868437227405312
  inf : mg u = 9218868437227405312 → ng u = false
  above : mg u < 9218868437227405312 → N ≤ sval u * (D : Int)
  best : ∀ f, mg f < 9218868437227405312 → N ≤ sval f * (D : Int) → key u ≤ key f
theorem key_bounds {x : Nat} (h : mg x ≤ 9218868437227405312) : -9218868437227405312 ≤ key x ∧ key x ≤ 9218868437227405312 := by unfold key; split <;> omega
theorem scale_le {x N N' : Int} {D D' : Nat} (hD : 0 < D) (h : x * D ≤ N) (k : N * D' ≤ N' * D) : x * D' ≤ N' := by
  have h1 : x * D * D' ≤ N * D' := Int.mul_le_mul_of_nonneg_right h (Int.natCast_nonneg _)
  have h2 : x * D' * D ≤ N' * D := by
    have e : x * D' * D = x * D * D' := by rw [Int.mul_assoc, Int.mul_assoc, Int.mul_comm (D' : Int)]
    rw [e]; exact Int.le_trans h1 k
  exact Int.le_of_mul_le_mul_right h2 (by omega)
theorem scale_ge {x N N' : Int} {D D' : Nat} (hD : 0 < D) (h : N ≤ x * D) (k : N' * D ≤ N * D') : N' ≤ x * D' := by
  have h1 : N * D' ≤ x * D * D' := Int.mul_le_mul_of_nonneg_right h (Int.natCast_nonneg _)
  have h2 : N' * D ≤ x * D' * D := by
    have e : x * D' * D = x * D * D' := by rw [Int.mul_assoc, Int.mul_assoc, Int.mul_comm (D' : Int)]
    rw [e]; exact Int.le_trans k h1
  exact Int.le_of_mul_le_mul_right h2 (by omega)
theorem Dn.mono {N N' : Int} {D D' d d' : Nat} (h : Dn N D d) (k : Dn N' D' d') (hD : 0 < D) (hle : N * D' ≤ N' * D) : key d ≤ key d' := by
  rcases Nat.lt_or_eq_of_le h.le with g | g
  · exact k.best d g (scale_le hD (h.below g) hle)
  · have h1 := h.inf g
    have h2 := (key_bounds k.le).1
    unfold key
    rw [h1, g]
    unfold key at h2
    simpa using h2
theorem Up.mono {N N' : Int} {D D' u u' : Nat} (h : Up N D u) (k : Up N' D' u') (hD' : 0 < D') (hle : N * D' ≤ N' * D) : key u ≤ key u' := by
  rcases Nat.lt_or_eq_of_le k.le with g | g
  · exact h.best u' g (scale_ge hD' (k.above g) hle)
  · have h1 := k.inf g
    have h2 := (key_bounds h.le).2
    unfold key at h2 ⊢
    rw [h1, g]
    simpa using h2
/-- A ratio that is a float. -/
theorem exact_dn {s D : Nat} {N : Int} (hD : 0 < D) (fs : mg s < 9218868437227405312) (h : sval s * (D : Int) = N) : Dn N D s ∧ Up N D s := by
  have hp : (0 : Int) < D := by omega
  have key_of : ∀ {x y : Nat}, sval x * (D : Int) ≤ sval y * (D : Int) → key x ≤ key y := fun {x y} g => by
    have g := Int.le_of_mul_le_mul_right g hp
    rcases Int.lt_or_le (key y) (key x) with k | k
    · have := (sval_cmp y x).1.2 k; omega
    · exact k
  exact ⟨⟨Nat.le_of_lt fs, fun g => by omega, fun _ => by rw [h]; exact Int.le_refl _, fun f _ g => key_of (by rw [h]; exact g)⟩,
    ⟨Nat.le_of_lt fs, fun g => by omega, fun _ => by rw [h]; exact Int.le_refl _, fun f _ g => key_of (by rw [h]; exact g)⟩⟩
theorem sval_word (s : Bool) {r : Nat} (h : r < 9223372036854775808) : sval (double.word s r) = if s then -(uval r : Int) else uval r := by
  unfold sval; rw [(word_mg s r h).1, (word_mg s r h).2]
theorem key_word' (s : Bool) {r : Nat} (h : r < 9223372036854775808) : key (double.word s r) = if s then -(r : Int) else r := by
  unfold key; rw [(word_mg s r h).1, (word_mg s r h).2]
/-- Between two rungs. -/
theorem rungs {r D U : Nat} (hr : r < 9218868437227405312) (h0 : uval r * D < U) (h1 : r + 1 = 9218868437227405312 ∨ U < uval (r + 1) * D) (sg : Bool) {N : Int} (hN : N = if sg then -(U : Int) else U) :
    Dn N D (double.word sg (r + sg.toNat)) ∧ Up N D (double.word sg (r + (!sg).toNat)) := by
  have h0' : (uval r : Int) * D < U := by exact_mod_cast h0
  have hfin : ∀ f, mg f < 9218868437227405312 → r + 1 ≤ mg f → (U : Int) < uval (mg f) * (D : Int) := fun f hf hle => by
    rcases h1 with g | g
    · omega
    · have a := Nat.mul_le_mul_right D (uval_le hle)
      have : U < uval (mg f) * D := Nat.lt_of_lt_of_le g a
      exact_mod_cast this
  have hlow : ∀ f, mg f ≤ r → (uval (mg f) : Int) * D < U := fun f hle => by
    have a := Nat.mul_le_mul_right D (uval_le hle)
    have : uval (mg f) * D < U := Nat.lt_of_le_of_lt a h0
    exact_mod_cast this
  cases sg
  · simp only [Bool.false_eq_true, if_false] at hN
    subst hN
    simp only [Bool.toNat_false, Nat.add_zero, Bool.not_false, Bool.toNat_true]
    have w0 := word_mg false r (by omega)
    have w1 := word_mg false (r + 1) (by omega)
    have k0 := key_word' false (r := r) (by omega)
    have k1 := key_word' false (r := r + 1) (by omega)
    have s0 := sval_word false (r := r) (by omega)
    have s1 := sval_word false (r := r + 1) (by omega)
    simp only [Bool.false_eq_true, if_false] at k0 k1 s0 s1
    refine ⟨⟨by omega, fun g => by omega, fun _ => by rw [s0]; omega, fun f hf g => ?_⟩, ⟨by omega, fun _ => w1.2, fun g => ?_, fun f hf g => ?_⟩⟩
    · rw [k0]
      rcases Int.lt_or_le (r : Int) (key f) with k | k
      · exfalso
        have hng : ng f = false := by unfold key at k; cases h : ng f <;> simp [h] at k ⊢; omega
        have hk : key f = mg f := by unfold key; rw [hng]; rfl
        have hs : sval f = uval (mg f) := by unfold sval; rw [hng]; rfl
        have := hfin f hf (by omega)
        rw [hs] at g; omega
      · exact k
    · rw [s1]
      have := hfin (double.word false (r + 1)) g (by omega)
      rw [w1.1] at this; omega
    · rw [k1]
      rcases Int.lt_or_le (key f) ((r + 1 : Nat) : Int) with k | k
      · exfalso
        cases hng : ng f
        · have hk : key f = mg f := by unfold key; rw [hng]; rfl
          have hs : sval f = uval (mg f) := by unfold sval; rw [hng]; rfl
          have := hlow f (by omega)
          rw [hs] at g; omega
        · have hs : sval f = -(uval (mg f) : Int) := by unfold sval; rw [hng]; rfl
          rw [hs, Int.neg_mul] at g
          have : (0 : Int) ≤ uval (mg f) * (D : Int) := by exact_mod_cast Nat.zero_le _
          omega
      · exact k
  · simp only [if_true] at hN
    subst hN
    simp only [Bool.toNat_true, Bool.not_true, Bool.toNat_false, Nat.add_zero]
    have w0 := word_mg true r (by omega)
    have w1 := word_mg true (r + 1) (by omega)
    have k0 := key_word' true (r := r) (by omega)
    have k1 := key_word' true (r := r + 1) (by omega)
    have s0 := sval_word true (r := r) (by omega)
    have s1 := sval_word true (r := r + 1) (by omega)
    simp only [if_true] at k0 k1 s0 s1
    refine ⟨⟨by omega, fun _ => w1.2, fun g => ?_, fun f hf g => ?_⟩, ⟨by omega, fun g => by omega, fun _ => by rw [s0, Int.neg_mul]; omega, fun f hf g => ?_⟩⟩
    · rw [s1, Int.neg_mul]
      have := hfin (double.word true (r + 1)) g (by omega)
      rw [w1.1] at this; omega
    · rw [k1]
      rcases Int.lt_or_le (-((r + 1 : Nat) : Int)) (key f) with k | k
      · exfalso
        cases hng : ng f
        · have hs : sval f = uval (mg f) := by unfold sval; rw [hng]; rfl
          rw [hs] at g
          have : (0 : Int) ≤ uval (mg f) * (D : Int) := by exact_mod_cast Nat.zero_le _
          omega
        · have hk : key f = -(mg f : Int) := by unfold key; rw [hng]; rfl
          have hs : sval f = -(uval (mg f) : Int) := by unfold sval; rw [hng]; rfl
          have := hlow f (by omega)
          rw [hs, Int.neg_mul] at g; omega
      · exact k
    · rw [k0]
      rcases Int.lt_or_le (key f) (-(r : Int)) with k | k
      · exfalso
        cases hng : ng f
        · have hk : key f = mg f := by unfold key; rw [hng]; rfl
          omega
        · have hk : key f = -(mg f : Int) := by unfold key; rw [hng]; rfl
          have hs : sval f = -(uval (mg f) : Int) := by unfold sval; rw [hng]; rfl
          have := hfin f hf (by omega)
          rw [hs, Int.neg_mul] at g; omega
      · exact k
end Go.Proofs.Ytghcoijinihlnaa.Fl
