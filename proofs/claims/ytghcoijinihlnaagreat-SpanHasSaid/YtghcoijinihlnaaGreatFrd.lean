/-
  A fraction between two floats; what round's calls return of finite floats, against the exact fractions. Conditions: as each theorem states.
-/
import Derived.Test.YtghcoijinihlnaaGreatFfl
import Derived.Test.YtghcoijinihlnaaGreatExu
namespace Go.Proofs.YtghcoijinihlnaaGreat
open Fl
/-- Below and above, and just where both are the same. -/
structure Bt (q : Rat) (d u : Nat) : Prop where
  ld : mg d ≤ 9218868437227405312
  lu : mg u ≤ 9218868437227405312
  id : mg d = 9218868437227405312 → ng d = true
  iu : mg u = 9218868437227405312 → ng u = false
  low : mg d < 9218868437227405312 → fl d ≤ q
  high : mg u < 9218868437227405312 → q ≤ fl u
  both : (mg d < 9218868437227405312 ∧ fl d = q) ↔ (mg u < 9218868437227405312 ∧ fl u = q)
  one : (mg d < 9218868437227405312 ∧ fl d = q) ↔ key d = key u
theorem key_fin {x y : Nat} (hx : mg x < 9218868437227405312) (h : key x = key y) (hy : mg y ≤ 9218868437227405312) : mg y < 9218868437227405312 := by
  unfold key at h
  split at h <;> split at h <;> omega
theorem sval_key {x y : Nat} : sval x = sval y ↔ key x = key y := by
  have h1 := (sval_cmp x y).1
  have h2 := (sval_cmp y x).1
  omega
theorem rat_le_div {a b : Int} {c : Rat} (hc : 0 < c) : (a : Rat) ≤ (b : Rat) ↔ (a : Rat) / c ≤ (b : Rat) / c := by
  have e : ∀ x : Rat, x / c = x * c⁻¹ := fun x => Rat.div_def x c
  rw [e, e]
  have hi : 0 < c⁻¹ := Rat.inv_pos.2 hc
  exact ⟨fun h => Rat.mul_le_mul_of_nonneg_right h (Rat.le_of_lt hi), fun h => Rat.le_of_mul_le_mul_right h hi⟩
/-- N over D units. -/
def un (N : Int) (D : Nat) : Rat := (N : Rat) / (((D : Int) : Rat) * ((tw 1074 : Int) : Rat))
theorem fl_un (x D : Nat) (hD : 0 < D) : fl x = un (sval x * (D : Int)) D := by
  unfold fl un
  have h1 := two_ne 1074
  have h2 : ((D : Int) : Rat) ≠ 0 := by
    intro e
    have h : (D : Int) = 0 := by exact_mod_cast e
    omega
  rw [Rat.intCast_mul]
  generalize ((tw 1074 : Int) : Rat) = T at *
  generalize ((D : Int) : Rat) = E at *
  grind
theorem un_le {N M : Int} {D : Nat} (hD : 0 < D) : un N D ≤ un M D ↔ N ≤ M := by
  have hT : (0 : Rat) < ((tw 1074 : Int) : Rat) := by exact_mod_cast two_pos 1074
  have hE : (0 : Rat) < ((D : Int) : Rat) := by
    have : (0 : Int) < (D : Int) := by omega
    exact_mod_cast this
  have hc : (0 : Rat) < ((D : Int) : Rat) * ((tw 1074 : Int) : Rat) := Rat.mul_pos hE hT
  unfold un
  rw [← rat_le_div hc]
  exact Rat.intCast_le_intCast
theorem un_eq {N M : Int} {D : Nat} (hD : 0 < D) : un N D = un M D ↔ N = M := by
  constructor
  · intro h
    have h1 := (un_le (N := N) (M := M) hD).1 (by rw [h]; exact Rat.le_refl)
    have h2 := (un_le (N := M) (M := N) hD).1 (by rw [h]; exact Rat.le_refl)
    omega
  · intro h; rw [h]
theorem bt_of {N : Int} {D d u : Nat} (hD : 0 < D) (h : Dn N D d) (k : Up N D u) : Bt (un N D) d u := by
  have hed : fl d = un N D ↔ sval d * (D : Int) = N := by rw [fl_un d D hD]; exact un_eq hD
  have heu : fl u = un N D ↔ sval u * (D : Int) = N := by rw [fl_un u D hD]; exact un_eq hD
  have hdu : mg d < 9218868437227405312 → sval d * (D : Int) = N → key d = key u := fun hf he => by
    have h1 := (exact_dn hD hf he).2
    have h2 := k.best d hf (by rw [he]; exact Int.le_refl _)
    rcases Nat.lt_or_eq_of_le k.le with hu | hu
    · have h3 := h1.best u hu (k.above hu)
      omega
    · have h4 := k.inf hu
      exfalso
      have h5 : key u = 9218868437227405312 := by unfold key; rw [h4, hu]; rfl
      have h6 : key d < 9218868437227405312 := by unfold key; split <;> omega
      omega
  have hud : mg u < 9218868437227405312 → sval u * (D : Int) = N → key d = key u := fun hf he => by
    have h1 := (exact_dn hD hf he).1
    have h2 := h.best u hf (by rw [he]; exact Int.le_refl _)
    rcases Nat.lt_or_eq_of_le h.le with hu | hu
    · have h3 := h1.best d hu (h.below hu)
      omega
    · have h4 := h.inf hu
      exfalso
      have h5 : key d = -9218868437227405312 := by unfold key; rw [h4, hu]; rfl
      have h6 : -9218868437227405312 < key u := by unfold key; split <;> omega
      omega
  have hkk : key d = key u → mg d < 9218868437227405312 ∧ mg u < 9218868437227405312 ∧ sval d * (D : Int) = N ∧ sval u * (D : Int) = N := fun e => by
    have hdf : mg d < 9218868437227405312 := by
      rcases Nat.lt_or_eq_of_le h.le with hu | hu
      · exact hu
      · exfalso
        have h4 := h.inf hu
        have h5 : key d = -9218868437227405312 := by unfold key; rw [h4, hu]; rfl
        rcases Nat.lt_or_eq_of_le k.le with hv | hv
        · have h6 : -9218868437227405312 < key u := by unfold key; split <;> omega
          omega
        · have h7 := k.inf hv
          have h8 : key u = 9218868437227405312 := by unfold key; rw [h7, hv]; rfl
          omega
    have huf := key_fin hdf e k.le
    have hs := sval_key.2 e
    have h1 := h.below hdf
    have h2 := k.above huf
    rw [hs] at h1
    refine ⟨hdf, huf, ?_, ?_⟩
    · rw [hs]; omega
    · omega
  refine ⟨h.le, k.le, h.inf, k.inf, fun hf => ?_, fun hf => ?_, ⟨fun ⟨hf, he⟩ => ?_, fun ⟨hf, he⟩ => ?_⟩, ⟨fun ⟨hf, he⟩ => hdu hf (hed.1 he), fun e => ?_⟩⟩
  · rw [fl_un d D hD]; exact (un_le hD).2 (h.below hf)
  · rw [fl_un u D hD]; exact (un_le hD).2 (k.above hf)
  · have := hkk (hdu hf (hed.1 he)); exact ⟨this.2.1, heu.2 this.2.2.2⟩
  · have := hkk (hud hf (heu.1 he)); exact ⟨this.1, hed.2 this.2.2.1⟩
  · have := hkk e; exact ⟨this.1, hed.2 this.2.2.1⟩
end Go.Proofs.YtghcoijinihlnaaGreat
namespace Go.Proofs.YtghcoijinihlnaaGreat
open Go.RowKit Nb Fl Ieee
theorem Bt.to {q p : Rat} {d u : Nat} (h : Bt q d u) (e : q = p) : Bt p d u := e ▸ h
theorem un_sum (a b : Nat) : un (sval a + sval b) 1 = fl a + fl b := by
  unfold un fl
  have h1 := two_ne 1074
  rw [Rat.intCast_add, show (((1 : Nat) : Int) : Rat) = 1 from rfl]
  generalize ((tw 1074 : Int) : Rat) = T at *
  grind
theorem un_mul (a b : Nat) : un (sval a * sval b) (tw 1074) = fl a * fl b := by
  unfold un fl
  have h1 := two_ne 1074
  rw [Rat.intCast_mul]
  generalize ((tw 1074 : Int) : Rat) = T at *
  grind
theorem un_quo {a b E : Nat} (hE : E = 1074) (hb : 0 < mg b) : un (qnum a b E) (uval (mg b)) = fl a / fl b := by
  have he : (2 ^ E : Nat) = tw 1074 := by rw [← hE]; rfl
  have h1 := two_ne 1074
  have hu := uval_pos hb
  have h2 : ((uval (mg b) : Int) : Rat) ≠ 0 := by
    intro e
    have h : (uval (mg b) : Int) = 0 := by exact_mod_cast e
    omega
  unfold un fl qnum sval
  rw [he]
  generalize (tw 1074 : Int) = T at *
  generalize (uval (mg b) : Int) = B at *
  generalize (if ng a = true then -(uval (mg a) : Int) else (uval (mg a) : Int)) = A at *
  cases ng b
  · simp only [Bool.false_eq_true, if_false, Rat.intCast_mul]
    grind
  · simp only [if_true, Rat.intCast_mul, Rat.intCast_neg]
    grind
theorem fl_ngf {b : Nat} (hb : b < 18446744073709551616) : fl (ngf b) = - fl b := by
  unfold fl
  rw [sval_ngf hb, Rat.intCast_neg]
  generalize ((tw 1074 : Int) : Rat) = T
  rw [Rat.div_def, Rat.div_def, Rat.neg_mul]
section
variable {a b : Nat} {w : World}
end
theorem fl_zero {x : Nat} (h : mg x = 0) : fl x = 0 := by
  unfold fl sval
  rw [h, uval_zero]
  cases ng x <;> simp [Rat.div_def]
end Go.Proofs.YtghcoijinihlnaaGreat
