/-
  Does a plain element do nothing? Conditions: as each theorem states.
-/
import Derived.Test.YtjamfkafgfpobaaGreatBe0
import Derived.Test.YtjamfkafgfpobaaGreatBc3
import Derived.Deep.RegionHeld3
import Derived.Deep.DeepCutAuto
import Derived.BigRegion
import Derived.Test.YtjamfkafgfpobaaGreatBn1
namespace Go.Proofs.YtjamfkafgfpobaaGreat
open Go.RowKit Nb
def zmat (z : Int × Rat) : Mq := (⟨z.1, z.2, 0⟩ : Eq).mat
def zemp (z : Int × Rat) : Bool := decide (z.1 ≠ 5 ∧ z.2 = 0)
def zkind (z : Int × Rat) : Prop := z.1 = 1 ∨ z.1 = 2 ∨ z.1 = 5
theorem zmat1 (p : Rat) : zmat (1, p) = .space p := by unfold zmat Eq.mat; rw [if_pos rfl]
theorem zmat2 (p : Rat) : zmat (2, p) = .lens p := by unfold zmat Eq.mat; rw [if_neg (by simp), if_pos rfl]
theorem zmat5 (p : Rat) : zmat (5, p) = Mq.one.neg := by
 unfold zmat Eq.mat
 rw [if_neg (by simp), if_neg (by simp), if_neg (by simp), if_neg (by simp)]
 simp only [Mq.lens, Mq.one, Mq.neg]
 grind
theorem zmat_emp {z : Int × Rat} (k : zkind z) (h : zemp z = true) : zmat z = Mq.one := by
 obtain ⟨a, p⟩ := z
 simp only [zemp, decide_eq_true_eq] at h
 obtain ⟨h1, rfl⟩ := h
 rcases k with k | k | k
 · simp only at k; subst k; rw [zmat1]; rfl
 · simp only at k; subst k; rw [zmat2]; simp only [Mq.lens, Mq.one]; grind
 · exact absurd k h1
end Go.Proofs.YtjamfkafgfpobaaGreat
namespace Go.Proofs.YtjamfkafgfpobaaGreat
open Go.RowKit Nb
set_option maxHeartbeats 8000000 in
set_option maxRecDepth 20000 in
theorem b_empty5 {q : Rat} {f : Fv} {C : Nat} {w : World} (_L : Fq w q f C) :
    Calls Tryz.prog 67 #[pv ⟨5, f⟩] w (fun e w' => ∃ r : Bool, e = .returned (.bool r) ∧ r = zemp (5, q) ∧ Below w.heap.size w w') := by
 have BW : Below w.heap.size w w := Below.refl _ _
 obtain ⟨V1, e2, hb3, K4, -, -⟩ := alloc_new w [.int .u8 5, .bool f.n, .slice f.A f.xs.length f.c, .bool f.m, .slice f.B f.ds.length f.d] 113
 replace BW := BW.trans (hb3.mono BW.size)
 clear hb3
 go_enter Tryz.func67, Tryz.ntmps67
 go_wp2_with fail
 rw [← e2]
 clear e2
 go_wp2_with fail
 exact bodyPost_ret (v := .bool false) (by simp [results, Tryz.results67, go_sem]) rfl ⟨false, rfl, by simp [zemp], BW⟩
set_option maxHeartbeats 8000000 in
set_option maxRecDepth 20000 in
theorem b_emptyk {k : Int} {q : Rat} {f : Fv} {C : Nat} {w : World} (hk : k ≠ 5) (L : Fq w q f C) (hC : C ≤ 17592186043904) :
    Calls Tryz.prog 67 #[pv ⟨k, f⟩] w (fun e w' => ∃ r : Bool, e = .returned (.bool r) ∧ r = zemp (k, q) ∧ Below w.heap.size w w') := by
 have h6 : (k == 5) = false := by simpa using hk
 have BW : Below w.heap.size w w := Below.refl _ _
 obtain ⟨V1, e2, hb3, K4, -, -⟩ := alloc_new w [.int .u8 k, .bool f.n, .slice f.A f.xs.length f.c, .bool f.m, .slice f.B f.ds.length f.d] 113
 replace L := L.kp (Kept.of hb3)
 replace BW := BW.trans (hb3.mono BW.size)
 clear hb3
 go_enter Tryz.func67, Tryz.ntmps67
 go_wp2_with fail
 rw [← e2]
 clear e2
 refine (b_sign L hC).mono ?_
 rintro _ w5 ⟨rfl, hb⟩
 replace BW := BW.trans (hb.mono BW.size)
 clear hb
 go_wp2_with fail
 exact bodyPost_ret (v := .bool (sgnQ q == 0)) (by simp [results, Tryz.results67, go_sem, hk]) rfl ⟨_, rfl, by
   by_cases h0 : q = 0
   · have h9 := sgn_zero.2 h0
     rw [h9]
     simp [zemp, hk, h0]
   · have h9 : sgnQ q ≠ 0 := fun e => h0 (sgn_zero.1 e)
     simp [zemp, hk, h0, h9], BW⟩
theorem b_empty {z : Int × Rat} {x : Pv} {C : Nat} {w : World} (h : z.1 = x.k ∧ Fq w z.2 x.P C) (hC : C ≤ 17592186043904) : Calls Tryz.prog 67 #[pv x] w (fun e w' => ∃ r : Bool, e = .returned (.bool r) ∧ r = zemp z ∧ Below w.heap.size w w') := by
 obtain ⟨k, q⟩ := z
 obtain ⟨k2, f⟩ := x
 obtain ⟨h1, L⟩ := h
 simp only at h1 L
 subst h1
 by_cases hk : k = 5
 · subst hk; exact b_empty5 L
 · exact b_emptyk hk L hC
end Go.Proofs.YtjamfkafgfpobaaGreat
