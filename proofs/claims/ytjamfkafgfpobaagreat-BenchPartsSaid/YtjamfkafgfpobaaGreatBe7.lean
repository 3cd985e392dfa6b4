/-
  Does a plain element do nothing? Conditions: as each theorem states.
-/
import Derived.Test.YtjamfkafgfpobaaGreatBe3
import Derived.Test.YtjamfkafgfpobaaGreatBe4
import Derived.Deep.RegionHeld3
import Derived.Deep.DeepCutAuto
import Derived.BigRegion
namespace Go.Proofs.YtjamfkafgfpobaaGreat
open Go.RowKit Nb
def partsQ (q : Mq) : List (Int × Rat) := if 0 < q.b then rows0 q else if q.b < 0 then (5, ((0 : Int) : Rat)) :: rows0 q.neg else if q.a = ((1 : Int) : Rat) then [(2, -q.c)] else if q.a = -((1 : Int) : Rat) then [(5, ((0 : Int) : Rat)), (2, q.c)] else if q.a < 0 then (1, ((1 : Int) : Rat)) :: rows0 (q.mul (Mq.space (-((1 : Int) : Rat)))) else (5, ((0 : Int) : Rat)) :: (1, ((1 : Int) : Rat)) :: rows0 (q.neg.mul (Mq.space (-((1 : Int) : Rat))))
theorem p_parts {q : Mq} {m : Mv} {C : Nat} {w : World} (G : Gm w q m C) (hC2 : 2 ≤ C) (hC : 16 * C + 42 ≤ 1759218604390) (ha : q.b = 0 → q.a ≠ 0) : Calls Tryz.prog 71 #[mv m] w (PartsIs w (partsQ q) (16 * C + 42)) := by
 by_cases h1 : 0 < q.b
 · exact (p_parts0 G hC2 (by omega) h1).mono (fun e w' h => h.to (by simp only [partsQ, if_pos h1]) (by omega))
 by_cases h2 : q.b < 0
 · exact (p_parts1 G hC2 (by omega) h2).mono (fun e w' h => h.to (by simp only [partsQ, if_neg h1, if_pos h2]) (by omega))
 have h3 : q.b = 0 := by grind
 by_cases h4 : q.a = ((1 : Int) : Rat)
 · exact (p_parts2 G hC2 (by omega) h3 h4).mono (fun e w' h => h.to (by simp only [partsQ, if_neg h1, if_neg h2, if_pos h4]) (by omega))
 by_cases h5 : q.a = -((1 : Int) : Rat)
 · exact (p_parts3 G hC2 (by omega) h3 h4 h5).mono (fun e w' h => h.to (by simp only [partsQ, if_neg h1, if_neg h2, if_neg h4, if_pos h5]) (by omega))
 by_cases h6 : q.a < 0
 · exact (p_parts4 G hC2 hC h3 h4 h5 h6).mono (fun e w' h => h.to (by simp only [partsQ, if_neg h1, if_neg h2, if_neg h4, if_neg h5, if_pos h6]) (by omega))
 · exact (p_parts5 G hC2 hC h3 h4 h5 (by have := ha h3; grind)).mono (fun e w' h => h.to (by simp only [partsQ, if_neg h1, if_neg h2, if_neg h4, if_neg h5, if_neg h6]) (by omega))
end Go.Proofs.YtjamfkafgfpobaaGreat
namespace Go.Proofs.YtjamfkafgfpobaaGreat
open Go.RowKit Nb
def zmat (z : Int × Rat) : Mq := (⟨z.1, z.2, 0⟩ : Eq).mat
def zemp (z : Int × Rat) : Bool := decide (z.1 ≠ 5 ∧ z.2 = 0)
def zkind (z : Int × Rat) : Prop := z.1 = 1 ∨ z.1 = 2 ∨ z.1 = 5
theorem zmat1 (p : Rat) : zmat (1, p) = .space p := by unfold zmat Eq.mat; rw [if_pos rfl]
theorem zmat2 (p : Rat) : zmat (2, p) = .lens p := by unfold zmat Eq.mat; rw [if_neg (by simp), if_pos rfl]
theorem zmat5 (p : Rat) : zmat (5, p) = Mq.one.neg := by
 unfold zmat Eq.mat
 rw [if_neg (by simp), if_neg (by simp), if_neg (by simp), if_neg (by simp)]
 simp only [Mq.lens, Mq.one, Mq.neg]
 grind
theorem zmat_emp {z : Int × Rat} (k : zkind z) (h : zemp z = true) : zmat z = Mq.one := by
 obtain ⟨a, p⟩ := z
 simp only [zemp, decide_eq_true_eq] at h
 obtain ⟨h1, rfl⟩ := h
 rcases k with k | k | k
 · simp only at k; subst k; rw [zmat1]; rfl
 · simp only at k; subst k; rw [zmat2]; simp only [Mq.lens, Mq.one]; grind
 · exact absurd k h1
theorem chain_filt : ∀ l : List (Int × Rat), (∀ z ∈ l, zkind z) → chainM ((l.filter (fun z => !zemp z)).map zmat) = chainM (l.map zmat)
 | [], _ => rfl
 | z :: l, h => by
  have ih := chain_filt l (fun y hy => h y (by simp [hy]))
  by_cases hz : zemp z = true
  · rw [List.filter_cons_of_neg (by simp [hz]), ih, List.map_cons, chainM, zmat_emp (h z (by simp)) hz, Mq.mul_one]
  · rw [List.filter_cons_of_pos (by simpa using hz), List.map_cons, List.map_cons, chainM, chainM, ih]
theorem chain_rows0 {q : Mq} (hb : q.b ≠ 0) (hd : q.det = 1) : chainM ((rows0 q).map zmat) = q := by
 obtain ⟨a, b, c, d⟩ := q
 simp only [Mq.det] at hd hb
 obtain ⟨p, hp⟩ : ∃ p, p = (1 - a) / b := ⟨_, rfl⟩
 obtain ⟨r, hr⟩ : ∃ r, r = (1 - d) / b := ⟨_, rfl⟩
 have h1 : p * b = 1 - a := by rw [hp]; exact Rat.div_mul_cancel hb
 have h2 : r * b = 1 - d := by rw [hr]; exact Rat.div_mul_cancel hb
 simp only [rows0, ← hp, ← hr, List.map_cons, List.map_nil, zmat1, zmat2, chainM, Mq.mul, Mq.space, Mq.lens, Mq.one, Mq.mk.injEq]
 refine ⟨by grind, by grind, ?_, by grind⟩
 have h3 : b * (-r * a - p - c) = 0 := by grind
 rcases Rat.mul_eq_zero.1 h3 with h4 | h4
 · exact absurd h4 hb
 · grind
theorem chain_partsQ {q : Mq} (hd : q.det = 1) : chainM ((partsQ q).map zmat) = q := by
 have hi : ((1 : Int) : Rat) = 1 := by first | rfl | simp
 have hneg : ∀ m : Mq, m.neg.mul Mq.one.neg = m := fun m => by
  obtain ⟨a, b, c, d⟩ := m
  simp only [Mq.neg, Mq.mul, Mq.one, Mq.mk.injEq]
  refine ⟨by grind, by grind, by grind, by grind⟩
 have hsp : ∀ m : Mq, (m.mul (Mq.space (-1))).mul (Mq.space 1) = m := fun m => by
  obtain ⟨a, b, c, d⟩ := m
  simp only [Mq.space, Mq.mul, Mq.mk.injEq]
  refine ⟨by grind, by grind, by grind, by grind⟩
 have hsd : ∀ m : Mq, (m.mul (Mq.space (-1))).det = m.det := fun m => by
  obtain ⟨a, b, c, d⟩ := m
  simp only [Mq.space, Mq.mul, Mq.det]
  grind
 have h0 : q.b = 0 → q.a ≠ 0 := fun e1 e2 => by simp only [Mq.det, e1, e2] at hd; grind
 unfold partsQ
 rw [hi]
 split
 · exact chain_rows0 (by grind) hd
 split
 · rw [List.map_cons, chainM, chain_rows0 (by show -q.b ≠ 0; grind) (by rw [Mq.det_neg]; exact hd), zmat5, hneg]
 have h3 : q.b = 0 := by grind
 have h4 := h0 h3
 split
 · rename_i h5
   simp only [List.map_cons, List.map_nil, chainM, Mq.one_mul, zmat2]
   obtain ⟨a, b, c, d⟩ := q
   simp only [Mq.det, Mq.lens, Mq.mk.injEq] at *
   refine ⟨by grind, by grind, by grind, by grind⟩
 split
 · rename_i h5 h6
   simp only [List.map_cons, List.map_nil, chainM, Mq.one_mul, zmat2, zmat5]
   obtain ⟨a, b, c, d⟩ := q
   simp only [Mq.det, Mq.lens, Mq.one, Mq.neg, Mq.mul, Mq.mk.injEq] at *
   refine ⟨by grind, by grind, by grind, by grind⟩
 split
 · rw [List.map_cons, chainM, chain_rows0 (by simp only [Mq.mul, Mq.space]; grind) (by rw [hsd]; exact hd), zmat1, hsp]
 · rw [List.map_cons, List.map_cons, chainM, chainM, chain_rows0 (by simp only [Mq.mul, Mq.space, Mq.neg]; grind) (by rw [hsd, Mq.det_neg]; exact hd), zmat1, zmat5, hsp, hneg]
theorem zkind_partsQ {q : Mq} : ∀ z ∈ partsQ q, zkind z := by
 intro z hz
 unfold partsQ rows0 at hz
 repeat' split at hz
 all_goals simp only [List.mem_cons, List.not_mem_nil, or_false] at hz; rcases hz with h | h | h | h | h <;> (try subst h) <;> simp_all [zkind]
theorem len_partsQ {q : Mq} : (partsQ q).length ≤ 5 := by
 unfold partsQ rows0
 repeat' split
 all_goals simp
end Go.Proofs.YtjamfkafgfpobaaGreat
namespace Go.Proofs.YtjamfkafgfpobaaGreat
open Go.RowKit Nb
set_option maxHeartbeats 8000000 in
set_option maxRecDepth 20000 in
theorem b_empty5 {q : Rat} {f : Fv} {C : Nat} {w : World} (_L : Fq w q f C) :
    Calls Tryz.prog 67 #[pv ⟨5, f⟩] w (fun e w' => ∃ r : Bool, e = .returned (.bool r) ∧ r = zemp (5, q) ∧ Below w.heap.size w w') := by
 have BW : Below w.heap.size w w := Below.refl _ _
 obtain ⟨V1, e2, hb3, K4, -, -⟩ := alloc_new w [.int .u8 5, .bool f.n, .slice f.A f.xs.length f.c, .bool f.m, .slice f.B f.ds.length f.d] 113
 replace BW := BW.trans (hb3.mono BW.size)
 clear hb3
 go_enter Tryz.func67, Tryz.ntmps67
 go_wp2_with fail
 rw [← e2]
 clear e2
 go_wp2_with fail
 exact bodyPost_ret (v := .bool false) (by simp [results, Tryz.results67, go_sem]) rfl ⟨false, rfl, by simp [zemp], BW⟩
set_option maxHeartbeats 8000000 in
set_option maxRecDepth 20000 in
theorem b_emptyk {k : Int} {q : Rat} {f : Fv} {C : Nat} {w : World} (hk : k ≠ 5) (L : Fq w q f C) (hC : C ≤ 17592186043904) :
    Calls Tryz.prog 67 #[pv ⟨k, f⟩] w (fun e w' => ∃ r : Bool, e = .returned (.bool r) ∧ r = zemp (k, q) ∧ Below w.heap.size w w') := by
 have h6 : (k == 5) = false := by simpa using hk
 have BW : Below w.heap.size w w := Below.refl _ _
 obtain ⟨V1, e2, hb3, K4, -, -⟩ := alloc_new w [.int .u8 k, .bool f.n, .slice f.A f.xs.length f.c, .bool f.m, .slice f.B f.ds.length f.d] 113
 replace L := L.kp (Kept.of hb3)
 replace BW := BW.trans (hb3.mono BW.size)
 clear hb3
 go_enter Tryz.func67, Tryz.ntmps67
 go_wp2_with fail
 rw [← e2]
 clear e2
 refine (b_sign L hC).mono ?_
 rintro _ w5 ⟨rfl, hb⟩
 replace BW := BW.trans (hb.mono BW.size)
 clear hb
 go_wp2_with fail
 exact bodyPost_ret (v := .bool (sgnQ q == 0)) (by simp [results, Tryz.results67, go_sem, hk]) rfl ⟨_, rfl, by
   by_cases h0 : q = 0
   · have h9 := sgn_zero.2 h0
     rw [h9]
     simp [zemp, hk, h0]
   · have h9 : sgnQ q ≠ 0 := fun e => h0 (sgn_zero.1 e)
     simp [zemp, hk, h0, h9], BW⟩
theorem b_empty {z : Int × Rat} {x : Pv} {C : Nat} {w : World} (h : z.1 = x.k ∧ Fq w z.2 x.P C) (hC : C ≤ 17592186043904) : Calls Tryz.prog 67 #[pv x] w (fun e w' => ∃ r : Bool, e = .returned (.bool r) ∧ r = zemp z ∧ Below w.heap.size w w') := by
 obtain ⟨k, q⟩ := z
 obtain ⟨k2, f⟩ := x
 obtain ⟨h1, L⟩ := h
 simp only at h1 L
 subst h1
 by_cases hk : k = 5
 · subst hk; exact b_empty5 L
 · exact b_emptyk hk L hC
end Go.Proofs.YtjamfkafgfpobaaGreat
