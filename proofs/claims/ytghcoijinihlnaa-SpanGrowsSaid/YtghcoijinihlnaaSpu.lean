/-
  The squares of a wider span have those of a narrower one; the root of a span's square has the sizes of all. Condition: floats of 64 bits.
-/
import Derived.Test.YtghcoijinihlnaaSpf
import Derived.Test.YtghcoijinihlnaaSpt
namespace Go.Proofs.Ytghcoijinihlnaa.Fl
open Ieee
theorem sval_sq (a : Nat) : sval a * sval a = ((uval (mg a) * uval (mg a) : Nat) : Int) := by
  unfold sval
  cases ng a <;> simp only [Bool.false_eq_true, if_false, if_true, Int.neg_mul_neg, Int.natCast_mul]
theorem sq_up {A X Y : Int} (h1 : X ≤ A) (h2 : A ≤ Y) : A * A ≤ X * X ∨ A * A ≤ Y * Y := by
  rcases Int.le_total 0 A with k | k
  · exact .inr (Int.mul_self_le_mul_self k h2)
  · have := Int.mul_self_le_mul_self (a := -A) (b := -X) (by omega) (by omega)
    rw [Int.neg_mul_neg, Int.neg_mul_neg] at this
    exact .inl this
theorem sq_neg {A B : Int} (h1 : A ≤ B) (h2 : B ≤ 0) : B * B ≤ A * A := by
  have := Int.mul_self_le_mul_self (a := -B) (b := -A) (by omega) (by omega)
  rw [Int.neg_mul_neg, Int.neg_mul_neg] at this
  exact this
theorem key_pos_sval {x : Nat} (h : 0 ≤ key x) : 0 ≤ sval x := by
  have := sval_le (x := 0) (y := x) (by rw [key_zero]; exact h)
  rw [show sval 0 = 0 from sval_zero.2 rfl] at this; exact this
theorem key_neg_sval {x : Nat} (h : key x ≤ 0) : sval x ≤ 0 := by
  have := sval_le (x := x) (y := 0) (by rw [key_zero]; exact h)
  rw [show sval 0 = 0 from sval_zero.2 rfl] at this; exact this
/-- What the floats beside a square are. -/
theorem sq_dn {a d u E : Nat} (hE : E = 1074) (ha : a < 18446744073709551616) (fa : mg a < 9218868437227405312) (h : ProIs a a d u) :
    Dn (sval a * sval a) (2 ^ E) d ∧ Up (sval a * sval a) (2 ^ E) u ∧ 0 ≤ key d ∧ key d ≤ key u ∧ mg d < 9218868437227405312 := by
  obtain ⟨r, hr, h⟩ := h
  have k := mul_dn hE ha fa fa hr h
  have h0 : 0 ≤ key d := by
    have := k.1.best 0 (by decide) (by rw [show sval 0 = 0 from sval_zero.2 rfl, Int.zero_mul, sval_sq]; omega)
    rw [key_zero] at this; exact this
  refine ⟨k.1, k.2, h0, dn_up (Nat.two_pow_pos _) k.1 k.2, ?_⟩
  rcases Nat.lt_or_eq_of_le k.1.le with g | g
  · exact g
  · have h1 := k.1.inf g
    unfold key at h0
    rw [h1, g] at h0
    simp at h0
theorem dn_sq {N N' : Int} {D d d' : Nat} (hD : 0 < D) (h : Dn N D d) (k : Dn N' D d') (hle : N ≤ N') : key d ≤ key d' :=
  h.mono k hD (Int.mul_le_mul_of_nonneg_right hle (Int.natCast_nonneg _))
theorem up_sq {N N' : Int} {D u u' : Nat} (hD : 0 < D) (h : Up N D u) (k : Up N' D u') (hle : N ≤ N') : key u ≤ key u' :=
  h.mono k hD (Int.mul_le_mul_of_nonneg_right hle (Int.natCast_nonneg _))
theorem key_sqmn (b : Bool) (d1 d2 u2 : Nat) : key (lmn d1 (sqL b d2 u2)) = if b then min (min (key d1) (key d2)) 0 else min (key d1) (key d2) := by
  cases b
  · show key (fmin d1 d2) = _
    rw [fmin_key]; rfl
  · show key (fmin (fmin d1 d2) 0) = _
    rw [fmin_key, fmin_key, key_zero]; rfl
theorem key_sqmx (b : Bool) (u1 d2 u2 : Nat) : key (lmx u1 (sqL b d2 u2)) = if b then max (max (key u1) (key u2)) 0 else max (key u1) (key u2) := by
  cases b
  · show key (fmax u1 u2) = _
    rw [fmax_key]; rfl
  · show key (fmax (fmax u1 u2) 0) = _
    rw [fmax_key, fmax_key, key_zero]; rfl
theorem flts_sq {b : Bool} {d2 u2 : Nat} (h : Flt d2 ∧ Flt u2) : Flts (sqL b d2 u2) := by
  intro s k
  cases b
  · simp [sqL] at k; subst k; exact h
  · simp [sqL] at k
    rcases k with rfl | rfl
    · exact h
    · exact ⟨⟨by decide, by decide⟩, ⟨by decide, by decide⟩⟩
theorem mn_sq {b b' : Bool} {d1 d2 e1 e2 : Int} (z1 : 0 ≤ d1) (z2 : 0 ≤ d2) (low : b' = false → b = false ∧ ((e1 ≤ d1 ∧ e1 ≤ d2) ∨ (e2 ≤ d1 ∧ e2 ≤ d2))) : (if b' then min (min e1 e2) 0 else min e1 e2) ≤ (if b then min (min d1 d2) 0 else min d1 d2) := by
  cases b'
  · obtain ⟨rfl, l⟩ := low rfl
    simp only [Bool.false_eq_true, if_false]; omega
  · clear low
    cases b <;> simp only [Bool.false_eq_true, if_false, if_true] <;> omega
theorem mx_sq {b b' : Bool} {u1 u2 v1 v2 : Int} (z : 0 ≤ v1) (p : u1 ≤ v1 ∨ u1 ≤ v2) (q : u2 ≤ v1 ∨ u2 ≤ v2) : (if b then max (max u1 u2) 0 else max u1 u2) ≤ (if b' then max (max v1 v2) 0 else max v1 v2) := by
  cases b <;> cases b' <;> simp only [Bool.false_eq_true, if_false, if_true] <;> omega
theorem mm_sq {b : Bool} {d1 d2 u1 u2 : Int} (p : d1 ≤ u1) (q : d2 ≤ u2) : (if b then min (min d1 d2) 0 else min d1 d2) ≤ (if b then max (max u1 u2) 0 else max u1 u2) := by
  cases b <;> simp only [Bool.false_eq_true, if_false, if_true] <;> omega
/-- The squares of what is narrower lie within those of what is wider. -/
theorem sq_grows {al ah xl xh d1 u1 d2 u2 e1 v1 e2 v2 : Nat}
    (lal : al < 18446744073709551616) (lah : ah < 18446744073709551616) (lxl : xl < 18446744073709551616) (lxh : xh < 18446744073709551616)
    (ha : Spn al ah) (hx : Spn xl xh) (i1 : key xl ≤ key al) (i2 : key ah ≤ key xh)
    (a1 : ProIs al al d1 u1) (a2 : ProIs ah ah d2 u2) (fa : Flt d1 ∧ Flt u1 ∧ Flt d2 ∧ Flt u2) (x1 : ProIs xl xl e1 v1) (x2 : ProIs xh xh e2 v2)
    (hs : Spn (lmn e1 (sqL (hasN xl xh) e2 v2)) (lmx v1 (sqL (hasN xl xh) e2 v2))) :
    Spn (lmn d1 (sqL (hasN al ah) d2 u2)) (lmx u1 (sqL (hasN al ah) d2 u2)) ∧
    key (lmn e1 (sqL (hasN xl xh) e2 v2)) ≤ key (lmn d1 (sqL (hasN al ah) d2 u2)) ∧ key (lmx u1 (sqL (hasN al ah) d2 u2)) ≤ key (lmx v1 (sqL (hasN xl xh) e2 v2)) := by
  obtain ⟨E, hE⟩ : ∃ E, E = 1074 := ⟨_, rfl⟩
  have hD := Nat.two_pow_pos E
  obtain ⟨p1, q1, z1, w1, _⟩ := sq_dn hE lal ha.1 a1
  obtain ⟨p2, q2, z2, w2, _⟩ := sq_dn hE lah ha.2.1 a2
  obtain ⟨p3, q3, z3, w3, _⟩ := sq_dn hE lxl hx.1 x1
  obtain ⟨p4, q4, z4, w4, _⟩ := sq_dn hE lxh hx.2.1 x2
  have hak := ha.2.2
  have sA := sval_le (x := xl) (y := al) i1
  have sA' := sval_le (x := al) (y := xh) (by omega)
  have sB := sval_le (x := xl) (y := ah) (by omega)
  have sB' := sval_le (x := ah) (y := xh) i2
  have upA : key u1 ≤ key v1 ∨ key u1 ≤ key v2 := (sq_up sA sA').imp (fun g => up_sq hD q1 q3 g) (fun g => up_sq hD q1 q4 g)
  have upB : key u2 ≤ key v1 ∨ key u2 ≤ key v2 := (sq_up sB sB').imp (fun g => up_sq hD q2 q3 g) (fun g => up_sq hD q2 q4 g)
  have low : hasN xl xh = false → hasN al ah = false ∧ ((key e1 ≤ key d1 ∧ key e1 ≤ key d2) ∨ (key e2 ≤ key d1 ∧ key e2 ≤ key d2)) := by
    intro g
    have k : ¬ (key xl ≤ 0 ∧ 0 ≤ key xh) := fun k => by unfold hasN at g; rw [decide_eq_true k] at g; cases g
    refine ⟨decide_eq_false (by omega), ?_⟩
    rcases Int.lt_or_le 0 (key xl) with j | j
    · have s0 := key_pos_sval (x := xl) (by omega)
      exact .inl ⟨dn_sq hD p3 p1 (Int.mul_self_le_mul_self s0 sA), dn_sq hD p3 p2 (Int.mul_self_le_mul_self s0 sB)⟩
    · have s0 := key_neg_sval (x := xh) (by omega)
      exact .inr ⟨dn_sq hD p4 p1 (sq_neg sA' s0), dn_sq hD p4 p2 (sq_neg sB' s0)⟩
  have kd := key_sqmn (hasN al ah) d1 d2 u2
  have ku := key_sqmx (hasN al ah) u1 d2 u2
  have ke := key_sqmn (hasN xl xh) e1 e2 v2
  have kv := key_sqmx (hasN xl xh) v1 e2 v2
  have fl := lmn_flt fa.1 (flts_sq (b := hasN al ah) fa.2.2)
  have fh := lmx_flt fa.2.1 (flts_sq (b := hasN al ah) fa.2.2)
  have m1 : key (lmn e1 (sqL (hasN xl xh) e2 v2)) ≤ key (lmn d1 (sqL (hasN al ah) d2 u2)) := by
    rw [ke, kd]; exact mn_sq z1 z2 low
  have m2 : key (lmx u1 (sqL (hasN al ah) d2 u2)) ≤ key (lmx v1 (sqL (hasN xl xh) e2 v2)) := by
    rw [ku, kv]; exact mx_sq (Int.le_trans z3 w3) upA upB
  have m3 : key (lmn d1 (sqL (hasN al ah) d2 u2)) ≤ key (lmx u1 (sqL (hasN al ah) d2 u2)) := by
    rw [kd, ku]; exact mm_sq w1 w2
  exact ⟨spn_in fl fh hs m1 m3 m2, m1, m2⟩
theorem sval_pos {v : Nat} (h : 0 ≤ key v) : sval v = (uval (mg v) : Int) := by
  have := key_pos_sval h
  unfold sval at this ⊢
  split
  · rename_i g; rw [if_pos g] at this; omega
  · rfl
theorem uval_back {a b : Nat} (h : uval a ≤ uval b) : a ≤ b := by
  rcases Nat.lt_or_ge b a with g | g
  · have := uval_lt g; omega
  · exact g
theorem sqrt_nought {a s : Nat} (a0 : mg a = 0) (hm : double.sqrt a = some s) : mg s = 0 := by
  obtain ⟨M, P, e1, p1, v1⟩ := read_fin a (by omega)
  have hM : M = 0 := by
    rw [a0, uval_zero] at v1
    rcases Nat.mul_eq_zero.1 v1 with g | g
    · exact g
    · have := Nat.two_pow_pos (P + 1074).toNat; omega
  subst hM
  unfold Format.sqrt at hm
  rw [e1] at hm
  simp only [Datum.root, if_true, Option.map_some] at hm
  cases hm
  show mg (double.nearest _ _ _) = 0
  unfold Format.nearest
  rw [if_pos (by decide)]
  exact (word_mg _ 0 (by omega)).1
/-- What the floats beside a root are. -/
theorem root_dn {v f g E : Nat} (hE : E = 1074) (hv : v < 18446744073709551616) (fv : mg v < 9218868437227405312) (h0 : 0 ≤ key v) (h : RtIs v f g) :
    mg f < 9218868437227405312 ∧ mg g < 9218868437227405312 ∧ key f = mg f ∧ key g = mg g ∧ mg f ≤ mg g ∧ uval (mg f) * uval (mg f) ≤ uval (mg v) * 2 ^ E ∧ uval (mg v) * 2 ^ E ≤ uval (mg g) * uval (mg g) := by
  obtain ⟨r, hr, h⟩ := h
  have kf : ∀ {x : Nat}, ng x = false → key x = mg x := fun k => by unfold key; rw [k]; rfl
  by_cases pv : Pl v
  · have nv : ng v = false := by
      rcases key_sign h0 with k | k
      · exact k
      · have := pv.1; omega
    obtain ⟨a1, a2, a3, a4, a5, a6, a7⟩ := sqrt_sq hE hv pv nv hr h
    rcases a7 with ⟨rfl, e⟩ | ⟨e1, e2, e3⟩
    · exact ⟨a1, a1, kf a3, kf a3, Nat.le_refl _, Nat.le_of_eq e, Nat.le_of_eq e.symm⟩
    · exact ⟨a1, a2, kf a3, kf a4, by omega, Nat.le_of_lt e2, Nat.le_of_lt e3⟩
  · have z : mg v = 0 := by unfold Pl at pv; omega
    have hz : mg r = 0 := sqrt_nought z hr
    have hfg : f = r ∧ g = r := by
      rcases h with ⟨_, rfl, rfl⟩ | ⟨k, _⟩
      · exact ⟨rfl, rfl⟩
      · exact absurd k pv
    rw [hfg.1, hfg.2]
    have k0 : key r = mg r := by unfold key; split <;> omega
    refine ⟨by omega, by omega, k0, k0, Nat.le_refl _, ?_, ?_⟩
    · rw [hz, z, uval_zero]; omega
    · rw [hz, z, uval_zero]; omega
theorem key_nonneg {x : Nat} (h : 0 ≤ key x) : key x = mg x := by
  unfold key at h ⊢
  split
  · rename_i g; rw [if_pos g] at h; omega
  · rfl
theorem sq_back {a b : Nat} (h : a * a ≤ b * b) : a ≤ b := Nat.mul_self_le_mul_self_iff.1 h
/-- The sizes of all that a span has: the ends as words. -/
def szLo (al ah : Nat) : Nat := if hasN al ah then 0 else min (mg al) (mg ah)
def szHi (al ah : Nat) : Nat := max (mg al) (mg ah)
/-- The root of a span's square has the sizes of all. -/
theorem root_has {al ah d1 u1 d2 u2 f1 g1 f2 g2 : Nat} {L : List (Nat × Nat)} (hL : L = sqL (hasN al ah) d2 u2)
    (lal : al < 18446744073709551616) (lah : ah < 18446744073709551616)
    (ha : Spn al ah) (a1 : ProIs al al d1 u1) (a2 : ProIs ah ah d2 u2) (fa : Flt d1 ∧ Flt u1 ∧ Flt d2 ∧ Flt u2)
    (hs : Spn (lmn d1 L) (lmx u1 L)) (r1 : RtIs (fmax (pls (lmn d1 L)) 0) f1 g1) (r2 : RtIs (pls (lmx u1 L)) f2 g2) (fr : Flt f1 ∧ Flt g1 ∧ Flt f2 ∧ Flt g2) :
    Spn (lmn f1 [(f2, g2)]) (lmx g1 [(f2, g2)]) ∧ spIn (szLo al ah) (szHi al ah) (pls (lmn f1 [(f2, g2)])) (pls (lmx g1 [(f2, g2)])) = true := by
  obtain ⟨E, hE⟩ : ∃ E, E = 1074 := ⟨_, rfl⟩
  have hD := Nat.two_pow_pos E
  obtain ⟨p1, q1, z1, w1, _⟩ := sq_dn hE lal ha.1 a1
  obtain ⟨p2, q2, z2, w2, _⟩ := sq_dn hE lah ha.2.1 a2
  have kd := key_sqmn (hasN al ah) d1 d2 u2
  have ku := key_sqmx (hasN al ah) u1 d2 u2
  rw [← hL] at kd ku
  have fl : Flt (lmn d1 L) := by rw [hL]; exact lmn_flt fa.1 (flts_sq fa.2.2)
  have fh : Flt (lmx u1 L) := by rw [hL]; exact lmx_flt fa.2.1 (flts_sq fa.2.2)
  generalize lmn d1 L = sl at *
  generalize lmx u1 L = sh at *
  clear hL
  have kh0 : 0 ≤ key sh := by
    rw [ku]; clear kd ku; cases hasN al ah <;> simp only [Bool.false_eq_true, if_false, if_true] <;> omega
  have kl0 : 0 ≤ key sl := by
    have : key sl = if hasN al ah then min (min (key d1) (key d2)) 0 else min (key d1) (key d2) := kd
    rw [this]; clear this kd ku; cases hasN al ah <;> simp only [Bool.false_eq_true, if_false, if_true] <;> omega
  have m0 := max_nought (pls_lt fl.1) (by rw [pls_mg]; exact hs.1)
  have kv : key (fmax (pls sl) 0) = key sl := by rw [fmax_key, key_zero, pls_key]; omega
  obtain ⟨x1, x2, x3, x4, x5, x6, x7⟩ := root_dn hE m0.1 m0.2.1 m0.2.2 r1
  obtain ⟨y1, y2, y3, y4, y5, y6, y7⟩ := root_dn hE (pls_lt fh.1) (by rw [pls_mg]; exact hs.2.1) (by rw [pls_key]; exact kh0) r2
  have kv' : mg (fmax (pls sl) 0) = mg sl := by
    have e1 := key_nonneg m0.2.2
    have e2 := key_nonneg kl0
    omega
  rw [kv'] at x6 x7
  rw [pls_mg] at y6 y7
  have lowOf : ∀ {a d : Nat}, Dn (sval a * sval a) (2 ^ E) d → 0 ≤ key d → mg d < 9218868437227405312 → key sl ≤ key d → mg f1 ≤ mg a := by
    intro a d h h0 hf hk
    have b := h.below hf
    rw [sval_sq, sval_pos h0] at b
    have b' : uval (mg d) * 2 ^ E ≤ uval (mg a) * uval (mg a) := by exact_mod_cast b
    have e1 := key_nonneg kl0
    have e2 := key_nonneg h0
    have c := Nat.mul_le_mul_right (2 ^ E) (uval_le (show mg sl ≤ mg d by omega))
    exact uval_back (sq_back (Nat.le_trans x6 (Nat.le_trans c b')))
  have highOf : ∀ {a u : Nat}, Up (sval a * sval a) (2 ^ E) u → 0 ≤ key u → key u ≤ key sh → mg a ≤ mg g2 := by
    intro a u h h0 hk
    have e1 := key_nonneg kh0
    have e2 := key_nonneg h0
    have hf : mg u < 9218868437227405312 := by have := hs.2.1; omega
    have b := h.above hf
    rw [sval_sq, sval_pos h0] at b
    have b' : uval (mg a) * uval (mg a) ≤ uval (mg u) * 2 ^ E := by exact_mod_cast b
    have c := Nat.mul_le_mul_right (2 ^ E) (uval_le (show mg u ≤ mg sh by omega))
    exact uval_back (sq_back (Nat.le_trans b' (Nat.le_trans c y7)))
  have df1 : mg d1 < 9218868437227405312 := (sq_dn hE lal ha.1 a1).2.2.2.2
  have df2 : mg d2 < 9218868437227405312 := (sq_dn hE lah ha.2.1 a2).2.2.2.2
  have sl1 : key sl ≤ key d1 := by rw [kd]; clear kd ku kl0 kv; cases hasN al ah <;> simp only [Bool.false_eq_true, if_false, if_true] <;> omega
  have sl2 : key sl ≤ key d2 := by rw [kd]; clear kd ku kl0 kv; cases hasN al ah <;> simp only [Bool.false_eq_true, if_false, if_true] <;> omega
  have sh1 : key u1 ≤ key sh := by rw [ku]; clear kd ku kh0; cases hasN al ah <;> simp only [Bool.false_eq_true, if_false, if_true] <;> omega
  have sh2 : key u2 ≤ key sh := by rw [ku]; clear kd ku kh0; cases hasN al ah <;> simp only [Bool.false_eq_true, if_false, if_true] <;> omega
  have lA := lowOf p1 z1 df1 sl1
  have lB := lowOf p2 z2 df2 sl2
  have hA := highOf q1 (Int.le_trans z1 w1) sh1
  have hB := highOf q2 (Int.le_trans z2 w2) sh2
  have l0 : hasN al ah = true → mg f1 = 0 := by
    intro g
    rw [g] at kd
    have e1 := key_nonneg kl0
    have hz : mg sl = 0 := by simp only [if_true] at kd; omega
    rw [hz, uval_zero, Nat.zero_mul] at x6
    rcases Nat.eq_zero_or_pos (mg f1) with j | j
    · exact j
    · have := uval_pos j
      have := Nat.mul_pos this this
      omega
  have kr1 : key (lmn f1 [(f2, g2)]) = min (key f1) (key f2) := by
    show key (fmin f1 f2) = _
    rw [fmin_key]
  have kr2 : key (lmx g1 [(f2, g2)]) = max (key g1) (key g2) := by
    show key (fmax g1 g2) = _
    rw [fmax_key]
  have hfl : Flts [(f2, g2)] := fun s k => by simp at k; subst k; exact fr.2.2
  have sL := lmn_flt fr.1 hfl
  have sH := lmx_flt fr.2.1 hfl
  have hlo : lmn f1 [(f2, g2)] = f1 ∨ lmn f1 [(f2, g2)] = f2 := fmin_or f1 f2
  have hhi : lmx g1 [(f2, g2)] = g1 ∨ lmx g1 [(f2, g2)] = g2 := fmax_or g1 g2
  have hr : Spn (lmn f1 [(f2, g2)]) (lmx g1 [(f2, g2)]) := by
    refine ⟨?_, ?_, ?_⟩
    · rcases hlo with e | e <;> rw [e] <;> assumption
    · rcases hhi with e | e <;> rw [e] <;> assumption
    · rw [kr1, kr2, x3, y4]; clear lowOf highOf; omega
  refine ⟨hr, ?_⟩
  have hsz : szLo al ah < 9218868437227405312 ∧ szHi al ah < 9218868437227405312 ∧ szLo al ah ≤ szHi al ah := by
    have := ha.1
    have := ha.2.1
    unfold szLo szHi
    split <;> omega
  have w1' := plain_word hsz.1
  have w2' := plain_word hsz.2.1
  have k1 := plain_key hsz.1
  have k2 := plain_key hsz.2.1
  refine decide_eq_true ⟨⟨by rw [w1'.1]; exact hsz.1, by rw [w2'.1]; exact hsz.2.1, by rw [k1, k2]; have := hsz.2.2; omega⟩, ⟨by rw [pls_mg]; exact hr.1, by rw [pls_mg]; exact hr.2.1, by rw [pls_key, pls_key]; exact hr.2.2⟩, ?_, ?_⟩
  · rw [pls_key, kr1, x3, k1]
    unfold szLo
    cases g : hasN al ah with
    | true => have := l0 g; simp only [if_true]; clear lowOf highOf; omega
    | false => simp only [Bool.false_eq_true, if_false]; clear lowOf highOf; omega
  · rw [pls_key, kr2, y4, k2]
    unfold szHi
    clear lowOf highOf
    omega
end Go.Proofs.Ytghcoijinihlnaa.Fl
