/-
  Wider spans come to wider ones: the four corners of a sum, difference, product or quotient. Condition: floats of 64 bits; the divisors have one sign.
-/
import Derived.Test.YtghcoijinihlnaaExu
import Derived.Test.YtghcoijinihlnaaSp6
namespace Go.Proofs.Ytghcoijinihlnaa.Fl
open Ieee
/-- The one ratio is not above the other. -/
def rle (N : Int) (D : Nat) (N' : Int) (D' : Nat) : Prop := N * D' ≤ N' * D
theorem rle.trans {N N' N'' : Int} {D D' D'' : Nat} (hD : 0 < D') (h : rle N D N' D') (k : rle N' D' N'' D'') : rle N D N'' D'' := by
  unfold rle at *
  have h1 : N * D' * D'' ≤ N' * D * D'' := Int.mul_le_mul_of_nonneg_right h (Int.natCast_nonneg _)
  have h2 : N' * D'' * D ≤ N'' * D' * D := Int.mul_le_mul_of_nonneg_right k (Int.natCast_nonneg _)
  have e1 : N * D' * D'' = N * D'' * D' := by rw [Int.mul_assoc, Int.mul_assoc, Int.mul_comm (D' : Int)]
  have e2 : N' * D * D'' = N' * D'' * D := by rw [Int.mul_assoc, Int.mul_assoc, Int.mul_comm (D : Int)]
  have e3 : N'' * D' * D = N'' * D * D' := by rw [Int.mul_assoc, Int.mul_assoc, Int.mul_comm (D' : Int)]
  have h3 : N * D'' * D' ≤ N'' * D * D' := by rw [← e1, ← e3]; exact Int.le_trans (by rw [← e2]; exact h1) h2
  exact Int.le_of_mul_le_mul_right h3 (by omega)
/-- What is linear is between what it is at the ends. -/
theorem btw (n : Int) {x y z : Int} (h : (y ≤ x ∧ x ≤ z) ∨ (z ≤ x ∧ x ≤ y)) : (n * y ≤ n * x ∨ n * z ≤ n * x) ∧ (n * x ≤ n * y ∨ n * x ≤ n * z) := by
  rcases Int.le_total 0 n with k | k
  · rcases h with ⟨a, b⟩ | ⟨a, b⟩
    · exact ⟨.inl (Int.mul_le_mul_of_nonneg_left a k), .inr (Int.mul_le_mul_of_nonneg_left b k)⟩
    · exact ⟨.inr (Int.mul_le_mul_of_nonneg_left a k), .inl (Int.mul_le_mul_of_nonneg_left b k)⟩
  · rcases h with ⟨a, b⟩ | ⟨a, b⟩
    · exact ⟨.inr (Int.mul_le_mul_of_nonpos_left k b), .inl (Int.mul_le_mul_of_nonpos_left k a)⟩
    · exact ⟨.inl (Int.mul_le_mul_of_nonpos_left k b), .inr (Int.mul_le_mul_of_nonpos_left k a)⟩
theorem sval_le {x y : Nat} (h : key x ≤ key y) : sval x ≤ sval y := by
  rcases Int.lt_or_le (sval y) (sval x) with k | k
  · have := (sval_cmp y x).1.1 k; omega
  · exact k
theorem key_le {x y : Nat} (h : sval x ≤ sval y) : key x ≤ key y := by
  rcases Int.lt_or_le (key y) (key x) with k | k
  · have := (sval_cmp y x).1.2 k; omega
  · exact k
theorem dn_up {N : Int} {D d u : Nat} (hD : 0 < D) (h : Dn N D d) (k : Up N D u) : key d ≤ key u := by
  rcases Nat.lt_or_eq_of_le h.le with g | g
  · rcases Nat.lt_or_eq_of_le k.le with g' | g'
    · exact key_le (Int.le_of_mul_le_mul_right (Int.le_trans (h.below g) (k.above g')) (by omega))
    · have h1 := k.inf g'
      have h2 := (key_bounds h.le).2
      unfold key at h2 ⊢
      rw [h1, g']
      simpa using h2
  · have h1 := h.inf g
    have h2 := (key_bounds k.le).1
    unfold key at h2 ⊢
    rw [h1, g]
    simpa using h2
/-- An operation whose exact result is a ratio that lies between what it is at the ends. -/
structure Cor (Rel : Nat → Nat → Nat → Nat → Prop) (ok : Nat → Prop) (N : Nat → Nat → Int) (D : Nat → Nat → Nat) : Prop where
  pos : ∀ p q, ok q → 0 < D p q
  dn : ∀ p q d u, p < 18446744073709551616 → q < 18446744073709551616 → mg p < 9218868437227405312 → mg q < 9218868437227405312 → ok q → Rel p q d u → Dn (N p q) (D p q) d ∧ Up (N p q) (D p q) u
  fst : ∀ p p1 p2 q, ok q → key p1 ≤ key p → key p ≤ key p2 → (rle (N p1 q) (D p1 q) (N p q) (D p q) ∨ rle (N p2 q) (D p2 q) (N p q) (D p q)) ∧ (rle (N p q) (D p q) (N p1 q) (D p1 q) ∨ rle (N p q) (D p q) (N p2 q) (D p2 q))
  snd : ∀ p q q1 q2, ok q → ok q1 → ok q2 → q < 18446744073709551616 → q1 < 18446744073709551616 → q2 < 18446744073709551616 → key q1 ≤ key q → key q ≤ key q2 → (rle (N p q1) (D p q1) (N p q) (D p q) ∨ rle (N p q2) (D p q2) (N p q) (D p q)) ∧ (rle (N p q) (D p q) (N p q1) (D p q1) ∨ rle (N p q) (D p q) (N p q2) (D p q2))
theorem cor_sum : Cor SumIs (fun _ => True) (fun p q => sval p + sval q) (fun _ _ => 1) where
  pos := fun _ _ _ => by omega
  dn := fun p q d u hp hq fp fq _ ⟨r, hr, h⟩ => add_dn hp hq fp fq hr h
  fst := fun p p1 p2 q _ h1 h2 => by
    have h1 := sval_le h1
    have h2 := sval_le h2
    unfold rle
    exact ⟨.inl (by omega), .inr (by omega)⟩
  snd := fun p q q1 q2 _ _ _ _ _ _ h1 h2 => by
    have h1 := sval_le h1
    have h2 := sval_le h2
    unfold rle
    exact ⟨.inl (by omega), .inr (by omega)⟩
theorem cor_dif : Cor DifIs (fun _ => True) (fun p q => sval p + sval (ngf q)) (fun _ _ => 1) where
  pos := fun _ _ _ => by omega
  dn := fun p q d u hp hq fp fq _ ⟨r, hr, h⟩ => add_dn hp (ngf_lt hq) fp (by rw [(ngf_is hq).1]; exact fq) hr h
  fst := fun p p1 p2 q _ h1 h2 => by
    have h1 := sval_le h1
    have h2 := sval_le h2
    unfold rle
    exact ⟨.inl (by omega), .inr (by omega)⟩
  snd := fun p q q1 q2 _ _ _ l l1 l2 h1 h2 => by
    have h1 := sval_le h1
    have h2 := sval_le h2
    have e := sval_ngf l
    have e1 := sval_ngf l1
    have e2 := sval_ngf l2
    unfold rle
    exact ⟨.inr (by omega), .inl (by omega)⟩
theorem cor_pro {E : Nat} (hE : E = 1074) : Cor ProIs (fun _ => True) (fun p q => sval p * sval q) (fun _ _ => 2 ^ E) where
  pos := fun _ _ _ => Nat.two_pow_pos _
  dn := fun p q d u hp hq fp fq _ ⟨r, hr, h⟩ => mul_dn hE hp fp fq hr h
  fst := fun p p1 p2 q _ h1 h2 => by
    have b := btw (sval q) (.inl ⟨sval_le h1, sval_le h2⟩)
    rw [Int.mul_comm (sval q), Int.mul_comm (sval q), Int.mul_comm (sval q)] at b
    exact ⟨b.1.imp (fun k => Int.mul_le_mul_of_nonneg_right k (Int.natCast_nonneg _)) (fun k => Int.mul_le_mul_of_nonneg_right k (Int.natCast_nonneg _)), b.2.imp (fun k => Int.mul_le_mul_of_nonneg_right k (Int.natCast_nonneg _)) (fun k => Int.mul_le_mul_of_nonneg_right k (Int.natCast_nonneg _))⟩
  snd := fun p q q1 q2 _ _ _ _ _ _ h1 h2 => by
    have b := btw (sval p) (.inl ⟨sval_le h1, sval_le h2⟩)
    exact ⟨b.1.imp (fun k => Int.mul_le_mul_of_nonneg_right k (Int.natCast_nonneg _)) (fun k => Int.mul_le_mul_of_nonneg_right k (Int.natCast_nonneg _)), b.2.imp (fun k => Int.mul_le_mul_of_nonneg_right k (Int.natCast_nonneg _)) (fun k => Int.mul_le_mul_of_nonneg_right k (Int.natCast_nonneg _))⟩
theorem qnum_of (a b E : Nat) : qnum a b E = (if ng b then -((2 ^ E : Nat) : Int) else ((2 ^ E : Nat) : Int)) * sval a := by
  unfold qnum
  split
  · rw [Int.neg_mul, Int.mul_comm]
  · rw [Int.mul_comm]
theorem cor_quo {E : Nat} (hE : E = 1074) (sg : Bool) : Cor QuotIs (fun q => 0 < mg q ∧ mg q < 9218868437227405312 ∧ ng q = sg) (fun p q => qnum p q E) (fun _ q => uval (mg q)) where
  pos := fun _ _ h => uval_pos h.1
  dn := fun p q d u hp hq fp fq h0 ⟨r, hr, h⟩ => quo_dn hE fp fq h0.1 hr h
  fst := fun p p1 p2 q _ h1 h2 => by
    have b := btw (if ng q then -((2 ^ E : Nat) : Int) else ((2 ^ E : Nat) : Int)) (.inl ⟨sval_le h1, sval_le h2⟩)
    rw [← qnum_of, ← qnum_of, ← qnum_of] at b
    exact ⟨b.1.imp (fun k => Int.mul_le_mul_of_nonneg_right k (Int.natCast_nonneg _)) (fun k => Int.mul_le_mul_of_nonneg_right k (Int.natCast_nonneg _)), b.2.imp (fun k => Int.mul_le_mul_of_nonneg_right k (Int.natCast_nonneg _)) (fun k => Int.mul_le_mul_of_nonneg_right k (Int.natCast_nonneg _))⟩
  snd := fun p q q1 q2 a a1 a2 _ _ _ h1 h2 => by
    have h1 := sval_le h1
    have h2 := sval_le h2
    have e1 : qnum p q1 E = qnum p q E := by unfold qnum; rw [a.2.2, a1.2.2]
    have e2 : qnum p q2 E = qnum p q E := by unfold qnum; rw [a.2.2, a2.2.2]
    have hb : ((uval (mg q1) : Int) ≤ uval (mg q) ∧ (uval (mg q) : Int) ≤ uval (mg q2)) ∨ ((uval (mg q2) : Int) ≤ uval (mg q) ∧ (uval (mg q) : Int) ≤ uval (mg q1)) := by
      unfold sval at h1 h2
      rw [a.2.2, a1.2.2] at h1
      rw [a.2.2, a2.2.2] at h2
      cases sg
      · simp only [Bool.false_eq_true, if_false] at h1 h2; omega
      · simp only [if_true] at h1 h2; omega
    have b := btw (qnum p q E) hb
    unfold rle
    simp only [e1, e2]
    exact ⟨b.2, b.1⟩
/-- Of what lies between the ends, the answer lies between the corners' answers. -/
theorem corner {Rel : Nat → Nat → Nat → Nat → Prop} {ok : Nat → Prop} {N : Nat → Nat → Int} {D : Nat → Nat → Nat} (C : Cor Rel ok N D)
    {p q xl xh yl yh d u d1 u1 d2 u2 d3 u3 d4 u4 : Nat} (hp : p < 18446744073709551616) (hq : q < 18446744073709551616) (fp : mg p < 9218868437227405312) (fq : mg q < 9218868437227405312)
    (lxl : xl < 18446744073709551616) (lxh : xh < 18446744073709551616) (lyl : yl < 18446744073709551616) (lyh : yh < 18446744073709551616)
    (hx : Spn xl xh) (hy : Spn yl yh) (okq : ok q) (okl : ok yl) (okh : ok yh)
    (h1 : key xl ≤ key p) (h2 : key p ≤ key xh) (h3 : key yl ≤ key q) (h4 : key q ≤ key yh) (h : Rel p q d u)
    (r1 : Rel xl yl d1 u1) (r2 : Rel xl yh d2 u2) (r3 : Rel xh yl d3 u3) (r4 : Rel xh yh d4 u4) :
    (key d1 ≤ key d ∨ key d2 ≤ key d ∨ key d3 ≤ key d ∨ key d4 ≤ key d) ∧ (key u ≤ key u1 ∨ key u ≤ key u2 ∨ key u ≤ key u3 ∨ key u ≤ key u4) ∧ key d ≤ key u := by
  have e := C.dn p q d u hp hq fp fq okq h
  have e1 := C.dn xl yl d1 u1 lxl lyl hx.1 hy.1 okl r1
  have e2 := C.dn xl yh d2 u2 lxl lyh hx.1 hy.2.1 okh r2
  have e3 := C.dn xh yl d3 u3 lxh lyl hx.2.1 hy.1 okl r3
  have e4 := C.dn xh yh d4 u4 lxh lyh hx.2.1 hy.2.1 okh r4
  have k := C.snd p q yl yh okq okl okh hq lyl lyh h3 h4
  have kl := C.fst p xl xh yl okl h1 h2
  have kh := C.fst p xl xh yh okh h1 h2
  have pl := C.pos p yl okl
  have ph := C.pos p yh okh
  have pq := C.pos p q okq
  refine ⟨?_, ?_, dn_up pq e.1 e.2⟩
  · rcases k.1 with g | g
    · rcases kl.1 with g' | g'
      · exact .inl (Dn.mono e1.1 e.1 (C.pos _ _ okl) (g'.trans pl g))
      · exact .inr (.inr (.inl (Dn.mono e3.1 e.1 (C.pos _ _ okl) (g'.trans pl g))))
    · rcases kh.1 with g' | g'
      · exact .inr (.inl (Dn.mono e2.1 e.1 (C.pos _ _ okh) (g'.trans ph g)))
      · exact .inr (.inr (.inr (Dn.mono e4.1 e.1 (C.pos _ _ okh) (g'.trans ph g))))
  · rcases k.2 with g | g
    · rcases kl.2 with g' | g'
      · exact .inl (Up.mono e.2 e1.2 (C.pos _ _ okl) (g.trans pl g'))
      · exact .inr (.inr (.inl (Up.mono e.2 e3.2 (C.pos _ _ okl) (g.trans pl g'))))
    · rcases kh.2 with g' | g'
      · exact .inr (.inl (Up.mono e.2 e2.2 (C.pos _ _ okh) (g.trans ph g')))
      · exact .inr (.inr (.inr (Up.mono e.2 e4.2 (C.pos _ _ okh) (g.trans ph g'))))
theorem below4 {a b c d e f g h : Int} (p : e ≤ a ∨ f ≤ a ∨ g ≤ a ∨ h ≤ a) (q : e ≤ b ∨ f ≤ b ∨ g ≤ b ∨ h ≤ b) (r : e ≤ c ∨ f ≤ c ∨ g ≤ c ∨ h ≤ c) (s : e ≤ d ∨ f ≤ d ∨ g ≤ d ∨ h ≤ d) : min (min (min e f) g) h ≤ min (min (min a b) c) d := by
  obtain ⟨M, hM⟩ : ∃ M, M = min (min (min e f) g) h := ⟨_, rfl⟩
  have m1 : M ≤ e ∧ M ≤ f ∧ M ≤ g ∧ M ≤ h := by omega
  have p' : M ≤ a := by clear q r s hM; omega
  have q' : M ≤ b := by clear p r s hM; omega
  have r' : M ≤ c := by clear p q s hM; omega
  have s' : M ≤ d := by clear p q r hM; omega
  rw [← hM]; clear p q r s hM m1; omega
theorem above4 {a b c d e f g h : Int} (p : a ≤ e ∨ a ≤ f ∨ a ≤ g ∨ a ≤ h) (q : b ≤ e ∨ b ≤ f ∨ b ≤ g ∨ b ≤ h) (r : c ≤ e ∨ c ≤ f ∨ c ≤ g ∨ c ≤ h) (s : d ≤ e ∨ d ≤ f ∨ d ≤ g ∨ d ≤ h) : max (max (max a b) c) d ≤ max (max (max e f) g) h := by
  obtain ⟨M, hM⟩ : ∃ M, M = max (max (max e f) g) h := ⟨_, rfl⟩
  have m1 : e ≤ M ∧ f ≤ M ∧ g ≤ M ∧ h ≤ M := by omega
  have p' : a ≤ M := by clear q r s hM; omega
  have q' : b ≤ M := by clear p r s hM; omega
  have r' : c ≤ M := by clear p q s hM; omega
  have s' : d ≤ M := by clear p q r hM; omega
  rw [← hM]; clear p q r s hM m1; omega
theorem key_lmn3 (d1 d2 d3 d4 u2 u3 u4 : Nat) : key (lmn d1 [(d2, u2), (d3, u3), (d4, u4)]) = min (min (min (key d1) (key d2)) (key d3)) (key d4) := by
  show key (fmin (fmin (fmin d1 d2) d3) d4) = _
  rw [fmin_key, fmin_key, fmin_key]
theorem key_lmx3 (u1 d2 d3 d4 u2 u3 u4 : Nat) : key (lmx u1 [(d2, u2), (d3, u3), (d4, u4)]) = max (max (max (key u1) (key u2)) (key u3)) (key u4) := by
  show key (fmax (fmax (fmax u1 u2) u3) u4) = _
  rw [fmax_key, fmax_key, fmax_key]
theorem fin_key {x : Nat} (h : mg x ≤ 9218868437227405312) (h1 : -9218868437227405312 < key x) (h2 : key x < 9218868437227405312) : mg x < 9218868437227405312 := by
  rcases Nat.lt_or_eq_of_le h with g | g
  · exact g
  · have : key x = 9218868437227405312 ∨ key x = -9218868437227405312 := by unfold key; split <;> omega
    omega
/-- What has ends within a span's ends is a span within it. -/
theorem spn_in {l h l' h' : Nat} (hl : Flt l) (hh : Flt h) (hs : Spn l' h') (h1 : key l' ≤ key l) (h2 : key l ≤ key h) (h3 : key h ≤ key h') : Spn l h := by
  have b1 : -9218868437227405312 < key l' := by have := hs.1; unfold key; split <;> omega
  have b2 : key h' < 9218868437227405312 := by have := hs.2.1; unfold key; split <;> omega
  have c1 := hl.2
  have c2 := hh.2
  refine ⟨?_, ?_, h2⟩
  · exact fin_key c1 (by omega) (by omega)
  · exact fin_key c2 (by omega) (by omega)
/-- The four corners of what is narrower lie within those of what is wider. -/
theorem grows {Rel : Nat → Nat → Nat → Nat → Prop} {ok : Nat → Prop} {N : Nat → Nat → Int} {D : Nat → Nat → Nat} (C : Cor Rel ok N D)
    {al ah bl bh xl xh yl yh d1 u1 d2 u2 d3 u3 d4 u4 e1 v1 e2 v2 e3 v3 e4 v4 : Nat}
    (lal : al < 18446744073709551616) (lah : ah < 18446744073709551616) (lbl : bl < 18446744073709551616) (lbh : bh < 18446744073709551616)
    (lxl : xl < 18446744073709551616) (lxh : xh < 18446744073709551616) (lyl : yl < 18446744073709551616) (lyh : yh < 18446744073709551616)
    (ha : Spn al ah) (hb : Spn bl bh) (hx : Spn xl xh) (hy : Spn yl yh) (obl : ok bl) (obh : ok bh) (oyl : ok yl) (oyh : ok yh)
    (i1 : key xl ≤ key al) (i2 : key ah ≤ key xh) (i3 : key yl ≤ key bl) (i4 : key bh ≤ key yh)
    (ra : Rel al bl d1 u1 ∧ Rel al bh d2 u2 ∧ Rel ah bl d3 u3 ∧ Rel ah bh d4 u4) (rx : Rel xl yl e1 v1 ∧ Rel xl yh e2 v2 ∧ Rel xh yl e3 v3 ∧ Rel xh yh e4 v4)
    (fa : Flt d1 ∧ Flt u1 ∧ Flt d2 ∧ Flt u2 ∧ Flt d3 ∧ Flt u3 ∧ Flt d4 ∧ Flt u4)
    (hs : Spn (lmn e1 [(e2, v2), (e3, v3), (e4, v4)]) (lmx v1 [(e2, v2), (e3, v3), (e4, v4)])) :
    Spn (lmn d1 [(d2, u2), (d3, u3), (d4, u4)]) (lmx u1 [(d2, u2), (d3, u3), (d4, u4)]) ∧
    key (lmn e1 [(e2, v2), (e3, v3), (e4, v4)]) ≤ key (lmn d1 [(d2, u2), (d3, u3), (d4, u4)]) ∧ key (lmx u1 [(d2, u2), (d3, u3), (d4, u4)]) ≤ key (lmx v1 [(e2, v2), (e3, v3), (e4, v4)]) := by
  have hak := ha.2.2
  have hbk := hb.2.2
  have c1 := corner C lal lbl ha.1 hb.1 lxl lxh lyl lyh hx hy obl oyl oyh i1 (by omega) i3 (by omega) ra.1 rx.1 rx.2.1 rx.2.2.1 rx.2.2.2
  have c2 := corner C lal lbh ha.1 hb.2.1 lxl lxh lyl lyh hx hy obh oyl oyh i1 (by omega) (by omega) i4 ra.2.1 rx.1 rx.2.1 rx.2.2.1 rx.2.2.2
  have c3 := corner C lah lbl ha.2.1 hb.1 lxl lxh lyl lyh hx hy obl oyl oyh (by omega) i2 i3 (by omega) ra.2.2.1 rx.1 rx.2.1 rx.2.2.1 rx.2.2.2
  have c4 := corner C lah lbh ha.2.1 hb.2.1 lxl lxh lyl lyh hx hy obh oyl oyh (by omega) i2 (by omega) i4 ra.2.2.2 rx.1 rx.2.1 rx.2.2.1 rx.2.2.2
  have L : Flts [(d2, u2), (d3, u3), (d4, u4)] := flts3 fa.2.2
  have fl := lmn_flt fa.1 L
  have fh := lmx_flt fa.2.1 L
  have kd := key_lmn3 d1 d2 d3 d4 u2 u3 u4
  have ku := key_lmx3 u1 d2 d3 d4 u2 u3 u4
  have ke := key_lmn3 e1 e2 e3 e4 v2 v3 v4
  have kv := key_lmx3 v1 e2 e3 e4 v2 v3 v4
  have m1 : key (lmn e1 [(e2, v2), (e3, v3), (e4, v4)]) ≤ key (lmn d1 [(d2, u2), (d3, u3), (d4, u4)]) := by rw [kd, ke]; exact below4 c1.1 c2.1 c3.1 c4.1
  have m2 : key (lmx u1 [(d2, u2), (d3, u3), (d4, u4)]) ≤ key (lmx v1 [(e2, v2), (e3, v3), (e4, v4)]) := by rw [ku, kv]; exact above4 c1.2.1 c2.2.1 c3.2.1 c4.2.1
  have m3 : key (lmn d1 [(d2, u2), (d3, u3), (d4, u4)]) ≤ key (lmx u1 [(d2, u2), (d3, u3), (d4, u4)]) := by
    have := c1.2.2
    rw [kd, ku]; clear c1 c2 c3 c4 m1 m2 kd ku ke kv; omega
  exact ⟨spn_in fl fh hs m1 m3 m2, m1, m2⟩
/-- Within, once the noughts have no signs. -/
theorem pls_in {l h l' h' : Nat} (hs : Spn l h) (hs' : Spn l' h') (h1 : key l' ≤ key l) (h2 : key h ≤ key h') : spIn (pls l) (pls h) (pls l') (pls h') = true := by
  have p : ∀ {l h : Nat}, Spn l h → Spn (pls l) (pls h) := fun k => ⟨by rw [pls_mg]; exact k.1, by rw [pls_mg]; exact k.2.1, by rw [pls_key, pls_key]; exact k.2.2⟩
  exact decide_eq_true ⟨p hs, p hs', by rw [pls_key, pls_key]; exact h1, by rw [pls_key, pls_key]; exact h2⟩
theorem ans_inj {a b a' b' : Nat} {c c' : Int} (h : (Go.Ending.returned (.tuple #[spv a b, .int .i64 c])) = .returned (.tuple #[spv a' b', .int .i64 c'])) : a = a' ∧ b = b' ∧ c = c' := by
  cases h; exact ⟨rfl, rfl, rfl⟩
/-- What two spans' answers are to one another: if the wider ones have one, so have the narrower ones, and within it. -/
def Wid (l h l' h' : Nat) (e e' : Int) : Prop := e' = 0 → e = 0 ∧ spIn l h l' h' = true
theorem wid {Rel : Nat → Nat → Nat → Nat → Prop} {ok : Nat → Prop} {N : Nat → Nat → Int} {D : Nat → Nat → Nat} (C : Cor Rel ok N D)
    {al ah bl bh xl xh yl yh l h l' h' : Nat} {er er' : Int} {e e' : Go.Ending}
    (lal : al < 18446744073709551616) (lah : ah < 18446744073709551616) (lbl : bl < 18446744073709551616) (lbh : bh < 18446744073709551616)
    (lxl : xl < 18446744073709551616) (lxh : xh < 18446744073709551616) (lyl : yl < 18446744073709551616) (lyh : yh < 18446744073709551616)
    (ha : Spn al ah) (hb : Spn bl bh) (hx : Spn xl xh) (hy : Spn yl yh) (obl : ok bl) (obh : ok bh) (oyl : ok yl) (oyh : ok yh)
    (i1 : key xl ≤ key al) (i2 : key ah ≤ key xh) (i3 : key yl ≤ key bl) (i4 : key bh ≤ key yh)
    (r : SpRes Rel al ah bl bh e) (r' : SpRes Rel xl xh yl yh e') (he : e = .returned (.tuple #[spv l h, .int .i64 er])) (he' : e' = .returned (.tuple #[spv l' h', .int .i64 er'])) :
    Wid l h l' h' er er' := by
  rcases r with ⟨n, _⟩ | ⟨_, d1, u1, d2, u2, d3, u3, d4, u4, R, F, q⟩
  · exact absurd ⟨ha, hb⟩ n
  rcases r' with ⟨n, _⟩ | ⟨_, e1, v1, e2, v2, e3, v3, e4, v4, R', F', q'⟩
  · exact absurd ⟨hx, hy⟩ n
  rw [q] at he
  rw [q'] at he'
  obtain ⟨a1, a2, a3⟩ := ans_inj he
  obtain ⟨b1, b2, b3⟩ := ans_inj he'
  clear he he' q q'
  intro hz
  have hs : Spn (lmn e1 [(e2, v2), (e3, v3), (e4, v4)]) (lmx v1 [(e2, v2), (e3, v3), (e4, v4)]) := by
    rcases Classical.em (Spn (lmn e1 [(e2, v2), (e3, v3), (e4, v4)]) (lmx v1 [(e2, v2), (e3, v3), (e4, v4)])) with g | g
    · exact g
    · exfalso; rw [← b3] at hz; unfold leaE at hz; rw [if_neg g] at hz; omega
  have G := grows C lal lah lbl lbh lxl lxh lyl lyh ha hb hx hy obl obh oyl oyh i1 i2 i3 i4 R R' F hs
  have c1 : leaE d1 u1 [(d2, u2), (d3, u3), (d4, u4)] = 0 := if_pos G.1
  have c2 : leaLo d1 u1 [(d2, u2), (d3, u3), (d4, u4)] = pls (lmn d1 [(d2, u2), (d3, u3), (d4, u4)]) := if_pos G.1
  have c3 : leaHi d1 u1 [(d2, u2), (d3, u3), (d4, u4)] = pls (lmx u1 [(d2, u2), (d3, u3), (d4, u4)]) := if_pos G.1
  have c4 : leaLo e1 v1 [(e2, v2), (e3, v3), (e4, v4)] = pls (lmn e1 [(e2, v2), (e3, v3), (e4, v4)]) := if_pos hs
  have c5 : leaHi e1 v1 [(e2, v2), (e3, v3), (e4, v4)] = pls (lmx v1 [(e2, v2), (e3, v3), (e4, v4)]) := if_pos hs
  refine ⟨by omega, ?_⟩
  rw [← a1, ← a2, ← b1, ← b2, c2, c3, c4, c5]
  exact pls_in G.1 hs G.2.1 G.2.2
