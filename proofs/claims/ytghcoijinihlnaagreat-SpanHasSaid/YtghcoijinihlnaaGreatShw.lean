/-
  Of any numbers that two spans have, their sum, difference, product, quotient, square lies in the answers (SpanHas's walk). Conditions: floats of 64 bits.
-/
import Derived.Test.YtghcoijinihlnaaGreatSpg
import Derived.Test.YtghcoijinihlnaaGreatSpq
import Derived.Test.YtghcoijinihlnaaGreatFrd
import Derived.Test.YtghcoijinihlnaaGreatFnc
import Derived.Deep.RegionHeld3
import Derived.Deep.DeepCutAuto
import Derived.BigRegion
namespace Go.Proofs.YtghcoijinihlnaaGreat
open Go.RowKit Nb Fl Ieee
theorem fl_le {a b : Nat} (h : key a ≤ key b) : fl a ≤ fl b := by
 rw [fl_un a 1 (by decide), fl_un b 1 (by decide), un_le (by decide)]
 have := sval_le h
 simpa using this
theorem fl_key {a b : Nat} (h : key a = key b) : fl a = fl b := by unfold fl; rw [sval_key.2 h]
/-- Down and up about an exact corner. -/
theorem sum_bt {a b d u : Nat} (ha : a < 18446744073709551616) (hb : b < 18446744073709551616) (fa : mg a < 9218868437227405312) (fb : mg b < 9218868437227405312) (h : SumIs a b d u) : Bt (fl a + fl b) d u := by
 obtain ⟨r, hr, h⟩ := h
 have h1 := add_dn ha hb fa fb hr h
 exact (bt_of (by decide) h1.1 h1.2).to (un_sum a b)
theorem dif_bt {a b d u : Nat} (ha : a < 18446744073709551616) (hb : b < 18446744073709551616) (fa : mg a < 9218868437227405312) (fb : mg b < 9218868437227405312) (h : DifIs a b d u) : Bt (fl a - fl b) d u := by
 obtain ⟨r, hr, h⟩ := h
 have fb' : mg (ngf b) < 9218868437227405312 := by rw [(ngf_is hb).1]; exact fb
 have h1 := add_dn ha (ngf_lt hb) fa fb' hr h
 exact (bt_of (by decide) h1.1 h1.2).to (by rw [un_sum, fl_ngf hb, Rat.sub_eq_add_neg])
theorem pro_bt {a b d u : Nat} (ha : a < 18446744073709551616) (_hb : b < 18446744073709551616) (fa : mg a < 9218868437227405312) (fb : mg b < 9218868437227405312) (h : ProIs a b d u) : Bt (fl a * fl b) d u := by
 obtain ⟨r, hr, h⟩ := h
 obtain ⟨E, hE⟩ : ∃ E : Nat, E = 1074 := ⟨_, rfl⟩
 have h1 := mul_dn hE ha fa fb hr h
 have e := un_mul a b
 rw [← hE] at e
 exact (bt_of (Nat.two_pow_pos E) h1.1 h1.2).to e
theorem quo_bt {a b d u : Nat} (fa : mg a < 9218868437227405312) (fb : mg b < 9218868437227405312) (b0 : 0 < mg b) (h : QuotIs a b d u) : Bt (fl a / fl b) d u := by
 obtain ⟨r, hr, h⟩ := h
 obtain ⟨E, hE⟩ : ∃ E : Nat, E = 1074 := ⟨_, rfl⟩
 have h1 := quo_dn hE fa fb b0 hr h
 exact (bt_of (uval_pos b0) h1.1 h1.2).to (un_quo hE b0)
/-- What four corners about which are d and u, have between them, lies between the least and the greatest. -/
theorem low_of {c : Rat} {d u l h : Nat} (B : Bt c d u) (hs : Spn l h) (hk : key l ≤ key d) : fl l ≤ c := by
 have fd : mg d < 9218868437227405312 := by
  rcases Nat.lt_or_eq_of_le B.ld with g | g
  ·exact g
  ·exfalso
   have e : key d = -9218868437227405312 := by unfold key; rw [B.id g, g]; rfl
   have : -9218868437227405312 < key l := by have := hs.1; unfold key; split <;> omega
   omega
 exact Rat.le_trans (fl_le hk) (B.low fd)
theorem high_of {c : Rat} {d u l h : Nat} (B : Bt c d u) (hs : Spn l h) (hk : key u ≤ key h) : c ≤ fl h := by
 have fu : mg u < 9218868437227405312 := by
  rcases Nat.lt_or_eq_of_le B.lu with g | g
  ·exact g
  ·exfalso
   have e : key u = 9218868437227405312 := by unfold key; rw [B.iu g, g]; rfl
   have : key h < 9218868437227405312 := by have := hs.2.1; unfold key; split <;> omega
   omega
 exact Rat.le_trans (B.high fu) (fl_le hk)
/-- A number between. -/
def Btw (l h : Nat) (z : Rat) : Prop := fl l ≤ z ∧ z ≤ fl h
theorem pls_btw {l h : Nat} {z : Rat} (k : Btw l h z) : Btw (pls l) (pls h) z := ⟨by rw [fl_key (pls_key l)]; exact k.1, by rw [fl_key (pls_key h)]; exact k.2⟩
theorem pls_spn {l h : Nat} (hs : Spn l h) : Spn (pls l) (pls h) := ⟨by rw [pls_mg]; exact hs.1, by rw [pls_mg]; exact hs.2.1, by rw [pls_key, pls_key]; exact hs.2.2⟩
theorem lea_yes {d u : Nat} {L : List (Nat × Nat)} (h : leaE d u L = 0) : Spn (lmn d L) (lmx u L) ∧ leaLo d u L = pls (lmn d L) ∧ leaHi d u L = pls (lmx u L) := by
 rcases Classical.em (Spn (lmn d L) (lmx u L)) with g | g
 ·exact ⟨g, if_pos g, if_pos g⟩
 ·exfalso; unfold leaE at h; rw [if_neg g] at h; omega
theorem four_btw {c1 c2 c3 c4 : Rat} {d1 u1 d2 u2 d3 u3 d4 u4 : Nat} (B1 : Bt c1 d1 u1) (B2 : Bt c2 d2 u2) (B3 : Bt c3 d3 u3) (B4 : Bt c4 d4 u4) (hz : leaE d1 u1 [(d2, u2), (d3, u3), (d4, u4)] = 0) :
  Spn (leaLo d1 u1 [(d2, u2), (d3, u3), (d4, u4)]) (leaHi d1 u1 [(d2, u2), (d3, u3), (d4, u4)]) ∧ ∀ z : Rat, (∀ m, m ≤ c1 → m ≤ c2 → m ≤ c3 → m ≤ c4 → m ≤ z) → (∀ m, c1 ≤ m → c2 ≤ m → c3 ≤ m → c4 ≤ m → z ≤ m) → Btw (leaLo d1 u1 [(d2, u2), (d3, u3), (d4, u4)]) (leaHi d1 u1 [(d2, u2), (d3, u3), (d4, u4)]) z := by
 obtain ⟨hs, e1, e2⟩ := lea_yes hz
 rw [e1, e2]
 have k1 := key_lmn3 d1 d2 d3 d4 u2 u3 u4
 have k2 := key_lmx3 u1 d2 d3 d4 u2 u3 u4
 refine ⟨pls_spn hs, fun z h1 h2 => pls_btw ⟨h1 _ (low_of B1 hs (by omega)) (low_of B2 hs (by omega)) (low_of B3 hs (by omega)) (low_of B4 hs (by omega)), h2 _ (high_of B1 hs (by omega)) (high_of B2 hs (by omega)) (high_of B3 hs (by omega)) (high_of B4 hs (by omega))⟩⟩
/-! ### Corners of exact numbers -/
theorem mulr {a b c : Rat} (h : a ≤ b) (hc : 0 ≤ c) : a * c ≤ b * c := Rat.mul_le_mul_of_nonneg_right h hc
theorem mulr_neg {a b c : Rat} (h : a ≤ b) (hc : c ≤ 0) : b * c ≤ a * c := by
 have := mulr h (show 0 ≤ -c by grind)
 grind
theorem mull {a b c : Rat} (h : a ≤ b) (hc : 0 ≤ c) : c * a ≤ c * b := by
 have := mulr h hc
 grind
theorem mull_neg {a b c : Rat} (h : a ≤ b) (hc : c ≤ 0) : c * b ≤ c * a := by
 have := mulr_neg h hc
 grind
theorem tot (a b : Rat) : a ≤ b ∨ b ≤ a := Rat.le_total
theorem pro_low {p q r s x y m : Rat} (h1 : p ≤ x) (h2 : x ≤ q) (h3 : r ≤ y) (h4 : y ≤ s) (m1 : m ≤ p * r) (m2 : m ≤ p * s) (m3 : m ≤ q * r) (m4 : m ≤ q * s) : m ≤ x * y := by
 rcases tot 0 y with g | g
 ·refine Rat.le_trans ?_ (mulr h1 g)
  rcases tot 0 p with k | k
  ·exact Rat.le_trans m1 (mull h3 k)
  ·exact Rat.le_trans m2 (mull_neg h4 k)
 ·refine Rat.le_trans ?_ (mulr_neg h2 g)
  rcases tot 0 q with k | k
  ·exact Rat.le_trans m3 (mull h3 k)
  ·exact Rat.le_trans m4 (mull_neg h4 k)
theorem pro_high {p q r s x y m : Rat} (h1 : p ≤ x) (h2 : x ≤ q) (h3 : r ≤ y) (h4 : y ≤ s) (m1 : p * r ≤ m) (m2 : p * s ≤ m) (m3 : q * r ≤ m) (m4 : q * s ≤ m) : x * y ≤ m := by
 have := pro_low (p := -q) (q := -p) (x := -x) (m := -m) (by grind) (by grind) h3 h4 (by grind) (by grind) (by grind) (by grind)
 grind
theorem inv_btw {r s y : Rat} (h3 : r ≤ y) (h4 : y ≤ s) (hz : 0 < r ∨ s < 0) : 1 / s ≤ 1 / y ∧ 1 / y ≤ 1 / r := by
 have key : ∀ a b : Rat, a ≤ b → (0 < a ∨ b < 0) → 1 / b ≤ 1 / a := fun a b hab hs => by
  have ha : a ≠ 0 := by grind
  have hb : b ≠ 0 := by grind
  have hp : 0 < a * b := by
   rcases hs with g | g
   ·exact Rat.mul_pos g (by grind)
   ·have := Rat.mul_pos (show 0 < -a by grind) (show 0 < -b by grind)
    grind
  have hi : 0 < (a * b)⁻¹ := Rat.inv_pos.2 hp
  have := mulr hab (Rat.le_of_lt hi)
  have e1 : a * (a * b)⁻¹ = 1 / b := by grind
  have e2 : b * (a * b)⁻¹ = 1 / a := by grind
  rw [e1, e2] at this
  exact this
 exact ⟨key y s h4 (by grind), key r y h3 (by grind)⟩
theorem quo_low {p q r s x y m : Rat} (h1 : p ≤ x) (h2 : x ≤ q) (h3 : r ≤ y) (h4 : y ≤ s) (hz : 0 < r ∨ s < 0) (m1 : m ≤ p / r) (m2 : m ≤ p / s) (m3 : m ≤ q / r) (m4 : m ≤ q / s) : m ≤ x / y := by
 have i := inv_btw h3 h4 hz
 have e : ∀ a b : Rat, a / b = a * (1 / b) := fun a b => by rw [Rat.div_def, Rat.div_def, Rat.one_mul]
 rw [e] at m1 m2 m3 m4
 rw [e]
 exact pro_low h1 h2 i.1 i.2 m2 m1 m4 m3
theorem quo_high {p q r s x y m : Rat} (h1 : p ≤ x) (h2 : x ≤ q) (h3 : r ≤ y) (h4 : y ≤ s) (hz : 0 < r ∨ s < 0) (m1 : p / r ≤ m) (m2 : p / s ≤ m) (m3 : q / r ≤ m) (m4 : q / s ≤ m) : x / y ≤ m := by
 have i := inv_btw h3 h4 hz
 have e : ∀ a b : Rat, a / b = a * (1 / b) := fun a b => by rw [Rat.div_def, Rat.div_def, Rat.one_mul]
 rw [e] at m1 m2 m3 m4
 rw [e]
 exact pro_high h1 h2 i.1 i.2 m2 m1 m4 m3
/-! ### What the span's calls answer -/
/-- A span that has all these numbers, if it was answered. -/
def Ansr (P : Rat → Prop) (w : World) (e : Ending) (w' : World) : Prop := ∃ (l h : Nat) (er : Int), e = .returned (.tuple #[spv l h, .int .i64 er]) ∧ (er = 0 → (l < 18446744073709551616 ∧ h < 18446744073709551616) ∧ Spn l h ∧ ∀ z, P z → Btw l h z) ∧ Below w.heap.size w w'
theorem lea_lt {d u : Nat} {L : List (Nat × Nat)} (hd : Flt d) (hu : Flt u) (hL : Flts L) : leaLo d u L < 18446744073709551616 ∧ leaHi d u L < 18446744073709551616 := by
 have a := lmn_flt hd hL
 have b := lmx_flt hu hL
 unfold leaLo leaHi
 split
 ·exact ⟨pls_lt a.1, pls_lt b.1⟩
 ·exact ⟨by decide, by decide⟩
/-- Both numbers lie in the spans. -/
def Two2 (al ah bl bh : Nat) (F : Rat → Rat → Rat) (z : Rat) : Prop := ∃ x y, Btw al ah x ∧ Btw bl bh y ∧ z = F x y
section
variable {al ah bl bh : Nat} {w : World}
theorem sp_add (h1 : al < 18446744073709551616) (h2 : ah < 18446744073709551616) (h3 : bl < 18446744073709551616) (h4 : bh < 18446744073709551616) (hs : Spn al ah) (ht : Spn bl bh) : Calls Tryz.prog 18 #[spv al ah, spv bl bh] w (Ansr (Two2 al ah bl bh (fun x y => x + y)) w) := by
 refine (spanadd_any al ah bl bh w h1 h2 h3 h4).mono ?_
 rintro e w' ⟨⟨hn, _⟩ | ⟨_, d1, u1, d2, u2, d3, u3, d4, u4, R, F, he⟩, hb⟩
 ·exact absurd ⟨hs, ht⟩ hn
 ·refine ⟨_, _, _, he, fun hz => ?_, hb⟩
  have G := four_btw (sum_bt h1 h3 hs.1 ht.1 R.1) (sum_bt h1 h4 hs.1 ht.2.1 R.2.1) (sum_bt h2 h3 hs.2.1 ht.1 R.2.2.1) (sum_bt h2 h4 hs.2.1 ht.2.1 R.2.2.2) hz
  refine ⟨lea_lt F.1 F.2.1 (flts3 F.2.2), G.1, fun z ⟨x, y, hx, hy, hz⟩ => G.2 z (fun m m1 _ _ _ => ?_) (fun m _ _ _ m4 => ?_)⟩
  ·have := hx.1; have := hy.1; grind
  ·have := hx.2; have := hy.2; grind
theorem sp_sub (h1 : al < 18446744073709551616) (h2 : ah < 18446744073709551616) (h3 : bl < 18446744073709551616) (h4 : bh < 18446744073709551616) (hs : Spn al ah) (ht : Spn bl bh) : Calls Tryz.prog 20 #[spv al ah, spv bl bh] w (Ansr (Two2 al ah bl bh (fun x y => x - y)) w) := by
 refine (spansub_any al ah bl bh w h1 h2 h3 h4).mono ?_
 rintro e w' ⟨⟨hn, _⟩ | ⟨_, d1, u1, d2, u2, d3, u3, d4, u4, R, F, he⟩, hb⟩
 ·exact absurd ⟨hs, ht⟩ hn
 ·refine ⟨_, _, _, he, fun hz => ?_, hb⟩
  have G := four_btw (dif_bt h1 h3 hs.1 ht.1 R.1) (dif_bt h1 h4 hs.1 ht.2.1 R.2.1) (dif_bt h2 h3 hs.2.1 ht.1 R.2.2.1) (dif_bt h2 h4 hs.2.1 ht.2.1 R.2.2.2) hz
  refine ⟨lea_lt F.1 F.2.1 (flts3 F.2.2), G.1, fun z ⟨x, y, hx, hy, hz⟩ => G.2 z (fun m _ m2 _ _ => ?_) (fun m _ _ m3 _ => ?_)⟩
  ·have := hx.1; have := hy.2; grind
  ·have := hx.2; have := hy.1; grind
theorem sp_mul (h1 : al < 18446744073709551616) (h2 : ah < 18446744073709551616) (h3 : bl < 18446744073709551616) (h4 : bh < 18446744073709551616) (hs : Spn al ah) (ht : Spn bl bh) : Calls Tryz.prog 23 #[spv al ah, spv bl bh] w (Ansr (Two2 al ah bl bh (fun x y => x * y)) w) := by
 refine (spanmul_any al ah bl bh w h1 h2 h3 h4).mono ?_
 rintro e w' ⟨⟨hn, _⟩ | ⟨_, d1, u1, d2, u2, d3, u3, d4, u4, R, F, he⟩, hb⟩
 ·exact absurd ⟨hs, ht⟩ hn
 ·refine ⟨_, _, _, he, fun hz => ?_, hb⟩
  have G := four_btw (pro_bt h1 h3 hs.1 ht.1 R.1) (pro_bt h1 h4 hs.1 ht.2.1 R.2.1) (pro_bt h2 h3 hs.2.1 ht.1 R.2.2.1) (pro_bt h2 h4 hs.2.1 ht.2.1 R.2.2.2) hz
  refine ⟨lea_lt F.1 F.2.1 (flts3 F.2.2), G.1, fun z ⟨x, y, hx, hy, hz⟩ => ?_⟩
  subst hz
  exact G.2 _ (fun m m1 m2 m3 m4 => pro_low hx.1 hx.2 hy.1 hy.2 m1 m2 m3 m4) (fun m m1 m2 m3 m4 => pro_high hx.1 hx.2 hy.1 hy.2 m1 m2 m3 m4)
theorem fl_sign {b : Nat} {sg : Bool} (h0 : 0 < mg b) (hs : ng b = sg) : if sg then fl b < 0 else 0 < fl b := by
 have hu := uval_pos h0
 have hT : (0 : Rat) < ((tw 1074 : Int) : Rat) := by exact_mod_cast two_pos 1074
 have z : fl 0 = 0 := fl_zero (by decide)
 have hle : ∀ a b : Nat, fl a ≤ fl b ↔ sval a ≤ sval b := fun a b => by
  rw [fl_un a 1 (by decide), fl_un b 1 (by decide), un_le (by decide)]; simp
 have s0 : sval 0 = 0 := by decide +kernel
 cases sg
 ·simp only [Bool.false_eq_true, if_false]
  have h1 : ¬ fl b ≤ fl 0 := fun e => by
   have := (hle b 0).1 e
   rw [s0] at this
   unfold sval at this; rw [hs] at this; simp at this; omega
  rw [z] at h1
  exact Rat.not_le.1 h1
 ·simp only [if_true]
  have h1 : ¬ fl 0 ≤ fl b := fun e => by
   have := (hle 0 b).1 e
   rw [s0] at this
   unfold sval at this; rw [hs] at this; simp at this; omega
  rw [z] at h1
  exact Rat.not_le.1 h1
theorem sp_quo (h1 : al < 18446744073709551616) (h2 : ah < 18446744073709551616) (h3 : bl < 18446744073709551616) (h4 : bh < 18446744073709551616) (hs : Spn al ah) (ht : Spn bl bh) : Calls Tryz.prog 25 #[spv al ah, spv bl bh] w (Ansr (Two2 al ah bl bh (fun x y => x / y)) w) := by
 refine (spanquo_any al ah bl bh w h1 h2 h3 h4).mono ?_
 rintro e w' ⟨⟨_, _, he⟩ | ⟨hn, ⟨hn2, _⟩ | ⟨_, d1, u1, d2, u2, d3, u3, d4, u4, R, F, he⟩⟩, hb⟩
 ·exact ⟨_, _, _, he, fun hz => absurd hz (by decide), hb⟩
 ·exact absurd ⟨hs, ht⟩ hn2
 ·obtain ⟨sg, n1, n2⟩ := no_nought ht (hn ⟨hs, ht⟩)
  have g1 := fl_sign n1.1 n1.2
  have g2 := fl_sign n2.1 n2.2
  have hz' : 0 < fl bl ∨ fl bh < 0 := by
   cases sg
   ·exact .inl (by simpa using g1)
   ·exact .inr (by simpa using g2)
  refine ⟨_, _, _, he, fun hz => ?_, hb⟩
  have G := four_btw (quo_bt hs.1 ht.1 n1.1 R.1) (quo_bt hs.1 ht.2.1 n2.1 R.2.1) (quo_bt hs.2.1 ht.1 n1.1 R.2.2.1) (quo_bt hs.2.1 ht.2.1 n2.1 R.2.2.2) hz
  refine ⟨lea_lt F.1 F.2.1 (flts3 F.2.2), G.1, fun z ⟨x, y, hx, hy, hz⟩ => ?_⟩
  subst hz
  exact G.2 _ (fun m m1 m2 m3 m4 => quo_low hx.1 hx.2 hy.1 hy.2 hz' m1 m2 m3 m4) (fun m m1 m2 m3 m4 => quo_high hx.1 hx.2 hy.1 hy.2 hz' m1 m2 m3 m4)
theorem key_sqmn (b : Bool) (d1 d2 u2 : Nat) : key (lmn d1 (sqL b d2 u2)) = if b then min (min (key d1) (key d2)) 0 else min (key d1) (key d2) := by
 cases b
 ·show key (fmin d1 d2) = _
  rw [fmin_key]; rfl
 ·show key (fmin (fmin d1 d2) 0) = _
  rw [fmin_key, fmin_key, key_zero]; rfl
theorem key_sqmx (b : Bool) (u1 d2 u2 : Nat) : key (lmx u1 (sqL b d2 u2)) = if b then max (max (key u1) (key u2)) 0 else max (key u1) (key u2) := by
 cases b
 ·show key (fmax u1 u2) = _
  rw [fmax_key]; rfl
 ·show key (fmax (fmax u1 u2) 0) = _
  rw [fmax_key, fmax_key, key_zero]; rfl
theorem flts_sq {b : Bool} {d2 u2 : Nat} (h : Flt d2 ∧ Flt u2) : Flts (sqL b d2 u2) := by
 intro s k
 cases b
 ·simp [sqL] at k; subst k; exact h
 ·simp [sqL] at k
  rcases k with rfl | rfl
  ·exact h
  ·exact ⟨⟨by decide, by decide⟩, ⟨by decide, by decide⟩⟩
theorem sp_square (h1 : al < 18446744073709551616) (h2 : ah < 18446744073709551616) (hs : Spn al ah) : Calls Tryz.prog 27 #[spv al ah] w (Ansr (fun z => ∃ x, Btw al ah x ∧ z = x * x) w) := by
 refine (spansq_ok al ah w h1 h2 hs).mono ?_
 rintro e w' ⟨d1, u1, d2, u2, r1, r2, F, he, hb⟩
 refine ⟨_, _, _, he, fun hz => ?_, hb⟩
 have B1 := pro_bt h1 h1 hs.1 hs.1 r1
 have B2 := pro_bt h2 h2 hs.2.1 hs.2.1 r2
 obtain ⟨k, e1, e2⟩ := lea_yes hz
 refine ⟨lea_lt F.1 F.2.1 (flts_sq F.2.2), by rw [e1, e2]; exact pls_spn k, fun z ⟨x, hx, hzx⟩ => ?_⟩
 subst hzx
 rw [e1, e2]
 refine pls_btw ?_
 have z0 : fl 0 = 0 := fl_zero (by decide)
 have sqn : ∀ t : Rat, 0 ≤ t * t := rat_sq
 have hup : ∀ m, fl al * fl al ≤ m → fl ah * fl ah ≤ m → x * x ≤ m := fun m a b => by
  rcases tot 0 x with g | g
  ·refine Rat.le_trans (Rat.le_trans (mulr hx.2 g) (mull hx.2 (by have := hx.2; grind))) b
  ·refine Rat.le_trans (Rat.le_trans (mulr_neg hx.1 g) (mull_neg hx.1 (by have := hx.1; grind))) a
 cases hn : hasN al ah with
 | true =>
  rw [hn] at k
  have kl := key_sqmn true d1 d2 u2
  have ku := key_sqmx true u1 d2 u2
  constructor
  ·have : fl (lmn d1 (sqL true d2 u2)) ≤ fl 0 := fl_le (by rw [kl, key_zero]; simp; omega)
   rw [z0] at this
   exact Rat.le_trans this (sqn x)
  ·exact hup _ (high_of B1 k (by rw [ku]; simp; omega)) (high_of B2 k (by rw [ku]; simp; omega))
 | false =>
  rw [hn] at k
  have kl := key_sqmn false d1 d2 u2
  have ku := key_sqmx false u1 d2 u2
  simp only [Bool.false_eq_true, if_false] at kl ku
  have m1 := low_of B1 k (by rw [kl]; omega)
  have m2 := low_of B2 k (by rw [kl]; omega)
  obtain ⟨sg, n1, n2⟩ := no_nought hs hn
  have g1 := fl_sign n1.1 n1.2
  have g2 := fl_sign n2.1 n2.2
  constructor
  ·cases sg
   ·simp only [Bool.false_eq_true, if_false] at g1 g2
    refine Rat.le_trans m1 (Rat.le_trans (mulr hx.1 (Rat.le_of_lt g1)) (mull hx.1 (by have := hx.1; grind)))
   ·simp only [if_true] at g1 g2
    refine Rat.le_trans m2 (Rat.le_trans (mulr_neg hx.2 (Rat.le_of_lt g2)) (mull_neg hx.2 (by have := hx.2; grind)))
  ·exact hup _ (high_of B1 k (by rw [ku]; omega)) (high_of B2 k (by rw [ku]; omega))
end
end Go.Proofs.YtghcoijinihlnaaGreat

namespace Go.Proofs.YtghcoijinihlnaaGreat
open Go.RowKit Nb
open Fl Ieee
theorem check_sp (l h : Nat) (w : World) (hl : l < 18446744073709551616) : Calls Tryz.prog 48 #[spv l h] w fun e w' => e = .returned (.int .i64 (spE l h)) ∧ Below w.heap.size w w' :=
 (check_span l h w hl).mono fun _ _ ⟨h1, h2⟩ => ⟨h1, by rw [h2]; exact Below.alloc (Below.refl _ _) (Nat.le_refl _) _⟩
/-- What a fraction is reckoned to, if the mark says that it was. -/
def Wi (W : World) (l h : Nat) (f : Fv) (ok : Bool) : Prop := ok = true → Spn l h ∧ ∃ q, Ff W q f ∧ Btw l h q
theorem Wi.kp {W W' : World} {l h : Nat} {f : Fv} {ok : Bool} (k : Wi W l h f ok) (c : Kept W W') : Wi W' l h f ok := fun e => by
 obtain ⟨a, q, b, d⟩ := k e
 exact ⟨a, q, b.kp c, d⟩
theorem Wi.no {W : World} {l h : Nat} {f : Fv} : Wi W l h f false := fun e => by cases e
/-- A span and a fraction of which that has this, if both were answered. -/
def Hav (W : World) (l h : Nat) (er : Int) (g : Fv) (er2 : Int) : Prop := er = 0 → er2 = 0 → (l < 18446744073709551616 ∧ h < 18446744073709551616) ∧ Spn l h ∧ ∃ z, Ff W z g ∧ Btw l h z
theorem Hav.kp {W W' : World} {l h : Nat} {er er2 : Int} {g : Fv} (k : Hav W l h er g er2) (c : Kept W W') : Hav W' l h er g er2 := fun e e2 => by
 obtain ⟨a, a2, q, b, d⟩ := k e e2
 exact ⟨a, a2, q, b.kp c, d⟩
theorem Hav.of {W : World} {l h : Nat} {er er2 : Int} {g : Fv} {P : Rat → Prop} {z : Rat} {bad : Prop} (S : er = 0 → (l < 18446744073709551616 ∧ h < 18446744073709551616) ∧ Spn l h ∧ ∀ z, P z → Btw l h z) (R : Fr W bad z g er2) (hP : P z) : Hav W l h er g er2 := fun e e2 => by
 obtain ⟨a, b, c⟩ := S e
 rcases R with ⟨_, _, _, h4⟩ | ⟨h5, _⟩
 ·exact ⟨a, b, z, h4, c z hP⟩
 ·rcases h5 with ⟨_, h⟩ | ⟨_, _, h⟩ <;> omega
theorem hq_ratio {u v : Int} (hv : 0 < v) (h1 : v ≤ 9223372036854775807) (h2 : u.natAbs ≤ 9223372036854775808) : Hq 64 (Rat.divInt u v) := by
 refine ⟨v, u, hv, ?_, by omega, by omega⟩
 rw [Rat.divInt_eq_div]
 have : (v : Rat) ≠ 0 := by
  intro e
  have : v = 0 := by exact_mod_cast e
  omega
 grind
theorem ratio_btw {u v : Int} (hv : 0 < v) (h0 : 0 ≤ u) (h1 : u ≤ v) : 0 ≤ Rat.divInt u v ∧ Rat.divInt u v ≤ 1 := by
 have hp : (0 : Rat) < (v : Rat) := by exact_mod_cast hv
 have e : Rat.divInt u v * (v : Rat) = (u : Rat) := by
  rw [Rat.divInt_eq_div]
  have : (v : Rat) ≠ 0 := by grind
  grind
 have a : (0 : Rat) ≤ (u : Rat) := by exact_mod_cast h0
 have b : (u : Rat) ≤ (v : Rat) := by exact_mod_cast h1
 refine ⟨Rat.le_of_mul_le_mul_right (c := (v : Rat)) ?_ hp, Rat.le_of_mul_le_mul_right (c := (v : Rat)) ?_ hp⟩
 ·rw [e]; grind
 ·rw [e]; grind
theorem part_btw {l h : Nat} {t : Rat} (hs : Spn l h) (h0 : 0 ≤ t) (h1 : t ≤ 1) : Btw l h (fl l + (fl h - fl l) * t) := by
 have a := fl_le hs.2.2
 have b := mull (a := 0) (b := t) h0 (show 0 ≤ fl h - fl l by grind)
 have c := mull (a := t) (b := 1) h1 (show 0 ≤ fl h - fl l by grind)
 constructor <;> grind
theorem fl_hq2 {x : Nat} (h : mg x < 9218868437227405312) : Hq 2098 (fl x) := by
 obtain ⟨k, hk⟩ : ∃ k : Nat, k = 2098 := ⟨_, rfl⟩
 have := fl_hq (k := k) h (by omega)
 rw [hk] at this
 exact this
theorem hq_fits {k : Nat} {z : Rat} (h : Hq k z) (hk : k < 65536) : FitsQ z := h.fits hk
/-- The least span of a fraction that lies between the ends of one that may be. -/
theorem sides_in {q : Rat} {d u l h : Nat} (R : RfIs q d u) (hs : Spn l h) (hb : Btw l h q) : Spn d u ∧ key l ≤ key d ∧ key u ≤ key h := by
 rcases R with ⟨hz, rfl, rfl⟩ | ⟨_, S, _⟩
 ·have hq : q = 0 := Rat.num_eq_zero.1 hz
  subst hq
  have z0 : fl 0 = 0 := fl_zero (by decide)
  have s0 : sval 0 = 0 := by decide +kernel
  have hle : ∀ a b : Nat, fl a ≤ fl b ↔ sval a ≤ sval b := fun a b => by
   rw [fl_un a 1 (by decide), fl_un b 1 (by decide), un_le (by decide)]; simp
  have a := (hle l 0).1 (by rw [z0]; exact hb.1)
  have b := (hle 0 h).1 (by rw [z0]; exact hb.2)
  exact ⟨⟨by decide, by decide, Int.le_refl _⟩, key_le a, key_le b⟩
 ·have e : ∀ x, fl x ≤ q ↔ sval x * (q.den : Int) ≤ q.num * (tw 1074 : Int) := fun x => by
   have := un_le (N := sval x * (q.den : Int)) (M := q.num * (tw 1074 : Int)) q.den_pos
   rwa [q_un, ← fl_un x q.den q.den_pos] at this
  have e2 : ∀ x, q ≤ fl x ↔ q.num * (tw 1074 : Int) ≤ sval x * (q.den : Int) := fun x => by
   have := un_le (N := q.num * (tw 1074 : Int)) (M := sval x * (q.den : Int)) q.den_pos
   rwa [q_un, ← fl_un x q.den q.den_pos] at this
  have a := S.1.best l hs.1 ((e l).1 hb.1)
  have b := S.2.best h hs.2.1 ((e2 h).1 hb.2)
  have du := dn_up q.den_pos S.1 S.2
  have kl : -9218868437227405312 < key l := by have := hs.1; unfold key; split <;> omega
  have kh : key h < 9218868437227405312 := by have := hs.2.1; unfold key; split <;> omega
  exact ⟨⟨fin_key S.1.le (by omega) (by omega), fin_key S.2.le (by omega) (by omega), du⟩, a, b⟩
theorem rf_flt {q : Rat} {d u : Nat} (R : RfIs q d u) : Flt d ∧ Flt u := by
 rcases R with ⟨_, rfl, rfl⟩ | ⟨_, _, o, l, ho, hm, rfl, rfl⟩
 ·exact ⟨⟨by decide, by decide⟩, ⟨by decide, by decide⟩⟩
 ·exact lohi_flt l ho hm
end Go.Proofs.YtghcoijinihlnaaGreat
namespace Go.Proofs.YtghcoijinihlnaaGreat.Fl
open Go.RowKit Ieee
set_option maxHeartbeats 4000000 in
theorem least_nil (l h n c : Nat) (L : List (Nat × Nat)) (w : World) (hn : L.length = n) (h00 : n = 0) (hl : Flt l) (hh : Flt h) (hL : Flts L) :
  Calls Tryz.prog 69 #[spv l h, .slice none n c] w fun e w' => e = .returned (.tuple #[spv (leaLo l h L) (leaHi l h L), .int .i64 (leaE l h L)]) ∧ Below w.heap.size w w' := by
 have hsf := @run_store_f Tryz.prog .f64
 have HN := Lib.hid hn
 have H0 := Lib.hid h00
 have hnb : n ≤ 16 := by omega
 clear hn h00
 go_enter Tryz.func69, Tryz.ntmps69
 go_wp2
 go_loopw [10] (fun iv wr => ∃ k : Nat, k ≤ n ∧ iv = .int .i64 k ∧ wr.cell? ⟨w.heap.size, 0, none⟩ = some (.float .f64 (lmn l (L.take k))) ∧ wr.cell? ⟨w.heap.size, 1, none⟩ = some (.float .f64 (lmx h (L.take k))) ∧
  wr.frozen? ⟨w.heap.size, 0, none⟩ = false ∧ wr.frozen? ⟨w.heap.size, 1, none⟩ = false ∧ wr.cell? ⟨w.heap.size + 1, 0, none⟩ = some (.float .f64 0) ∧ wr.cell? ⟨w.heap.size + 1, 1, none⟩ = some (.float .f64 0) ∧ wr.frozen? ⟨w.heap.size + 1, 0, none⟩ = false ∧ wr.frozen? ⟨w.heap.size + 1, 1, none⟩ = false ∧ w.heap.size + 1 < wr.heap.size ∧ Below w.heap.size w wr) (fun iv _ => n - (intOf iv).toNat)
 case atStart => exact ⟨0, Nat.zero_le _, rfl, by show _ = some (Value.float .f64 l); go_cell, by show _ = some (Value.float .f64 h); go_cell, by go_cell, by go_cell, by go_cell, by go_cell, by go_cell, by go_cell, by simp, by (repeat (first | exact below_self _ _ | assumption | refine below_dn ?_ _ | refine Below.drew ?_ | refine Below.setCell ?_ (by (try simp) <;> (try omega)) _ | refine Below.alloc ?_ (by (try simp) <;> (try omega)) _))⟩
 case round =>
  obtain ⟨k, hk, rfl, c0, c1, f0, f1, d0, d1, e0, e1, hz, hb⟩ := hrel
  by_cases hlt : k < n
  ·exfalso; have := H0.out; omega
  ·obtain rfl : k = n := by omega
   clear hlt
   have hT : L.take k = L := List.take_of_length_le (by have := HN.out; omega)
   rw [hT] at c0 c1
   clear hT
   have p1 := lmn_flt hl hL
   have p2 := lmx_flt hh hL
   have HU := Lib.hid (fun a b (k1 : Usg (lmn l L) a) (k2 : Usg (lmx h L) b) => show a = pls (lmn l L) ∧ b = pls (lmx h L) from ⟨k1.2 p1.2 p1.1, k2.2 p2.2 p2.1⟩)
   have HC := Lib.hid (fun W => check_span (lmn l L) (lmx h L) W p1.1)
   have HV := Lib.hid (fun W => unsigned_any (lmn l L) (lmx h L) W)
   have hz0 : w.heap.size < wr.heap.size := by omega
   have hki : ¬ (k : Int) < (k : Int) := by omega
   have e1 : leaLo l h L = if Spn (lmn l L) (lmx h L) then pls (lmn l L) else 0 := rfl
   have e2 : leaHi l h L = if Spn (lmn l L) (lmx h L) then pls (lmx h L) else 0 := rfl
   have e3 : leaE l h L = if Spn (lmn l L) (lmx h L) then 0 else 6 := rfl
   rcases spE_01 (lmn l L) (lmx h L) with ⟨q, hs⟩ | ⟨q, hs⟩
   ·rw [if_pos hs] at e1 e2 e3
    rw [q] at HC
    generalize lmn l L = a at *
    generalize lmx h L = b at *
    have HE := Lib.hid (And.intro e1 (And.intro e2 e3))
    clear q hs e1 e2 e3 p1 p2 hl hh hL
    go_wp2_with fail
    refine (HC.out _).mono ?_
    rintro e w1 ⟨rfl, rfl⟩
    go_wp2_with fail
    refine (HV.out _).mono ?_
    rintro e w2 ⟨a', b', rfl, k1, k2, hb2⟩
    obtain ⟨rfl, rfl⟩ := HU.out _ _ k1 k2
    clear k1 k2
    obtain ⟨hc2, hf2⟩ := bcell hb2
    have hw0 : w.heap.size < w2.heap.size := by have := hb2.size; simp at this; omega
    have hw1 : w.heap.size + 1 < w2.heap.size := by have := hb2.size; simp at this; omega
    have g2 : Below w.heap.size w w2 := Below.trans (by (repeat (first | exact below_self _ _ | assumption | refine below_dn ?_ _ | refine Below.drew ?_ | refine Below.setCell ?_ (by (try simp) <;> (try omega)) _ | refine Below.alloc ?_ (by (try simp) <;> (try omega)) _))) (hb2.mono (by simp; try omega))
    clear hb2
    have d2 : w2.cell? ⟨w.heap.size + 1, 0, none⟩ = some (.float .f64 0) := by go_cell
    have d3 : w2.cell? ⟨w.heap.size + 1, 1, none⟩ = some (.float .f64 0) := by go_cell
    go_wp2
    exact bodyPost_ret (v := .tuple #[spv (pls a) (pls b), .int .i64 0]) (by simp [results, Tryz.results69, go_sem, d2, d3]) rfl ⟨by rw [HE.out.1, HE.out.2.1, HE.out.2.2], by (repeat (first | exact below_self _ _ | assumption | refine below_dn ?_ _ | refine Below.drew ?_ | refine Below.setCell ?_ (by (try simp) <;> (try omega)) _ | refine Below.alloc ?_ (by (try simp) <;> (try omega)) _))⟩
   ·rw [if_neg hs] at e1 e2 e3
    rw [q] at HC
    generalize lmn l L = a at *
    generalize lmx h L = b at *
    have HE := Lib.hid (And.intro e1 (And.intro e2 e3))
    clear q hs e1 e2 e3 p1 p2 hl hh hL HU HV
    go_wp2_with fail
    refine (HC.out _).mono ?_
    rintro e w1 ⟨rfl, rfl⟩
    go_wp2
    exact bodyPost_ret (v := .tuple #[spv 0 0, .int .i64 6]) (by simp [results, Tryz.results69, go_sem, hz, d0, d1]) rfl ⟨by rw [HE.out.1, HE.out.2.1, HE.out.2.2], by (repeat (first | exact below_self _ _ | assumption | refine below_dn ?_ _ | refine Below.drew ?_ | refine Below.setCell ?_ (by (try simp) <;> (try omega)) _ | refine Below.alloc ?_ (by (try simp) <;> (try omega)) _))⟩
theorem least_none (d u : Nat) (w : World) (hd : Flt d) (hu : Flt u) : Calls Tryz.prog 69 #[spv d u, .slice none 0 0] w fun e w' => e = .returned (.tuple #[spv (leaLo d u []) (leaHi d u []), .int .i64 (leaE d u [])]) ∧ Below w.heap.size w w' :=
 least_nil d u 0 0 [] w rfl rfl hd hu (fun s hs => by cases hs)
end Go.Proofs.YtghcoijinihlnaaGreat.Fl
namespace Go.Proofs.YtghcoijinihlnaaGreat
open Go.RowKit Nb Fl Ieee
set_option maxHeartbeats 8000000 in
set_option maxRecDepth 100000 in
theorem within_any {l h : Nat} {u v : Int} {w : World} (hlh : l < 18446744073709551616 ∧ h < 18446744073709551616) (hu : -9223372036854775808 ≤ u ∧ u ≤ 9223372036854775807) (hv : -9223372036854775808 ≤ v ∧ v ≤ 9223372036854775807) :
  Calls Tryz.prog 16 #[spv l h, .int .i64 u, .int .i64 v] w (fun e w' => ∃ (f : Fv) (ok : Bool), e = .returned (.tuple #[fv f, .bool ok]) ∧ Wi w' l h f ok ∧ Below w.heap.size w w') := by
 have HLH := Lib.hid hlh
 have HB := Lib.hid (And.intro hu.1 (And.intro hu.2 (And.intro hv.1 hv.2)))
 have hl := hlh.1
 clear hlh
 by_cases hs : Spn l h
 ·by_cases h1 : v < 1
  ·clear hu hv
   have HL := HLH
   have HC := Lib.hid (fun W => check_sp l h W hl)
   clear hl
   have BW : Below w.heap.size w w := Below.refl _ _
   obtain ⟨V2, e3, hb4, K5, -, z1⟩ := alloc_new w [.float .f64 l, .float .f64 h] 44
   replace BW := BW.trans (hb4.mono BW.size)
   clear hb4
   obtain ⟨V6, e7, hb8, K9, Z10, -⟩ := alloc_new V2 [.bool false, .slice none 0 0, .bool false, .slice none 0 0] 26
   rw [z1] at K9 Z10
   have n11 : w.heap.size ≠ w.heap.size + 1 := Nat.ne_of_lt (z1 ▸ K5.lt)
   have g12 : w.heap.size ≤ w.heap.size + 1 := z1 ▸ BW.size
   replace BW := BW.trans (hb8.mono BW.size)
   clear hb8
   clear z1
   go_enter Tryz.func16, Tryz.ntmps16
   go_wp2_with fail
   rw [← e3, ← e7]
   clear e3 e7
   refine (HC.out _).mono ?_
   rintro _ w13 ⟨rfl, hb⟩
   replace K9 := K9.on hb
   replace Z10 := Z10.on hb
   replace BW := BW.trans (hb.mono BW.size)
   clear hb
   clear HC
   rw [spE_ok hs]
   obtain ⟨c14, c15, c16, c17⟩ := K9.c4
   obtain ⟨c18, c19, c20, c21⟩ := Z10.f4
   obtain ⟨V22, hk24⟩ : ∃ V22, V22 = w13.setCells (w.heap.size + 1) 0 [.bool false, .slice none 0 0, .bool false, .slice none 0 0] := ⟨_, rfl⟩
   have e23 := hk24
   simp only [World.setCells, Nat.zero_add, Nat.reduceAdd] at e23
   have hk25 := Kept.overE hk24 K9 rfl (by simp)
   replace K9 := K9.overE hk24 rfl
   replace BW := Below.putE BW hk24 g12
   clear hk24 hk25
   go_wp2_with fail
   clear c14 c15 c16 c17 c18 c19 c20 c21
   rw [← e23]
   clear e23
   obtain ⟨c26, c27, c28, c29⟩ := K9.c4
   exact bodyPost_ret (v := .tuple #[.agg #[.bool false, .slice none 0 0, .bool false, .slice none 0 0], .bool false]) (by simp [results, Tryz.results16, go_sem, c26, c27, c28, c29]) rfl ⟨fv0, false, rfl, Wi.no, BW⟩
  ·by_cases h2 : u < 0
   ·clear hu hv
    have HL := HLH
    have HC := Lib.hid (fun W => check_sp l h W hl)
    clear hl
    have BW : Below w.heap.size w w := Below.refl _ _
    obtain ⟨V2, e3, hb4, K5, -, z1⟩ := alloc_new w [.float .f64 l, .float .f64 h] 44
    replace BW := BW.trans (hb4.mono BW.size)
    clear hb4
    obtain ⟨V6, e7, hb8, K9, Z10, -⟩ := alloc_new V2 [.bool false, .slice none 0 0, .bool false, .slice none 0 0] 26
    rw [z1] at K9 Z10
    have n11 : w.heap.size ≠ w.heap.size + 1 := Nat.ne_of_lt (z1 ▸ K5.lt)
    have g12 : w.heap.size ≤ w.heap.size + 1 := z1 ▸ BW.size
    replace BW := BW.trans (hb8.mono BW.size)
    clear hb8
    clear z1
    go_enter Tryz.func16, Tryz.ntmps16
    go_wp2_with fail
    rw [← e3, ← e7]
    clear e3 e7
    refine (HC.out _).mono ?_
    rintro _ w13 ⟨rfl, hb⟩
    replace K9 := K9.on hb
    replace Z10 := Z10.on hb
    replace BW := BW.trans (hb.mono BW.size)
    clear hb
    clear HC
    rw [spE_ok hs]
    obtain ⟨c14, c15, c16, c17⟩ := K9.c4
    obtain ⟨c18, c19, c20, c21⟩ := Z10.f4
    obtain ⟨V22, hk24⟩ : ∃ V22, V22 = w13.setCells (w.heap.size + 1) 0 [.bool false, .slice none 0 0, .bool false, .slice none 0 0] := ⟨_, rfl⟩
    have e23 := hk24
    simp only [World.setCells, Nat.zero_add, Nat.reduceAdd] at e23
    have hk25 := Kept.overE hk24 K9 rfl (by simp)
    replace K9 := K9.overE hk24 rfl
    replace BW := Below.putE BW hk24 g12
    clear hk24 hk25
    go_wp2_with fail
    clear c14 c15 c16 c17 c18 c19 c20 c21
    rw [← e23]
    clear e23
    obtain ⟨c26, c27, c28, c29⟩ := K9.c4
    exact bodyPost_ret (v := .tuple #[.agg #[.bool false, .slice none 0 0, .bool false, .slice none 0 0], .bool false]) (by simp [results, Tryz.results16, go_sem, c26, c27, c28, c29]) rfl ⟨fv0, false, rfl, Wi.no, BW⟩
   ·by_cases h3 : v < u
    ·clear hu hv
     have HL := HLH
     have HC := Lib.hid (fun W => check_sp l h W hl)
     clear hl
     have BW : Below w.heap.size w w := Below.refl _ _
     obtain ⟨V2, e3, hb4, K5, -, z1⟩ := alloc_new w [.float .f64 l, .float .f64 h] 44
     replace BW := BW.trans (hb4.mono BW.size)
     clear hb4
     obtain ⟨V6, e7, hb8, K9, Z10, -⟩ := alloc_new V2 [.bool false, .slice none 0 0, .bool false, .slice none 0 0] 26
     rw [z1] at K9 Z10
     have n11 : w.heap.size ≠ w.heap.size + 1 := Nat.ne_of_lt (z1 ▸ K5.lt)
     have g12 : w.heap.size ≤ w.heap.size + 1 := z1 ▸ BW.size
     replace BW := BW.trans (hb8.mono BW.size)
     clear hb8
     clear z1
     go_enter Tryz.func16, Tryz.ntmps16
     go_wp2_with fail
     rw [← e3, ← e7]
     clear e3 e7
     refine (HC.out _).mono ?_
     rintro _ w13 ⟨rfl, hb⟩
     replace K9 := K9.on hb
     replace Z10 := Z10.on hb
     replace BW := BW.trans (hb.mono BW.size)
     clear hb
     clear HC
     rw [spE_ok hs]
     obtain ⟨c14, c15, c16, c17⟩ := K9.c4
     obtain ⟨c18, c19, c20, c21⟩ := Z10.f4
     obtain ⟨V22, hk24⟩ : ∃ V22, V22 = w13.setCells (w.heap.size + 1) 0 [.bool false, .slice none 0 0, .bool false, .slice none 0 0] := ⟨_, rfl⟩
     have e23 := hk24
     simp only [World.setCells, Nat.zero_add, Nat.reduceAdd] at e23
     have hk25 := Kept.overE hk24 K9 rfl (by simp)
     replace K9 := K9.overE hk24 rfl
     replace BW := Below.putE BW hk24 g12
     clear hk24 hk25
     go_wp2_with fail
     clear c14 c15 c16 c17 c18 c19 c20 c21
     rw [← e23]
     clear e23
     obtain ⟨c26, c27, c28, c29⟩ := K9.c4
     exact bodyPost_ret (v := .tuple #[.agg #[.bool false, .slice none 0 0, .bool false, .slice none 0 0], .bool false]) (by simp [results, Tryz.results16, go_sem, c26, c27, c28, c29]) rfl ⟨fv0, false, rfl, Wi.no, BW⟩
    ·have HS := Lib.hid hs
     have HB2 : Hid (0 < v) := Lib.hid (by omega)
     have HT : Hid (Hq 64 (Rat.divInt u v)) := Lib.hid (hq_ratio (by omega) hv.2 (by omega))
     have HP : Hid (Btw l h (fl l + (fl h - fl l) * Rat.divInt u v)) := Lib.hid (part_btw hs (ratio_btw (by omega) (by omega) (by omega)).1 (ratio_btw (by omega) (by omega) (by omega)).2)
     have HD := Lib.hid ((fl_hq2 hs.2.1).sub (fl_hq2 hs.1))
     have HM := Lib.hid (HD.out.mul HT.out)
     have HX := Lib.hid ((fl_hq2 hs.1).add HM.out)
     clear hu hv hs
     have HL := HLH
     have HC := Lib.hid (fun W => check_sp l h W hl)
     clear hl
     have BW : Below w.heap.size w w := Below.refl _ _
     obtain ⟨V2, e3, hb4, K5, -, z1⟩ := alloc_new w [.float .f64 l, .float .f64 h] 44
     replace BW := BW.trans (hb4.mono BW.size)
     clear hb4
     obtain ⟨V6, e7, hb8, K9, Z10, -⟩ := alloc_new V2 [.bool false, .slice none 0 0, .bool false, .slice none 0 0] 26
     rw [z1] at K9 Z10
     have n11 : w.heap.size ≠ w.heap.size + 1 := Nat.ne_of_lt (z1 ▸ K5.lt)
     have g12 : w.heap.size ≤ w.heap.size + 1 := z1 ▸ BW.size
     replace K5 := K5.on hb8
     replace BW := BW.trans (hb8.mono BW.size)
     clear hb8
     clear z1
     go_enter Tryz.func16, Tryz.ntmps16
     go_wp2_with fail
     rw [← e3, ← e7]
     clear e3 e7
     refine (HC.out _).mono ?_
     rintro _ w13 ⟨rfl, hb⟩
     replace K5 := K5.on hb
     replace K9 := K9.on hb
     replace Z10 := Z10.on hb
     replace BW := BW.trans (hb.mono BW.size)
     clear hb
     clear HC
     rw [spE_ok HS.out]
     obtain ⟨c14, c15⟩ := K5.c2
     go_wp2_with fail
     clear c14 c15
     refine (from_fl HL.out.1 HS.out.1).mono ?_
     rintro _ w16 ⟨a, rfl, A, hb⟩
     replace K5 := K5.on hb
     replace K9 := K9.on hb
     replace Z10 := Z10.on hb
     replace BW := BW.trans (hb.mono BW.size)
     clear hb
     obtain ⟨V17, e18, hb19, K20, -, -⟩ := alloc_new w16 [.bool a.n, .slice a.A a.xs.length a.c, .bool a.m, .slice a.B a.ds.length a.d] 26
     have n21 : w.heap.size + 1 ≠ w16.heap.size := Nat.ne_of_lt (K9.lt)
     replace K5 := K5.on hb19
     replace K9 := K9.on hb19
     replace Z10 := Z10.on hb19
     replace A := A.kp (Kept.of hb19)
     replace BW := BW.trans (hb19.mono BW.size)
     clear hb19
     obtain ⟨c22, c23⟩ := K5.c2
     rw [e18] at c22 c23
     go_wp2_with fail
     clear c22 c23
     rw [← e18]
     clear e18
     generalize w16.heap.size = b24 at *
     refine (from_fl HL.out.2 HS.out.2.1).mono ?_
     rintro _ w25 ⟨b, rfl, B, hb⟩
     replace K9 := K9.on hb
     replace K20 := K20.on hb
     replace Z10 := Z10.on hb
     replace A := A.kp (Kept.of hb)
     replace BW := BW.trans (hb.mono BW.size)
     clear hb
     obtain ⟨V26, e27, hb28, K29, -, -⟩ := alloc_new w25 [.bool b.n, .slice b.A b.xs.length b.c, .bool b.m, .slice b.B b.ds.length b.d] 26
     have n30 : w.heap.size + 1 ≠ w25.heap.size := Nat.ne_of_lt (K9.lt)
     replace K9 := K9.on hb28
     replace K20 := K20.on hb28
     replace Z10 := Z10.on hb28
     replace A := A.kp (Kept.of hb28)
     replace B := B.kp (Kept.of hb28)
     replace BW := BW.trans (hb28.mono BW.size)
     clear hb28
     go_wp2_with fail
     rw [← e27]
     clear e27
     generalize w25.heap.size = b31 at *
     refine (r_of u v _ HB.out.1 HB.out.2.1 HB.out.2.2.1 HB.out.2.2.2).mono ?_
     rintro _ w32 ⟨t, er, rfl, R, hb⟩
     obtain ⟨rfl, T⟩ := R.yes (by have := HB2.out; omega) (hq_fits HT.out (by decide))
     clear R
     replace K9 := K9.on hb
     replace K20 := K20.on hb
     replace K29 := K29.on hb
     replace Z10 := Z10.on hb
     replace A := A.kp (Kept.of hb)
     replace B := B.kp (Kept.of hb)
     replace BW := BW.trans (hb.mono BW.size)
     clear hb
     obtain ⟨V33, e34, hb35, K36, -, -⟩ := alloc_new w32 [.bool t.n, .slice t.A t.xs.length t.c, .bool t.m, .slice t.B t.ds.length t.d] 26
     have n37 : w.heap.size + 1 ≠ w32.heap.size := Nat.ne_of_lt (K9.lt)
     replace K9 := K9.on hb35
     replace K20 := K20.on hb35
     replace K29 := K29.on hb35
     replace Z10 := Z10.on hb35
     replace A := A.kp (Kept.of hb35)
     replace B := B.kp (Kept.of hb35)
     replace T := T.kp (Kept.of hb35)
     replace BW := BW.trans (hb35.mono BW.size)
     clear hb35
     obtain ⟨c38, c39, c40, c41⟩ := K20.c4
     obtain ⟨c42, c43, c44, c45⟩ := K29.c4
     rw [e34] at c38 c39 c40 c41 c42 c43 c44 c45
     go_wp2_with fail
     clear c38 c39 c40 c41 c42 c43 c44 c45
     rw [← e34]
     clear e34
     generalize w32.heap.size = b46 at *
     refine (r_sub B A).mono ?_
     rintro _ w47 ⟨d, er, rfl, R, hb⟩
     obtain ⟨rfl, D⟩ := R.yes not_false (hq_fits HD.out (by decide))
     clear R
     replace K9 := K9.on hb
     replace K20 := K20.on hb
     replace K36 := K36.on hb
     replace Z10 := Z10.on hb
     replace A := A.kp (Kept.of hb)
     replace B := B.kp (Kept.of hb)
     replace T := T.kp (Kept.of hb)
     replace BW := BW.trans (hb.mono BW.size)
     clear hb
     obtain ⟨V48, e49, hb50, K51, -, -⟩ := alloc_new w47 [.bool d.n, .slice d.A d.xs.length d.c, .bool d.m, .slice d.B d.ds.length d.d] 26
     have n52 : w.heap.size + 1 ≠ w47.heap.size := Nat.ne_of_lt (K9.lt)
     replace K9 := K9.on hb50
     replace K20 := K20.on hb50
     replace K36 := K36.on hb50
     replace Z10 := Z10.on hb50
     replace A := A.kp (Kept.of hb50)
     replace B := B.kp (Kept.of hb50)
     replace T := T.kp (Kept.of hb50)
     replace D := D.kp (Kept.of hb50)
     replace BW := BW.trans (hb50.mono BW.size)
     clear hb50
     obtain ⟨c53, c54, c55, c56⟩ := K36.c4
     rw [e49] at c53 c54 c55 c56
     go_wp2_with fail
     clear c53 c54 c55 c56
     rw [← e49]
     clear e49
     generalize w47.heap.size = b57 at *
     refine (r_mul D T).mono ?_
     rintro _ w58 ⟨m, er, rfl, R, hb⟩
     obtain ⟨rfl, M⟩ := R.yes not_false (hq_fits HM.out (by decide))
     clear R
     replace K9 := K9.on hb
     replace K20 := K20.on hb
     replace Z10 := Z10.on hb
     replace A := A.kp (Kept.of hb)
     replace B := B.kp (Kept.of hb)
     replace BW := BW.trans (hb.mono BW.size)
     clear hb
     obtain ⟨V59, e60, hb61, K62, -, -⟩ := alloc_new w58 [.bool m.n, .slice m.A m.xs.length m.c, .bool m.m, .slice m.B m.ds.length m.d] 26
     have n63 : w.heap.size + 1 ≠ w58.heap.size := Nat.ne_of_lt (K9.lt)
     replace K9 := K9.on hb61
     replace K20 := K20.on hb61
     replace Z10 := Z10.on hb61
     replace A := A.kp (Kept.of hb61)
     replace B := B.kp (Kept.of hb61)
     replace M := M.kp (Kept.of hb61)
     replace BW := BW.trans (hb61.mono BW.size)
     clear hb61
     obtain ⟨c64, c65, c66, c67⟩ := K20.c4
     rw [e60] at c64 c65 c66 c67
     go_wp2_with fail
     clear c64 c65 c66 c67
     rw [← e60]
     clear e60
     generalize w58.heap.size = b68 at *
     refine (r_add A M).mono ?_
     rintro _ w69 ⟨x, er, rfl, R, hb⟩
     obtain ⟨rfl, X⟩ := R.yes not_false (hq_fits HX.out (by decide))
     clear R
     replace K9 := K9.on hb
     replace Z10 := Z10.on hb
     replace A := A.kp (Kept.of hb)
     replace B := B.kp (Kept.of hb)
     replace BW := BW.trans (hb.mono BW.size)
     clear hb
     obtain ⟨V70, e71, hb72, K73, -, -⟩ := alloc_new w69 [.bool x.n, .slice x.A x.xs.length x.c, .bool x.m, .slice x.B x.ds.length x.d] 26
     have n74 : w.heap.size + 1 ≠ w69.heap.size := Nat.ne_of_lt (K9.lt)
     replace K9 := K9.on hb72
     replace Z10 := Z10.on hb72
     replace A := A.kp (Kept.of hb72)
     replace B := B.kp (Kept.of hb72)
     replace X := X.kp (Kept.of hb72)
     replace BW := BW.trans (hb72.mono BW.size)
     clear hb72
     obtain ⟨c75, c76, c77, c78⟩ := K9.c4
     obtain ⟨c79, c80, c81, c82⟩ := Z10.f4
     rw [e71] at c75 c76 c77 c78 c79 c80 c81 c82
     obtain ⟨V83, hk85⟩ : ∃ V83, V83 = V70.setCells (w.heap.size + 1) 0 [.bool x.n, .slice x.A x.xs.length x.c, .bool x.m, .slice x.B x.ds.length x.d] := ⟨_, rfl⟩
     have e84 := hk85
     simp only [World.setCells, Nat.zero_add, Nat.reduceAdd] at e84
     have hk86 := Kept.overE hk85 K9 rfl (by simp)
     replace K9 := K9.overE hk85 rfl
     replace A := A.kp hk86
     replace X := X.kp hk86
     replace BW := Below.putE BW hk85 g12
     clear hk85 hk86
     go_wp2_with fail
     clear c75 c76 c77 c78 c79 c80 c81 c82
     rw [← e71, ← e84]
     clear e71 e84
     generalize w69.heap.size = b87 at *
     obtain ⟨c88, c89, c90, c91⟩ := K9.c4
     exact bodyPost_ret (v := .tuple #[fv x, .bool true]) (by simp [results, Tryz.results16, go_sem, c88, c89, c90, c91]) rfl ⟨x, true, rfl, fun _ => ⟨HS.out, _, X, HP.out⟩, BW⟩
 ·clear hu hv
  have HL := HLH
  have HC := Lib.hid (fun W => check_sp l h W hl)
  clear hl
  have BW : Below w.heap.size w w := Below.refl _ _
  obtain ⟨V2, e3, hb4, K5, -, z1⟩ := alloc_new w [.float .f64 l, .float .f64 h] 44
  replace BW := BW.trans (hb4.mono BW.size)
  clear hb4
  obtain ⟨V6, e7, hb8, K9, Z10, -⟩ := alloc_new V2 [.bool false, .slice none 0 0, .bool false, .slice none 0 0] 26
  rw [z1] at K9 Z10
  have n11 : w.heap.size ≠ w.heap.size + 1 := Nat.ne_of_lt (z1 ▸ K5.lt)
  have g12 : w.heap.size ≤ w.heap.size + 1 := z1 ▸ BW.size
  replace BW := BW.trans (hb8.mono BW.size)
  clear hb8
  clear z1
  go_enter Tryz.func16, Tryz.ntmps16
  go_wp2_with fail
  rw [← e3, ← e7]
  clear e3 e7
  refine (HC.out _).mono ?_
  rintro _ w13 ⟨rfl, hb⟩
  replace K9 := K9.on hb
  replace Z10 := Z10.on hb
  replace BW := BW.trans (hb.mono BW.size)
  clear hb
  clear HC
  rw [spE_no hs]
  obtain ⟨c14, c15, c16, c17⟩ := K9.c4
  obtain ⟨c18, c19, c20, c21⟩ := Z10.f4
  obtain ⟨V22, hk24⟩ : ∃ V22, V22 = w13.setCells (w.heap.size + 1) 0 [.bool false, .slice none 0 0, .bool false, .slice none 0 0] := ⟨_, rfl⟩
  have e23 := hk24
  simp only [World.setCells, Nat.zero_add, Nat.reduceAdd] at e23
  have hk25 := Kept.overE hk24 K9 rfl (by simp)
  replace K9 := K9.overE hk24 rfl
  replace BW := Below.putE BW hk24 g12
  clear hk24 hk25
  go_wp2_with fail
  clear c14 c15 c16 c17 c18 c19 c20 c21
  rw [← e23]
  clear e23
  obtain ⟨c26, c27, c28, c29⟩ := K9.c4
  exact bodyPost_ret (v := .tuple #[.agg #[.bool false, .slice none 0 0, .bool false, .slice none 0 0], .bool false]) (by simp [results, Tryz.results16, go_sem, c26, c27, c28, c29]) rfl ⟨fv0, false, rfl, Wi.no, BW⟩
set_option maxHeartbeats 8000000 in
set_option maxRecDepth 100000 in
theorem spof_any {q : Rat} {f : Fv} {w : World} (L : Ff w q f) :
  Calls Tryz.prog 28 #[fv f] w (fun e w' => ∃ (l0 h0 : Nat) (er : Int) (d u : Nat), e = .returned (.tuple #[spv l0 h0, .int .i64 er]) ∧ RfIs q d u ∧ (l0 < 18446744073709551616 ∧ h0 < 18446744073709551616) ∧ (leaLo d u [] = l0 ∧ leaHi d u [] = h0 ∧ leaE d u [] = er) ∧ Below w.heap.size w w') := by
 have hsf := @run_store_f Tryz.prog .f64
 have BW : Below w.heap.size w w := Below.refl _ _
 obtain ⟨V2, e3, hb4, K5, -, z1⟩ := alloc_new w [.bool f.n, .slice f.A f.xs.length f.c, .bool f.m, .slice f.B f.ds.length f.d] 26
 replace L := L.kp (Kept.of hb4)
 replace BW := BW.trans (hb4.mono BW.size)
 clear hb4
 obtain ⟨V6, e7, hb8, K9, Z10, -⟩ := alloc_new V2 [.float .f64 0, .float .f64 0] 44
 rw [z1] at K9 Z10
 have n11 : w.heap.size ≠ w.heap.size + 1 := Nat.ne_of_lt (z1 ▸ K5.lt)
 have g12 : w.heap.size ≤ w.heap.size + 1 := z1 ▸ BW.size
 replace L := L.kp (Kept.of hb8)
 replace BW := BW.trans (hb8.mono BW.size)
 clear hb8
 clear z1
 go_enter Tryz.func28, Tryz.ntmps28
 go_wp2_with fail
 rw [← e3, ← e7]
 clear e3 e7
 refine (rfrac_any L).mono ?_
 rintro _ w13 ⟨d, u, rfl, hR, hb⟩
 replace K9 := K9.on hb
 replace Z10 := Z10.on hb
 replace L := L.kp (Kept.of hb)
 replace BW := BW.trans (hb.mono BW.size)
 clear hb
 have HF := Lib.hid (rf_flt hR)
 have HR := Lib.hid hR
 have HLe := Lib.hid (fun W => least_none d u W HF.out.1 HF.out.2)
 have HY := Lib.hid (fun h => lea_yes (d := d) (u := u) (L := []) h)
 have HZ := Lib.hid (lea_lt (L := []) HF.out.1 HF.out.2 (fun s hs => by cases hs))
 generalize hlo : leaLo d u [] = l0 at *
 generalize hhi : leaHi d u [] = h0 at *
 generalize her : leaE d u [] = er at *
 have HQ := Lib.hid (And.intro hlo (And.intro hhi her))
 clear hR hlo hhi her
 go_wp2_with fail
 refine (between_any d u _).mono ?_
 rintro _ w14 ⟨rfl, hb⟩
 replace K9 := K9.on hb
 replace Z10 := Z10.on hb
 replace BW := BW.trans (hb.mono BW.size)
 clear hb
 go_wp2_with fail
 refine (HLe.out _).mono ?_
 rintro _ w15 ⟨rfl, hb⟩
 replace K9 := K9.on hb
 replace Z10 := Z10.on hb
 replace BW := BW.trans (hb.mono BW.size)
 clear hb
 obtain ⟨c16, c17⟩ := K9.c2
 obtain ⟨c18, c19⟩ := Z10.f2
 obtain ⟨V20, hk22⟩ : ∃ V20, V20 = w15.setCells (w.heap.size + 1) 0 [.float .f64 l0, .float .f64 h0] := ⟨_, rfl⟩
 have e21 := hk22
 simp only [World.setCells, Nat.zero_add] at e21
 have hk23 := Kept.overE hk22 K9 rfl (by simp)
 replace K9 := K9.overE hk22 rfl
 replace BW := Below.putE BW hk22 g12
 clear hk22 hk23
 go_wp2_with fail
 clear c16 c17 c18 c19
 rw [← e21]
 clear e21
 obtain ⟨c24, c25⟩ := K9.c2
 exact bodyPost_ret (v := .tuple #[spv l0 h0, .int .i64 er]) (by simp [results, Tryz.results28, go_sem, c24, c25]) rfl ⟨l0, h0, er, d, u, rfl, HR.out, HZ.out, HQ.out, BW⟩
theorem pls_in2 {l h l' h' : Nat} (hs : Spn l h) (hs' : Spn l' h') (h1 : key l' ≤ key l) (h2 : key h ≤ key h') : spIn (pls l) (pls h) l' h' = true :=
 decide_eq_true ⟨pls_spn hs, hs', by rw [pls_key]; exact h1, by rw [pls_key]; exact h2⟩
set_option maxHeartbeats 8000000 in
set_option maxRecDepth 100000 in
theorem has_any {q : Rat} {f : Fv} {l h : Nat} {w : World} (L : Ff w q f) (hl : l < 18446744073709551616 ∧ h < 18446744073709551616) (hs : Spn l h) (hb : Btw l h q) :
  Calls Tryz.prog 59 #[spv l h, fv f] w (fun e w' => e = .returned (.tuple #[.bool true, .int .i64 0]) ∧ Below w.heap.size w w') := by
 have hsf := @run_store_f Tryz.prog .f64
 have HL := Lib.hid hl
 have HS := Lib.hid hs
 have HB := Lib.hid hb
 clear hl hs hb
 have BW : Below w.heap.size w w := Below.refl _ _
 obtain ⟨V2, e3, hb4, K5, -, z1⟩ := alloc_new w [.float .f64 l, .float .f64 h] 44
 replace L := L.kp (Kept.of hb4)
 replace BW := BW.trans (hb4.mono BW.size)
 clear hb4
 obtain ⟨V6, e7, hb8, K9, -, -⟩ := alloc_new V2 [.bool f.n, .slice f.A f.xs.length f.c, .bool f.m, .slice f.B f.ds.length f.d] 26
 rw [z1] at K9
 replace K5 := K5.on hb8
 replace L := L.kp (Kept.of hb8)
 replace BW := BW.trans (hb8.mono BW.size)
 clear hb8
 clear z1
 go_enter Tryz.func59, Tryz.ntmps59
 go_wp2_with fail
 rw [← e3, ← e7]
 clear e3 e7
 refine (spof_any L).mono ?_
 rintro _ w10 ⟨l0, h0, er, d, u, rfl, hR, hz, hq, hb⟩
 obtain ⟨k1, k2, k3⟩ := sides_in hR HS.out HB.out
 obtain ⟨e1, e2, e3⟩ := hq
 have e4 : leaE d u [] = 0 := if_pos k1
 have e5 : leaLo d u [] = pls d := if_pos k1
 have e6 : leaHi d u [] = pls u := if_pos k1
 obtain rfl : er = 0 := e3.symm.trans e4
 have HI : Hid (spIn l0 h0 l h = true) := Lib.hid (by rw [← e1, ← e2, e5, e6]; exact pls_in2 k1 HS.out k2 k3)
 have HZ := Lib.hid hz
 clear hR hz e1 e2 e3 e4 e5 e6 k1 k2 k3
 replace K5 := K5.on hb
 replace BW := BW.trans (hb.mono BW.size)
 clear hb
 obtain ⟨V11, e12, hb13, K14, -, -⟩ := alloc_new w10 [.float .f64 l0, .float .f64 h0] 44
 replace K5 := K5.on hb13
 replace BW := BW.trans (hb13.mono BW.size)
 clear hb13
 obtain ⟨c15, c16⟩ := K5.c2
 rw [e12] at c15 c16
 go_wp2_with fail
 clear c15 c16
 rw [← e12]
 clear e12
 generalize w10.heap.size = b17 at *
 refine (check_sp l h _ HL.out.1).mono ?_
 rintro _ w18 ⟨rfl, hb⟩
 replace K5 := K5.on hb
 replace K14 := K14.on hb
 replace BW := BW.trans (hb.mono BW.size)
 clear hb
 rw [spE_ok HS.out]
 obtain ⟨c19, c20⟩ := K5.c2
 obtain ⟨c21, c22⟩ := K14.c2
 go_wp2_with fail
 clear c19 c20 c21 c22
 refine (in_any l0 h0 l h _ HZ.out.1 HL.out.1).mono ?_
 rintro _ w23 ⟨rfl, hb⟩
 replace BW := BW.trans (hb.mono BW.size)
 clear hb
 rw [HI.out]
 go_wp2_with fail
 exact bodyPost_ret (v := .tuple #[.bool true, .int .i64 0]) (by simp [results, Tryz.results59, go_sem]) rfl ⟨rfl, BW⟩
set_option maxHeartbeats 8000000 in
set_option maxRecDepth 100000 in
theorem have_any {l h : Nat} {er er2 : Int} {g : Fv} {w : World} (H : Hav w l h er g er2) :
  Calls Tryz.prog 22 #[spv l h, .int .i64 er, fv g, .int .i64 er2] w (fun e w' => e = .returned (.bool true) ∧ Below w.heap.size w w') := by
 by_cases h1 : er = 0
 ·by_cases h2 : er2 = 0
  ·subst h1
   subst h2
   obtain ⟨hl, hs, z, L, hb⟩ := H rfl rfl
   have HL := Lib.hid hl
   have HS := Lib.hid hs
   have HB := Lib.hid hb
   clear H hl hs hb
   have BW : Below w.heap.size w w := Below.refl _ _
   obtain ⟨V2, e3, hb4, K5, -, z1⟩ := alloc_new w [.float .f64 l, .float .f64 h] 44
   replace L := L.kp (Kept.of hb4)
   replace BW := BW.trans (hb4.mono BW.size)
   clear hb4
   obtain ⟨V6, e7, hb8, K9, -, -⟩ := alloc_new V2 [.bool g.n, .slice g.A g.xs.length g.c, .bool g.m, .slice g.B g.ds.length g.d] 26
   rw [z1] at K9
   replace L := L.kp (Kept.of hb8)
   replace BW := BW.trans (hb8.mono BW.size)
   clear hb8
   clear z1
   go_enter Tryz.func22, Tryz.ntmps22
   go_wp2_with fail
   rw [← e3, ← e7]
   clear e3 e7
   refine (has_any L HL.out HS.out HB.out).mono ?_
   rintro _ w10 ⟨rfl, hb⟩
   replace BW := BW.trans (hb.mono BW.size)
   clear hb
   go_wp2_with fail
   exact bodyPost_ret (v := .bool true) (by simp [results, Tryz.results22, go_sem]) rfl ⟨rfl, BW⟩
  ·have h1b : (er == 0) = true := by rw [h1]; rfl
   have h2b : (er2 == 0) = false := beq_false_of_ne h2
   clear H
   have BW : Below w.heap.size w w := Below.refl _ _
   obtain ⟨V2, e3, hb4, K5, -, z1⟩ := alloc_new w [.float .f64 l, .float .f64 h] 44
   replace BW := BW.trans (hb4.mono BW.size)
   clear hb4
   obtain ⟨V6, e7, hb8, K9, -, -⟩ := alloc_new V2 [.bool g.n, .slice g.A g.xs.length g.c, .bool g.m, .slice g.B g.ds.length g.d] 26
   rw [z1] at K9
   replace BW := BW.trans (hb8.mono BW.size)
   clear hb8
   clear z1
   go_enter Tryz.func22, Tryz.ntmps22
   go_wp2_with fail
   rw [← e3, ← e7]
   clear e3 e7
   exact bodyPost_ret (v := .bool true) (by simp [results, Tryz.results22, go_sem]) rfl ⟨rfl, BW⟩
 ·have h1b : (er == 0) = false := beq_false_of_ne h1
  clear H
  have BW : Below w.heap.size w w := Below.refl _ _
  obtain ⟨V2, e3, hb4, K5, -, z1⟩ := alloc_new w [.float .f64 l, .float .f64 h] 44
  replace BW := BW.trans (hb4.mono BW.size)
  clear hb4
  obtain ⟨V6, e7, hb8, K9, -, -⟩ := alloc_new V2 [.bool g.n, .slice g.A g.xs.length g.c, .bool g.m, .slice g.B g.ds.length g.d] 26
  rw [z1] at K9
  replace BW := BW.trans (hb8.mono BW.size)
  clear hb8
  clear z1
  go_enter Tryz.func22, Tryz.ntmps22
  go_wp2_with fail
  rw [← e3, ← e7]
  clear e3 e7
  exact bodyPost_ret (v := .bool true) (by simp [results, Tryz.results22, go_sem]) rfl ⟨rfl, BW⟩
theorem RfIs.facts2 {q : Rat} {d u : Nat} (h : RfIs q d u) : Bt q d u := by
 rcases h with ⟨hz, rfl, rfl⟩ | ⟨_, hs, _⟩
 ·have hq : q = 0 := Rat.num_eq_zero.1 hz
  have e : fl 0 = 0 := fl_zero (by decide)
  have h := exact_dn (s := 0) (D := 1) (N := sval 0 * ((1 : Nat) : Int)) (by decide) (by decide) rfl
  have k := bt_of (by decide) h.1 h.2
  rw [← fl_un 0 1 (by decide), e] at k
  rw [hq]
  exact k
 ·exact hs.bt
theorem hav_of {W : World} {q : Rat} {f : Fv} {l h : Nat} {er : Int} {d u : Nat} (R : RfIs q d u) (hz : l < 18446744073709551616 ∧ h < 18446744073709551616) (hq : leaLo d u [] = l ∧ leaHi d u [] = h ∧ leaE d u [] = er) (L : Ff W q f) : Hav W l h er f 0 := fun e _ => by
 obtain ⟨e1, e2, e3⟩ := hq
 obtain ⟨k, k1, k2⟩ := lea_yes (d := d) (u := u) (L := []) (e3.trans e)
 rw [← e1, ← e2, k1, k2]
 refine ⟨⟨by rw [← k1, e1]; exact hz.1, by rw [← k2, e2]; exact hz.2⟩, pls_spn k, q, L, pls_btw ?_⟩
 have B := R.facts2
 exact ⟨low_of B k (Int.le_refl _), high_of B k (Int.le_refl _)⟩
set_option maxHeartbeats 16000000 in
set_option maxRecDepth 100000 in
theorem spanHas_walk {al ah bl bh : Nat} {u v : Int} {w : World} (ha : al < 18446744073709551616 ∧ ah < 18446744073709551616) (hb0 : bl < 18446744073709551616 ∧ bh < 18446744073709551616) (hu : -9223372036854775808 ≤ u ∧ u ≤ 9223372036854775807) (hv : -9223372036854775808 ≤ v ∧ v ≤ 9223372036854775807) :
  Calls Tryz.prog 4 #[spv al ah, spv bl bh, .int .i64 u, .int .i64 v] w (fun e w' => e = .returned (.bool true) ∧ Below w.heap.size w w') := by
 have hsf := @run_store_f Tryz.prog .f64
 have HA := Lib.hid ha
 have HB := Lib.hid hb0
 have HU := Lib.hid hu
 have HV := Lib.hid hv
 obtain ⟨u2, hu2⟩ : ∃ u2, wrap64 (v - u) = u2 := ⟨_, rfl⟩
 have HW : Hid (wrap64 (v - u) = u2 ∧ IntKind.i64.wrap (v - u) = u2) := Lib.hid ⟨hu2, by rw [← hu2, IntWalk.i64_left]⟩
 have HU2 : Hid (-9223372036854775808 ≤ u2 ∧ u2 ≤ 9223372036854775807) := Lib.hid (by rw [← hu2]; unfold wrap64; omega)
 clear ha hb0 hu hv hu2
 have BW : Below w.heap.size w w := Below.refl _ _
 obtain ⟨V2, e3, hb4, K5, -, z1⟩ := alloc_new w [.float .f64 al, .float .f64 ah] 44
 replace BW := BW.trans (hb4.mono BW.size)
 clear hb4
 obtain ⟨V6, e7, hb8, K9, -, -⟩ := alloc_new V2 [.float .f64 bl, .float .f64 bh] 44
 rw [z1] at K9
 replace K5 := K5.on hb8
 replace BW := BW.trans (hb8.mono BW.size)
 clear hb8
 clear z1
 go_enter Tryz.func4, Tryz.ntmps4
 go_wp2_with fail
 rw [← e3, ← e7]
 clear e3 e7
 refine (within_any HA.out HU.out HV.out).mono ?_
 rintro _ w10 ⟨x, k1, rfl, W1, hb⟩
 replace K5 := K5.on hb
 replace K9 := K9.on hb
 replace BW := BW.trans (hb.mono BW.size)
 clear hb
 obtain ⟨V11, e12, hb13, K14, -, -⟩ := alloc_new w10 [.bool x.n, .slice x.A x.xs.length x.c, .bool x.m, .slice x.B x.ds.length x.d] 26
 replace K5 := K5.on hb13
 replace K9 := K9.on hb13
 replace W1 := W1.kp (Kept.of hb13)
 replace BW := BW.trans (hb13.mono BW.size)
 clear hb13
 obtain ⟨c15, c16⟩ := K9.c2
 rw [e12] at c15 c16
 go_wp2_with fail
 clear c15 c16
 rw [← e12]
 clear e12
 generalize w10.heap.size = b17 at *
 (try rw [HW.out.1])
 (try rw [HW.out.2])
 refine (within_any HB.out HU2.out HV.out).mono ?_
 rintro _ w18 ⟨y, k2, rfl, W2, hb⟩
 replace K5 := K5.on hb
 replace K9 := K9.on hb
 replace K14 := K14.on hb
 replace W1 := W1.kp (Kept.of hb)
 replace BW := BW.trans (hb.mono BW.size)
 clear hb
 cases k1 with
 | false =>
  clear W1 W2
  obtain ⟨V19, e20, hb21, K22, -, -⟩ := alloc_new w18 [.bool y.n, .slice y.A y.xs.length y.c, .bool y.m, .slice y.B y.ds.length y.d] 26
  replace BW := BW.trans (hb21.mono BW.size)
  clear hb21
  go_wp2_with fail
  rw [← e20]
  clear e20
  generalize w18.heap.size = b23 at *
  refine (lives_any _).mono ?_
  rintro _ w24 ⟨rfl, hb⟩
  replace BW := BW.trans (hb.mono BW.size)
  clear hb
  go_wp2_with fail
  exact bodyPost_ret (v := .bool true) (by simp [results, Tryz.results4, go_sem]) rfl ⟨rfl, BW⟩
 | true =>
  cases k2 with
  | false =>
   clear W1 W2
   obtain ⟨V19, e20, hb21, K22, -, -⟩ := alloc_new w18 [.bool y.n, .slice y.A y.xs.length y.c, .bool y.m, .slice y.B y.ds.length y.d] 26
   replace BW := BW.trans (hb21.mono BW.size)
   clear hb21
   go_wp2_with fail
   rw [← e20]
   clear e20
   generalize w18.heap.size = b23 at *
   refine (lives_any _).mono ?_
   rintro _ w24 ⟨rfl, hb⟩
   replace BW := BW.trans (hb.mono BW.size)
   clear hb
   go_wp2_with fail
   exact bodyPost_ret (v := .bool true) (by simp [results, Tryz.results4, go_sem]) rfl ⟨rfl, BW⟩
  | true =>
   obtain ⟨hs1, q1, X, x1⟩ := W1 rfl
   obtain ⟨hs2, q2, Y, y1⟩ := W2 rfl
   have HS := Lib.hid (And.intro hs1 hs2)
   have HX := Lib.hid (And.intro x1 y1)
   clear W1 W2 hs1 hs2 x1 y1
   obtain ⟨V19, e20, hb21, K22, -, -⟩ := alloc_new w18 [.bool y.n, .slice y.A y.xs.length y.c, .bool y.m, .slice y.B y.ds.length y.d] 26
   replace K5 := K5.on hb21
   replace K9 := K9.on hb21
   replace K14 := K14.on hb21
   replace X := X.kp (Kept.of hb21)
   replace Y := Y.kp (Kept.of hb21)
   replace BW := BW.trans (hb21.mono BW.size)
   clear hb21
   obtain ⟨c23, c24⟩ := K5.c2
   obtain ⟨c25, c26⟩ := K9.c2
   rw [e20] at c23 c24 c25 c26
   go_wp2_with fail
   clear c23 c24 c25 c26
   rw [← e20]
   clear e20
   generalize w18.heap.size = b27 at *
   refine (sp_add HA.out.1 HA.out.2 HB.out.1 HB.out.2 HS.out.1 HS.out.2).mono ?_
   rintro _ w28 ⟨l1, h1, e1, rfl, S1, hb⟩
   replace K5 := K5.on hb
   replace K9 := K9.on hb
   replace K14 := K14.on hb
   replace K22 := K22.on hb
   replace X := X.kp (Kept.of hb)
   replace Y := Y.kp (Kept.of hb)
   replace BW := BW.trans (hb.mono BW.size)
   clear hb
   have T1 := Lib.hid S1
   clear S1
   obtain ⟨V29, e30, hb31, K32, Z33, -⟩ := alloc_new w28 [.float .f64 l1, .float .f64 h1] 44
   have n34 : w.heap.size ≠ w28.heap.size := Nat.ne_of_lt (K5.lt)
   have n35 : w.heap.size + 1 ≠ w28.heap.size := Nat.ne_of_lt (K9.lt)
   have n36 : b17 ≠ w28.heap.size := Nat.ne_of_lt (K14.lt)
   have n37 : b27 ≠ w28.heap.size := Nat.ne_of_lt (K22.lt)
   have g38 : w.heap.size ≤ w28.heap.size := BW.size
   replace K5 := K5.on hb31
   replace K9 := K9.on hb31
   replace K14 := K14.on hb31
   replace K22 := K22.on hb31
   replace X := X.kp (Kept.of hb31)
   replace Y := Y.kp (Kept.of hb31)
   replace BW := BW.trans (hb31.mono BW.size)
   clear hb31
   obtain ⟨c39, c40, c41, c42⟩ := K14.c4
   obtain ⟨c43, c44, c45, c46⟩ := K22.c4
   rw [e30] at c39 c40 c41 c42 c43 c44 c45 c46
   go_wp2_with fail
   clear c39 c40 c41 c42 c43 c44 c45 c46
   rw [← e30]
   clear e30
   generalize w28.heap.size = b47 at *
   refine (r_add X Y).mono ?_
   rintro _ w48 ⟨g1, r1, rfl, R1, hb⟩
   have V1 : Hav w48 l1 h1 e1 g1 r1 := Hav.of T1.out R1 ⟨_, _, HX.out.1, HX.out.2, rfl⟩
   clear R1 T1
   replace K5 := K5.on hb
   replace K9 := K9.on hb
   replace K14 := K14.on hb
   replace K22 := K22.on hb
   replace K32 := K32.on hb
   replace Z33 := Z33.on hb
   replace X := X.kp (Kept.of hb)
   replace Y := Y.kp (Kept.of hb)
   replace BW := BW.trans (hb.mono BW.size)
   clear hb
   obtain ⟨V49, e50, hb51, K52, Z53, -⟩ := alloc_new w48 [.bool g1.n, .slice g1.A g1.xs.length g1.c, .bool g1.m, .slice g1.B g1.ds.length g1.d] 26
   have n54 : w.heap.size ≠ w48.heap.size := Nat.ne_of_lt (K5.lt)
   have n55 : w.heap.size + 1 ≠ w48.heap.size := Nat.ne_of_lt (K9.lt)
   have n56 : b17 ≠ w48.heap.size := Nat.ne_of_lt (K14.lt)
   have n57 : b27 ≠ w48.heap.size := Nat.ne_of_lt (K22.lt)
   have n58 : b47 ≠ w48.heap.size := Nat.ne_of_lt (K32.lt)
   have g59 : w.heap.size ≤ w48.heap.size := BW.size
   replace K5 := K5.on hb51
   replace K9 := K9.on hb51
   replace K14 := K14.on hb51
   replace K22 := K22.on hb51
   replace K32 := K32.on hb51
   replace Z33 := Z33.on hb51
   replace X := X.kp (Kept.of hb51)
   replace Y := Y.kp (Kept.of hb51)
   replace V1 := V1.kp (Kept.of hb51)
   replace BW := BW.trans (hb51.mono BW.size)
   clear hb51
   obtain ⟨c60, c61⟩ := K5.c2
   obtain ⟨c62, c63⟩ := K9.c2
   rw [e50] at c60 c61 c62 c63
   go_wp2_with fail
   clear c60 c61 c62 c63
   rw [← e50]
   clear e50
   generalize w48.heap.size = b64 at *
   refine (sp_sub HA.out.1 HA.out.2 HB.out.1 HB.out.2 HS.out.1 HS.out.2).mono ?_
   rintro _ w65 ⟨l2, h2, e2, rfl, S2, hb⟩
   replace K5 := K5.on hb
   replace K9 := K9.on hb
   replace K14 := K14.on hb
   replace K22 := K22.on hb
   replace K32 := K32.on hb
   replace K52 := K52.on hb
   replace Z33 := Z33.on hb
   replace Z53 := Z53.on hb
   replace X := X.kp (Kept.of hb)
   replace Y := Y.kp (Kept.of hb)
   replace V1 := V1.kp (Kept.of hb)
   replace BW := BW.trans (hb.mono BW.size)
   clear hb
   have T2 := Lib.hid S2
   clear S2
   obtain ⟨V66, e67, hb68, K69, Z70, -⟩ := alloc_new w65 [.float .f64 l2, .float .f64 h2] 44
   have n71 : w.heap.size ≠ w65.heap.size := Nat.ne_of_lt (K5.lt)
   have n72 : w.heap.size + 1 ≠ w65.heap.size := Nat.ne_of_lt (K9.lt)
   have n73 : b17 ≠ w65.heap.size := Nat.ne_of_lt (K14.lt)
   have n74 : b27 ≠ w65.heap.size := Nat.ne_of_lt (K22.lt)
   have n75 : b47 ≠ w65.heap.size := Nat.ne_of_lt (K32.lt)
   have n76 : b64 ≠ w65.heap.size := Nat.ne_of_lt (K52.lt)
   have g77 : w.heap.size ≤ w65.heap.size := BW.size
   replace K5 := K5.on hb68
   replace K9 := K9.on hb68
   replace K14 := K14.on hb68
   replace K22 := K22.on hb68
   replace K32 := K32.on hb68
   replace K52 := K52.on hb68
   replace Z33 := Z33.on hb68
   replace Z53 := Z53.on hb68
   replace X := X.kp (Kept.of hb68)
   replace Y := Y.kp (Kept.of hb68)
   replace V1 := V1.kp (Kept.of hb68)
   replace BW := BW.trans (hb68.mono BW.size)
   clear hb68
   obtain ⟨c78, c79, c80, c81⟩ := K14.c4
   obtain ⟨c82, c83, c84, c85⟩ := K22.c4
   rw [e67] at c78 c79 c80 c81 c82 c83 c84 c85
   go_wp2_with fail
   clear c78 c79 c80 c81 c82 c83 c84 c85
   rw [← e67]
   clear e67
   generalize w65.heap.size = b86 at *
   refine (r_sub X Y).mono ?_
   rintro _ w87 ⟨g2, r2, rfl, R2, hb⟩
   have V2 : Hav w87 l2 h2 e2 g2 r2 := Hav.of T2.out R2 ⟨_, _, HX.out.1, HX.out.2, rfl⟩
   clear R2 T2
   replace K5 := K5.on hb
   replace K9 := K9.on hb
   replace K14 := K14.on hb
   replace K22 := K22.on hb
   replace K32 := K32.on hb
   replace K52 := K52.on hb
   replace K69 := K69.on hb
   replace Z33 := Z33.on hb
   replace Z53 := Z53.on hb
   replace Z70 := Z70.on hb
   replace X := X.kp (Kept.of hb)
   replace Y := Y.kp (Kept.of hb)
   replace V1 := V1.kp (Kept.of hb)
   replace BW := BW.trans (hb.mono BW.size)
   clear hb
   obtain ⟨V88, e89, hb90, K91, Z92, -⟩ := alloc_new w87 [.bool g2.n, .slice g2.A g2.xs.length g2.c, .bool g2.m, .slice g2.B g2.ds.length g2.d] 26
   have n93 : w.heap.size ≠ w87.heap.size := Nat.ne_of_lt (K5.lt)
   have n94 : w.heap.size + 1 ≠ w87.heap.size := Nat.ne_of_lt (K9.lt)
   have n95 : b17 ≠ w87.heap.size := Nat.ne_of_lt (K14.lt)
   have n96 : b27 ≠ w87.heap.size := Nat.ne_of_lt (K22.lt)
   have n97 : b47 ≠ w87.heap.size := Nat.ne_of_lt (K32.lt)
   have n98 : b64 ≠ w87.heap.size := Nat.ne_of_lt (K52.lt)
   have n99 : b86 ≠ w87.heap.size := Nat.ne_of_lt (K69.lt)
   have g100 : w.heap.size ≤ w87.heap.size := BW.size
   replace K5 := K5.on hb90
   replace K9 := K9.on hb90
   replace K14 := K14.on hb90
   replace K22 := K22.on hb90
   replace K32 := K32.on hb90
   replace K52 := K52.on hb90
   replace K69 := K69.on hb90
   replace Z33 := Z33.on hb90
   replace Z53 := Z53.on hb90
   replace Z70 := Z70.on hb90
   replace X := X.kp (Kept.of hb90)
   replace Y := Y.kp (Kept.of hb90)
   replace V1 := V1.kp (Kept.of hb90)
   replace V2 := V2.kp (Kept.of hb90)
   replace BW := BW.trans (hb90.mono BW.size)
   clear hb90
   obtain ⟨c101, c102⟩ := K32.c2
   obtain ⟨c103, c104, c105, c106⟩ := K52.c4
   rw [e89] at c101 c102 c103 c104 c105 c106
   go_wp2_with fail
   clear c101 c102 c103 c104 c105 c106
   rw [← e89]
   clear e89
   generalize w87.heap.size = b107 at *
   refine (have_any V1).mono ?_
   rintro _ w108 ⟨rfl, hb⟩
   replace K5 := K5.on hb
   replace K9 := K9.on hb
   replace K14 := K14.on hb
   replace K22 := K22.on hb
   replace K32 := K32.on hb
   replace K52 := K52.on hb
   replace K69 := K69.on hb
   replace K91 := K91.on hb
   replace Z33 := Z33.on hb
   replace Z53 := Z53.on hb
   replace Z70 := Z70.on hb
   replace Z92 := Z92.on hb
   replace X := X.kp (Kept.of hb)
   replace Y := Y.kp (Kept.of hb)
   replace V1 := V1.kp (Kept.of hb)
   replace V2 := V2.kp (Kept.of hb)
   replace BW := BW.trans (hb.mono BW.size)
   clear hb
   obtain ⟨c109, c110⟩ := K69.c2
   obtain ⟨c111, c112, c113, c114⟩ := K91.c4
   go_wp2_with fail
   clear c109 c110 c111 c112 c113 c114
   refine (have_any V2).mono ?_
   rintro _ w115 ⟨rfl, hb⟩
   replace K5 := K5.on hb
   replace K9 := K9.on hb
   replace K14 := K14.on hb
   replace K22 := K22.on hb
   replace K32 := K32.on hb
   replace K52 := K52.on hb
   replace K69 := K69.on hb
   replace K91 := K91.on hb
   replace Z33 := Z33.on hb
   replace Z53 := Z53.on hb
   replace Z70 := Z70.on hb
   replace Z92 := Z92.on hb
   replace X := X.kp (Kept.of hb)
   replace Y := Y.kp (Kept.of hb)
   replace V1 := V1.kp (Kept.of hb)
   replace V2 := V2.kp (Kept.of hb)
   replace BW := BW.trans (hb.mono BW.size)
   clear hb
   clear V1 V2
   obtain ⟨c116, c117⟩ := K5.c2
   obtain ⟨c118, c119⟩ := K9.c2
   go_wp2_with fail
   clear c116 c117 c118 c119
   refine (sp_mul HA.out.1 HA.out.2 HB.out.1 HB.out.2 HS.out.1 HS.out.2).mono ?_
   rintro _ w120 ⟨l3, h3, e3, rfl, S3, hb⟩
   replace K5 := K5.on hb
   replace K9 := K9.on hb
   replace K14 := K14.on hb
   replace K22 := K22.on hb
   replace K32 := K32.on hb
   replace K52 := K52.on hb
   replace K69 := K69.on hb
   replace K91 := K91.on hb
   replace Z33 := Z33.on hb
   replace Z53 := Z53.on hb
   replace Z70 := Z70.on hb
   replace Z92 := Z92.on hb
   replace X := X.kp (Kept.of hb)
   replace Y := Y.kp (Kept.of hb)
   replace BW := BW.trans (hb.mono BW.size)
   clear hb
   have T3 := Lib.hid S3
   clear S3
   obtain ⟨c121, c122⟩ := K32.c2
   obtain ⟨c123, c124⟩ := Z33.f2
   obtain ⟨V125, hk127⟩ : ∃ V125, V125 = w120.setCells (b47) 0 [.float .f64 l3, .float .f64 h3] := ⟨_, rfl⟩
   have e126 := hk127
   simp only [World.setCells, Nat.zero_add] at e126
   have hk128 := Kept.overE hk127 K32 rfl (by simp)
   replace K5 := K5.awayE hk127 n34
   replace K9 := K9.awayE hk127 n35
   replace K14 := K14.awayE hk127 n36
   replace K22 := K22.awayE hk127 n37
   replace K32 := K32.overE hk127 rfl
   replace K52 := K52.awayE hk127 n58.symm
   replace K69 := K69.awayE hk127 n75.symm
   replace K91 := K91.awayE hk127 n97.symm
   replace Z33 := Z33.putE hk127
   replace Z53 := Z53.putE hk127
   replace Z70 := Z70.putE hk127
   replace Z92 := Z92.putE hk127
   replace X := X.kp hk128
   replace Y := Y.kp hk128
   replace BW := Below.putE BW hk127 g38
   clear hk127 hk128
   obtain ⟨c129, c130, c131, c132⟩ := K14.c4
   obtain ⟨c133, c134, c135, c136⟩ := K22.c4
   rw [e126] at c129 c130 c131 c132 c133 c134 c135 c136
   go_wp2_with fail
   clear c121 c122 c123 c124 c129 c130 c131 c132 c133 c134 c135 c136
   rw [← e126]
   clear e126
   refine (r_mul X Y).mono ?_
   rintro _ w137 ⟨g3, r3, rfl, R3, hb⟩
   have V3 : Hav w137 l3 h3 e3 g3 r3 := Hav.of T3.out R3 ⟨_, _, HX.out.1, HX.out.2, rfl⟩
   clear R3 T3
   replace K5 := K5.on hb
   replace K9 := K9.on hb
   replace K14 := K14.on hb
   replace K22 := K22.on hb
   replace K32 := K32.on hb
   replace K52 := K52.on hb
   replace K69 := K69.on hb
   replace K91 := K91.on hb
   replace Z33 := Z33.on hb
   replace Z53 := Z53.on hb
   replace Z70 := Z70.on hb
   replace Z92 := Z92.on hb
   replace X := X.kp (Kept.of hb)
   replace Y := Y.kp (Kept.of hb)
   replace BW := BW.trans (hb.mono BW.size)
   clear hb
   obtain ⟨c138, c139, c140, c141⟩ := K52.c4
   obtain ⟨c142, c143, c144, c145⟩ := Z53.f4
   obtain ⟨V146, hk148⟩ : ∃ V146, V146 = w137.setCells (b64) 0 [.bool g3.n, .slice g3.A g3.xs.length g3.c, .bool g3.m, .slice g3.B g3.ds.length g3.d] := ⟨_, rfl⟩
   have e147 := hk148
   simp only [World.setCells, Nat.zero_add, Nat.reduceAdd] at e147
   have hk149 := Kept.overE hk148 K52 rfl (by simp)
   replace K5 := K5.awayE hk148 n54
   replace K9 := K9.awayE hk148 n55
   replace K14 := K14.awayE hk148 n56
   replace K22 := K22.awayE hk148 n57
   replace K32 := K32.awayE hk148 n58
   replace K52 := K52.overE hk148 rfl
   replace K69 := K69.awayE hk148 n76.symm
   replace K91 := K91.awayE hk148 n98.symm
   replace Z33 := Z33.putE hk148
   replace Z53 := Z53.putE hk148
   replace Z70 := Z70.putE hk148
   replace Z92 := Z92.putE hk148
   replace X := X.kp hk149
   replace Y := Y.kp hk149
   replace V3 := V3.kp hk149
   replace BW := Below.putE BW hk148 g59
   clear hk148 hk149
   obtain ⟨c150, c151⟩ := K5.c2
   obtain ⟨c152, c153⟩ := K9.c2
   rw [e147] at c150 c151 c152 c153
   go_wp2_with fail
   clear c138 c139 c140 c141 c142 c143 c144 c145 c150 c151 c152 c153
   rw [← e147]
   clear e147
   refine (sp_quo HA.out.1 HA.out.2 HB.out.1 HB.out.2 HS.out.1 HS.out.2).mono ?_
   rintro _ w154 ⟨l4, h4, e4, rfl, S4, hb⟩
   replace K5 := K5.on hb
   replace K14 := K14.on hb
   replace K22 := K22.on hb
   replace K32 := K32.on hb
   replace K52 := K52.on hb
   replace K69 := K69.on hb
   replace K91 := K91.on hb
   replace Z33 := Z33.on hb
   replace Z53 := Z53.on hb
   replace Z70 := Z70.on hb
   replace Z92 := Z92.on hb
   replace X := X.kp (Kept.of hb)
   replace Y := Y.kp (Kept.of hb)
   replace V3 := V3.kp (Kept.of hb)
   replace BW := BW.trans (hb.mono BW.size)
   clear hb
   have T4 := Lib.hid S4
   clear S4
   obtain ⟨c155, c156⟩ := K69.c2
   obtain ⟨c157, c158⟩ := Z70.f2
   obtain ⟨V159, hk161⟩ : ∃ V159, V159 = w154.setCells (b86) 0 [.float .f64 l4, .float .f64 h4] := ⟨_, rfl⟩
   have e160 := hk161
   simp only [World.setCells, Nat.zero_add] at e160
   have hk162 := Kept.overE hk161 K69 rfl (by simp)
   replace K5 := K5.awayE hk161 n71
   replace K14 := K14.awayE hk161 n73
   replace K22 := K22.awayE hk161 n74
   replace K32 := K32.awayE hk161 n75
   replace K52 := K52.awayE hk161 n76
   replace K69 := K69.overE hk161 rfl
   replace K91 := K91.awayE hk161 n99.symm
   replace Z33 := Z33.putE hk161
   replace Z53 := Z53.putE hk161
   replace Z70 := Z70.putE hk161
   replace Z92 := Z92.putE hk161
   replace X := X.kp hk162
   replace Y := Y.kp hk162
   replace V3 := V3.kp hk162
   replace BW := Below.putE BW hk161 g77
   clear hk161 hk162
   obtain ⟨c163, c164, c165, c166⟩ := K14.c4
   obtain ⟨c167, c168, c169, c170⟩ := K22.c4
   rw [e160] at c163 c164 c165 c166 c167 c168 c169 c170
   go_wp2_with fail
   clear c155 c156 c157 c158 c163 c164 c165 c166 c167 c168 c169 c170
   rw [← e160]
   clear e160
   refine (r_quo X Y).mono ?_
   rintro _ w171 ⟨g4, r4, rfl, R4, hb⟩
   have V4 : Hav w171 l4 h4 e4 g4 r4 := Hav.of T4.out R4 ⟨_, _, HX.out.1, HX.out.2, rfl⟩
   clear R4 T4
   replace K5 := K5.on hb
   replace K14 := K14.on hb
   replace K32 := K32.on hb
   replace K52 := K52.on hb
   replace K69 := K69.on hb
   replace K91 := K91.on hb
   replace Z33 := Z33.on hb
   replace Z53 := Z53.on hb
   replace Z70 := Z70.on hb
   replace Z92 := Z92.on hb
   replace X := X.kp (Kept.of hb)
   replace V3 := V3.kp (Kept.of hb)
   replace BW := BW.trans (hb.mono BW.size)
   clear hb
   obtain ⟨c172, c173, c174, c175⟩ := K91.c4
   obtain ⟨c176, c177, c178, c179⟩ := Z92.f4
   obtain ⟨V180, hk182⟩ : ∃ V180, V180 = w171.setCells (b107) 0 [.bool g4.n, .slice g4.A g4.xs.length g4.c, .bool g4.m, .slice g4.B g4.ds.length g4.d] := ⟨_, rfl⟩
   have e181 := hk182
   simp only [World.setCells, Nat.zero_add, Nat.reduceAdd] at e181
   have hk183 := Kept.overE hk182 K91 rfl (by simp)
   replace K5 := K5.awayE hk182 n93
   replace K14 := K14.awayE hk182 n95
   replace K32 := K32.awayE hk182 n97
   replace K52 := K52.awayE hk182 n98
   replace K69 := K69.awayE hk182 n99
   replace K91 := K91.overE hk182 rfl
   replace Z33 := Z33.putE hk182
   replace Z53 := Z53.putE hk182
   replace Z70 := Z70.putE hk182
   replace X := X.kp hk183
   replace V3 := V3.kp hk183
   replace V4 := V4.kp hk183
   replace BW := Below.putE BW hk182 g100
   clear hk182 hk183
   obtain ⟨c184, c185⟩ := K32.c2
   obtain ⟨c186, c187, c188, c189⟩ := K52.c4
   rw [e181] at c184 c185 c186 c187 c188 c189
   go_wp2_with fail
   clear c172 c173 c174 c175 c176 c177 c178 c179 c184 c185 c186 c187 c188 c189
   rw [← e181]
   clear e181
   refine (have_any V3).mono ?_
   rintro _ w190 ⟨rfl, hb⟩
   replace K5 := K5.on hb
   replace K14 := K14.on hb
   replace K32 := K32.on hb
   replace K52 := K52.on hb
   replace K69 := K69.on hb
   replace K91 := K91.on hb
   replace Z33 := Z33.on hb
   replace Z53 := Z53.on hb
   replace Z70 := Z70.on hb
   replace X := X.kp (Kept.of hb)
   replace V3 := V3.kp (Kept.of hb)
   replace V4 := V4.kp (Kept.of hb)
   replace BW := BW.trans (hb.mono BW.size)
   clear hb
   obtain ⟨c191, c192⟩ := K69.c2
   obtain ⟨c193, c194, c195, c196⟩ := K91.c4
   go_wp2_with fail
   clear c191 c192 c193 c194 c195 c196
   refine (have_any V4).mono ?_
   rintro _ w197 ⟨rfl, hb⟩
   replace K5 := K5.on hb
   replace K14 := K14.on hb
   replace K32 := K32.on hb
   replace K52 := K52.on hb
   replace K69 := K69.on hb
   replace Z33 := Z33.on hb
   replace Z53 := Z53.on hb
   replace Z70 := Z70.on hb
   replace X := X.kp (Kept.of hb)
   replace V3 := V3.kp (Kept.of hb)
   replace V4 := V4.kp (Kept.of hb)
   replace BW := BW.trans (hb.mono BW.size)
   clear hb
   clear V3 V4
   obtain ⟨c198, c199⟩ := K5.c2
   go_wp2_with fail
   clear c198 c199
   refine (sp_square HA.out.1 HA.out.2 HS.out.1).mono ?_
   rintro _ w200 ⟨l5, h5, e5, rfl, S5, hb⟩
   replace K14 := K14.on hb
   replace K32 := K32.on hb
   replace K52 := K52.on hb
   replace K69 := K69.on hb
   replace Z33 := Z33.on hb
   replace Z53 := Z53.on hb
   replace Z70 := Z70.on hb
   replace X := X.kp (Kept.of hb)
   replace BW := BW.trans (hb.mono BW.size)
   clear hb
   have T5 := Lib.hid S5
   clear S5
   obtain ⟨c201, c202⟩ := K32.c2
   obtain ⟨c203, c204⟩ := Z33.f2
   obtain ⟨V205, hk207⟩ : ∃ V205, V205 = w200.setCells (b47) 0 [.float .f64 l5, .float .f64 h5] := ⟨_, rfl⟩
   have e206 := hk207
   simp only [World.setCells, Nat.zero_add] at e206
   have hk208 := Kept.overE hk207 K32 rfl (by simp)
   replace K14 := K14.awayE hk207 n36
   replace K32 := K32.overE hk207 rfl
   replace K52 := K52.awayE hk207 n58.symm
   replace K69 := K69.awayE hk207 n75.symm
   replace Z53 := Z53.putE hk207
   replace Z70 := Z70.putE hk207
   replace X := X.kp hk208
   replace BW := Below.putE BW hk207 g38
   clear hk207 hk208
   obtain ⟨c209, c210, c211, c212⟩ := K14.c4
   rw [e206] at c209 c210 c211 c212
   go_wp2_with fail
   clear c201 c202 c203 c204 c209 c210 c211 c212
   rw [← e206]
   clear e206
   refine (r_mul X X).mono ?_
   rintro _ w213 ⟨g5, r5, rfl, R5, hb⟩
   have V5 : Hav w213 l5 h5 e5 g5 r5 := Hav.of T5.out R5 ⟨_, HX.out.1, rfl⟩
   clear R5 T5
   replace K14 := K14.on hb
   replace K32 := K32.on hb
   replace K52 := K52.on hb
   replace K69 := K69.on hb
   replace Z53 := Z53.on hb
   replace Z70 := Z70.on hb
   replace X := X.kp (Kept.of hb)
   replace BW := BW.trans (hb.mono BW.size)
   clear hb
   obtain ⟨c214, c215, c216, c217⟩ := K52.c4
   obtain ⟨c218, c219, c220, c221⟩ := Z53.f4
   obtain ⟨V222, hk224⟩ : ∃ V222, V222 = w213.setCells (b64) 0 [.bool g5.n, .slice g5.A g5.xs.length g5.c, .bool g5.m, .slice g5.B g5.ds.length g5.d] := ⟨_, rfl⟩
   have e223 := hk224
   simp only [World.setCells, Nat.zero_add, Nat.reduceAdd] at e223
   have hk225 := Kept.overE hk224 K52 rfl (by simp)
   replace K14 := K14.awayE hk224 n56
   replace K32 := K32.awayE hk224 n58
   replace K52 := K52.overE hk224 rfl
   replace K69 := K69.awayE hk224 n76.symm
   replace Z70 := Z70.putE hk224
   replace X := X.kp hk225
   replace V5 := V5.kp hk225
   replace BW := Below.putE BW hk224 g59
   clear hk224 hk225
   obtain ⟨c226, c227, c228, c229⟩ := K14.c4
   rw [e223] at c226 c227 c228 c229
   go_wp2_with fail
   clear c214 c215 c216 c217 c218 c219 c220 c221 c226 c227 c228 c229
   rw [← e223]
   clear e223
   refine (spof_any X).mono ?_
   rintro _ w230 ⟨l6, h6, e6, d, u9, rfl, hR, hz, hq, hb⟩
   have VO := fun (W : World) (Lx : Ff W q1 x) => hav_of hR hz hq Lx
   replace K14 := K14.on hb
   replace K32 := K32.on hb
   replace K52 := K52.on hb
   replace K69 := K69.on hb
   replace Z70 := Z70.on hb
   replace X := X.kp (Kept.of hb)
   replace V5 := V5.kp (Kept.of hb)
   replace BW := BW.trans (hb.mono BW.size)
   clear hb
   have V6 : Hav w230 l6 h6 e6 x 0 := VO _ X
   clear VO hR hz hq
   obtain ⟨c231, c232⟩ := K69.c2
   obtain ⟨c233, c234⟩ := Z70.f2
   obtain ⟨V235, hk237⟩ : ∃ V235, V235 = w230.setCells (b86) 0 [.float .f64 l6, .float .f64 h6] := ⟨_, rfl⟩
   have e236 := hk237
   simp only [World.setCells, Nat.zero_add] at e236
   have hk238 := Kept.overE hk237 K69 rfl (by simp)
   replace K14 := K14.awayE hk237 n73
   replace K32 := K32.awayE hk237 n75
   replace K52 := K52.awayE hk237 n76
   replace K69 := K69.overE hk237 rfl
   replace V5 := V5.kp hk238
   replace V6 := V6.kp hk238
   replace BW := Below.putE BW hk237 g77
   clear hk237 hk238
   obtain ⟨c239, c240⟩ := K32.c2
   obtain ⟨c241, c242, c243, c244⟩ := K52.c4
   rw [e236] at c239 c240 c241 c242 c243 c244
   go_wp2_with fail
   clear c231 c232 c233 c234 c239 c240 c241 c242 c243 c244
   rw [← e236]
   clear e236
   refine (have_any V5).mono ?_
   rintro _ w245 ⟨rfl, hb⟩
   replace K14 := K14.on hb
   replace K69 := K69.on hb
   replace V6 := V6.kp (Kept.of hb)
   replace BW := BW.trans (hb.mono BW.size)
   clear hb
   obtain ⟨c246, c247, c248, c249⟩ := K14.c4
   obtain ⟨c250, c251⟩ := K69.c2
   go_wp2_with fail
   clear c246 c247 c248 c249 c250 c251
   refine (have_any V6).mono ?_
   rintro _ w252 ⟨rfl, hb⟩
   replace BW := BW.trans (hb.mono BW.size)
   clear hb
   go_wp2_with fail
   refine (lives_any _).mono ?_
   rintro _ w253 ⟨rfl, hb⟩
   replace BW := BW.trans (hb.mono BW.size)
   clear hb
   go_wp2_with fail
   exact bodyPost_ret (v := .bool true) (by simp [results, Tryz.results4, go_sem]) rfl ⟨rfl, BW⟩
end Go.Proofs.YtghcoijinihlnaaGreat
