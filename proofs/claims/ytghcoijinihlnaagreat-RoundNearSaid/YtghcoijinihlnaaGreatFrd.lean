/-
  A fraction between two floats; what round's calls return of finite floats, against the exact fractions. Conditions: as each theorem states.
-/
import Derived.Test.YtghcoijinihlnaaGreatFfl
import Derived.Test.YtghcoijinihlnaaGreatExu
namespace Go.Proofs.YtghcoijinihlnaaGreat
open Fl
/-- Below and above, and just where both are the same. -/
structure Bt (q : Rat) (d u : Nat) : Prop where
  ld : mg d ≤ 9218868437227405312
  lu : mg u ≤ 9218868437227405312
  id : mg d = 9218868437227405312 → ng d = true
  iu : mg u = 9218868437227405312 → ng u = false
  low : mg d < 9218868437227405312 → fl d ≤ q
  high : mg u < 9218868437227405312 → q ≤ fl u
  both : (mg d < 9218868437227405312 ∧ fl d = q) ↔ (mg u < 9218868437227405312 ∧ fl u = q)
  one : (mg d < 9218868437227405312 ∧ fl d = q) ↔ key d = key u
theorem key_fin {x y : Nat} (hx : mg x < 9218868437227405312) (h : key x = key y) (hy : mg y ≤ 9218868437227405312) : mg y < 9218868437227405312 := by
  unfold key at h
  split at h <;> split at h <;> omega
theorem sval_key {x y : Nat} : sval x = sval y ↔ key x = key y := by
  have h1 := (sval_cmp x y).1
  have h2 := (sval_cmp y x).1
  omega
theorem rat_le_div {a b : Int} {c : Rat} (hc : 0 < c) : (a : Rat) ≤ (b : Rat) ↔ (a : Rat) / c ≤ (b : Rat) / c := by
  have e : ∀ x : Rat, x / c = x * c⁻¹ := fun x => Rat.div_def x c
  rw [e, e]
  have hi : 0 < c⁻¹ := Rat.inv_pos.2 hc
  exact ⟨fun h => Rat.mul_le_mul_of_nonneg_right h (Rat.le_of_lt hi), fun h => Rat.le_of_mul_le_mul_right h hi⟩
/-- N over D units. -/
def un (N : Int) (D : Nat) : Rat := (N : Rat) / (((D : Int) : Rat) * ((tw 1074 : Int) : Rat))
theorem fl_un (x D : Nat) (hD : 0 < D) : fl x = un (sval x * (D : Int)) D := by
  unfold fl un
  have h1 := two_ne 1074
  have h2 : ((D : Int) : Rat) ≠ 0 := by
    intro e
    have h : (D : Int) = 0 := by exact_mod_cast e
    omega
  rw [Rat.intCast_mul]
  generalize ((tw 1074 : Int) : Rat) = T at *
  generalize ((D : Int) : Rat) = E at *
  grind
theorem un_le {N M : Int} {D : Nat} (hD : 0 < D) : un N D ≤ un M D ↔ N ≤ M := by
  have hT : (0 : Rat) < ((tw 1074 : Int) : Rat) := by exact_mod_cast two_pos 1074
  have hE : (0 : Rat) < ((D : Int) : Rat) := by
    have : (0 : Int) < (D : Int) := by omega
    exact_mod_cast this
  have hc : (0 : Rat) < ((D : Int) : Rat) * ((tw 1074 : Int) : Rat) := Rat.mul_pos hE hT
  unfold un
  rw [← rat_le_div hc]
  exact Rat.intCast_le_intCast
theorem un_eq {N M : Int} {D : Nat} (hD : 0 < D) : un N D = un M D ↔ N = M := by
  constructor
  · intro h
    have h1 := (un_le (N := N) (M := M) hD).1 (by rw [h]; exact Rat.le_refl)
    have h2 := (un_le (N := M) (M := N) hD).1 (by rw [h]; exact Rat.le_refl)
    omega
  · intro h; rw [h]
theorem bt_of {N : Int} {D d u : Nat} (hD : 0 < D) (h : Dn N D d) (k : Up N D u) : Bt (un N D) d u := by
  have hed : fl d = un N D ↔ sval d * (D : Int) = N := by rw [fl_un d D hD]; exact un_eq hD
  have heu : fl u = un N D ↔ sval u * (D : Int) = N := by rw [fl_un u D hD]; exact un_eq hD
  have hdu : mg d < 9218868437227405312 → sval d * (D : Int) = N → key d = key u := fun hf he => by
    have h1 := (exact_dn hD hf he).2
    have h2 := k.best d hf (by rw [he]; exact Int.le_refl _)
    rcases Nat.lt_or_eq_of_le k.le with hu | hu
    · have h3 := h1.best u hu (k.above hu)
      omega
    · have h4 := k.inf hu
      exfalso
      have h5 : key u = 9218868437227405312 := by unfold key; rw [h4, hu]; rfl
      have h6 : key d < 9218868437227405312 := by unfold key; split <;> omega
      omega
  have hud : mg u < 9218868437227405312 → sval u * (D : Int) = N → key d = key u := fun hf he => by
    have h1 := (exact_dn hD hf he).1
    have h2 := h.best u hf (by rw [he]; exact Int.le_refl _)
    rcases Nat.lt_or_eq_of_le h.le with hu | hu
    · have h3 := h1.best d hu (h.below hu)
      omega
    · have h4 := h.inf hu
      exfalso
      have h5 : key d = -9218868437227405312 := by unfold key; rw [h4, hu]; rfl
      have h6 : -9218868437227405312 < key u := by unfold key; split <;> omega
      omega
  have hkk : key d = key u → mg d < 9218868437227405312 ∧ mg u < 9218868437227405312 ∧ sval d * (D : Int) = N ∧ sval u * (D : Int) = N := fun e => by
    have hdf : mg d < 9218868437227405312 := by
      rcases Nat.lt_or_eq_of_le h.le with hu | hu
      · exact hu
      · exfalso
        have h4 := h.inf hu
        have h5 : key d = -9218868437227405312 := by unfold key; rw [h4, hu]; rfl
        rcases Nat.lt_or_eq_of_le k.le with hv | hv
        · have h6 : -9218868437227405312 < key u := by unfold key; split <;> omega
          omega
        · have h7 := k.inf hv
          have h8 : key u = 9218868437227405312 := by unfold key; rw [h7, hv]; rfl
          omega
    have huf := key_fin hdf e k.le
    have hs := sval_key.2 e
    have h1 := h.below hdf
    have h2 := k.above huf
    rw [hs] at h1
    refine ⟨hdf, huf, ?_, ?_⟩
    · rw [hs]; omega
    · omega
  refine ⟨h.le, k.le, h.inf, k.inf, fun hf => ?_, fun hf => ?_, ⟨fun ⟨hf, he⟩ => ?_, fun ⟨hf, he⟩ => ?_⟩, ⟨fun ⟨hf, he⟩ => hdu hf (hed.1 he), fun e => ?_⟩⟩
  · rw [fl_un d D hD]; exact (un_le hD).2 (h.below hf)
  · rw [fl_un u D hD]; exact (un_le hD).2 (k.above hf)
  · have := hkk (hdu hf (hed.1 he)); exact ⟨this.2.1, heu.2 this.2.2.2⟩
  · have := hkk (hud hf (heu.1 he)); exact ⟨this.1, hed.2 this.2.2.1⟩
  · have := hkk e; exact ⟨this.1, hed.2 this.2.2.1⟩
end Go.Proofs.YtghcoijinihlnaaGreat
namespace Go.Proofs.YtghcoijinihlnaaGreat
open Go.RowKit Nb Fl Ieee
theorem lohi_lt {o : Nat} (l : Nat) (ho : o < 18446744073709551616) (hm : mg o ≤ 9218868437227405312) : lo o l < 18446744073709551616 ∧ hi o l < 18446744073709551616 := by
  rcases lohi_cases o l hm with ⟨e1, e2⟩ | ⟨k, hk, _, e1, e2⟩
  · rw [e1, e2]; exact ⟨ho, ho⟩
  · rw [e1, e2]
    have h1 : (ng o).toNat ≤ 1 := Bool.toNat_le _
    have h2 : (!ng o).toNat ≤ 1 := Bool.toNat_le _
    exact ⟨word_lt64 _ _ (by omega), word_lt64 _ _ (by omega)⟩
theorem add_lt {a b r d u : Nat} (hr : double.add a b = some r) (h : AddIs a b r d u) : d < 18446744073709551616 ∧ u < 18446744073709551616 := by
  have ht := add_told hr
  rcases h with ⟨_, rfl, rfl⟩ | ⟨_, _, _, l, _, rfl, rfl⟩
  · exact ⟨ht.2, ht.2⟩
  · exact lohi_lt l ht.2 ht.1
theorem op_lt {a b r d u : Nat} {L : Nat → Prop} (hr : mg r ≤ 9218868437227405312 ∧ r < 18446744073709551616) (h : OpIs a b r L d u) : d < 18446744073709551616 ∧ u < 18446744073709551616 := by
  rcases h with ⟨_, rfl, rfl⟩ | ⟨_, _, l, _, rfl, rfl⟩
  · exact ⟨hr.2, hr.2⟩
  · exact lohi_lt l hr.2 hr.1
theorem Bt.to {q p : Rat} {d u : Nat} (h : Bt q d u) (e : q = p) : Bt p d u := e ▸ h
/-- Two floats that lie round an exact result. -/
def Rd (q : Rat) (w : World) (e : Ending) (w' : World) : Prop := ∃ d u, e = .returned (.tuple #[.float .f64 d, .float .f64 u]) ∧ d < 18446744073709551616 ∧ u < 18446744073709551616 ∧ Bt q d u ∧ Below w.heap.size w w'
theorem un_sum (a b : Nat) : un (sval a + sval b) 1 = fl a + fl b := by
  unfold un fl
  have h1 := two_ne 1074
  rw [Rat.intCast_add, show (((1 : Nat) : Int) : Rat) = 1 from rfl]
  generalize ((tw 1074 : Int) : Rat) = T at *
  grind
theorem un_mul (a b : Nat) : un (sval a * sval b) (tw 1074) = fl a * fl b := by
  unfold un fl
  have h1 := two_ne 1074
  rw [Rat.intCast_mul]
  generalize ((tw 1074 : Int) : Rat) = T at *
  grind
theorem un_quo {a b E : Nat} (hE : E = 1074) (hb : 0 < mg b) : un (qnum a b E) (uval (mg b)) = fl a / fl b := by
  have he : (2 ^ E : Nat) = tw 1074 := by rw [← hE]; rfl
  have h1 := two_ne 1074
  have hu := uval_pos hb
  have h2 : ((uval (mg b) : Int) : Rat) ≠ 0 := by
    intro e
    have h : (uval (mg b) : Int) = 0 := by exact_mod_cast e
    omega
  unfold un fl qnum sval
  rw [he]
  generalize (tw 1074 : Int) = T at *
  generalize (uval (mg b) : Int) = B at *
  generalize (if ng a = true then -(uval (mg a) : Int) else (uval (mg a) : Int)) = A at *
  cases ng b
  · simp only [Bool.false_eq_true, if_false, Rat.intCast_mul]
    grind
  · simp only [if_true, Rat.intCast_mul, Rat.intCast_neg]
    grind
theorem mul_fop {x y s : Nat} (h : double.mul x y = some s) (w : World) : fop .mul x y w = s := (fop_some (op := .mul) h w).1
theorem quo_fop {x y s : Nat} (h : double.div x y = some s) (w : World) : fop .quo x y w = s := (fop_some (op := .quo) h w).1
theorem fl_ngf {b : Nat} (hb : b < 18446744073709551616) : fl (ngf b) = - fl b := by
  unfold fl
  rw [sval_ngf hb, Rat.intCast_neg]
  generalize ((tw 1074 : Int) : Rat) = T
  rw [Rat.div_def, Rat.div_def, Rat.neg_mul]
section
variable {a b : Nat} {w : World}
theorem rd_add (ha : a < 18446744073709551616) (hb : b < 18446744073709551616) (fa : mg a < 9218868437227405312) (fb : mg b < 9218868437227405312) :
    Calls Tryz.prog 52 #[.float .f64 a, .float .f64 b] w (Rd (fl a + fl b) w) := by
  obtain ⟨r, hr⟩ := add_fin fa fb
  refine (add_any a b w ha hb).mono ?_
  rintro _ w1 ⟨d, u, rfl, hb1, h⟩
  rw [(add_fop hr w).1] at h
  have h1 := add_dn ha hb fa fb hr h
  have h2 := add_lt hr h
  exact ⟨d, u, rfl, h2.1, h2.2, (bt_of (by decide) h1.1 h1.2).to (un_sum a b), hb1⟩
theorem rd_sub (ha : a < 18446744073709551616) (hb : b < 18446744073709551616) (fa : mg a < 9218868437227405312) (fb : mg b < 9218868437227405312) :
    Calls Tryz.prog 56 #[.float .f64 a, .float .f64 b] w (Rd (fl a - fl b) w) := by
  have fb' : mg (ngf b) < 9218868437227405312 := by rw [(ngf_is hb).1]; exact fb
  obtain ⟨r, hr⟩ := add_fin fa fb'
  refine (sub_any a b w ha hb).mono ?_
  rintro _ w1 ⟨d, u, rfl, hb1, h⟩
  rw [(add_fop hr w).1] at h
  have h1 := add_dn ha (ngf_lt hb) fa fb' hr h
  have h2 := add_lt hr h
  exact ⟨d, u, rfl, h2.1, h2.2, (bt_of (by decide) h1.1 h1.2).to (by rw [un_sum, fl_ngf hb, Rat.sub_eq_add_neg]), hb1⟩
theorem rd_mul (ha : a < 18446744073709551616) (hb : b < 18446744073709551616) (fa : mg a < 9218868437227405312) (fb : mg b < 9218868437227405312) :
    Calls Tryz.prog 60 #[.float .f64 a, .float .f64 b] w (Rd (fl a * fl b) w) := by
  obtain ⟨r, hr⟩ := mul_fin fa fb
  refine (mul_any a b w ha hb).mono ?_
  rintro _ w1 ⟨d, u, rfl, hb1, h⟩
  rw [mul_fop hr w] at h
  obtain ⟨E, hE⟩ : ∃ E : Nat, E = 1074 := ⟨_, rfl⟩
  have h1 := mul_dn hE ha fa fb hr h
  have h2 := op_lt (mul_told hr) h
  have e : un (sval a * sval b) (2 ^ E) = fl a * fl b := by rw [show (2 ^ E : Nat) = tw 1074 by rw [← hE]; rfl]; exact un_mul a b
  exact ⟨d, u, rfl, h2.1, h2.2, (bt_of (Nat.two_pow_pos E) h1.1 h1.2).to e, hb1⟩
theorem rd_quo (ha : a < 18446744073709551616) (hb : b < 18446744073709551616) (fa : mg a < 9218868437227405312) (fb : mg b < 9218868437227405312) (b0 : 0 < mg b) :
    Calls Tryz.prog 29 #[.float .f64 a, .float .f64 b] w (Rd (fl a / fl b) w) := by
  obtain ⟨r, hr⟩ := div_fin fa fb b0
  refine (quo_any a b w ha hb).mono ?_
  rintro _ w1 ⟨d, u, rfl, hb1, h⟩
  rw [quo_fop hr w] at h
  obtain ⟨E, hE⟩ : ∃ E : Nat, E = 1074 := ⟨_, rfl⟩
  have h1 := quo_dn hE fa fb b0 hr h
  have h2 := op_lt (div_told hr) h
  have e := un_quo (a := a) hE b0
  exact ⟨d, u, rfl, h2.1, h2.2, (bt_of (uval_pos b0) h1.1 h1.2).to e, hb1⟩
end
theorem sqrt_nought {a s : Nat} (a0 : mg a = 0) (hm : double.sqrt a = some s) : mg s = 0 := by
  obtain ⟨M, P, e1, p1, v1⟩ := read_fin a (by omega)
  have hM : M = 0 := by
    rw [a0, uval_zero] at v1
    rcases Nat.mul_eq_zero.1 v1 with g | g
    · exact g
    · have := Nat.two_pow_pos (P + 1074).toNat; omega
  subst hM
  unfold Format.sqrt at hm
  rw [e1] at hm
  simp only [Datum.root, if_true, Option.map_some] at hm
  cases hm
  show mg (double.nearest _ _ _) = 0
  unfold Format.nearest
  rw [if_pos (by decide)]
  exact (word_mg _ 0 (by omega)).1
/-- Two floats that lie round a root: their squares lie round the number. -/
structure Sr (q : Rat) (d u : Nat) : Prop where
  fd : mg d < 9218868437227405312
  fu : mg u < 9218868437227405312
  d64 : d < 18446744073709551616
  u64 : u < 18446744073709551616
  low : fl d * fl d ≤ q
  high : q ≤ fl u * fl u
  one : fl d * fl d = q ↔ key d = key u
  two : fl u * fl u = q ↔ key d = key u
def sqv (M : Nat) : Rat := ((M : Int) : Rat) / (((tw 1074 : Int) : Rat) * ((tw 1074 : Int) : Rat))
theorem tt_pos : (0 : Rat) < ((tw 1074 : Int) : Rat) * ((tw 1074 : Int) : Rat) := by
  have hT : (0 : Rat) < ((tw 1074 : Int) : Rat) := by exact_mod_cast two_pos 1074
  exact Rat.mul_pos hT hT
theorem sqv_le {M N : Nat} : sqv M ≤ sqv N ↔ M ≤ N := by
  unfold sqv
  rw [← rat_le_div tt_pos, Rat.intCast_le_intCast]
  omega
theorem sqv_eq {M N : Nat} : sqv M = sqv N ↔ M = N := by
  constructor
  · intro h
    have h1 := (sqv_le (M := M) (N := N)).1 (by rw [h]; exact Rat.le_refl)
    have h2 := (sqv_le (M := N) (N := M)).1 (by rw [h]; exact Rat.le_refl)
    omega
  · intro h; rw [h]
theorem fl_sq (x : Nat) : fl x * fl x = sqv (uval (mg x) * uval (mg x)) := by
  have h1 := two_ne 1074
  have e : ((uval (mg x) * uval (mg x) : Nat) : Int) = sval x * sval x := by
    unfold sval
    cases ng x
    · simp
    · simp only [if_true, Int.natCast_mul, Int.neg_mul_neg]
  unfold sqv
  rw [e]
  unfold fl
  rw [Rat.intCast_mul]
  generalize ((tw 1074 : Int) : Rat) = T at *
  grind
theorem fl_pos {x : Nat} (h : ng x = false) : fl x = sqv (uval (mg x) * tw 1074) := by
  have h1 := two_ne 1074
  unfold sqv fl sval
  rw [h]
  simp only [Bool.false_eq_true, if_false, Int.natCast_mul, Rat.intCast_mul]
  generalize ((tw 1074 : Int) : Rat) = T at *
  grind
theorem fl_zero {x : Nat} (h : mg x = 0) : fl x = 0 := by
  unfold fl sval
  rw [h, uval_zero]
  cases ng x <;> simp [Rat.div_def]
theorem rd_sqrt {a : Nat} {w : World} (ha : a < 18446744073709551616) (fa : mg a < 9218868437227405312) (na : ng a = false ∨ mg a = 0) :
    Calls Tryz.prog 31 #[.float .f64 a] w (fun e w' => ∃ d u, e = .returned (.tuple #[.float .f64 d, .float .f64 u]) ∧ Sr (fl a) d u ∧ Below w.heap.size w w') := by
  obtain ⟨s, hs⟩ := sqrt_fin fa na
  have hw : sqw a w = s := by unfold sqw; rw [hs]; rfl
  refine (sqrtd_any a w ha).mono ?_
  rintro _ w1 ⟨d, u, rfl, hb, h⟩
  rw [hw] at h
  refine ⟨d, u, rfl, ?_, hb⟩
  rcases Nat.eq_zero_or_pos (mg a) with a0 | a0
  · have hz := sqrt_nought a0 hs
    have hd : d = s ∧ u = s := by
      rcases h with ⟨_, h1, h2⟩ | ⟨h1, _⟩
      · exact ⟨h1, h2⟩
      · exact absurd h1.1 (by omega)
    obtain ⟨e5, e6⟩ := hd
    rw [e5, e6]
    have h64 := (sqrt_told hs).2
    have e1 : fl a = 0 := fl_zero a0
    have e2 : fl s = 0 := fl_zero hz
    have e3 : fl s * fl s = fl a := by rw [e1, e2]; decide +kernel
    exact ⟨by omega, by omega, h64, h64, by rw [e3]; exact Rat.le_refl, by rw [e3]; exact Rat.le_refl, ⟨fun _ => rfl, fun _ => e3⟩, ⟨fun _ => rfl, fun _ => e3⟩⟩
  · have hn : ng a = false := by
      rcases na with h1 | h1
      · exact h1
      · omega
    obtain ⟨E, hE⟩ : ∃ E : Nat, E = 1074 := ⟨_, rfl⟩
    have hq := sqrt_sq hE ha ⟨a0, fa⟩ hn hs h
    have e1 : fl a = sqv (uval (mg a) * 2 ^ E) := by rw [fl_pos hn, ← hE]; rfl
    rw [e1]
    obtain ⟨h1, h2, h3, h4, h5, h6, h7⟩ := hq
    have kd : key d = (mg d : Int) := by unfold key; rw [h3]; rfl
    have ku : key u = (mg u : Int) := by unfold key; rw [h4]; rfl
    generalize uval (mg a) * 2 ^ E = V at *
    rcases h7 with ⟨rfl, h8⟩ | ⟨h8, h9, h10⟩
    · have e3 : fl u * fl u = sqv V := by rw [fl_sq, h8]
      exact ⟨h1, h2, h5, h6, by rw [e3]; exact Rat.le_refl, by rw [e3]; exact Rat.le_refl, ⟨fun _ => rfl, fun _ => e3⟩, ⟨fun _ => rfl, fun _ => e3⟩⟩
    · have hk : ¬ key d = key u := by rw [kd, ku]; omega
      exact ⟨h1, h2, h5, h6, by rw [fl_sq]; exact sqv_le.2 (by omega), by rw [fl_sq]; exact sqv_le.2 (by omega), ⟨fun e => absurd (sqv_eq.1 ((fl_sq d).symm.trans e)) (by omega), fun e => absurd e hk⟩, ⟨fun e => absurd (sqv_eq.1 ((fl_sq u).symm.trans e)) (by omega), fun e => absurd e hk⟩⟩
end Go.Proofs.YtghcoijinihlnaaGreat
