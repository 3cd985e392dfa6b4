/-
  What a sum has lost is a float, and Two reckons it exactly. Condition: the sum is finite.
-/
import Derived.Test.YtghcoijinihlnaaTur
namespace Go.Proofs.Ytghcoijinihlnaa.Fl
open Ieee
/-- R is the rung nearest to n units; between two the even one. -/
def Nr (n R : Nat) : Prop := 2 * n ≤ uval R + uval (R + 1) ∧ (2 * n = uval R + uval (R + 1) → R % 2 = 0) ∧ ∀ Q, R = Q + 1 → uval Q + uval R ≤ 2 * n ∧ (uval Q + uval R = 2 * n → R % 2 = 0)
theorem nr_of {m : Nat} {p : Int} {R n A : Nat} (h : NearR m p R) (hA : (A : Int) = p + 1074) (hn : m * 2 ^ A = n) : Nr n R := by
  have k := h A 0 (by omega)
  rw [hn, Nat.pow_zero, Nat.mul_one] at k
  refine ⟨k.1, k.2.1, fun Q hQ => ?_⟩
  have k2 := k.2.2 Q hQ
  rw [Nat.mul_one] at k2
  exact k2
theorem nr_near {n R : Nat} (h : Nr n R) : NearR n (-1074) R := by
  intro A B hab
  obtain rfl : A = B := by omega
  have hA := Nat.two_pow_pos A
  have e : 2 * (n * 2 ^ A) = 2 * n * 2 ^ A := by rw [Nat.mul_assoc]
  rw [e]
  refine ⟨Nat.mul_le_mul_right _ h.1, fun g => h.2.1 (Nat.eq_of_mul_eq_mul_right hA g), fun Q hQ => ?_⟩
  have k := h.2.2 Q hQ
  exact ⟨Nat.mul_le_mul_right _ k.1, fun g => k.2 (Nat.eq_of_mul_eq_mul_right hA g)⟩
theorem nr_unique {n R S : Nat} (h : Nr n R) (k : Nr n S) : R = S := nearR_unique (nr_near h) (nr_near k)
theorem nr_exact (R : Nat) : Nr (uval R) R := by
  have s := uval_step R
  refine ⟨by omega, fun h => by omega, fun Q hQ => ?_⟩
  subst hQ
  have t := uval_step Q
  exact ⟨by omega, fun h => by omega⟩
theorem nr_mono {n m R S : Nat} (h : Nr n R) (k : Nr m S) (hle : n ≤ m) : R ≤ S := nearR_mono (nr_near h) (nr_near k) 0 0 0 0 (by omega) (by omega) (by simpa using hle)
theorem uval_le {m n : Nat} (h : m ≤ n) : uval m ≤ uval n := by
  rcases Nat.lt_or_eq_of_le h with g | g
  · exact Nat.le_of_lt (uval_lt g)
  · rw [g]; exact Nat.le_refl _
/-- No float is nearer. -/
theorem nr_best {n R : Nat} (h : Nr n R) (Q : Nat) : ((n : Int) - uval R).natAbs ≤ ((n : Int) - uval Q).natAbs := by
  rcases Nat.lt_trichotomy Q R with g | g | g
  · obtain ⟨P, rfl⟩ : ∃ P, R = P + 1 := ⟨R - 1, by omega⟩
    have h1 := (h.2.2 P rfl).1
    have h2 := uval_le (show Q ≤ P by omega)
    have h3 := uval_step P
    omega
  · rw [g]; exact Nat.le_refl _
  · have h1 := h.1
    have h2 := uval_le (show R + 1 ≤ Q by omega)
    have h3 := uval_step R
    omega
/-- A float's size (of whatever exponent). -/
def Rep (n : Nat) : Prop := ∃ R, uval R = n
theorem rep_of {k e : Nat} (h : k < 9007199254740992) : Rep (k * 2 ^ e) := uval_surj e k h
theorem rep_zero : Rep 0 := ⟨0, uval_small (by omega)⟩
theorem rep_form {n : Nat} (h : Rep n) : ∃ e k, k < 9007199254740992 ∧ n = k * 2 ^ e ∧ (e = 0 ∨ 4503599627370496 ≤ k) := by
  obtain ⟨R, rfl⟩ := h
  unfold uval
  by_cases h : R < 4503599627370496
  · exact ⟨0, R, by omega, by rw [if_pos h]; simp, .inl rfl⟩
  · exact ⟨R / 4503599627370496 - 1, 4503599627370496 + R % 4503599627370496, by omega, by rw [if_neg h], .inr (by omega)⟩
theorem nr_rep {n R : Nat} (h : Nr n R) (k : Rep n) : uval R = n := by
  obtain ⟨S, rfl⟩ := k
  rw [nr_unique h (nr_exact S)]
theorem form_le {kx ex ky ey : Nat} (hx : kx < 9007199254740992) (hy : ey = 0 ∨ 4503599627370496 ≤ ky) (h : ky * 2 ^ ey ≤ kx * 2 ^ ex) (_h0 : 0 < kx) : ey ≤ ex := by
  rcases Nat.lt_or_ge ex ey with g | g
  · exfalso
    have hk : 4503599627370496 ≤ ky := by omega
    have h1 : kx * 2 ^ ex < 9007199254740992 * 2 ^ ex := Nat.mul_lt_mul_of_pos_right hx (Nat.two_pow_pos _)
    have h2 : 4503599627370496 * 2 ^ ey ≤ ky * 2 ^ ey := Nat.mul_le_mul_right _ hk
    have h3 : 2 ^ (ex + 1) ≤ 2 ^ ey := Nat.pow_le_pow_right (by omega) g
    rw [Nat.pow_succ] at h3
    omega
  · exact g
theorem sterbenz {X Y : Nat} (hX : Rep X) (hY : Rep Y) (h1 : Y ≤ X) (h2 : X ≤ 2 * Y) : Rep (X - Y) := by
  obtain ⟨ex, kx, bx, rfl, _⟩ := rep_form hX
  obtain ⟨ey, ky, bY, rfl, cy⟩ := rep_form hY
  rcases Nat.eq_zero_or_pos kx with h0 | h0
  · subst h0; simpa using rep_zero
  · have he := form_le bx cy h1 h0
    obtain ⟨d, rfl⟩ : ∃ d, ex = ey + d := ⟨ex - ey, by omega⟩
    have e1 : kx * 2 ^ (ey + d) = kx * 2 ^ d * 2 ^ ey := by rw [Nat.pow_add, Nat.mul_comm (2 ^ ey), Nat.mul_assoc]
    rw [e1] at h1 h2 ⊢
    rw [← Nat.sub_mul]
    refine rep_of ?_
    have hp := Nat.two_pow_pos ey
    have h3 : kx * 2 ^ d ≤ 2 * ky := by
      refine Nat.le_of_mul_le_mul_right ?_ hp
      rw [Nat.mul_assoc 2]; exact h2
    omega
/-- Both floats that a fast sum needs, where the greater one is above nought. -/
theorem fast_two {A : Nat} {B : Int} {R : Nat} (hA : Rep A) (hB : Rep B.natAbs) (hle : B.natAbs ≤ A) (h : Nr (A + B).natAbs R) : Rep ((uval R : Int) - A).natAbs ∧ Rep ((A : Int) + B - uval R).natAbs ∧ ((A : Int) + B - uval R).natAbs ≤ B.natAbs := by
  obtain ⟨a, ha⟩ := hA
  obtain ⟨S, hS⟩ : ∃ S : Nat, (A : Int) + B = S := ⟨(A + B).toNat, by omega⟩
  rw [hS] at h ⊢
  rw [Int.natAbs_natCast] at h
  have hbest : ((S : Int) - uval R).natAbs ≤ B.natAbs := by
    have := nr_best h a
    rw [ha] at this
    omega
  refine ⟨?_, ?_, hbest⟩
  · rcases Int.lt_or_le B 0 with hb | hb
    · by_cases h2 : A < 2 * B.natAbs
      · have hr : Rep S := by
          have := sterbenz ⟨a, ha⟩ hB hle (by omega)
          rw [show A - B.natAbs = S by omega] at this
          exact this
        rw [nr_rep h hr]
        rw [show ((S : Int) - A).natAbs = B.natAbs by omega]; exact hB
      · have hRA : uval R ≤ A := by
          have := nr_mono h (by rw [← ha]; exact nr_exact a : Nr A a) (by omega)
          rw [← ha]; exact uval_le this
        have hAR : A ≤ 2 * uval R := by
          by_cases h53 : S < 9007199254740992
          · have hr : Rep S := by simpa using rep_of (e := 0) h53
            rw [nr_rep h hr]; omega
          · obtain ⟨e, k, hk, hke, hc⟩ := rep_form (⟨a, ha⟩ : Rep A)
            obtain ⟨f, rfl⟩ : ∃ f, e = f + 1 := by
              rcases e with _ | f
              · exfalso; simp at hke; omega
              · exact ⟨f, rfl⟩
            obtain ⟨T, hT⟩ := uval_surj f k hk
            have h3 : 2 * uval T = A := by
              have e9 : k * 2 ^ (f + 1) = k * 2 ^ f * 2 := by rw [Nat.pow_succ, Nat.mul_assoc]
              rw [hT, hke, e9]; omega
            have := uval_le (nr_mono (nr_exact T) h (by omega))
            omega
        have := sterbenz ⟨a, ha⟩ ⟨R, rfl⟩ hRA hAR
        rw [show ((uval R : Int) - A).natAbs = A - uval R by omega]; exact this
    · have hAR : A ≤ uval R := by
        have := nr_mono (by rw [← ha]; exact nr_exact a : Nr A a) h (by omega)
        rw [← ha]; exact uval_le this
      have hR2 : uval R ≤ 2 * A := by
        obtain ⟨e, k, hk, hke, hc⟩ := rep_form (⟨a, ha⟩ : Rep A)
        obtain ⟨T, hT⟩ := uval_surj (e + 1) k hk
        have h3 : uval T = 2 * A := by
          have e9 : k * 2 ^ (e + 1) = k * 2 ^ e * 2 := by rw [Nat.pow_succ, Nat.mul_assoc]
          rw [hT, hke, e9]; omega
        have := uval_le (nr_mono h (nr_exact T) (by omega))
        omega
      have := sterbenz ⟨R, rfl⟩ ⟨a, ha⟩ hAR hR2
      rw [show ((uval R : Int) - A).natAbs = uval R - A by omega]; exact this
  · obtain ⟨ea, ka, bka, hka, ca⟩ := rep_form (⟨a, ha⟩ : Rep A)
    obtain ⟨eb, kb, bkb, hkb, cb⟩ := rep_form hB
    rcases Nat.eq_zero_or_pos A with h0 | h0
    · have : S = 0 := by omega
      subst this
      rw [nr_rep h rep_zero]; simpa using rep_zero
    · have hka0 : 0 < ka := by
        rcases Nat.eq_zero_or_pos ka with h | h
        · subst h; simp at hka; omega
        · exact h
      have hee := form_le bka cb (by rw [← hka, ← hkb]; exact hle) hka0
      obtain ⟨d, rfl⟩ : ∃ d, ea = eb + d := ⟨ea - eb, by omega⟩
      have hp := Nat.two_pow_pos eb
      have e1 : A = ka * 2 ^ d * 2 ^ eb := by rw [hka, Nat.pow_add, Nat.mul_comm (2 ^ eb), Nat.mul_assoc]
      obtain ⟨m, hm⟩ : ∃ m, S = m * 2 ^ eb := by
        rcases Int.lt_or_le B 0 with hb | hb
        · exact ⟨ka * 2 ^ d - kb, by rw [Nat.sub_mul, ← e1, ← hkb]; omega⟩
        · exact ⟨ka * 2 ^ d + kb, by rw [Nat.add_mul, ← e1, ← hkb]; omega⟩
      by_cases h53 : m < 9007199254740992
      · rw [nr_rep h (by rw [hm]; exact rep_of h53)]; simpa using rep_zero
      · have hlow : 9007199254740992 * 2 ^ eb ≤ uval R := by
          obtain ⟨T, hT⟩ := uval_surj (eb + 1) 4503599627370496 (by omega)
          have h3 : uval T = 9007199254740992 * 2 ^ eb := by rw [hT, Nat.pow_succ]; omega
          have h4 : 9007199254740992 * 2 ^ eb ≤ S := by rw [hm]; exact Nat.mul_le_mul_right _ (by omega)
          have := uval_le (nr_mono (nr_exact T) h (by omega))
          omega
        obtain ⟨er, kr, bkr, hkr, cr⟩ := rep_form (⟨R, rfl⟩ : Rep (uval R))
        have her : eb ≤ er := by
          rcases Nat.lt_or_ge er eb with g | g
          · exfalso
            have h1 : kr * 2 ^ er < 9007199254740992 * 2 ^ er := Nat.mul_lt_mul_of_pos_right bkr (Nat.two_pow_pos _)
            have h2 : 2 ^ er ≤ 2 ^ eb := Nat.pow_le_pow_right (by omega) (by omega)
            omega
          · exact g
        obtain ⟨f, rfl⟩ : ∃ f, er = eb + f := ⟨er - eb, by omega⟩
        have e2 : uval R = kr * 2 ^ f * 2 ^ eb := by rw [hkr, Nat.pow_add, Nat.mul_comm (2 ^ eb), Nat.mul_assoc]
        rw [hkb] at hbest
        rw [hm, e2] at hbest ⊢
        have e3 : (((m * 2 ^ eb : Nat) : Int) - ((kr * 2 ^ f * 2 ^ eb : Nat) : Int)).natAbs = ((m : Int) - (kr * 2 ^ f : Nat)).natAbs * 2 ^ eb := by
          rw [Int.natCast_mul m, Int.natCast_mul (kr * 2 ^ f), ← Int.sub_mul, Int.natAbs_mul, Int.natAbs_natCast]
        rw [e3] at hbest ⊢
        refine rep_of ?_
        have := Nat.le_of_mul_le_mul_right hbest hp
        omega
end Go.Proofs.Ytghcoijinihlnaa.Fl
