/-
  What the statements' own fixed reckoning returns: yes.
-/
import Derived.Test.YtchfnkfdopbflaaDoorFix
import Derived.Test.YtchfnkfdopbflaaDoorQuoRem
namespace Go.Proofs.YtchfnkfdopbflaaDoor
open Go.RowKit Nb

theorem fits_of {Z : Int} (hz : Z.natAbs < 2 ^ 100) (k : Nat) (hk : 4 ≤ k) : Z.natAbs < W32 ^ k := by
  have h4 : (2 : Nat) ^ 100 ≤ W32 ^ 4 := by decide
  exact Nat.lt_of_lt_of_le (Nat.lt_of_lt_of_le hz h4) (Nat.pow_le_pow_right (by decide) hk)
theorem fits_small {Z : Int} (hz : Z.natAbs < 2 ^ 100) : Fits Z := fits_of hz 2048 (by omega)
theorem says_fix {Z : Int} {n : Bool} {ls : List Nat} {er : Int} (hs : Says Z n ls er) (hz : Z.natAbs < 2 ^ 100) : er = 0 ∧ sv n (val W32 ls) = Z := by
  rcases hs with ⟨_, h1, h2⟩ | ⟨h, _⟩
  · exact ⟨h1, h2⟩
  · exact absurd (fits_small hz) h

theorem Held.fresh {W : World} {n : Bool} {A : Option Addr} {ls : List Nat} {c : Nat} (h : Lm W n A ls c) : Held (W.alloc (.cells #[.bool n, .slice A ls.length c] 24)) W.heap.size n A ls c :=
  ⟨by simp, by go_cell, by go_cell, h.below ((Below.refl _ _).alloc (Nat.le_refl _) _)⟩
theorem lm_nil {w : World} {A : Option Addr} {ls : List Nat} {n : Bool} {c : Nat} (h : Lm w n A ls c) (hv : sv n (val W32 ls) = 0) : ls = [] := by
  refine (norm_zero (B := W32) (by decide) h.ok.norm).1 ?_
  have := sv_abs n (val W32 ls)
  rw [hv] at this
  simpa using this.symm
theorem lm_ne {ls : List Nat} {n : Bool} {z : Int} (hv : sv n (val W32 ls) = z) (hz : z ≠ 0) : ls ≠ [] := by
  rintro rfl
  apply hz
  rw [← hv]
  cases n <;> rfl
theorem pair_keep {W8 W1 W2 : World} {p q : Nat} {u0 u1 u2 u3 : Value} (lp : p < W8.heap.size) (lq : q < W8.heap.size) (h : Below W8.heap.size W8 W1 ∧ W1.cell? ⟨p, 0, none⟩ = some u0 ∧ W1.cell? ⟨p, 1, none⟩ = some u1 ∧ W1.cell? ⟨q, 0, none⟩ = some u2 ∧ W1.cell? ⟨q, 1, none⟩ = some u3) (hb : Below W1.heap.size W1 W2) :
    Below W8.heap.size W8 W2 ∧ W2.cell? ⟨p, 0, none⟩ = some u0 ∧ W2.cell? ⟨p, 1, none⟩ = some u1 ∧ W2.cell? ⟨q, 0, none⟩ = some u2 ∧ W2.cell? ⟨q, 1, none⟩ = some u3 := by
  have l4 := Nat.lt_of_lt_of_le lp h.1.size
  have l5 := Nat.lt_of_lt_of_le lq h.1.size
  exact ⟨h.1.trans (hb.mono h.1.size), (hb.cell (p := ⟨_, 0, none⟩) l4).trans h.2.1, (hb.cell (p := ⟨_, 1, none⟩) l4).trans h.2.2.1, (hb.cell (p := ⟨_, 0, none⟩) l5).trans h.2.2.2.1, (hb.cell (p := ⟨_, 1, none⟩) l5).trans h.2.2.2.2⟩
set_option maxHeartbeats 1000000 in
theorem alive_any (w : World) (htab : Tab w) : Calls Tryd.prog 20 #[] w fun e w' => e = .returned (.bool true) ∧ Below w.heap.size w w' := by
  have HT := Lib.hid htab
  clear htab
  go_enter Tryd.func20, Tryd.ntmps20
  go_wp2_with fail
  refine (of_fix (-4294967296) true w (by omega) (by omega) rfl).mono ?_
  rintro e w1 ⟨A1, c1, l1, rfl, m1, v1, z1, b1⟩
  go_wp2_with fail
  refine (of_fix 4294967296 false w1 (by omega) (by omega) rfl).mono ?_
  rintro e w2 ⟨A2, c2, l2, rfl, m2, v2, z2, b2⟩
  go_wp2_with fail
  have m1 := m1.below b2
  refine (wmul_any true false A1 A2 l1 l2 c1 c2 w2 m1.sl m2.sl m1.dig m2.dig m1.sz m2.sz).mono ?_
  rw [v1, v2]
  rintro e w3 ⟨n3, A3, l3, c3, er3, rfl, m3, hs3, b3⟩
  obtain ⟨rfl, v3⟩ : er3 = 0 ∧ sv n3 (val W32 l3) = -18446744073709551616 := by
    rcases hs3 with ⟨_, h⟩ | ⟨h, _⟩
    · exact says_fix h (by decide)
    · exact absurd ⟨m1.ok, m2.ok⟩ h
  have B3 := b1.trans ((b2.trans (b3.mono b2.size)).mono b1.size)
  clear hs3 m1 m2 v1 v2 z1 z2 b1 b2 b3
  have K3 := Held.fresh m3
  have B3 := B3.alloc B3.size (.cells #[.bool n3, .slice A3 l3.length c3] 24)
  go_wp2_with fail
  generalize (w3.alloc (.cells #[.bool n3, .slice A3 l3.length c3] 24)) = W at *
  refine (of_fix (-7) true _ (by omega) (by omega) rfl).mono ?_
  rintro e w1 ⟨A1, c1, l1, rfl, m1, v1, z1, b1⟩
  go_wp2_with fail
  refine (of_fix 2 false w1 (by omega) (by omega) rfl).mono ?_
  rintro e w2 ⟨A2, c2, l2, rfl, m2, v2, z2, b2⟩
  go_wp2_with fail
  have m1 := m1.below b2
  refine (wquorem_any true false A1 A2 l1 l2 c1 c2 w2 m1.sl m2.sl m1.dig m2.dig m1.sz m2.sz (hq_word m1.dig m2.dig z2)).mono ?_
  rw [v1, v2]
  rintro e w4 ⟨n4, A4, l4, c4, n5, A5, l5, c5, er4, rfl, m4, m5, hs4, b4⟩
  obtain ⟨rfl, v4, v5⟩ : er4 = 0 ∧ sv n4 (val W32 l4) = -3 ∧ sv n5 (val W32 l5) = -1 := by
    rcases hs4 with ⟨_, h⟩ | ⟨h, _⟩
    · exact h
    · exact absurd ⟨m1.ok, m2.ok, lm_ne v2 (by decide)⟩ h
  have B4 := b1.trans ((b2.trans (b4.mono b2.size)).mono b1.size)
  clear hs4 m1 m2 v1 v2 z1 z2 b1 b2 b4
  have B4' : Below W.heap.size W ((w4.alloc (.cells #[.bool n4, .slice A4 l4.length c4] 24)).alloc (.cells #[.bool n5, .slice A5 l5.length c5] 24)) := (B4.alloc B4.size _).alloc (by have := B4.size; simp; omega) _
  have K4 := (Held.fresh m4).on (W' := (w4.alloc (.cells #[.bool n4, .slice A4 l4.length c4] 24)).alloc (.cells #[.bool n5, .slice A5 l5.length c5] 24)) (by go_grown)
  have K5 := Held.fresh (W := w4.alloc (.cells #[.bool n4, .slice A4 l4.length c4] 24)) (m5.below (by go_grown))
  rw [World.size_alloc] at K5
  have K3 := K3.on B4'
  have B5 := B3.trans (B4'.mono B3.size)
  clear B3 B4 B4'
  go_wp2_with fail
  generalize ((w4.alloc (.cells #[.bool n4, .slice A4 l4.length c4] 24)).alloc (.cells #[.bool n5, .slice A5 l5.length c5] 24)) = W' at *
  refine (of_fix 7 false _ (by omega) (by omega) rfl).mono ?_
  rintro e w1 ⟨A1, c1, l1, rfl, m1, v1, z1, b1⟩
  go_wp2_with fail
  refine (of_fix 0 false w1 (by omega) (by omega) rfl).mono ?_
  rintro e w2 ⟨A2, c2, l2, rfl, m2, v2, z2, b2⟩
  go_wp2_with fail
  have m1 := m1.below b2
  have hn := lm_nil m2 v2
  refine (wquorem_any false false A1 A2 l1 l2 c1 c2 w2 m1.sl m2.sl m1.dig m2.dig m1.sz m2.sz (fun _ _ h => absurd hn h)).mono ?_
  rintro e w6 ⟨n6, A6, l6, c6, n7, A7, l7, c7, er6, rfl, m6, m7, hs6, b6⟩
  obtain rfl : er6 = 3 := by
    rcases hs6 with ⟨h, _⟩ | ⟨_, h, _⟩
    · exact absurd hn h.2.2
    · exact h.1 ⟨m1.ok, m2.ok⟩
  have B6 := b1.trans ((b2.trans (b6.mono b2.size)).mono b1.size)
  have B6' : Below W'.heap.size W' ((w6.alloc (.cells #[.bool n6, .slice A6 l6.length c6] 24)).alloc (.cells #[.bool n7, .slice A7 l7.length c7] 24)) := (B6.alloc B6.size _).alloc (by have := B6.size; simp; omega) _
  have K3 := K3.on B6'
  have K4 := K4.on B6'
  have K5 := K5.on B6'
  have B7 := B5.trans (B6'.mono B5.size)
  clear hs6 m1 m2 v1 v2 z1 z2 b1 b2 b6 hn m6 m7 B6 B6' B5
  have q0 := K3.c0
  have q1 := K3.c1
  go_wp2_with fail
  generalize ((w6.alloc (.cells #[.bool n6, .slice A6 l6.length c6] 24)).alloc (.cells #[.bool n7, .slice A7 l7.length c7] 24)) = W7 at *
  refine (wtext_pos n3 A3 l3 c3 W7 K3.lm.sl K3.lm.dig K3.lm.ok (List.length_pos_iff.2 (lm_ne v3 (by decide))) (tab_below HT.out B7)).mono ?_
  have ht : (⟨((if n3 then [45] else []) ++ Lib.decDigits (val W32 l3)).toArray⟩ : ByteArray) = ⟨#[45, 49, 56, 52, 52, 54, 55, 52, 52, 48, 55, 51, 55, 48, 57, 53, 53, 49, 54, 49, 54]⟩ := by
    have h := sv_abs n3 (val W32 l3)
    rw [v3] at h
    have h2 : val W32 l3 = 18446744073709551616 := h.symm
    have h3 : n3 = true := by
      cases n3 with
      | true => rfl
      | false => exfalso; unfold sv at v3; simp only [Bool.false_eq_true, if_false] at v3; omega
    rw [h2, h3]
    decide +kernel
  rw [ht]
  rintro e W8 ⟨rfl, b8⟩
  have K4 := K4.on b8
  have K5 := K5.on b8
  have B8 := B7.trans (b8.mono B7.size)
  clear q0 q1 b8 B7 ht K3 v3
  have q0 := K4.c0
  have q1 := K4.c1
  have q2 := K5.c0
  have q3 := K5.c1
  have F1 := Lib.hid (fun w => of_fix (-3) true w (by omega) (by omega) rfl)
  have F2 := Lib.hid (fun w => of_fix (-1) true w (by omega) (by omega) rfl)
  have C1 := Lib.hid (fun (W : World) (h : Below W8.heap.size W8 W) (A : Option Addr) (xs : List Nat) (c : Nat) (hm : Lm W true A xs c) (hv : sv true (val W32 xs) = -3) => wcmp_lm W (K4.lm.below h) hm 0 (by rw [v4, hv]; rfl))
  have C2 := Lib.hid (fun (W : World) (h : Below W8.heap.size W8 W) (A : Option Addr) (xs : List Nat) (c : Nat) (hm : Lm W true A xs c) (hv : sv true (val W32 xs) = -1) => wcmp_lm W (K5.lm.below h) hm 0 (by rw [v5, hv]; rfl))
  have C3 := Lib.hid (fun (W : World) (h : Below W8.heap.size W8 W) => wcmp_lm W (K4.lm.below h) (K5.lm.below h) (-1) (by rw [v4, v5]; rfl))
  have hall : Below W8.heap.size W8 W8 ∧ W8.cell? ⟨w4.heap.size, 0, none⟩ = some (.bool n4) ∧ W8.cell? ⟨w4.heap.size, 1, none⟩ = some (.slice A4 l4.length c4) ∧ W8.cell? ⟨w4.heap.size + 1, 0, none⟩ = some (.bool n5) ∧ W8.cell? ⟨w4.heap.size + 1, 1, none⟩ = some (.slice A5 l5.length c5) := ⟨Below.refl _ _, q0, q1, q2, q3⟩
  have HK4 := Lib.hid K4.lt
  have HK5 := Lib.hid K5.lt
  go_wp2_with fail
  go_region_held3 (fun W' => Below W8.heap.size W8 W' ∧ W'.cell? ⟨w4.heap.size, 0, none⟩ = some (.bool n4) ∧ W'.cell? ⟨w4.heap.size, 1, none⟩ = some (.slice A4 l4.length c4) ∧ W'.cell? ⟨w4.heap.size + 1, 0, none⟩ = some (.bool n5) ∧ W'.cell? ⟨w4.heap.size + 1, 1, none⟩ = some (.slice A5 l5.length c5))
    (first | exact hall | exact pair_keep HK4.out HK5.out hall ((Below.refl _ _).drew) | exact pair_keep HK4.out HK5.out (by assumption) (by assumption) | exact pair_keep HK4.out HK5.out (by assumption) ((Below.refl _ _).drew))
    (first
      | (go_at_call 32; with_reducible refine (F1.out _).mono ?_; rintro e wa ⟨A1, c1, l1, rfl, m1, v1, z1, hb⟩)
      | (go_at_call 32; with_reducible refine (F2.out _).mono ?_; rintro e wb ⟨A2, c2, l2, rfl, m2, v2, z2, hb⟩)
      | (go_at_call 27; (first | with_reducible refine (C1.out _ (And.left (by assumption)) _ _ _ (by first | exact m1 | exact m1.below (Below.refl _ _).drew) v1).mono ?_ | with_reducible refine (C2.out _ (And.left (by assumption)) _ _ _ (by first | exact m2 | exact m2.below (Below.refl _ _).drew) v2).mono ?_ | with_reducible refine (C3.out _ (And.left (by assumption))).mono ?_); rintro e wc ⟨rfl, hb⟩))
  all_goals
    go_wp2
    go_ret
    exact ⟨rfl, B8.trans (Below.mono (And.left (by assumption)) B8.size)⟩
end Go.Proofs.YtchfnkfdopbflaaDoor
