/-
  What the statement on shifts returns: yes. No conditions but that the list is a list of limbs, and that the table of powers lies where it lies.
-/
import Derived.Test.YtchfnkfdopbflaaDoorMay
import Derived.Test.YtchfnkfdopbflaaDoorWsh
import Derived.Test.YtchfnkfdopbflaaDoorDu
import Derived.Deep.RegionHeld3
namespace Go.Proofs.YtchfnkfdopbflaaDoor
open Go.RowKit Nb
set_option linter.unusedSimpArgs false

set_option maxHeartbeats 1000000 in
set_option maxRecDepth 100000 in
theorem may_all (g l n : Nat) (w : World) (hn : n ≤ 1000) (hk : ∀ i, i < n → ∃ (neg : Bool) (A : Option Addr) (k c : Nat), w.cell? ⟨g, i * 2, none⟩ = some (.bool neg) ∧ w.cell? ⟨g, i * 2 + 1, none⟩ = some (.slice A k c) ∧ Kind w neg A k true) :
    Calls Tryd.prog 21 #[.slice (some ⟨g, 0, none⟩) n l] w fun e w' => e = .returned (.bool true) ∧ Below w.heap.size w w' := by
  have HK := Lib.hid hk
  clear hk
  go_enter Tryd.func21, Tryd.ntmps21
  go_wp2
  go_loopw [3] (fun iv wr => ∃ k : Nat, k ≤ n ∧ iv = .int .i64 k ∧ wr = w) (fun iv _ => n - (intOf iv).toNat)
  case atStart => exact ⟨0, Nat.zero_le _, rfl, rfl⟩
  case round =>
    obtain ⟨k, hk, rfl, rfl⟩ := hrel
    by_cases hlt : k < n
    · obtain ⟨neg, A, j, c, p0, q0, k0⟩ := HK.out k hlt
      have hki : (k : Int) < (n : Int) := by omega
      cases k0 with
      | nought A =>
        go_wp2
        go_roundw
        case rel => exact ⟨k + 1, by omega, by go_num, by first | rfl | trivial⟩
        case measure => simp [intOf]; omega
      | good n' ad j x h1 h2 h3 =>
        go_wp2
        go_roundw
        case rel => exact ⟨k + 1, by omega, by go_num, by first | rfl | trivial⟩
        case measure => simp [intOf]; omega
    · obtain rfl : k = n := by omega
      go_wp2
      go_ret
      exact ⟨rfl, Below.refl _ _⟩
end Go.Proofs.YtchfnkfdopbflaaDoor

namespace Go.Proofs.YtchfnkfdopbflaaDoor
open Go.RowKit Nb
set_option linter.unusedSimpArgs false

theorem wshift_fall (n : Bool) (A : Option Addr) (xs : List Nat) (c k : Nat) (w : World) (h : Lm w n A xs c) (hk : k ≤ 4096) {Z : Int} (hZ : sv n (val W32 xs) = Z) :
    Calls Tryd.prog 36 #[big n A xs.length c, .int .i64 (-(k : Int))] w (Told w (Z / 2 ^ k)) := by
  subst hZ
  rcases Nat.eq_zero_or_pos k with rfl | hk1
  · have h1 := wshift_up n A xs c 0 w h (by omega)
    rw [Int.pow_zero, Int.mul_one] at h1
    rw [Int.pow_zero, Int.ediv_one]
    exact h1
  · exact wshift_down n A xs c k w h hk1 hk
theorem shr_fits {n : Bool} {ls : List Nat} (hd : Dig W32 ls) (ho : Ok n ls) (k : Nat) {Z : Int} (hZ : sv n (val W32 ls) = Z) : Fits (Z / 2 ^ k) := by
  subst hZ
  refine fits_abs (fits_lm (n := n) hd ho) ?_
  cases n
  · rw [← sv_shr_pos, sv_abs, sv_abs]; exact Nat.div_le_self _ _
  · have hp : 0 < val W32 ls := ok_vpos ho rfl
    rw [← sv_shr_neg k hp, sv_abs, sv_abs]
    have := Nat.div_le_self (val W32 ls - 1) (2 ^ k)
    omega
theorem told_fit {w w' : World} {Z : Int} {e : Ending} (h : Told w Z e w') (hF : Fits Z) : ∃ (n : Bool) (V : Option Addr) (ls : List Nat) (k : Nat), e = .returned (.tuple #[big n V ls.length k, .int .i64 0]) ∧ Lm w' n V ls k ∧ sv n (val W32 ls) = Z ∧ Below w.heap.size w w' := by
  obtain ⟨n, V, ls, k, er, rfl, hl, hs, hb⟩ := h
  rcases hs with ⟨_, rfl, hv⟩ | ⟨h, _⟩
  · exact ⟨n, V, ls, k, rfl, hl, hv, hb⟩
  · exact absurd hF h
theorem shl_back (X : Int) (k : Nat) : X * 2 ^ k / 2 ^ k = X := Int.mul_ediv_cancel _ (Int.ne_of_gt (Int.pow_pos (by decide)))
theorem shr_twice (X : Int) {k j : Nat} (h : j ≤ k) : X / 2 ^ j / 2 ^ (k - j) = X / 2 ^ k := by
  rw [Int.ediv_ediv_of_nonneg (Int.le_of_lt (Int.pow_pos (by decide))), ← Int.pow_add, show j + (k - j) = k by omega]
/-- Half, rounded down, by the quotient toward nought. -/
theorem half_floor {m : Bool} {ls : List Nat} (ho : Ok m ls) {X : Int} (h : sv m (val W32 ls) = X.tmod 2) : X / 2 = if m then X.tdiv 2 - 1 else X.tdiv 2 := by
  have h1 := Int.mul_tdiv_add_tmod X 2
  have h2 := Int.tmod_lt_of_pos X (show (0 : Int) < 2 by decide)
  have h3 := Int.lt_tmod_of_pos X (show (0 : Int) < 2 by decide)
  cases m
  · have h4 : (0 : Int) ≤ X.tmod 2 := by rw [← h]; show (0 : Int) ≤ ((val W32 ls : Nat) : Int); omega
    simp only [Bool.false_eq_true, if_false]
    omega
  · have hp := ok_vpos ho rfl
    have h4 : X.tmod 2 < 0 := by rw [← h]; show -((val W32 ls : Nat) : Int) < 0; omega
    simp only [if_true]
    omega
theorem not_fit_len {n : Bool} {xs : List Nat} {k : Nat} (h : ¬ Fits (sv n (val W32 xs) * 2 ^ k)) : 65536 < bitLen (val W32 xs) + k := by
  rw [fits_iff_len, abs_shl, sv_abs] at h
  rcases Nat.eq_zero_or_pos (val W32 xs) with h0 | h0
  · rw [h0] at h
    exfalso; apply h
    rw [Nat.zero_mul]
    have : bitLen 0 = 0 := by simp [bitLen]
    omega
  · rw [len_shl h0] at h
    omega
end Go.Proofs.YtchfnkfdopbflaaDoor

namespace Go.Proofs.YtchfnkfdopbflaaDoor
open Go.RowKit Nb
set_option linter.unusedSimpArgs false

/-- A cell with its number, that may be written. -/
structure Own (W : World) (p : Nat) (n : Bool) (A : Option Addr) (ls : List Nat) (c : Nat) : Prop where
  h : Held W p n A ls c
  f0 : W.frozen? ⟨p, 0, none⟩ = false
  f1 : W.frozen? ⟨p, 1, none⟩ = false
theorem Own.on {W W' : World} {p : Nat} {n : Bool} {A : Option Addr} {ls : List Nat} {c : Nat} (h : Own W p n A ls c) (hb : Below W.heap.size W W') : Own W' p n A ls c :=
  ⟨h.h.on hb, (hb.frozen (p := ⟨p, 0, none⟩) h.h.lt).trans h.f0, (hb.frozen (p := ⟨p, 1, none⟩) h.h.lt).trans h.f1⟩
theorem Own.new {W : World} {p : Nat} {n : Bool} {A : Option Addr} {ls : List Nat} {c : Nat} (hr : Rest W p) (h : Lm W n A ls c) : Own ((W.setCell ⟨p, 0, none⟩ (.bool n)).setCell ⟨p, 1, none⟩ (.slice A ls.length c)) p n A ls c :=
  ⟨Held.new hr h, by simpa using hr.f0, by simpa using hr.f1⟩
theorem Own.put {W : World} {p r : Nat} {n : Bool} {A : Option Addr} {ls : List Nat} {c : Nat} (h : Own W p n A ls c) (hr : Rest W r) (hne : p ≠ r) (u v : Value) : Own ((W.setCell ⟨r, 0, none⟩ u).setCell ⟨r, 1, none⟩ v) p n A ls c :=
  ⟨h.h.put hr hne u v, by simpa using h.f0, by simpa using h.f1⟩
/-- Quotient and rest by two. -/
def Halves (w : World) (X : Int) (e : Ending) (w' : World) : Prop := ∃ (n : Bool) (V : Option Addr) (ls : List Nat) (k : Nat) (m : Bool) (U : Option Addr) (ms : List Nat) (l : Nat), e = .returned (.tuple #[big n V ls.length k, big m U ms.length l, .int .i64 0]) ∧
  Lm w' n V ls k ∧ Lm w' m U ms l ∧ sv n (val W32 ls) = X.tdiv 2 ∧ sv m (val W32 ms) = X.tmod 2 ∧ Below w.heap.size w w'
theorem quorem_two (n1 : Bool) (A B : Option Addr) (xs ys : List Nat) (c d : Nat) (w : World) (h1 : Lm w n1 A xs c) (h2 : Lm w false B ys d) (hv : sv false (val W32 ys) = 2) {X : Int} (hX : sv n1 (val W32 xs) = X) :
    Calls Tryd.prog 30 #[big n1 A xs.length c, big false B ys.length d] w (Halves w X) := by
  subst hX
  refine (wquorem_any n1 false A B xs ys c d w h1.sl h2.sl h1.dig h2.dig h1.sz h2.sz (hq_any h1.dig h2.dig)).mono ?_
  rw [hv]
  rintro e w' ⟨n, V, ls, k, m, U, ms, l, er, rfl, hl, hm, hs, hb⟩
  rcases hs with ⟨_, rfl, e1, e2⟩ | ⟨h, _⟩
  · exact ⟨_, _, _, _, _, _, _, _, rfl, hl, hm, e1, e2, hb⟩
  · exact absurd ⟨h1.ok, h2.ok, lm_ne hv (by decide)⟩ h
/-- A difference that fits. -/
theorem wsub_fit (n1 n2 : Bool) (A B : Option Addr) (xs ys : List Nat) (c d : Nat) (w : World) (h1 : Lm w n1 A xs c) (h2 : Lm w n2 B ys d) {Z : Int} (hZ : sv n1 (val W32 xs) - sv n2 (val W32 ys) = Z) (hF : Fits Z) :
    Calls Tryd.prog 26 #[big n1 A xs.length c, big n2 B ys.length d] w fun e w' => ∃ (n : Bool) (V : Option Addr) (ls : List Nat) (k : Nat), e = .returned (.tuple #[big n V ls.length k, .int .i64 0]) ∧ Lm w' n V ls k ∧ sv n (val W32 ls) = Z ∧ Below w.heap.size w w' := by
  subst hZ
  refine (wsub_any n1 n2 A B xs ys c d w h1.sl h2.sl h1.dig h2.dig h1.sz h2.sz).mono ?_
  rintro e w' ⟨n, V, ls, k, er, rfl, hl, hs, hb⟩
  rcases hs with ⟨_, ⟨_, rfl, hv⟩ | ⟨h, _⟩⟩ | ⟨h, _⟩
  · exact ⟨n, V, ls, k, rfl, hl, hv, hb⟩
  · exact absurd hF h
  · exact absurd ⟨h1.ok, h2.ok⟩ h
theorem Lm.over {W : World} {p : Nat} {b : Bool} {A V : Option Addr} {l c : Nat} {n : Bool} {zs : List Nat} {k : Nat} (h : Lm W n V zs k) (h0 : W.cell? ⟨p, 0, none⟩ = some (.bool b)) (h1 : W.cell? ⟨p, 1, none⟩ = some (.slice A l c)) (u v : Value) : Lm ((W.setCell ⟨p, 0, none⟩ u).setCell ⟨p, 1, none⟩ v) n V zs k := by
  have g1 := h.sl.keepAt h0 (by intro _ e; cases e) u
  have g2 : (W.setCell ⟨p, 0, none⟩ u).cell? ⟨p, 1, none⟩ = some (.slice A l c) := by rw [World.cell?_setCell_other _ _ _ _ (by simp)]; exact h1
  have g3 := g1.keepAt g2 (by intro _ e; cases e) v
  exact ⟨by simpa using g3, h.dig, h.ok⟩
theorem Own.over {W : World} {p : Nat} {n m : Bool} {A V : Option Addr} {ls zs : List Nat} {c k : Nat} (o : Own W p n A ls c) (h : Lm W m V zs k) : Held ((W.setCell ⟨p, 0, none⟩ (.bool m)).setCell ⟨p, 1, none⟩ (.slice V zs.length k)) p m V zs k := by
  refine ⟨by simpa using o.h.lt, ?_, ?_, h.over o.h.c0 o.h.c1 _ _⟩
  · rw [World.cell?_setCell_other _ _ _ _ (by simp)]
    have := o.h.c0; have := o.f0
    go_cell
  · have := o.h.c1; have := o.f1
    go_cell
theorem Held.over {W : World} {p r : Nat} {n m : Bool} {A V : Option Addr} {ls zs : List Nat} {c k : Nat} (h : Held W r m V zs k) (o : Own W p n A ls c) (hne : r ≠ p) (u v : Value) : Held ((W.setCell ⟨p, 0, none⟩ u).setCell ⟨p, 1, none⟩ v) r m V zs k := by
  have hk : ∀ (j : Nat), ((W.setCell ⟨p, 0, none⟩ u).setCell ⟨p, 1, none⟩ v).cell? ⟨r, j, none⟩ = W.cell? ⟨r, j, none⟩ := fun j => by
    rw [World.cell?_setCell_other _ _ _ _ (fun e => hne (by injection e with a; exact a.symm)), World.cell?_setCell_other _ _ _ _ (fun e => hne (by injection e with a; exact a.symm))]
  exact ⟨by simpa using h.lt, (hk 0).trans h.c0, (hk 1).trans h.c1, h.lm.over o.h.c0 o.h.c1 _ _⟩
theorem wshift_one (n : Bool) (A : Option Addr) (xs : List Nat) (c : Nat) (w : World) (h : Lm w n A xs c) {Z : Int} (hZ : sv n (val W32 xs) = Z) :
    Calls Tryd.prog 36 #[big n A xs.length c, .int .i64 (-1)] w (Told w (Z / 2 ^ 1)) :=
  wshift_fall n A xs c 1 w h (by decide) hZ

set_option maxHeartbeats 8000000 in
set_option maxRecDepth 20000 in
theorem shifts_walk (n1 : Bool) (A : Option Addr) (xs : List Nat) (c m : Nat) (w : World) (hr : Sl .u32 w w.heap.size A xs) (hx : Dig W32 xs) (hm : m < 65536) (htab : Tab w) :
    Calls Tryd.prog 9 #[big n1 A xs.length c, .int .u16 m] w fun e w' => e = .returned (.bool true) ∧ Below w.heap.size w w' := by
  obtain ⟨W, hW, hbW, hzW, R1⟩ := raw_one (n1 := n1) (c := c) hr
  have HT := Lib.hid htab
  have HW := Lib.hid hW
  obtain ⟨b1, hb1⟩ := is_bool (Ok n1 xs)
  have H1 := Lib.hid hb1
  obtain ⟨K, hK⟩ : ∃ K, m % 4096 = K := ⟨_, rfl⟩
  have hKl : K < 4096 := by omega
  have hKm : (m : Int) % 4096 = (K : Int) := by omega
  have hmi : (m : Int) ≤ 65535 := by omega
  have hKi : (K : Int) ≤ 4095 := by omega
  clear htab hW hb1 hr hK
  go_enter Tryd.func9, Tryd.ntmps9
  go_wp2_with fail
  rw [← HW.out]
  refine (alive_any W (tab_below HT.out hbW)).mono ?_
  rintro e1 w1 ⟨rfl, q1⟩
  have R1 := R1.on q1
  have B1 := hbW.trans (q1.mono hbW.size)
  clear q1 hbW hzW HW
  have a0 := R1.c0
  have a1 := R1.c1
  go_wp2_with fail
  have hal : Below w1.heap.size w1 (w1.alloc (.cells #[.bool n1, .slice A xs.length c] 24)) := by go_grown
  have S1 := (R1.on hal).sl
  refine (may_1 w1.heap.size 1 n1 A xs.length c b1 _ (kind_of n1 A xs _ _ S1 b1 H1.out) (by go_cell) (by go_cell)).mono ?_
  rintro e2 w2 ⟨rfl, q2⟩
  have q2 := Below.trans hal (q2.mono hal.size)
  have R1 := R1.on q2
  have B2 := B1.trans (q2.mono B1.size)
  clear a0 a1 hal S1 q2 B1
  by_cases ho : b1 = true
  · have o1 := H1.out.1 ho
    have KX := R1.held hx o1
    rw [ho]
    clear ho H1 R1
    obtain ⟨X, hX⟩ : ∃ X : Int, sv n1 (val W32 xs) = X := ⟨_, rfl⟩
    have HX := Lib.hid hX
    have CU := wshift_up n1 A xs c K w2 KX.lm (by omega)
    rw [hX] at CU
    have CU := Lib.hid CU
    have HO := Lib.hid o1
    have hnf := fun h => not_fit_len (n := n1) (xs := xs) (k := K) h
    rw [hX] at hnf
    have HNF := Lib.hid hnf
    have hbv := bits_val o1
    have HBV := Lib.hid hbv
    clear hX o1 hnf hbv
    have a0 := KX.c0
    have a1 := KX.c1
    go_wp2_with fail
    refine (CU.out).mono ?_
    rintro e3 w3 ⟨n3, V3, l3, k3, er, rfl, m3, hs3, b3⟩
    have b4 : Below w2.heap.size w2 (w3.alloc (.cells #[.bool n3, .slice V3 l3.length k3] 24)) := b3.alloc b3.size _
    have KX := KX.on b4
    have KU := Held.fresh m3
    have B4 := B2.trans (b4.mono B2.size)
    clear CU b3 b4 m3 a0 a1 B2
    have a0 := KX.c0
    have a1 := KX.c1
    have a2 := KU.c0
    have a3 := KU.c1
    rcases hs3 with ⟨hF, rfl, hv3⟩ | ⟨hF, rfl, h7, h8⟩
    · have HV3 := Lib.hid hv3
      have HF := Lib.hid hF
      clear hv3 hF
      go_wp2_with fail
      generalize (w3.alloc (.cells #[.bool n3, .slice V3 l3.length k3] 24)) = W4 at *
      obtain ⟨K2, hK2⟩ : ∃ K2, K / 2 = K2 := ⟨_, rfl⟩
      have hK2l : K2 ≤ K := by omega
      have hq2 : (K : Int) / 2 = (K2 : Int) := by omega
      have hq1 : (-(K : Int)).tdiv 2 = -(K2 : Int) := by rw [Int.neg_tdiv, Int.tdiv_eq_ediv_of_nonneg (by omega), hq2]
      have hq3 : ((K : Int)).tdiv 2 = (K2 : Int) := by rw [Int.tdiv_eq_ediv_of_nonneg (by omega), hq2]
      obtain ⟨K3, hK3⟩ : ∃ K3, K - K2 = K3 := ⟨_, rfl⟩
      have hq4 : (K : Int) - (K2 : Int) = (K3 : Int) := by omega
      have HK3 := Lib.hid (And.intro hK3 hK2l)
      have hK2i : (K2 : Int) ≤ 4095 := by omega
      have hK3l : K3 ≤ 4095 := by omega
      have hK3i : (K3 : Int) ≤ 4095 := by omega
      clear hK2 hK3
      have hFX : Fits X := by rw [← HX.out]; exact fits_lm hx HO.out
      have FX := Lib.hid hFX
      clear hFX
      have C5 := wshift_fall n3 V3 l3 k3 K W4 KU.lm (by omega) HV3.out
      rw [shl_back] at C5
      have C5 := Lib.hid C5
      refine (C5.out).mono ?_
      intro e5 w5 hT5
      obtain ⟨n5, V5, l5, k5, rfl, m5, v5, b5⟩ := told_fit hT5 (FX.out)
      have b5 : Below W4.heap.size W4 (w5.alloc (.cells #[.bool n5, .slice V5 l5.length k5] 24)) := b5.alloc b5.size _
      have KB := Held.fresh m5
      have HV5 := Lib.hid v5
      have KX := KX.on b5
      have KU := KU.on b5
      have B4 := B4.trans (b5.mono B4.size)
      clear hT5 C5 b5 m5 v5 a0 a1 a2 a3
      have a0 := KX.c0
      have a1 := KX.c1
      have a2 := KU.c0
      have a3 := KU.c1
      go_wp2_with fail
      generalize (w5.alloc (.cells #[.bool n5, .slice V5 l5.length k5] 24)) = W5 at *
      have C6 := wshift_fall n1 A xs c K W5 KX.lm (by omega) HX.out
      have C6 := Lib.hid C6
      refine (C6.out).mono ?_
      intro e6 w6 hT6
      obtain ⟨n6, V6, l6, k6, rfl, m6, v6, b6⟩ := told_fit hT6 (shr_fits hx HO.out K HX.out)
      have b6 : Below W5.heap.size W5 (w6.alloc (.cells #[.bool n6, .slice V6 l6.length k6] 24)) := b6.alloc b6.size _
      have KD := Held.fresh m6
      have HV6 := Lib.hid v6
      have KX := KX.on b6
      have KU := KU.on b6
      have KB := KB.on b6
      have B4 := B4.trans (b6.mono B4.size)
      clear hT6 C6 b6 m6 v6 a0 a1 a2 a3
      have a0 := KX.c0
      have a1 := KX.c1
      have a2 := KU.c0
      have a3 := KU.c1
      go_wp2_with fail
      generalize (w6.alloc (.cells #[.bool n6, .slice V6 l6.length k6] 24)) = W6 at *
      have C7 := wshift_fall n1 A xs c K2 W6 KX.lm (by omega) HX.out
      have C7 := Lib.hid C7
      refine (C7.out).mono ?_
      intro e7 w7 hT7
      obtain ⟨n7, V7, l7, k7, rfl, m7, v7, b7⟩ := told_fit hT7 (shr_fits hx HO.out K2 HX.out)
      have b7 : Below W6.heap.size W6 (w7.alloc (.cells #[.bool n7, .slice V7 l7.length k7] 24)) := b7.alloc b7.size _
      have KH := Held.fresh m7
      have HV7 := Lib.hid v7
      have KX := KX.on b7
      have KU := KU.on b7
      have KB := KB.on b7
      have KD := KD.on b7
      have B4 := B4.trans (b7.mono B4.size)
      clear hT7 C7 b7 m7 v7 a0 a1 a2 a3
      have a0 := KX.c0
      have a1 := KX.c1
      have a2 := KH.c0
      have a3 := KH.c1
      go_wp2_with fail
      generalize (w7.alloc (.cells #[.bool n7, .slice V7 l7.length k7] 24)) = W7 at *
      have C8 := wshift_fall n7 V7 l7 k7 K3 W7 KH.lm (by omega) HV7.out
      have C8 := Lib.hid C8
      refine (C8.out).mono ?_
      intro e8 w8 hT8
      obtain ⟨n8, V8, l8, k8, rfl, m8, v8, b8⟩ := told_fit hT8 (shr_fits KH.lm.dig KH.lm.ok K3 HV7.out)
      have b8 : Below W7.heap.size W7 (w8.alloc (.cells #[.bool n8, .slice V8 l8.length k8] 24)) := b8.alloc b8.size _
      have KR := Held.fresh m8
      have HV8 := Lib.hid v8
      have KX := KX.on b8
      have KU := KU.on b8
      have KB := KB.on b8
      have KD := KD.on b8
      have KH := KH.on b8
      have B4 := B4.trans (b8.mono B4.size)
      clear hT8 C8 b8 m8 v8 a0 a1 a2 a3
      have a0 := KX.c0
      have a1 := KX.c1
      have a2 := KU.c0
      have a3 := KU.c1
      have a4 := KB.c0
      have a5 := KB.c1
      have a6 := KD.c0
      have a7 := KD.c1
      have a8 := KH.c0
      have a9 := KH.c1
      have a10 := KR.c0
      have a11 := KR.c1
      go_wp2_with fail
      have hz : (w8.alloc (.cells #[.bool n8, .slice V8 l8.length k8] 24)).heap.size = w8.heap.size + 1 := by simp
      generalize (w8.alloc (.cells #[.bool n8, .slice V8 l8.length k8] 24)) = W8 at *
      rw [← hz]
      have hal : Below W8.heap.size W8 (W8.alloc (.cells #[.bool n3, .slice V3 l3.length k3, .bool n5, .slice V5 l5.length k5, .bool n6, .slice V6 l6.length k6, .bool n7, .slice V7 l7.length k7, .bool n8, .slice V8 l8.length k8] 24)) := (Below.refl _ _).alloc (Nat.le_refl _) _
      clear a0 a1 a2 a3 a4 a5 a6 a7 a8 a9 a10 a11 hz
      have HM : Calls Tryd.prog 21 #[.slice (some ⟨W8.heap.size, 0, none⟩) 5 5] (W8.alloc (.cells #[.bool n3, .slice V3 l3.length k3, .bool n5, .slice V5 l5.length k5, .bool n6, .slice V6 l6.length k6, .bool n7, .slice V7 l7.length k7, .bool n8, .slice V8 l8.length k8] 24)) fun e w' => e = .returned (.bool true) ∧ Below W8.heap.size W8 w' := by
        refine (may_all W8.heap.size 5 5 _ (by decide) ?_).mono ?_
        · intro i hi
          match i, hi with
          | 0, _ => exact ⟨n3, V3, l3.length, k3, by go_cell, by go_cell, kind_of n3 V3 l3 _ _ (KU.on hal).lm.sl true (ok_yes KU.lm.ok)⟩
          | 1, _ => exact ⟨n5, V5, l5.length, k5, by go_cell, by go_cell, kind_of n5 V5 l5 _ _ (KB.on hal).lm.sl true (ok_yes KB.lm.ok)⟩
          | 2, _ => exact ⟨n6, V6, l6.length, k6, by go_cell, by go_cell, kind_of n6 V6 l6 _ _ (KD.on hal).lm.sl true (ok_yes KD.lm.ok)⟩
          | 3, _ => exact ⟨n7, V7, l7.length, k7, by go_cell, by go_cell, kind_of n7 V7 l7 _ _ (KH.on hal).lm.sl true (ok_yes KH.lm.ok)⟩
          | 4, _ => exact ⟨n8, V8, l8.length, k8, by go_cell, by go_cell, kind_of n8 V8 l8 _ _ (KR.on hal).lm.sl true (ok_yes KR.lm.ok)⟩
        · rintro e w' ⟨rfl, q⟩
          exact ⟨rfl, hal.trans (q.mono hal.size)⟩
      have HM := Lib.hid HM
      clear hal
      refine (HM.out).mono ?_
      clear HM
      rintro e9 w9 ⟨rfl, q9⟩
      have KX := KX.on q9
      have KB := KB.on q9
      have KD := KD.on q9
      have KH := KH.on q9
      have KR := KR.on q9
      have B4 := B4.trans (q9.mono B4.size)
      clear q9
      clear KU
      have a0 := KX.c0
      have a1 := KX.c1
      have a2 := KB.c0
      have a3 := KB.c1
      go_wp2_with fail
      refine (same_lm w9 KB.lm KX.lm (HV5.out.trans HX.out.symm)).mono ?_
      rintro e10 w10 ⟨rfl, q10⟩
      clear a0 a1 a2 a3
      have KX := KX.on q10
      have KD := KD.on q10
      have KH := KH.on q10
      have KR := KR.on q10
      have B4 := B4.trans (q10.mono B4.size)
      clear q10
      clear KB HV5
      have a0 := KD.c0
      have a1 := KD.c1
      have a2 := KR.c0
      have a3 := KR.c1
      go_wp2_with fail
      refine (same_lm w10 KR.lm KD.lm (HV8.out.trans (Eq.trans (by rw [← HK3.out.1]; exact shr_twice X HK3.out.2) HV6.out.symm))).mono ?_
      rintro e11 w11 ⟨rfl, q11⟩
      clear a0 a1 a2 a3
      have KX := KX.on q11
      have KH := KH.on q11
      have B4 := B4.trans (q11.mono B4.size)
      clear q11
      clear KR KD HV8 HV6 HK3 HV3
      have a0 := KX.c0
      have a1 := KX.c1
      go_wp2_with fail
      have BB := B4
      clear B4
      have F2 := Lib.hid (fun w => of_fix 2 false w (by omega) (by omega) rfl)
      go_cut [16, 17, 18] (fun s16 s17 s18 wx => ∃ (p r : Nat) (nq : Bool) (Aq : Option Addr) (lq : List Nat) (cq : Nat) (nr : Bool) (Ar : Option Addr) (lr : List Nat) (cr : Nat), s16 = .pointer (some ⟨p, 0, none⟩) ∧ s17 = .pointer (some ⟨r, 0, none⟩) ∧ s18 = .int .i64 0 ∧ Own wx p nq Aq lq cq ∧ Held wx r nr Ar lr cr ∧ sv nq (val W32 lq) = X.tdiv 2 ∧ sv nr (val W32 lr) = X.tmod 2 ∧ Held wx w.heap.size n1 A xs c ∧ w.heap.size ≤ p ∧ Below w.heap.size w wx)
      case first =>
        refine wp_region_noPanic ?_
        have B0 : Below w11.heap.size w11 w11.drew := (Below.refl _ _).drew
        refine wp_region_held_drew (S := (fun wx => Below w11.heap.size w11 wx ∧ wx.cell? ⟨w.heap.size, 0, none⟩ = some (.bool n1) ∧ wx.cell? ⟨w.heap.size, 1, none⟩ = some (.slice A xs.length c))) (by kernel_rfl) ⟨B0, (KX.on B0).c0, (KX.on B0).c1⟩ (fun hHeld => ?_)
        generalize w11.drew = Vd at *
        refine wpAnyH_take (i := 0) (v := ?_) (by (simp only [List.getElem?_toArray, List.getElem?_cons_succ, List.getElem?_cons_zero]; rfl)) (by kernel_rfl) (by kernel_rfl) (by kernel_rfl) (fun _ _ _ h => h) (Or.inl ⟨by rfl, ?_⟩) (by assumption) ?_
        rotate_left
        · intro wt hSw
          (try dsimp only at hSw)
          go_simp
          (try with_reducible rfl)
        (try simp only [Act.put, List.setIfInBounds_toArray, List.set_cons_zero, List.set_cons_succ])
        refine wpAnyH_ready (rs := [1, 7, 8]) (by kernel_rfl) (by simp) (AllReadyH.cons (by (simp only [List.getElem?_toArray, List.getElem?_cons_succ, List.getElem?_cons_zero]; rfl)) (fun K hK => ?_) (AllReadyH.cons (by (simp only [List.getElem?_toArray, List.getElem?_cons_succ, List.getElem?_cons_zero]; rfl)) (fun K hK => ?_) (AllReadyH.cons (by (simp only [List.getElem?_toArray, List.getElem?_cons_succ, List.getElem?_cons_zero]; rfl)) (fun K hK => ?_) AllReadyH.nil)))
        · go_simp
          (go_at_call 32; with_reducible refine (F2.out _).mono ?_)
          rintro e5 wc0 ⟨A1, c1, l1, rfl, m1, v1, z1, hb⟩
          (try go_wp2_with fail)
          have B1 := B0.trans (hb.mono B0.size)
          clear hb
          refine hK.out _ _ ⟨B1, (KX.on B1).c0, (KX.on B1).c1⟩ (fun hHeld => ?_)
          clear hK
          (try simp only [Act.put, List.setIfInBounds_toArray, List.set_cons_zero, List.set_cons_succ])
          refine wpAnyH_ready (rs := [2, 7, 8]) (by kernel_rfl) (by simp) (AllReadyH.cons (by (simp only [List.getElem?_toArray, List.getElem?_cons_succ, List.getElem?_cons_zero]; rfl)) (fun K hK => ?_) (AllReadyH.cons (by (simp only [List.getElem?_toArray, List.getElem?_cons_succ, List.getElem?_cons_zero]; rfl)) (fun K hK => ?_) (AllReadyH.cons (by (simp only [List.getElem?_toArray, List.getElem?_cons_succ, List.getElem?_cons_zero]; rfl)) (fun K hK => ?_) AllReadyH.nil)))
          · go_simp
            (go_at_call 30; with_reducible refine (quorem_two n1 A A1 xs l1 c c1 _ (KX.on B1).lm m1 v1 HX.out).mono ?_)
            rintro e6 wc1 ⟨nq, Aq, lq, cq, nr, Ar, lr, cr, rfl, mq, mr, vq, vr, hb⟩
            (try go_wp2_with fail)
            have B2 := B1.trans (hb.mono B1.size)
            clear hb
            refine hK.out _ _ ⟨B2, (KX.on B2).c0, (KX.on B2).c1⟩ (fun hHeld => ?_)
            clear hK
            (try simp only [Act.put, List.setIfInBounds_toArray, List.set_cons_zero, List.set_cons_succ])
            refine wpAnyH_take (i := 3) (v := ?_) (by (simp only [List.getElem?_toArray, List.getElem?_cons_succ, List.getElem?_cons_zero]; rfl)) (by kernel_rfl) (by kernel_rfl) (by kernel_rfl) (fun _ _ _ h => h) (Or.inl ⟨by rfl, ?_⟩) (by assumption) ?_
            rotate_left
            · intro wt hSw
              (try dsimp only at hSw)
              go_simp
              (try with_reducible rfl)
            (try simp only [Act.put, List.setIfInBounds_toArray, List.set_cons_zero, List.set_cons_succ])
            refine wpAnyH_take (i := 4) (v := ?_) (by (simp only [List.getElem?_toArray, List.getElem?_cons_succ, List.getElem?_cons_zero]; rfl)) (by kernel_rfl) (by kernel_rfl) (by kernel_rfl) (fun _ _ _ h => h) (Or.inl ⟨by rfl, ?_⟩) (by assumption) ?_
            rotate_left
            · intro wt hSw
              (try dsimp only at hSw)
              go_simp
              (try with_reducible rfl)
            (try simp only [Act.put, List.setIfInBounds_toArray, List.set_cons_zero, List.set_cons_succ])
            refine wpAnyH_take (i := 5) (v := ?_) (by (simp only [List.getElem?_toArray, List.getElem?_cons_succ, List.getElem?_cons_zero]; rfl)) (by kernel_rfl) (by kernel_rfl) (by kernel_rfl) (fun _ _ _ h => h) (Or.inl ⟨by rfl, ?_⟩) (by assumption) ?_
            rotate_left
            · intro wt hSw
              (try dsimp only at hSw)
              go_simp
              (try with_reducible rfl)
            (try simp only [Act.put, List.setIfInBounds_toArray, List.set_cons_zero, List.set_cons_succ])
            refine wpAnyH_take (i := 6) (v := ?_) (by (simp only [List.getElem?_toArray, List.getElem?_cons_succ, List.getElem?_cons_zero]; rfl)) (by kernel_rfl) (by kernel_rfl) (by kernel_rfl) (fun _ _ _ h => h) (Or.inl ⟨by rfl, ?_⟩) (by assumption) ?_
            rotate_left
            · intro wt hSw
              (try dsimp only at hSw)
              go_simp
              (try with_reducible rfl)
            (try simp only [Act.put, List.setIfInBounds_toArray, List.set_cons_zero, List.set_cons_succ])
            refine wpAnyH_ready (rs := [7, 8]) (by kernel_rfl) (by simp) (AllReadyH.cons (by (simp only [List.getElem?_toArray, List.getElem?_cons_succ, List.getElem?_cons_zero]; rfl)) (fun K hK => ?_) (AllReadyH.cons (by (simp only [List.getElem?_toArray, List.getElem?_cons_succ, List.getElem?_cons_zero]; rfl)) (fun K hK => ?_) AllReadyH.nil))
            · go_simp
              have B3 := B2.alloc (o := (.cells #[.bool false, .slice none 0 0] 24)) B2.size
              have R7 : Rest (wc1.alloc (.cells #[.bool false, .slice none 0 0] 24)) wc1.heap.size := Rest.newI wc1
              have hv7 : w11.heap.size ≤ wc1.heap.size := B2.size
              have hbz : Below wc1.heap.size wc1 (wc1.alloc (.cells #[.bool false, .slice none 0 0] 24)) := (Below.refl _ _).alloc (Nat.le_refl _) _
              have mq := mq.below hbz
              have mr := mr.below hbz
              clear hbz
              generalize (wc1.alloc (.cells #[.bool false, .slice none 0 0] 24)) = Wn72 at *
              refine hK.out _ _ ⟨B3, (KX.on B3).c0, (KX.on B3).c1⟩ (fun hHeld => ?_)
              clear hK
              (try simp only [Act.put, List.setIfInBounds_toArray, List.set_cons_zero, List.set_cons_succ])
              refine wpAnyH_ready (rs := [8]) (by kernel_rfl) (by simp) (AllReadyH.cons (by (simp only [List.getElem?_toArray, List.getElem?_cons_succ, List.getElem?_cons_zero]; rfl)) (fun K hK => ?_) AllReadyH.nil)
              go_simp
              have B4 := B3.alloc (o := (.cells #[.bool false, .slice none 0 0] 24)) B3.size
              have R8 : Rest (Wn72.alloc (.cells #[.bool false, .slice none 0 0] 24)) Wn72.heap.size := Rest.newI Wn72
              have hv8 : w11.heap.size ≤ Wn72.heap.size := B3.size
              have hbz : Below Wn72.heap.size Wn72 (Wn72.alloc (.cells #[.bool false, .slice none 0 0] 24)) := (Below.refl _ _).alloc (Nat.le_refl _) _
              have hne : wc1.heap.size ≠ Wn72.heap.size := Nat.ne_of_lt R7.lr
              have R7 := R7.on hbz
              have mq := mq.below hbz
              have mr := mr.below hbz
              clear hbz
              generalize (Wn72.alloc (.cells #[.bool false, .slice none 0 0] 24)) = Wn83 at *
              refine hK.out _ _ ⟨B4, (KX.on B4).c0, (KX.on B4).c1⟩ (fun hHeld => ?_)
              clear hK
              (try simp only [Act.put, List.setIfInBounds_toArray, List.set_cons_zero, List.set_cons_succ])
              have g0 := R7.r0
              have g1 := R7.r1
              have g2 := R7.f0
              have g3 := R7.f1
              refine wpAnyH_ready (rs := [9]) (by kernel_rfl) (by simp) (AllReadyH.cons (by (simp only [List.getElem?_toArray, List.getElem?_cons_succ, List.getElem?_cons_zero]; rfl)) (fun K hK => ?_) AllReadyH.nil)
              go_simp
              have Bz : Below w11.heap.size w11 ((Wn83.setCell ⟨wc1.heap.size, 0, none⟩ (.bool nq)).setCell ⟨wc1.heap.size, 1, none⟩ (.slice Aq lq.length cq)) := (B4.setCell (p := ⟨_, 0, none⟩) hv7 _).setCell (p := ⟨_, 1, none⟩) hv7 _
              have KQ := Own.new R7 mq
              have mr := mr.laid R7 (.bool nq) (.slice Aq lq.length cq)
              have R8 := R8.put hne (.bool nq) (.slice Aq lq.length cq)
              clear g0 g1 g2 g3 R7 mq
              generalize ((Wn83.setCell ⟨wc1.heap.size, 0, none⟩ (.bool nq)).setCell ⟨wc1.heap.size, 1, none⟩ (.slice Aq lq.length cq)) = Ws at *
              refine hK.out _ _ ⟨Bz, (KX.on Bz).c0, (KX.on Bz).c1⟩ (fun hHeld => ?_)
              clear hK
              (try simp only [Act.put, List.setIfInBounds_toArray, List.set_cons_zero, List.set_cons_succ])
              have g0 := R8.r0
              have g1 := R8.r1
              have g2 := R8.f0
              have g3 := R8.f1
              refine wpAnyH_ready (rs := [10]) (by kernel_rfl) (by simp) (AllReadyH.cons (by (simp only [List.getElem?_toArray, List.getElem?_cons_succ, List.getElem?_cons_zero]; rfl)) (fun K hK => ?_) AllReadyH.nil)
              go_simp
              have By : Below w11.heap.size w11 ((Ws.setCell ⟨Wn72.heap.size, 0, none⟩ (.bool nr)).setCell ⟨Wn72.heap.size, 1, none⟩ (.slice Ar lr.length cr)) := (Bz.setCell (p := ⟨_, 0, none⟩) hv8 _).setCell (p := ⟨_, 1, none⟩) hv8 _
              have KQ := KQ.put R8 hne (.bool nr) (.slice Ar lr.length cr)
              have KR := Held.new R8 mr
              clear g0 g1 g2 g3 R8 mr
              generalize ((Ws.setCell ⟨Wn72.heap.size, 0, none⟩ (.bool nr)).setCell ⟨Wn72.heap.size, 1, none⟩ (.slice Ar lr.length cr)) = Wt at *
              refine hK.out _ _ ⟨By, (KX.on By).c0, (KX.on By).c1⟩ (fun hHeld => ?_)
              clear hK
              (try simp only [Act.put, List.setIfInBounds_toArray, List.set_cons_zero, List.set_cons_succ])
              refine wpAnyH_take (i := 11) (v := ?_) (by (simp only [List.getElem?_toArray, List.getElem?_cons_succ, List.getElem?_cons_zero]; rfl)) (by kernel_rfl) (by kernel_rfl) (by kernel_rfl) (fun _ _ _ h => h) (Or.inl ⟨by rfl, ?_⟩) (by assumption) ?_
              rotate_left
              · intro wt hSw
                (try dsimp only at hSw)
                go_simp
                (try with_reducible rfl)
              (try simp only [Act.put, List.setIfInBounds_toArray, List.set_cons_zero, List.set_cons_succ])
              refine wpAnyH_done (by kernel_rfl) (NoPanic.normal ?_) _
              go_wp2
              go_meet
              exact ⟨_, _, _, _, _, _, _, _, _, _, rfl, rfl, rfl, KQ, KR, vq, vr, KX.on By, Nat.le_trans BB.size hv7, BB.trans (By.mono BB.size)⟩
            · go_simp
              have B3 := B2.alloc (o := (.cells #[.bool false, .slice none 0 0] 24)) B2.size
              have R8 : Rest (wc1.alloc (.cells #[.bool false, .slice none 0 0] 24)) wc1.heap.size := Rest.newI wc1
              have hv8 : w11.heap.size ≤ wc1.heap.size := B2.size
              have hbz : Below wc1.heap.size wc1 (wc1.alloc (.cells #[.bool false, .slice none 0 0] 24)) := (Below.refl _ _).alloc (Nat.le_refl _) _
              have mq := mq.below hbz
              have mr := mr.below hbz
              clear hbz
              generalize (wc1.alloc (.cells #[.bool false, .slice none 0 0] 24)) = Wn82 at *
              refine hK.out _ _ ⟨B3, (KX.on B3).c0, (KX.on B3).c1⟩ (fun hHeld => ?_)
              clear hK
              (try simp only [Act.put, List.setIfInBounds_toArray, List.set_cons_zero, List.set_cons_succ])
              refine wpAnyH_ready (rs := [7]) (by kernel_rfl) (by simp) (AllReadyH.cons (by (simp only [List.getElem?_toArray, List.getElem?_cons_succ, List.getElem?_cons_zero]; rfl)) (fun K hK => ?_) AllReadyH.nil)
              go_simp
              have B4 := B3.alloc (o := (.cells #[.bool false, .slice none 0 0] 24)) B3.size
              have R7 : Rest (Wn82.alloc (.cells #[.bool false, .slice none 0 0] 24)) Wn82.heap.size := Rest.newI Wn82
              have hv7 : w11.heap.size ≤ Wn82.heap.size := B3.size
              have hbz : Below Wn82.heap.size Wn82 (Wn82.alloc (.cells #[.bool false, .slice none 0 0] 24)) := (Below.refl _ _).alloc (Nat.le_refl _) _
              have hne : Wn82.heap.size ≠ wc1.heap.size := (Nat.ne_of_lt R8.lr).symm
              have R8 := R8.on hbz
              have mq := mq.below hbz
              have mr := mr.below hbz
              clear hbz
              generalize (Wn82.alloc (.cells #[.bool false, .slice none 0 0] 24)) = Wn73 at *
              refine hK.out _ _ ⟨B4, (KX.on B4).c0, (KX.on B4).c1⟩ (fun hHeld => ?_)
              clear hK
              (try simp only [Act.put, List.setIfInBounds_toArray, List.set_cons_zero, List.set_cons_succ])
              have g0 := R7.r0
              have g1 := R7.r1
              have g2 := R7.f0
              have g3 := R7.f1
              refine wpAnyH_ready (rs := [9]) (by kernel_rfl) (by simp) (AllReadyH.cons (by (simp only [List.getElem?_toArray, List.getElem?_cons_succ, List.getElem?_cons_zero]; rfl)) (fun K hK => ?_) AllReadyH.nil)
              go_simp
              have Bz : Below w11.heap.size w11 ((Wn73.setCell ⟨Wn82.heap.size, 0, none⟩ (.bool nq)).setCell ⟨Wn82.heap.size, 1, none⟩ (.slice Aq lq.length cq)) := (B4.setCell (p := ⟨_, 0, none⟩) hv7 _).setCell (p := ⟨_, 1, none⟩) hv7 _
              have KQ := Own.new R7 mq
              have mr := mr.laid R7 (.bool nq) (.slice Aq lq.length cq)
              have R8 := R8.put hne (.bool nq) (.slice Aq lq.length cq)
              clear g0 g1 g2 g3 R7 mq
              generalize ((Wn73.setCell ⟨Wn82.heap.size, 0, none⟩ (.bool nq)).setCell ⟨Wn82.heap.size, 1, none⟩ (.slice Aq lq.length cq)) = Ws at *
              refine hK.out _ _ ⟨Bz, (KX.on Bz).c0, (KX.on Bz).c1⟩ (fun hHeld => ?_)
              clear hK
              (try simp only [Act.put, List.setIfInBounds_toArray, List.set_cons_zero, List.set_cons_succ])
              have g0 := R8.r0
              have g1 := R8.r1
              have g2 := R8.f0
              have g3 := R8.f1
              refine wpAnyH_ready (rs := [10]) (by kernel_rfl) (by simp) (AllReadyH.cons (by (simp only [List.getElem?_toArray, List.getElem?_cons_succ, List.getElem?_cons_zero]; rfl)) (fun K hK => ?_) AllReadyH.nil)
              go_simp
              have By : Below w11.heap.size w11 ((Ws.setCell ⟨wc1.heap.size, 0, none⟩ (.bool nr)).setCell ⟨wc1.heap.size, 1, none⟩ (.slice Ar lr.length cr)) := (Bz.setCell (p := ⟨_, 0, none⟩) hv8 _).setCell (p := ⟨_, 1, none⟩) hv8 _
              have KQ := KQ.put R8 hne (.bool nr) (.slice Ar lr.length cr)
              have KR := Held.new R8 mr
              clear g0 g1 g2 g3 R8 mr
              generalize ((Ws.setCell ⟨wc1.heap.size, 0, none⟩ (.bool nr)).setCell ⟨wc1.heap.size, 1, none⟩ (.slice Ar lr.length cr)) = Wt at *
              refine hK.out _ _ ⟨By, (KX.on By).c0, (KX.on By).c1⟩ (fun hHeld => ?_)
              clear hK
              (try simp only [Act.put, List.setIfInBounds_toArray, List.set_cons_zero, List.set_cons_succ])
              refine wpAnyH_take (i := 11) (v := ?_) (by (simp only [List.getElem?_toArray, List.getElem?_cons_succ, List.getElem?_cons_zero]; rfl)) (by kernel_rfl) (by kernel_rfl) (by kernel_rfl) (fun _ _ _ h => h) (Or.inl ⟨by rfl, ?_⟩) (by assumption) ?_
              rotate_left
              · intro wt hSw
                (try dsimp only at hSw)
                go_simp
                (try with_reducible rfl)
              (try simp only [Act.put, List.setIfInBounds_toArray, List.set_cons_zero, List.set_cons_succ])
              refine wpAnyH_done (by kernel_rfl) (NoPanic.normal ?_) _
              go_wp2
              go_meet
              exact ⟨_, _, _, _, _, _, _, _, _, _, rfl, rfl, rfl, KQ, KR, vq, vr, KX.on By, Nat.le_trans BB.size hv7, BB.trans (By.mono BB.size)⟩
          · go_simp
            have B2 := B1.alloc (o := (.cells #[.bool false, .slice none 0 0] 24)) B1.size
            have R7 : Rest (wc0.alloc (.cells #[.bool false, .slice none 0 0] 24)) wc0.heap.size := Rest.newI wc0
            have hv7 : w11.heap.size ≤ wc0.heap.size := B1.size
            have hbz : Below wc0.heap.size wc0 (wc0.alloc (.cells #[.bool false, .slice none 0 0] 24)) := (Below.refl _ _).alloc (Nat.le_refl _) _
            have m1 := m1.below hbz
            clear hbz
            generalize (wc0.alloc (.cells #[.bool false, .slice none 0 0] 24)) = Wn71 at *
            refine hK.out _ _ ⟨B2, (KX.on B2).c0, (KX.on B2).c1⟩ (fun hHeld => ?_)
            clear hK
            (try simp only [Act.put, List.setIfInBounds_toArray, List.set_cons_zero, List.set_cons_succ])
            refine wpAnyH_ready (rs := [2, 8]) (by kernel_rfl) (by simp) (AllReadyH.cons (by (simp only [List.getElem?_toArray, List.getElem?_cons_succ, List.getElem?_cons_zero]; rfl)) (fun K hK => ?_) (AllReadyH.cons (by (simp only [List.getElem?_toArray, List.getElem?_cons_succ, List.getElem?_cons_zero]; rfl)) (fun K hK => ?_) AllReadyH.nil))
            · go_simp
              (go_at_call 30; with_reducible refine (quorem_two n1 A A1 xs l1 c c1 _ (KX.on B2).lm m1 v1 HX.out).mono ?_)
              rintro e6 wc1 ⟨nq, Aq, lq, cq, nr, Ar, lr, cr, rfl, mq, mr, vq, vr, hb⟩
              (try go_wp2_with fail)
              have B3 := B2.trans (hb.mono B2.size)
              have R7 := R7.on hb
              clear hb
              refine hK.out _ _ ⟨B3, (KX.on B3).c0, (KX.on B3).c1⟩ (fun hHeld => ?_)
              clear hK
              (try simp only [Act.put, List.setIfInBounds_toArray, List.set_cons_zero, List.set_cons_succ])
              refine wpAnyH_take (i := 3) (v := ?_) (by (simp only [List.getElem?_toArray, List.getElem?_cons_succ, List.getElem?_cons_zero]; rfl)) (by kernel_rfl) (by kernel_rfl) (by kernel_rfl) (fun _ _ _ h => h) (Or.inl ⟨by rfl, ?_⟩) (by assumption) ?_
              rotate_left
              · intro wt hSw
                (try dsimp only at hSw)
                go_simp
                (try with_reducible rfl)
              (try simp only [Act.put, List.setIfInBounds_toArray, List.set_cons_zero, List.set_cons_succ])
              refine wpAnyH_take (i := 4) (v := ?_) (by (simp only [List.getElem?_toArray, List.getElem?_cons_succ, List.getElem?_cons_zero]; rfl)) (by kernel_rfl) (by kernel_rfl) (by kernel_rfl) (fun _ _ _ h => h) (Or.inl ⟨by rfl, ?_⟩) (by assumption) ?_
              rotate_left
              · intro wt hSw
                (try dsimp only at hSw)
                go_simp
                (try with_reducible rfl)
              (try simp only [Act.put, List.setIfInBounds_toArray, List.set_cons_zero, List.set_cons_succ])
              refine wpAnyH_take (i := 5) (v := ?_) (by (simp only [List.getElem?_toArray, List.getElem?_cons_succ, List.getElem?_cons_zero]; rfl)) (by kernel_rfl) (by kernel_rfl) (by kernel_rfl) (fun _ _ _ h => h) (Or.inl ⟨by rfl, ?_⟩) (by assumption) ?_
              rotate_left
              · intro wt hSw
                (try dsimp only at hSw)
                go_simp
                (try with_reducible rfl)
              (try simp only [Act.put, List.setIfInBounds_toArray, List.set_cons_zero, List.set_cons_succ])
              refine wpAnyH_take (i := 6) (v := ?_) (by (simp only [List.getElem?_toArray, List.getElem?_cons_succ, List.getElem?_cons_zero]; rfl)) (by kernel_rfl) (by kernel_rfl) (by kernel_rfl) (fun _ _ _ h => h) (Or.inl ⟨by rfl, ?_⟩) (by assumption) ?_
              rotate_left
              · intro wt hSw
                (try dsimp only at hSw)
                go_simp
                (try with_reducible rfl)
              (try simp only [Act.put, List.setIfInBounds_toArray, List.set_cons_zero, List.set_cons_succ])
              refine wpAnyH_ready (rs := [8]) (by kernel_rfl) (by simp) (AllReadyH.cons (by (simp only [List.getElem?_toArray, List.getElem?_cons_succ, List.getElem?_cons_zero]; rfl)) (fun K hK => ?_) AllReadyH.nil)
              go_simp
              have B4 := B3.alloc (o := (.cells #[.bool false, .slice none 0 0] 24)) B3.size
              have R8 : Rest (wc1.alloc (.cells #[.bool false, .slice none 0 0] 24)) wc1.heap.size := Rest.newI wc1
              have hv8 : w11.heap.size ≤ wc1.heap.size := B3.size
              have hbz : Below wc1.heap.size wc1 (wc1.alloc (.cells #[.bool false, .slice none 0 0] 24)) := (Below.refl _ _).alloc (Nat.le_refl _) _
              have hne : wc0.heap.size ≠ wc1.heap.size := Nat.ne_of_lt R7.lr
              have R7 := R7.on hbz
              have mq := mq.below hbz
              have mr := mr.below hbz
              clear hbz
              generalize (wc1.alloc (.cells #[.bool false, .slice none 0 0] 24)) = Wn83 at *
              refine hK.out _ _ ⟨B4, (KX.on B4).c0, (KX.on B4).c1⟩ (fun hHeld => ?_)
              clear hK
              (try simp only [Act.put, List.setIfInBounds_toArray, List.set_cons_zero, List.set_cons_succ])
              have g0 := R7.r0
              have g1 := R7.r1
              have g2 := R7.f0
              have g3 := R7.f1
              refine wpAnyH_ready (rs := [9]) (by kernel_rfl) (by simp) (AllReadyH.cons (by (simp only [List.getElem?_toArray, List.getElem?_cons_succ, List.getElem?_cons_zero]; rfl)) (fun K hK => ?_) AllReadyH.nil)
              go_simp
              have Bz : Below w11.heap.size w11 ((Wn83.setCell ⟨wc0.heap.size, 0, none⟩ (.bool nq)).setCell ⟨wc0.heap.size, 1, none⟩ (.slice Aq lq.length cq)) := (B4.setCell (p := ⟨_, 0, none⟩) hv7 _).setCell (p := ⟨_, 1, none⟩) hv7 _
              have KQ := Own.new R7 mq
              have mr := mr.laid R7 (.bool nq) (.slice Aq lq.length cq)
              have R8 := R8.put hne (.bool nq) (.slice Aq lq.length cq)
              clear g0 g1 g2 g3 R7 mq
              generalize ((Wn83.setCell ⟨wc0.heap.size, 0, none⟩ (.bool nq)).setCell ⟨wc0.heap.size, 1, none⟩ (.slice Aq lq.length cq)) = Ws at *
              refine hK.out _ _ ⟨Bz, (KX.on Bz).c0, (KX.on Bz).c1⟩ (fun hHeld => ?_)
              clear hK
              (try simp only [Act.put, List.setIfInBounds_toArray, List.set_cons_zero, List.set_cons_succ])
              have g0 := R8.r0
              have g1 := R8.r1
              have g2 := R8.f0
              have g3 := R8.f1
              refine wpAnyH_ready (rs := [10]) (by kernel_rfl) (by simp) (AllReadyH.cons (by (simp only [List.getElem?_toArray, List.getElem?_cons_succ, List.getElem?_cons_zero]; rfl)) (fun K hK => ?_) AllReadyH.nil)
              go_simp
              have By : Below w11.heap.size w11 ((Ws.setCell ⟨wc1.heap.size, 0, none⟩ (.bool nr)).setCell ⟨wc1.heap.size, 1, none⟩ (.slice Ar lr.length cr)) := (Bz.setCell (p := ⟨_, 0, none⟩) hv8 _).setCell (p := ⟨_, 1, none⟩) hv8 _
              have KQ := KQ.put R8 hne (.bool nr) (.slice Ar lr.length cr)
              have KR := Held.new R8 mr
              clear g0 g1 g2 g3 R8 mr
              generalize ((Ws.setCell ⟨wc1.heap.size, 0, none⟩ (.bool nr)).setCell ⟨wc1.heap.size, 1, none⟩ (.slice Ar lr.length cr)) = Wt at *
              refine hK.out _ _ ⟨By, (KX.on By).c0, (KX.on By).c1⟩ (fun hHeld => ?_)
              clear hK
              (try simp only [Act.put, List.setIfInBounds_toArray, List.set_cons_zero, List.set_cons_succ])
              refine wpAnyH_take (i := 11) (v := ?_) (by (simp only [List.getElem?_toArray, List.getElem?_cons_succ, List.getElem?_cons_zero]; rfl)) (by kernel_rfl) (by kernel_rfl) (by kernel_rfl) (fun _ _ _ h => h) (Or.inl ⟨by rfl, ?_⟩) (by assumption) ?_
              rotate_left
              · intro wt hSw
                (try dsimp only at hSw)
                go_simp
                (try with_reducible rfl)
              (try simp only [Act.put, List.setIfInBounds_toArray, List.set_cons_zero, List.set_cons_succ])
              refine wpAnyH_done (by kernel_rfl) (NoPanic.normal ?_) _
              go_wp2
              go_meet
              exact ⟨_, _, _, _, _, _, _, _, _, _, rfl, rfl, rfl, KQ, KR, vq, vr, KX.on By, Nat.le_trans BB.size hv7, BB.trans (By.mono BB.size)⟩
            · go_simp
              have B3 := B2.alloc (o := (.cells #[.bool false, .slice none 0 0] 24)) B2.size
              have R8 : Rest (Wn71.alloc (.cells #[.bool false, .slice none 0 0] 24)) Wn71.heap.size := Rest.newI Wn71
              have hv8 : w11.heap.size ≤ Wn71.heap.size := B2.size
              have hbz : Below Wn71.heap.size Wn71 (Wn71.alloc (.cells #[.bool false, .slice none 0 0] 24)) := (Below.refl _ _).alloc (Nat.le_refl _) _
              have hne : wc0.heap.size ≠ Wn71.heap.size := Nat.ne_of_lt R7.lr
              have R7 := R7.on hbz
              have m1 := m1.below hbz
              clear hbz
              generalize (Wn71.alloc (.cells #[.bool false, .slice none 0 0] 24)) = Wn82 at *
              refine hK.out _ _ ⟨B3, (KX.on B3).c0, (KX.on B3).c1⟩ (fun hHeld => ?_)
              clear hK
              (try simp only [Act.put, List.setIfInBounds_toArray, List.set_cons_zero, List.set_cons_succ])
              refine wpAnyH_ready (rs := [2]) (by kernel_rfl) (by simp) (AllReadyH.cons (by (simp only [List.getElem?_toArray, List.getElem?_cons_succ, List.getElem?_cons_zero]; rfl)) (fun K hK => ?_) AllReadyH.nil)
              go_simp
              (go_at_call 30; with_reducible refine (quorem_two n1 A A1 xs l1 c c1 _ (KX.on B3).lm m1 v1 HX.out).mono ?_)
              rintro e6 wc1 ⟨nq, Aq, lq, cq, nr, Ar, lr, cr, rfl, mq, mr, vq, vr, hb⟩
              (try go_wp2_with fail)
              have B4 := B3.trans (hb.mono B3.size)
              have R7 := R7.on hb
              have R8 := R8.on hb
              clear hb
              refine hK.out _ _ ⟨B4, (KX.on B4).c0, (KX.on B4).c1⟩ (fun hHeld => ?_)
              clear hK
              (try simp only [Act.put, List.setIfInBounds_toArray, List.set_cons_zero, List.set_cons_succ])
              refine wpAnyH_take (i := 3) (v := ?_) (by (simp only [List.getElem?_toArray, List.getElem?_cons_succ, List.getElem?_cons_zero]; rfl)) (by kernel_rfl) (by kernel_rfl) (by kernel_rfl) (fun _ _ _ h => h) (Or.inl ⟨by rfl, ?_⟩) (by assumption) ?_
              rotate_left
              · intro wt hSw
                (try dsimp only at hSw)
                go_simp
                (try with_reducible rfl)
              (try simp only [Act.put, List.setIfInBounds_toArray, List.set_cons_zero, List.set_cons_succ])
              refine wpAnyH_take (i := 4) (v := ?_) (by (simp only [List.getElem?_toArray, List.getElem?_cons_succ, List.getElem?_cons_zero]; rfl)) (by kernel_rfl) (by kernel_rfl) (by kernel_rfl) (fun _ _ _ h => h) (Or.inl ⟨by rfl, ?_⟩) (by assumption) ?_
              rotate_left
              · intro wt hSw
                (try dsimp only at hSw)
                go_simp
                (try with_reducible rfl)
              (try simp only [Act.put, List.setIfInBounds_toArray, List.set_cons_zero, List.set_cons_succ])
              refine wpAnyH_take (i := 5) (v := ?_) (by (simp only [List.getElem?_toArray, List.getElem?_cons_succ, List.getElem?_cons_zero]; rfl)) (by kernel_rfl) (by kernel_rfl) (by kernel_rfl) (fun _ _ _ h => h) (Or.inl ⟨by rfl, ?_⟩) (by assumption) ?_
              rotate_left
              · intro wt hSw
                (try dsimp only at hSw)
                go_simp
                (try with_reducible rfl)
              (try simp only [Act.put, List.setIfInBounds_toArray, List.set_cons_zero, List.set_cons_succ])
              refine wpAnyH_take (i := 6) (v := ?_) (by (simp only [List.getElem?_toArray, List.getElem?_cons_succ, List.getElem?_cons_zero]; rfl)) (by kernel_rfl) (by kernel_rfl) (by kernel_rfl) (fun _ _ _ h => h) (Or.inl ⟨by rfl, ?_⟩) (by assumption) ?_
              rotate_left
              · intro wt hSw
                (try dsimp only at hSw)
                go_simp
                (try with_reducible rfl)
              (try simp only [Act.put, List.setIfInBounds_toArray, List.set_cons_zero, List.set_cons_succ])
              have g0 := R7.r0
              have g1 := R7.r1
              have g2 := R7.f0
              have g3 := R7.f1
              refine wpAnyH_ready (rs := [9]) (by kernel_rfl) (by simp) (AllReadyH.cons (by (simp only [List.getElem?_toArray, List.getElem?_cons_succ, List.getElem?_cons_zero]; rfl)) (fun K hK => ?_) AllReadyH.nil)
              go_simp
              have Bz : Below w11.heap.size w11 ((wc1.setCell ⟨wc0.heap.size, 0, none⟩ (.bool nq)).setCell ⟨wc0.heap.size, 1, none⟩ (.slice Aq lq.length cq)) := (B4.setCell (p := ⟨_, 0, none⟩) hv7 _).setCell (p := ⟨_, 1, none⟩) hv7 _
              have KQ := Own.new R7 mq
              have mr := mr.laid R7 (.bool nq) (.slice Aq lq.length cq)
              have R8 := R8.put hne (.bool nq) (.slice Aq lq.length cq)
              clear g0 g1 g2 g3 R7 mq
              generalize ((wc1.setCell ⟨wc0.heap.size, 0, none⟩ (.bool nq)).setCell ⟨wc0.heap.size, 1, none⟩ (.slice Aq lq.length cq)) = Ws at *
              refine hK.out _ _ ⟨Bz, (KX.on Bz).c0, (KX.on Bz).c1⟩ (fun hHeld => ?_)
              clear hK
              (try simp only [Act.put, List.setIfInBounds_toArray, List.set_cons_zero, List.set_cons_succ])
              have g0 := R8.r0
              have g1 := R8.r1
              have g2 := R8.f0
              have g3 := R8.f1
              refine wpAnyH_ready (rs := [10]) (by kernel_rfl) (by simp) (AllReadyH.cons (by (simp only [List.getElem?_toArray, List.getElem?_cons_succ, List.getElem?_cons_zero]; rfl)) (fun K hK => ?_) AllReadyH.nil)
              go_simp
              have By : Below w11.heap.size w11 ((Ws.setCell ⟨Wn71.heap.size, 0, none⟩ (.bool nr)).setCell ⟨Wn71.heap.size, 1, none⟩ (.slice Ar lr.length cr)) := (Bz.setCell (p := ⟨_, 0, none⟩) hv8 _).setCell (p := ⟨_, 1, none⟩) hv8 _
              have KQ := KQ.put R8 hne (.bool nr) (.slice Ar lr.length cr)
              have KR := Held.new R8 mr
              clear g0 g1 g2 g3 R8 mr
              generalize ((Ws.setCell ⟨Wn71.heap.size, 0, none⟩ (.bool nr)).setCell ⟨Wn71.heap.size, 1, none⟩ (.slice Ar lr.length cr)) = Wt at *
              refine hK.out _ _ ⟨By, (KX.on By).c0, (KX.on By).c1⟩ (fun hHeld => ?_)
              clear hK
              (try simp only [Act.put, List.setIfInBounds_toArray, List.set_cons_zero, List.set_cons_succ])
              refine wpAnyH_take (i := 11) (v := ?_) (by (simp only [List.getElem?_toArray, List.getElem?_cons_succ, List.getElem?_cons_zero]; rfl)) (by kernel_rfl) (by kernel_rfl) (by kernel_rfl) (fun _ _ _ h => h) (Or.inl ⟨by rfl, ?_⟩) (by assumption) ?_
              rotate_left
              · intro wt hSw
                (try dsimp only at hSw)
                go_simp
                (try with_reducible rfl)
              (try simp only [Act.put, List.setIfInBounds_toArray, List.set_cons_zero, List.set_cons_succ])
              refine wpAnyH_done (by kernel_rfl) (NoPanic.normal ?_) _
              go_wp2
              go_meet
              exact ⟨_, _, _, _, _, _, _, _, _, _, rfl, rfl, rfl, KQ, KR, vq, vr, KX.on By, Nat.le_trans BB.size hv7, BB.trans (By.mono BB.size)⟩
          · go_simp
            have B2 := B1.alloc (o := (.cells #[.bool false, .slice none 0 0] 24)) B1.size
            have R8 : Rest (wc0.alloc (.cells #[.bool false, .slice none 0 0] 24)) wc0.heap.size := Rest.newI wc0
            have hv8 : w11.heap.size ≤ wc0.heap.size := B1.size
            have hbz : Below wc0.heap.size wc0 (wc0.alloc (.cells #[.bool false, .slice none 0 0] 24)) := (Below.refl _ _).alloc (Nat.le_refl _) _
            have m1 := m1.below hbz
            clear hbz
            generalize (wc0.alloc (.cells #[.bool false, .slice none 0 0] 24)) = Wn81 at *
            refine hK.out _ _ ⟨B2, (KX.on B2).c0, (KX.on B2).c1⟩ (fun hHeld => ?_)
            clear hK
            (try simp only [Act.put, List.setIfInBounds_toArray, List.set_cons_zero, List.set_cons_succ])
            refine wpAnyH_ready (rs := [2, 7]) (by kernel_rfl) (by simp) (AllReadyH.cons (by (simp only [List.getElem?_toArray, List.getElem?_cons_succ, List.getElem?_cons_zero]; rfl)) (fun K hK => ?_) (AllReadyH.cons (by (simp only [List.getElem?_toArray, List.getElem?_cons_succ, List.getElem?_cons_zero]; rfl)) (fun K hK => ?_) AllReadyH.nil))
            · go_simp
              (go_at_call 30; with_reducible refine (quorem_two n1 A A1 xs l1 c c1 _ (KX.on B2).lm m1 v1 HX.out).mono ?_)
              rintro e6 wc1 ⟨nq, Aq, lq, cq, nr, Ar, lr, cr, rfl, mq, mr, vq, vr, hb⟩
              (try go_wp2_with fail)
              have B3 := B2.trans (hb.mono B2.size)
              have R8 := R8.on hb
              clear hb
              refine hK.out _ _ ⟨B3, (KX.on B3).c0, (KX.on B3).c1⟩ (fun hHeld => ?_)
              clear hK
              (try simp only [Act.put, List.setIfInBounds_toArray, List.set_cons_zero, List.set_cons_succ])
              refine wpAnyH_take (i := 3) (v := ?_) (by (simp only [List.getElem?_toArray, List.getElem?_cons_succ, List.getElem?_cons_zero]; rfl)) (by kernel_rfl) (by kernel_rfl) (by kernel_rfl) (fun _ _ _ h => h) (Or.inl ⟨by rfl, ?_⟩) (by assumption) ?_
              rotate_left
              · intro wt hSw
                (try dsimp only at hSw)
                go_simp
                (try with_reducible rfl)
              (try simp only [Act.put, List.setIfInBounds_toArray, List.set_cons_zero, List.set_cons_succ])
              refine wpAnyH_take (i := 4) (v := ?_) (by (simp only [List.getElem?_toArray, List.getElem?_cons_succ, List.getElem?_cons_zero]; rfl)) (by kernel_rfl) (by kernel_rfl) (by kernel_rfl) (fun _ _ _ h => h) (Or.inl ⟨by rfl, ?_⟩) (by assumption) ?_
              rotate_left
              · intro wt hSw
                (try dsimp only at hSw)
                go_simp
                (try with_reducible rfl)
              (try simp only [Act.put, List.setIfInBounds_toArray, List.set_cons_zero, List.set_cons_succ])
              refine wpAnyH_take (i := 5) (v := ?_) (by (simp only [List.getElem?_toArray, List.getElem?_cons_succ, List.getElem?_cons_zero]; rfl)) (by kernel_rfl) (by kernel_rfl) (by kernel_rfl) (fun _ _ _ h => h) (Or.inl ⟨by rfl, ?_⟩) (by assumption) ?_
              rotate_left
              · intro wt hSw
                (try dsimp only at hSw)
                go_simp
                (try with_reducible rfl)
              (try simp only [Act.put, List.setIfInBounds_toArray, List.set_cons_zero, List.set_cons_succ])
              refine wpAnyH_take (i := 6) (v := ?_) (by (simp only [List.getElem?_toArray, List.getElem?_cons_succ, List.getElem?_cons_zero]; rfl)) (by kernel_rfl) (by kernel_rfl) (by kernel_rfl) (fun _ _ _ h => h) (Or.inl ⟨by rfl, ?_⟩) (by assumption) ?_
              rotate_left
              · intro wt hSw
                (try dsimp only at hSw)
                go_simp
                (try with_reducible rfl)
              (try simp only [Act.put, List.setIfInBounds_toArray, List.set_cons_zero, List.set_cons_succ])
              refine wpAnyH_ready (rs := [7]) (by kernel_rfl) (by simp) (AllReadyH.cons (by (simp only [List.getElem?_toArray, List.getElem?_cons_succ, List.getElem?_cons_zero]; rfl)) (fun K hK => ?_) AllReadyH.nil)
              go_simp
              have B4 := B3.alloc (o := (.cells #[.bool false, .slice none 0 0] 24)) B3.size
              have R7 : Rest (wc1.alloc (.cells #[.bool false, .slice none 0 0] 24)) wc1.heap.size := Rest.newI wc1
              have hv7 : w11.heap.size ≤ wc1.heap.size := B3.size
              have hbz : Below wc1.heap.size wc1 (wc1.alloc (.cells #[.bool false, .slice none 0 0] 24)) := (Below.refl _ _).alloc (Nat.le_refl _) _
              have hne : wc1.heap.size ≠ wc0.heap.size := (Nat.ne_of_lt R8.lr).symm
              have R8 := R8.on hbz
              have mq := mq.below hbz
              have mr := mr.below hbz
              clear hbz
              generalize (wc1.alloc (.cells #[.bool false, .slice none 0 0] 24)) = Wn73 at *
              refine hK.out _ _ ⟨B4, (KX.on B4).c0, (KX.on B4).c1⟩ (fun hHeld => ?_)
              clear hK
              (try simp only [Act.put, List.setIfInBounds_toArray, List.set_cons_zero, List.set_cons_succ])
              have g0 := R7.r0
              have g1 := R7.r1
              have g2 := R7.f0
              have g3 := R7.f1
              refine wpAnyH_ready (rs := [9]) (by kernel_rfl) (by simp) (AllReadyH.cons (by (simp only [List.getElem?_toArray, List.getElem?_cons_succ, List.getElem?_cons_zero]; rfl)) (fun K hK => ?_) AllReadyH.nil)
              go_simp
              have Bz : Below w11.heap.size w11 ((Wn73.setCell ⟨wc1.heap.size, 0, none⟩ (.bool nq)).setCell ⟨wc1.heap.size, 1, none⟩ (.slice Aq lq.length cq)) := (B4.setCell (p := ⟨_, 0, none⟩) hv7 _).setCell (p := ⟨_, 1, none⟩) hv7 _
              have KQ := Own.new R7 mq
              have mr := mr.laid R7 (.bool nq) (.slice Aq lq.length cq)
              have R8 := R8.put hne (.bool nq) (.slice Aq lq.length cq)
              clear g0 g1 g2 g3 R7 mq
              generalize ((Wn73.setCell ⟨wc1.heap.size, 0, none⟩ (.bool nq)).setCell ⟨wc1.heap.size, 1, none⟩ (.slice Aq lq.length cq)) = Ws at *
              refine hK.out _ _ ⟨Bz, (KX.on Bz).c0, (KX.on Bz).c1⟩ (fun hHeld => ?_)
              clear hK
              (try simp only [Act.put, List.setIfInBounds_toArray, List.set_cons_zero, List.set_cons_succ])
              have g0 := R8.r0
              have g1 := R8.r1
              have g2 := R8.f0
              have g3 := R8.f1
              refine wpAnyH_ready (rs := [10]) (by kernel_rfl) (by simp) (AllReadyH.cons (by (simp only [List.getElem?_toArray, List.getElem?_cons_succ, List.getElem?_cons_zero]; rfl)) (fun K hK => ?_) AllReadyH.nil)
              go_simp
              have By : Below w11.heap.size w11 ((Ws.setCell ⟨wc0.heap.size, 0, none⟩ (.bool nr)).setCell ⟨wc0.heap.size, 1, none⟩ (.slice Ar lr.length cr)) := (Bz.setCell (p := ⟨_, 0, none⟩) hv8 _).setCell (p := ⟨_, 1, none⟩) hv8 _
              have KQ := KQ.put R8 hne (.bool nr) (.slice Ar lr.length cr)
              have KR := Held.new R8 mr
              clear g0 g1 g2 g3 R8 mr
              generalize ((Ws.setCell ⟨wc0.heap.size, 0, none⟩ (.bool nr)).setCell ⟨wc0.heap.size, 1, none⟩ (.slice Ar lr.length cr)) = Wt at *
              refine hK.out _ _ ⟨By, (KX.on By).c0, (KX.on By).c1⟩ (fun hHeld => ?_)
              clear hK
              (try simp only [Act.put, List.setIfInBounds_toArray, List.set_cons_zero, List.set_cons_succ])
              refine wpAnyH_take (i := 11) (v := ?_) (by (simp only [List.getElem?_toArray, List.getElem?_cons_succ, List.getElem?_cons_zero]; rfl)) (by kernel_rfl) (by kernel_rfl) (by kernel_rfl) (fun _ _ _ h => h) (Or.inl ⟨by rfl, ?_⟩) (by assumption) ?_
              rotate_left
              · intro wt hSw
                (try dsimp only at hSw)
                go_simp
                (try with_reducible rfl)
              (try simp only [Act.put, List.setIfInBounds_toArray, List.set_cons_zero, List.set_cons_succ])
              refine wpAnyH_done (by kernel_rfl) (NoPanic.normal ?_) _
              go_wp2
              go_meet
              exact ⟨_, _, _, _, _, _, _, _, _, _, rfl, rfl, rfl, KQ, KR, vq, vr, KX.on By, Nat.le_trans BB.size hv7, BB.trans (By.mono BB.size)⟩
            · go_simp
              have B3 := B2.alloc (o := (.cells #[.bool false, .slice none 0 0] 24)) B2.size
              have R7 : Rest (Wn81.alloc (.cells #[.bool false, .slice none 0 0] 24)) Wn81.heap.size := Rest.newI Wn81
              have hv7 : w11.heap.size ≤ Wn81.heap.size := B2.size
              have hbz : Below Wn81.heap.size Wn81 (Wn81.alloc (.cells #[.bool false, .slice none 0 0] 24)) := (Below.refl _ _).alloc (Nat.le_refl _) _
              have hne : Wn81.heap.size ≠ wc0.heap.size := (Nat.ne_of_lt R8.lr).symm
              have R8 := R8.on hbz
              have m1 := m1.below hbz
              clear hbz
              generalize (Wn81.alloc (.cells #[.bool false, .slice none 0 0] 24)) = Wn72 at *
              refine hK.out _ _ ⟨B3, (KX.on B3).c0, (KX.on B3).c1⟩ (fun hHeld => ?_)
              clear hK
              (try simp only [Act.put, List.setIfInBounds_toArray, List.set_cons_zero, List.set_cons_succ])
              refine wpAnyH_ready (rs := [2]) (by kernel_rfl) (by simp) (AllReadyH.cons (by (simp only [List.getElem?_toArray, List.getElem?_cons_succ, List.getElem?_cons_zero]; rfl)) (fun K hK => ?_) AllReadyH.nil)
              go_simp
              (go_at_call 30; with_reducible refine (quorem_two n1 A A1 xs l1 c c1 _ (KX.on B3).lm m1 v1 HX.out).mono ?_)
              rintro e6 wc1 ⟨nq, Aq, lq, cq, nr, Ar, lr, cr, rfl, mq, mr, vq, vr, hb⟩
              (try go_wp2_with fail)
              have B4 := B3.trans (hb.mono B3.size)
              have R8 := R8.on hb
              have R7 := R7.on hb
              clear hb
              refine hK.out _ _ ⟨B4, (KX.on B4).c0, (KX.on B4).c1⟩ (fun hHeld => ?_)
              clear hK
              (try simp only [Act.put, List.setIfInBounds_toArray, List.set_cons_zero, List.set_cons_succ])
              refine wpAnyH_take (i := 3) (v := ?_) (by (simp only [List.getElem?_toArray, List.getElem?_cons_succ, List.getElem?_cons_zero]; rfl)) (by kernel_rfl) (by kernel_rfl) (by kernel_rfl) (fun _ _ _ h => h) (Or.inl ⟨by rfl, ?_⟩) (by assumption) ?_
              rotate_left
              · intro wt hSw
                (try dsimp only at hSw)
                go_simp
                (try with_reducible rfl)
              (try simp only [Act.put, List.setIfInBounds_toArray, List.set_cons_zero, List.set_cons_succ])
              refine wpAnyH_take (i := 4) (v := ?_) (by (simp only [List.getElem?_toArray, List.getElem?_cons_succ, List.getElem?_cons_zero]; rfl)) (by kernel_rfl) (by kernel_rfl) (by kernel_rfl) (fun _ _ _ h => h) (Or.inl ⟨by rfl, ?_⟩) (by assumption) ?_
              rotate_left
              · intro wt hSw
                (try dsimp only at hSw)
                go_simp
                (try with_reducible rfl)
              (try simp only [Act.put, List.setIfInBounds_toArray, List.set_cons_zero, List.set_cons_succ])
              refine wpAnyH_take (i := 5) (v := ?_) (by (simp only [List.getElem?_toArray, List.getElem?_cons_succ, List.getElem?_cons_zero]; rfl)) (by kernel_rfl) (by kernel_rfl) (by kernel_rfl) (fun _ _ _ h => h) (Or.inl ⟨by rfl, ?_⟩) (by assumption) ?_
              rotate_left
              · intro wt hSw
                (try dsimp only at hSw)
                go_simp
                (try with_reducible rfl)
              (try simp only [Act.put, List.setIfInBounds_toArray, List.set_cons_zero, List.set_cons_succ])
              refine wpAnyH_take (i := 6) (v := ?_) (by (simp only [List.getElem?_toArray, List.getElem?_cons_succ, List.getElem?_cons_zero]; rfl)) (by kernel_rfl) (by kernel_rfl) (by kernel_rfl) (fun _ _ _ h => h) (Or.inl ⟨by rfl, ?_⟩) (by assumption) ?_
              rotate_left
              · intro wt hSw
                (try dsimp only at hSw)
                go_simp
                (try with_reducible rfl)
              (try simp only [Act.put, List.setIfInBounds_toArray, List.set_cons_zero, List.set_cons_succ])
              have g0 := R7.r0
              have g1 := R7.r1
              have g2 := R7.f0
              have g3 := R7.f1
              refine wpAnyH_ready (rs := [9]) (by kernel_rfl) (by simp) (AllReadyH.cons (by (simp only [List.getElem?_toArray, List.getElem?_cons_succ, List.getElem?_cons_zero]; rfl)) (fun K hK => ?_) AllReadyH.nil)
              go_simp
              have Bz : Below w11.heap.size w11 ((wc1.setCell ⟨Wn81.heap.size, 0, none⟩ (.bool nq)).setCell ⟨Wn81.heap.size, 1, none⟩ (.slice Aq lq.length cq)) := (B4.setCell (p := ⟨_, 0, none⟩) hv7 _).setCell (p := ⟨_, 1, none⟩) hv7 _
              have KQ := Own.new R7 mq
              have mr := mr.laid R7 (.bool nq) (.slice Aq lq.length cq)
              have R8 := R8.put hne (.bool nq) (.slice Aq lq.length cq)
              clear g0 g1 g2 g3 R7 mq
              generalize ((wc1.setCell ⟨Wn81.heap.size, 0, none⟩ (.bool nq)).setCell ⟨Wn81.heap.size, 1, none⟩ (.slice Aq lq.length cq)) = Ws at *
              refine hK.out _ _ ⟨Bz, (KX.on Bz).c0, (KX.on Bz).c1⟩ (fun hHeld => ?_)
              clear hK
              (try simp only [Act.put, List.setIfInBounds_toArray, List.set_cons_zero, List.set_cons_succ])
              have g0 := R8.r0
              have g1 := R8.r1
              have g2 := R8.f0
              have g3 := R8.f1
              refine wpAnyH_ready (rs := [10]) (by kernel_rfl) (by simp) (AllReadyH.cons (by (simp only [List.getElem?_toArray, List.getElem?_cons_succ, List.getElem?_cons_zero]; rfl)) (fun K hK => ?_) AllReadyH.nil)
              go_simp
              have By : Below w11.heap.size w11 ((Ws.setCell ⟨wc0.heap.size, 0, none⟩ (.bool nr)).setCell ⟨wc0.heap.size, 1, none⟩ (.slice Ar lr.length cr)) := (Bz.setCell (p := ⟨_, 0, none⟩) hv8 _).setCell (p := ⟨_, 1, none⟩) hv8 _
              have KQ := KQ.put R8 hne (.bool nr) (.slice Ar lr.length cr)
              have KR := Held.new R8 mr
              clear g0 g1 g2 g3 R8 mr
              generalize ((Ws.setCell ⟨wc0.heap.size, 0, none⟩ (.bool nr)).setCell ⟨wc0.heap.size, 1, none⟩ (.slice Ar lr.length cr)) = Wt at *
              refine hK.out _ _ ⟨By, (KX.on By).c0, (KX.on By).c1⟩ (fun hHeld => ?_)
              clear hK
              (try simp only [Act.put, List.setIfInBounds_toArray, List.set_cons_zero, List.set_cons_succ])
              refine wpAnyH_take (i := 11) (v := ?_) (by (simp only [List.getElem?_toArray, List.getElem?_cons_succ, List.getElem?_cons_zero]; rfl)) (by kernel_rfl) (by kernel_rfl) (by kernel_rfl) (fun _ _ _ h => h) (Or.inl ⟨by rfl, ?_⟩) (by assumption) ?_
              rotate_left
              · intro wt hSw
                (try dsimp only at hSw)
                go_simp
                (try with_reducible rfl)
              (try simp only [Act.put, List.setIfInBounds_toArray, List.set_cons_zero, List.set_cons_succ])
              refine wpAnyH_done (by kernel_rfl) (NoPanic.normal ?_) _
              go_wp2
              go_meet
              exact ⟨_, _, _, _, _, _, _, _, _, _, rfl, rfl, rfl, KQ, KR, vq, vr, KX.on By, Nat.le_trans BB.size hv7, BB.trans (By.mono BB.size)⟩
        · go_simp
          have B1 := B0.alloc (o := (.cells #[.bool false, .slice none 0 0] 24)) B0.size
          have R7 : Rest (Vd.alloc (.cells #[.bool false, .slice none 0 0] 24)) Vd.heap.size := Rest.newI Vd
          have hv7 : w11.heap.size ≤ Vd.heap.size := B0.size
          have hbz : Below Vd.heap.size Vd (Vd.alloc (.cells #[.bool false, .slice none 0 0] 24)) := (Below.refl _ _).alloc (Nat.le_refl _) _
          clear hbz
          generalize (Vd.alloc (.cells #[.bool false, .slice none 0 0] 24)) = Wn70 at *
          refine hK.out _ _ ⟨B1, (KX.on B1).c0, (KX.on B1).c1⟩ (fun hHeld => ?_)
          clear hK
          (try simp only [Act.put, List.setIfInBounds_toArray, List.set_cons_zero, List.set_cons_succ])
          refine wpAnyH_ready (rs := [1, 8]) (by kernel_rfl) (by simp) (AllReadyH.cons (by (simp only [List.getElem?_toArray, List.getElem?_cons_succ, List.getElem?_cons_zero]; rfl)) (fun K hK => ?_) (AllReadyH.cons (by (simp only [List.getElem?_toArray, List.getElem?_cons_succ, List.getElem?_cons_zero]; rfl)) (fun K hK => ?_) AllReadyH.nil))
          · go_simp
            (go_at_call 32; with_reducible refine (F2.out _).mono ?_)
            rintro e5 wc0 ⟨A1, c1, l1, rfl, m1, v1, z1, hb⟩
            (try go_wp2_with fail)
            have B2 := B1.trans (hb.mono B1.size)
            have R7 := R7.on hb
            clear hb
            refine hK.out _ _ ⟨B2, (KX.on B2).c0, (KX.on B2).c1⟩ (fun hHeld => ?_)
            clear hK
            (try simp only [Act.put, List.setIfInBounds_toArray, List.set_cons_zero, List.set_cons_succ])
            refine wpAnyH_ready (rs := [2, 8]) (by kernel_rfl) (by simp) (AllReadyH.cons (by (simp only [List.getElem?_toArray, List.getElem?_cons_succ, List.getElem?_cons_zero]; rfl)) (fun K hK => ?_) (AllReadyH.cons (by (simp only [List.getElem?_toArray, List.getElem?_cons_succ, List.getElem?_cons_zero]; rfl)) (fun K hK => ?_) AllReadyH.nil))
            · go_simp
              (go_at_call 30; with_reducible refine (quorem_two n1 A A1 xs l1 c c1 _ (KX.on B2).lm m1 v1 HX.out).mono ?_)
              rintro e6 wc1 ⟨nq, Aq, lq, cq, nr, Ar, lr, cr, rfl, mq, mr, vq, vr, hb⟩
              (try go_wp2_with fail)
              have B3 := B2.trans (hb.mono B2.size)
              have R7 := R7.on hb
              clear hb
              refine hK.out _ _ ⟨B3, (KX.on B3).c0, (KX.on B3).c1⟩ (fun hHeld => ?_)
              clear hK
              (try simp only [Act.put, List.setIfInBounds_toArray, List.set_cons_zero, List.set_cons_succ])
              refine wpAnyH_take (i := 3) (v := ?_) (by (simp only [List.getElem?_toArray, List.getElem?_cons_succ, List.getElem?_cons_zero]; rfl)) (by kernel_rfl) (by kernel_rfl) (by kernel_rfl) (fun _ _ _ h => h) (Or.inl ⟨by rfl, ?_⟩) (by assumption) ?_
              rotate_left
              · intro wt hSw
                (try dsimp only at hSw)
                go_simp
                (try with_reducible rfl)
              (try simp only [Act.put, List.setIfInBounds_toArray, List.set_cons_zero, List.set_cons_succ])
              refine wpAnyH_take (i := 4) (v := ?_) (by (simp only [List.getElem?_toArray, List.getElem?_cons_succ, List.getElem?_cons_zero]; rfl)) (by kernel_rfl) (by kernel_rfl) (by kernel_rfl) (fun _ _ _ h => h) (Or.inl ⟨by rfl, ?_⟩) (by assumption) ?_
              rotate_left
              · intro wt hSw
                (try dsimp only at hSw)
                go_simp
                (try with_reducible rfl)
              (try simp only [Act.put, List.setIfInBounds_toArray, List.set_cons_zero, List.set_cons_succ])
              refine wpAnyH_take (i := 5) (v := ?_) (by (simp only [List.getElem?_toArray, List.getElem?_cons_succ, List.getElem?_cons_zero]; rfl)) (by kernel_rfl) (by kernel_rfl) (by kernel_rfl) (fun _ _ _ h => h) (Or.inl ⟨by rfl, ?_⟩) (by assumption) ?_
              rotate_left
              · intro wt hSw
                (try dsimp only at hSw)
                go_simp
                (try with_reducible rfl)
              (try simp only [Act.put, List.setIfInBounds_toArray, List.set_cons_zero, List.set_cons_succ])
              refine wpAnyH_take (i := 6) (v := ?_) (by (simp only [List.getElem?_toArray, List.getElem?_cons_succ, List.getElem?_cons_zero]; rfl)) (by kernel_rfl) (by kernel_rfl) (by kernel_rfl) (fun _ _ _ h => h) (Or.inl ⟨by rfl, ?_⟩) (by assumption) ?_
              rotate_left
              · intro wt hSw
                (try dsimp only at hSw)
                go_simp
                (try with_reducible rfl)
              (try simp only [Act.put, List.setIfInBounds_toArray, List.set_cons_zero, List.set_cons_succ])
              refine wpAnyH_ready (rs := [8]) (by kernel_rfl) (by simp) (AllReadyH.cons (by (simp only [List.getElem?_toArray, List.getElem?_cons_succ, List.getElem?_cons_zero]; rfl)) (fun K hK => ?_) AllReadyH.nil)
              go_simp
              have B4 := B3.alloc (o := (.cells #[.bool false, .slice none 0 0] 24)) B3.size
              have R8 : Rest (wc1.alloc (.cells #[.bool false, .slice none 0 0] 24)) wc1.heap.size := Rest.newI wc1
              have hv8 : w11.heap.size ≤ wc1.heap.size := B3.size
              have hbz : Below wc1.heap.size wc1 (wc1.alloc (.cells #[.bool false, .slice none 0 0] 24)) := (Below.refl _ _).alloc (Nat.le_refl _) _
              have hne : Vd.heap.size ≠ wc1.heap.size := Nat.ne_of_lt R7.lr
              have R7 := R7.on hbz
              have mq := mq.below hbz
              have mr := mr.below hbz
              clear hbz
              generalize (wc1.alloc (.cells #[.bool false, .slice none 0 0] 24)) = Wn83 at *
              refine hK.out _ _ ⟨B4, (KX.on B4).c0, (KX.on B4).c1⟩ (fun hHeld => ?_)
              clear hK
              (try simp only [Act.put, List.setIfInBounds_toArray, List.set_cons_zero, List.set_cons_succ])
              have g0 := R7.r0
              have g1 := R7.r1
              have g2 := R7.f0
              have g3 := R7.f1
              refine wpAnyH_ready (rs := [9]) (by kernel_rfl) (by simp) (AllReadyH.cons (by (simp only [List.getElem?_toArray, List.getElem?_cons_succ, List.getElem?_cons_zero]; rfl)) (fun K hK => ?_) AllReadyH.nil)
              go_simp
              have Bz : Below w11.heap.size w11 ((Wn83.setCell ⟨Vd.heap.size, 0, none⟩ (.bool nq)).setCell ⟨Vd.heap.size, 1, none⟩ (.slice Aq lq.length cq)) := (B4.setCell (p := ⟨_, 0, none⟩) hv7 _).setCell (p := ⟨_, 1, none⟩) hv7 _
              have KQ := Own.new R7 mq
              have mr := mr.laid R7 (.bool nq) (.slice Aq lq.length cq)
              have R8 := R8.put hne (.bool nq) (.slice Aq lq.length cq)
              clear g0 g1 g2 g3 R7 mq
              generalize ((Wn83.setCell ⟨Vd.heap.size, 0, none⟩ (.bool nq)).setCell ⟨Vd.heap.size, 1, none⟩ (.slice Aq lq.length cq)) = Ws at *
              refine hK.out _ _ ⟨Bz, (KX.on Bz).c0, (KX.on Bz).c1⟩ (fun hHeld => ?_)
              clear hK
              (try simp only [Act.put, List.setIfInBounds_toArray, List.set_cons_zero, List.set_cons_succ])
              have g0 := R8.r0
              have g1 := R8.r1
              have g2 := R8.f0
              have g3 := R8.f1
              refine wpAnyH_ready (rs := [10]) (by kernel_rfl) (by simp) (AllReadyH.cons (by (simp only [List.getElem?_toArray, List.getElem?_cons_succ, List.getElem?_cons_zero]; rfl)) (fun K hK => ?_) AllReadyH.nil)
              go_simp
              have By : Below w11.heap.size w11 ((Ws.setCell ⟨wc1.heap.size, 0, none⟩ (.bool nr)).setCell ⟨wc1.heap.size, 1, none⟩ (.slice Ar lr.length cr)) := (Bz.setCell (p := ⟨_, 0, none⟩) hv8 _).setCell (p := ⟨_, 1, none⟩) hv8 _
              have KQ := KQ.put R8 hne (.bool nr) (.slice Ar lr.length cr)
              have KR := Held.new R8 mr
              clear g0 g1 g2 g3 R8 mr
              generalize ((Ws.setCell ⟨wc1.heap.size, 0, none⟩ (.bool nr)).setCell ⟨wc1.heap.size, 1, none⟩ (.slice Ar lr.length cr)) = Wt at *
              refine hK.out _ _ ⟨By, (KX.on By).c0, (KX.on By).c1⟩ (fun hHeld => ?_)
              clear hK
              (try simp only [Act.put, List.setIfInBounds_toArray, List.set_cons_zero, List.set_cons_succ])
              refine wpAnyH_take (i := 11) (v := ?_) (by (simp only [List.getElem?_toArray, List.getElem?_cons_succ, List.getElem?_cons_zero]; rfl)) (by kernel_rfl) (by kernel_rfl) (by kernel_rfl) (fun _ _ _ h => h) (Or.inl ⟨by rfl, ?_⟩) (by assumption) ?_
              rotate_left
              · intro wt hSw
                (try dsimp only at hSw)
                go_simp
                (try with_reducible rfl)
              (try simp only [Act.put, List.setIfInBounds_toArray, List.set_cons_zero, List.set_cons_succ])
              refine wpAnyH_done (by kernel_rfl) (NoPanic.normal ?_) _
              go_wp2
              go_meet
              exact ⟨_, _, _, _, _, _, _, _, _, _, rfl, rfl, rfl, KQ, KR, vq, vr, KX.on By, Nat.le_trans BB.size hv7, BB.trans (By.mono BB.size)⟩
            · go_simp
              have B3 := B2.alloc (o := (.cells #[.bool false, .slice none 0 0] 24)) B2.size
              have R8 : Rest (wc0.alloc (.cells #[.bool false, .slice none 0 0] 24)) wc0.heap.size := Rest.newI wc0
              have hv8 : w11.heap.size ≤ wc0.heap.size := B2.size
              have hbz : Below wc0.heap.size wc0 (wc0.alloc (.cells #[.bool false, .slice none 0 0] 24)) := (Below.refl _ _).alloc (Nat.le_refl _) _
              have hne : Vd.heap.size ≠ wc0.heap.size := Nat.ne_of_lt R7.lr
              have R7 := R7.on hbz
              have m1 := m1.below hbz
              clear hbz
              generalize (wc0.alloc (.cells #[.bool false, .slice none 0 0] 24)) = Wn82 at *
              refine hK.out _ _ ⟨B3, (KX.on B3).c0, (KX.on B3).c1⟩ (fun hHeld => ?_)
              clear hK
              (try simp only [Act.put, List.setIfInBounds_toArray, List.set_cons_zero, List.set_cons_succ])
              refine wpAnyH_ready (rs := [2]) (by kernel_rfl) (by simp) (AllReadyH.cons (by (simp only [List.getElem?_toArray, List.getElem?_cons_succ, List.getElem?_cons_zero]; rfl)) (fun K hK => ?_) AllReadyH.nil)
              go_simp
              (go_at_call 30; with_reducible refine (quorem_two n1 A A1 xs l1 c c1 _ (KX.on B3).lm m1 v1 HX.out).mono ?_)
              rintro e6 wc1 ⟨nq, Aq, lq, cq, nr, Ar, lr, cr, rfl, mq, mr, vq, vr, hb⟩
              (try go_wp2_with fail)
              have B4 := B3.trans (hb.mono B3.size)
              have R7 := R7.on hb
              have R8 := R8.on hb
              clear hb
              refine hK.out _ _ ⟨B4, (KX.on B4).c0, (KX.on B4).c1⟩ (fun hHeld => ?_)
              clear hK
              (try simp only [Act.put, List.setIfInBounds_toArray, List.set_cons_zero, List.set_cons_succ])
              refine wpAnyH_take (i := 3) (v := ?_) (by (simp only [List.getElem?_toArray, List.getElem?_cons_succ, List.getElem?_cons_zero]; rfl)) (by kernel_rfl) (by kernel_rfl) (by kernel_rfl) (fun _ _ _ h => h) (Or.inl ⟨by rfl, ?_⟩) (by assumption) ?_
              rotate_left
              · intro wt hSw
                (try dsimp only at hSw)
                go_simp
                (try with_reducible rfl)
              (try simp only [Act.put, List.setIfInBounds_toArray, List.set_cons_zero, List.set_cons_succ])
              refine wpAnyH_take (i := 4) (v := ?_) (by (simp only [List.getElem?_toArray, List.getElem?_cons_succ, List.getElem?_cons_zero]; rfl)) (by kernel_rfl) (by kernel_rfl) (by kernel_rfl) (fun _ _ _ h => h) (Or.inl ⟨by rfl, ?_⟩) (by assumption) ?_
              rotate_left
              · intro wt hSw
                (try dsimp only at hSw)
                go_simp
                (try with_reducible rfl)
              (try simp only [Act.put, List.setIfInBounds_toArray, List.set_cons_zero, List.set_cons_succ])
              refine wpAnyH_take (i := 5) (v := ?_) (by (simp only [List.getElem?_toArray, List.getElem?_cons_succ, List.getElem?_cons_zero]; rfl)) (by kernel_rfl) (by kernel_rfl) (by kernel_rfl) (fun _ _ _ h => h) (Or.inl ⟨by rfl, ?_⟩) (by assumption) ?_
              rotate_left
              · intro wt hSw
                (try dsimp only at hSw)
                go_simp
                (try with_reducible rfl)
              (try simp only [Act.put, List.setIfInBounds_toArray, List.set_cons_zero, List.set_cons_succ])
              refine wpAnyH_take (i := 6) (v := ?_) (by (simp only [List.getElem?_toArray, List.getElem?_cons_succ, List.getElem?_cons_zero]; rfl)) (by kernel_rfl) (by kernel_rfl) (by kernel_rfl) (fun _ _ _ h => h) (Or.inl ⟨by rfl, ?_⟩) (by assumption) ?_
              rotate_left
              · intro wt hSw
                (try dsimp only at hSw)
                go_simp
                (try with_reducible rfl)
              (try simp only [Act.put, List.setIfInBounds_toArray, List.set_cons_zero, List.set_cons_succ])
              have g0 := R7.r0
              have g1 := R7.r1
              have g2 := R7.f0
              have g3 := R7.f1
              refine wpAnyH_ready (rs := [9]) (by kernel_rfl) (by simp) (AllReadyH.cons (by (simp only [List.getElem?_toArray, List.getElem?_cons_succ, List.getElem?_cons_zero]; rfl)) (fun K hK => ?_) AllReadyH.nil)
              go_simp
              have Bz : Below w11.heap.size w11 ((wc1.setCell ⟨Vd.heap.size, 0, none⟩ (.bool nq)).setCell ⟨Vd.heap.size, 1, none⟩ (.slice Aq lq.length cq)) := (B4.setCell (p := ⟨_, 0, none⟩) hv7 _).setCell (p := ⟨_, 1, none⟩) hv7 _
              have KQ := Own.new R7 mq
              have mr := mr.laid R7 (.bool nq) (.slice Aq lq.length cq)
              have R8 := R8.put hne (.bool nq) (.slice Aq lq.length cq)
              clear g0 g1 g2 g3 R7 mq
              generalize ((wc1.setCell ⟨Vd.heap.size, 0, none⟩ (.bool nq)).setCell ⟨Vd.heap.size, 1, none⟩ (.slice Aq lq.length cq)) = Ws at *
              refine hK.out _ _ ⟨Bz, (KX.on Bz).c0, (KX.on Bz).c1⟩ (fun hHeld => ?_)
              clear hK
              (try simp only [Act.put, List.setIfInBounds_toArray, List.set_cons_zero, List.set_cons_succ])
              have g0 := R8.r0
              have g1 := R8.r1
              have g2 := R8.f0
              have g3 := R8.f1
              refine wpAnyH_ready (rs := [10]) (by kernel_rfl) (by simp) (AllReadyH.cons (by (simp only [List.getElem?_toArray, List.getElem?_cons_succ, List.getElem?_cons_zero]; rfl)) (fun K hK => ?_) AllReadyH.nil)
              go_simp
              have By : Below w11.heap.size w11 ((Ws.setCell ⟨wc0.heap.size, 0, none⟩ (.bool nr)).setCell ⟨wc0.heap.size, 1, none⟩ (.slice Ar lr.length cr)) := (Bz.setCell (p := ⟨_, 0, none⟩) hv8 _).setCell (p := ⟨_, 1, none⟩) hv8 _
              have KQ := KQ.put R8 hne (.bool nr) (.slice Ar lr.length cr)
              have KR := Held.new R8 mr
              clear g0 g1 g2 g3 R8 mr
              generalize ((Ws.setCell ⟨wc0.heap.size, 0, none⟩ (.bool nr)).setCell ⟨wc0.heap.size, 1, none⟩ (.slice Ar lr.length cr)) = Wt at *
              refine hK.out _ _ ⟨By, (KX.on By).c0, (KX.on By).c1⟩ (fun hHeld => ?_)
              clear hK
              (try simp only [Act.put, List.setIfInBounds_toArray, List.set_cons_zero, List.set_cons_succ])
              refine wpAnyH_take (i := 11) (v := ?_) (by (simp only [List.getElem?_toArray, List.getElem?_cons_succ, List.getElem?_cons_zero]; rfl)) (by kernel_rfl) (by kernel_rfl) (by kernel_rfl) (fun _ _ _ h => h) (Or.inl ⟨by rfl, ?_⟩) (by assumption) ?_
              rotate_left
              · intro wt hSw
                (try dsimp only at hSw)
                go_simp
                (try with_reducible rfl)
              (try simp only [Act.put, List.setIfInBounds_toArray, List.set_cons_zero, List.set_cons_succ])
              refine wpAnyH_done (by kernel_rfl) (NoPanic.normal ?_) _
              go_wp2
              go_meet
              exact ⟨_, _, _, _, _, _, _, _, _, _, rfl, rfl, rfl, KQ, KR, vq, vr, KX.on By, Nat.le_trans BB.size hv7, BB.trans (By.mono BB.size)⟩
          · go_simp
            have B2 := B1.alloc (o := (.cells #[.bool false, .slice none 0 0] 24)) B1.size
            have R8 : Rest (Wn70.alloc (.cells #[.bool false, .slice none 0 0] 24)) Wn70.heap.size := Rest.newI Wn70
            have hv8 : w11.heap.size ≤ Wn70.heap.size := B1.size
            have hbz : Below Wn70.heap.size Wn70 (Wn70.alloc (.cells #[.bool false, .slice none 0 0] 24)) := (Below.refl _ _).alloc (Nat.le_refl _) _
            have hne : Vd.heap.size ≠ Wn70.heap.size := Nat.ne_of_lt R7.lr
            have R7 := R7.on hbz
            clear hbz
            generalize (Wn70.alloc (.cells #[.bool false, .slice none 0 0] 24)) = Wn81 at *
            refine hK.out _ _ ⟨B2, (KX.on B2).c0, (KX.on B2).c1⟩ (fun hHeld => ?_)
            clear hK
            (try simp only [Act.put, List.setIfInBounds_toArray, List.set_cons_zero, List.set_cons_succ])
            refine wpAnyH_ready (rs := [1]) (by kernel_rfl) (by simp) (AllReadyH.cons (by (simp only [List.getElem?_toArray, List.getElem?_cons_succ, List.getElem?_cons_zero]; rfl)) (fun K hK => ?_) AllReadyH.nil)
            go_simp
            (go_at_call 32; with_reducible refine (F2.out _).mono ?_)
            rintro e5 wc0 ⟨A1, c1, l1, rfl, m1, v1, z1, hb⟩
            (try go_wp2_with fail)
            have B3 := B2.trans (hb.mono B2.size)
            have R7 := R7.on hb
            have R8 := R8.on hb
            clear hb
            refine hK.out _ _ ⟨B3, (KX.on B3).c0, (KX.on B3).c1⟩ (fun hHeld => ?_)
            clear hK
            (try simp only [Act.put, List.setIfInBounds_toArray, List.set_cons_zero, List.set_cons_succ])
            refine wpAnyH_ready (rs := [2]) (by kernel_rfl) (by simp) (AllReadyH.cons (by (simp only [List.getElem?_toArray, List.getElem?_cons_succ, List.getElem?_cons_zero]; rfl)) (fun K hK => ?_) AllReadyH.nil)
            go_simp
            (go_at_call 30; with_reducible refine (quorem_two n1 A A1 xs l1 c c1 _ (KX.on B3).lm m1 v1 HX.out).mono ?_)
            rintro e6 wc1 ⟨nq, Aq, lq, cq, nr, Ar, lr, cr, rfl, mq, mr, vq, vr, hb⟩
            (try go_wp2_with fail)
            have B4 := B3.trans (hb.mono B3.size)
            have R7 := R7.on hb
            have R8 := R8.on hb
            clear hb
            refine hK.out _ _ ⟨B4, (KX.on B4).c0, (KX.on B4).c1⟩ (fun hHeld => ?_)
            clear hK
            (try simp only [Act.put, List.setIfInBounds_toArray, List.set_cons_zero, List.set_cons_succ])
            refine wpAnyH_take (i := 3) (v := ?_) (by (simp only [List.getElem?_toArray, List.getElem?_cons_succ, List.getElem?_cons_zero]; rfl)) (by kernel_rfl) (by kernel_rfl) (by kernel_rfl) (fun _ _ _ h => h) (Or.inl ⟨by rfl, ?_⟩) (by assumption) ?_
            rotate_left
            · intro wt hSw
              (try dsimp only at hSw)
              go_simp
              (try with_reducible rfl)
            (try simp only [Act.put, List.setIfInBounds_toArray, List.set_cons_zero, List.set_cons_succ])
            refine wpAnyH_take (i := 4) (v := ?_) (by (simp only [List.getElem?_toArray, List.getElem?_cons_succ, List.getElem?_cons_zero]; rfl)) (by kernel_rfl) (by kernel_rfl) (by kernel_rfl) (fun _ _ _ h => h) (Or.inl ⟨by rfl, ?_⟩) (by assumption) ?_
            rotate_left
            · intro wt hSw
              (try dsimp only at hSw)
              go_simp
              (try with_reducible rfl)
            (try simp only [Act.put, List.setIfInBounds_toArray, List.set_cons_zero, List.set_cons_succ])
            refine wpAnyH_take (i := 5) (v := ?_) (by (simp only [List.getElem?_toArray, List.getElem?_cons_succ, List.getElem?_cons_zero]; rfl)) (by kernel_rfl) (by kernel_rfl) (by kernel_rfl) (fun _ _ _ h => h) (Or.inl ⟨by rfl, ?_⟩) (by assumption) ?_
            rotate_left
            · intro wt hSw
              (try dsimp only at hSw)
              go_simp
              (try with_reducible rfl)
            (try simp only [Act.put, List.setIfInBounds_toArray, List.set_cons_zero, List.set_cons_succ])
            refine wpAnyH_take (i := 6) (v := ?_) (by (simp only [List.getElem?_toArray, List.getElem?_cons_succ, List.getElem?_cons_zero]; rfl)) (by kernel_rfl) (by kernel_rfl) (by kernel_rfl) (fun _ _ _ h => h) (Or.inl ⟨by rfl, ?_⟩) (by assumption) ?_
            rotate_left
            · intro wt hSw
              (try dsimp only at hSw)
              go_simp
              (try with_reducible rfl)
            (try simp only [Act.put, List.setIfInBounds_toArray, List.set_cons_zero, List.set_cons_succ])
            have g0 := R7.r0
            have g1 := R7.r1
            have g2 := R7.f0
            have g3 := R7.f1
            refine wpAnyH_ready (rs := [9]) (by kernel_rfl) (by simp) (AllReadyH.cons (by (simp only [List.getElem?_toArray, List.getElem?_cons_succ, List.getElem?_cons_zero]; rfl)) (fun K hK => ?_) AllReadyH.nil)
            go_simp
            have Bz : Below w11.heap.size w11 ((wc1.setCell ⟨Vd.heap.size, 0, none⟩ (.bool nq)).setCell ⟨Vd.heap.size, 1, none⟩ (.slice Aq lq.length cq)) := (B4.setCell (p := ⟨_, 0, none⟩) hv7 _).setCell (p := ⟨_, 1, none⟩) hv7 _
            have KQ := Own.new R7 mq
            have mr := mr.laid R7 (.bool nq) (.slice Aq lq.length cq)
            have R8 := R8.put hne (.bool nq) (.slice Aq lq.length cq)
            clear g0 g1 g2 g3 R7 mq
            generalize ((wc1.setCell ⟨Vd.heap.size, 0, none⟩ (.bool nq)).setCell ⟨Vd.heap.size, 1, none⟩ (.slice Aq lq.length cq)) = Ws at *
            refine hK.out _ _ ⟨Bz, (KX.on Bz).c0, (KX.on Bz).c1⟩ (fun hHeld => ?_)
            clear hK
            (try simp only [Act.put, List.setIfInBounds_toArray, List.set_cons_zero, List.set_cons_succ])
            have g0 := R8.r0
            have g1 := R8.r1
            have g2 := R8.f0
            have g3 := R8.f1
            refine wpAnyH_ready (rs := [10]) (by kernel_rfl) (by simp) (AllReadyH.cons (by (simp only [List.getElem?_toArray, List.getElem?_cons_succ, List.getElem?_cons_zero]; rfl)) (fun K hK => ?_) AllReadyH.nil)
            go_simp
            have By : Below w11.heap.size w11 ((Ws.setCell ⟨Wn70.heap.size, 0, none⟩ (.bool nr)).setCell ⟨Wn70.heap.size, 1, none⟩ (.slice Ar lr.length cr)) := (Bz.setCell (p := ⟨_, 0, none⟩) hv8 _).setCell (p := ⟨_, 1, none⟩) hv8 _
            have KQ := KQ.put R8 hne (.bool nr) (.slice Ar lr.length cr)
            have KR := Held.new R8 mr
            clear g0 g1 g2 g3 R8 mr
            generalize ((Ws.setCell ⟨Wn70.heap.size, 0, none⟩ (.bool nr)).setCell ⟨Wn70.heap.size, 1, none⟩ (.slice Ar lr.length cr)) = Wt at *
            refine hK.out _ _ ⟨By, (KX.on By).c0, (KX.on By).c1⟩ (fun hHeld => ?_)
            clear hK
            (try simp only [Act.put, List.setIfInBounds_toArray, List.set_cons_zero, List.set_cons_succ])
            refine wpAnyH_take (i := 11) (v := ?_) (by (simp only [List.getElem?_toArray, List.getElem?_cons_succ, List.getElem?_cons_zero]; rfl)) (by kernel_rfl) (by kernel_rfl) (by kernel_rfl) (fun _ _ _ h => h) (Or.inl ⟨by rfl, ?_⟩) (by assumption) ?_
            rotate_left
            · intro wt hSw
              (try dsimp only at hSw)
              go_simp
              (try with_reducible rfl)
            (try simp only [Act.put, List.setIfInBounds_toArray, List.set_cons_zero, List.set_cons_succ])
            refine wpAnyH_done (by kernel_rfl) (NoPanic.normal ?_) _
            go_wp2
            go_meet
            exact ⟨_, _, _, _, _, _, _, _, _, _, rfl, rfl, rfl, KQ, KR, vq, vr, KX.on By, Nat.le_trans BB.size hv7, BB.trans (By.mono BB.size)⟩
        · go_simp
          have B1 := B0.alloc (o := (.cells #[.bool false, .slice none 0 0] 24)) B0.size
          have R8 : Rest (Vd.alloc (.cells #[.bool false, .slice none 0 0] 24)) Vd.heap.size := Rest.newI Vd
          have hv8 : w11.heap.size ≤ Vd.heap.size := B0.size
          have hbz : Below Vd.heap.size Vd (Vd.alloc (.cells #[.bool false, .slice none 0 0] 24)) := (Below.refl _ _).alloc (Nat.le_refl _) _
          clear hbz
          generalize (Vd.alloc (.cells #[.bool false, .slice none 0 0] 24)) = Wn80 at *
          refine hK.out _ _ ⟨B1, (KX.on B1).c0, (KX.on B1).c1⟩ (fun hHeld => ?_)
          clear hK
          (try simp only [Act.put, List.setIfInBounds_toArray, List.set_cons_zero, List.set_cons_succ])
          refine wpAnyH_ready (rs := [1, 7]) (by kernel_rfl) (by simp) (AllReadyH.cons (by (simp only [List.getElem?_toArray, List.getElem?_cons_succ, List.getElem?_cons_zero]; rfl)) (fun K hK => ?_) (AllReadyH.cons (by (simp only [List.getElem?_toArray, List.getElem?_cons_succ, List.getElem?_cons_zero]; rfl)) (fun K hK => ?_) AllReadyH.nil))
          · go_simp
            (go_at_call 32; with_reducible refine (F2.out _).mono ?_)
            rintro e5 wc0 ⟨A1, c1, l1, rfl, m1, v1, z1, hb⟩
            (try go_wp2_with fail)
            have B2 := B1.trans (hb.mono B1.size)
            have R8 := R8.on hb
            clear hb
            refine hK.out _ _ ⟨B2, (KX.on B2).c0, (KX.on B2).c1⟩ (fun hHeld => ?_)
            clear hK
            (try simp only [Act.put, List.setIfInBounds_toArray, List.set_cons_zero, List.set_cons_succ])
            refine wpAnyH_ready (rs := [2, 7]) (by kernel_rfl) (by simp) (AllReadyH.cons (by (simp only [List.getElem?_toArray, List.getElem?_cons_succ, List.getElem?_cons_zero]; rfl)) (fun K hK => ?_) (AllReadyH.cons (by (simp only [List.getElem?_toArray, List.getElem?_cons_succ, List.getElem?_cons_zero]; rfl)) (fun K hK => ?_) AllReadyH.nil))
            · go_simp
              (go_at_call 30; with_reducible refine (quorem_two n1 A A1 xs l1 c c1 _ (KX.on B2).lm m1 v1 HX.out).mono ?_)
              rintro e6 wc1 ⟨nq, Aq, lq, cq, nr, Ar, lr, cr, rfl, mq, mr, vq, vr, hb⟩
              (try go_wp2_with fail)
              have B3 := B2.trans (hb.mono B2.size)
              have R8 := R8.on hb
              clear hb
              refine hK.out _ _ ⟨B3, (KX.on B3).c0, (KX.on B3).c1⟩ (fun hHeld => ?_)
              clear hK
              (try simp only [Act.put, List.setIfInBounds_toArray, List.set_cons_zero, List.set_cons_succ])
              refine wpAnyH_take (i := 3) (v := ?_) (by (simp only [List.getElem?_toArray, List.getElem?_cons_succ, List.getElem?_cons_zero]; rfl)) (by kernel_rfl) (by kernel_rfl) (by kernel_rfl) (fun _ _ _ h => h) (Or.inl ⟨by rfl, ?_⟩) (by assumption) ?_
              rotate_left
              · intro wt hSw
                (try dsimp only at hSw)
                go_simp
                (try with_reducible rfl)
              (try simp only [Act.put, List.setIfInBounds_toArray, List.set_cons_zero, List.set_cons_succ])
              refine wpAnyH_take (i := 4) (v := ?_) (by (simp only [List.getElem?_toArray, List.getElem?_cons_succ, List.getElem?_cons_zero]; rfl)) (by kernel_rfl) (by kernel_rfl) (by kernel_rfl) (fun _ _ _ h => h) (Or.inl ⟨by rfl, ?_⟩) (by assumption) ?_
              rotate_left
              · intro wt hSw
                (try dsimp only at hSw)
                go_simp
                (try with_reducible rfl)
              (try simp only [Act.put, List.setIfInBounds_toArray, List.set_cons_zero, List.set_cons_succ])
              refine wpAnyH_take (i := 5) (v := ?_) (by (simp only [List.getElem?_toArray, List.getElem?_cons_succ, List.getElem?_cons_zero]; rfl)) (by kernel_rfl) (by kernel_rfl) (by kernel_rfl) (fun _ _ _ h => h) (Or.inl ⟨by rfl, ?_⟩) (by assumption) ?_
              rotate_left
              · intro wt hSw
                (try dsimp only at hSw)
                go_simp
                (try with_reducible rfl)
              (try simp only [Act.put, List.setIfInBounds_toArray, List.set_cons_zero, List.set_cons_succ])
              refine wpAnyH_take (i := 6) (v := ?_) (by (simp only [List.getElem?_toArray, List.getElem?_cons_succ, List.getElem?_cons_zero]; rfl)) (by kernel_rfl) (by kernel_rfl) (by kernel_rfl) (fun _ _ _ h => h) (Or.inl ⟨by rfl, ?_⟩) (by assumption) ?_
              rotate_left
              · intro wt hSw
                (try dsimp only at hSw)
                go_simp
                (try with_reducible rfl)
              (try simp only [Act.put, List.setIfInBounds_toArray, List.set_cons_zero, List.set_cons_succ])
              refine wpAnyH_ready (rs := [7]) (by kernel_rfl) (by simp) (AllReadyH.cons (by (simp only [List.getElem?_toArray, List.getElem?_cons_succ, List.getElem?_cons_zero]; rfl)) (fun K hK => ?_) AllReadyH.nil)
              go_simp
              have B4 := B3.alloc (o := (.cells #[.bool false, .slice none 0 0] 24)) B3.size
              have R7 : Rest (wc1.alloc (.cells #[.bool false, .slice none 0 0] 24)) wc1.heap.size := Rest.newI wc1
              have hv7 : w11.heap.size ≤ wc1.heap.size := B3.size
              have hbz : Below wc1.heap.size wc1 (wc1.alloc (.cells #[.bool false, .slice none 0 0] 24)) := (Below.refl _ _).alloc (Nat.le_refl _) _
              have hne : wc1.heap.size ≠ Vd.heap.size := (Nat.ne_of_lt R8.lr).symm
              have R8 := R8.on hbz
              have mq := mq.below hbz
              have mr := mr.below hbz
              clear hbz
              generalize (wc1.alloc (.cells #[.bool false, .slice none 0 0] 24)) = Wn73 at *
              refine hK.out _ _ ⟨B4, (KX.on B4).c0, (KX.on B4).c1⟩ (fun hHeld => ?_)
              clear hK
              (try simp only [Act.put, List.setIfInBounds_toArray, List.set_cons_zero, List.set_cons_succ])
              have g0 := R7.r0
              have g1 := R7.r1
              have g2 := R7.f0
              have g3 := R7.f1
              refine wpAnyH_ready (rs := [9]) (by kernel_rfl) (by simp) (AllReadyH.cons (by (simp only [List.getElem?_toArray, List.getElem?_cons_succ, List.getElem?_cons_zero]; rfl)) (fun K hK => ?_) AllReadyH.nil)
              go_simp
              have Bz : Below w11.heap.size w11 ((Wn73.setCell ⟨wc1.heap.size, 0, none⟩ (.bool nq)).setCell ⟨wc1.heap.size, 1, none⟩ (.slice Aq lq.length cq)) := (B4.setCell (p := ⟨_, 0, none⟩) hv7 _).setCell (p := ⟨_, 1, none⟩) hv7 _
              have KQ := Own.new R7 mq
              have mr := mr.laid R7 (.bool nq) (.slice Aq lq.length cq)
              have R8 := R8.put hne (.bool nq) (.slice Aq lq.length cq)
              clear g0 g1 g2 g3 R7 mq
              generalize ((Wn73.setCell ⟨wc1.heap.size, 0, none⟩ (.bool nq)).setCell ⟨wc1.heap.size, 1, none⟩ (.slice Aq lq.length cq)) = Ws at *
              refine hK.out _ _ ⟨Bz, (KX.on Bz).c0, (KX.on Bz).c1⟩ (fun hHeld => ?_)
              clear hK
              (try simp only [Act.put, List.setIfInBounds_toArray, List.set_cons_zero, List.set_cons_succ])
              have g0 := R8.r0
              have g1 := R8.r1
              have g2 := R8.f0
              have g3 := R8.f1
              refine wpAnyH_ready (rs := [10]) (by kernel_rfl) (by simp) (AllReadyH.cons (by (simp only [List.getElem?_toArray, List.getElem?_cons_succ, List.getElem?_cons_zero]; rfl)) (fun K hK => ?_) AllReadyH.nil)
              go_simp
              have By : Below w11.heap.size w11 ((Ws.setCell ⟨Vd.heap.size, 0, none⟩ (.bool nr)).setCell ⟨Vd.heap.size, 1, none⟩ (.slice Ar lr.length cr)) := (Bz.setCell (p := ⟨_, 0, none⟩) hv8 _).setCell (p := ⟨_, 1, none⟩) hv8 _
              have KQ := KQ.put R8 hne (.bool nr) (.slice Ar lr.length cr)
              have KR := Held.new R8 mr
              clear g0 g1 g2 g3 R8 mr
              generalize ((Ws.setCell ⟨Vd.heap.size, 0, none⟩ (.bool nr)).setCell ⟨Vd.heap.size, 1, none⟩ (.slice Ar lr.length cr)) = Wt at *
              refine hK.out _ _ ⟨By, (KX.on By).c0, (KX.on By).c1⟩ (fun hHeld => ?_)
              clear hK
              (try simp only [Act.put, List.setIfInBounds_toArray, List.set_cons_zero, List.set_cons_succ])
              refine wpAnyH_take (i := 11) (v := ?_) (by (simp only [List.getElem?_toArray, List.getElem?_cons_succ, List.getElem?_cons_zero]; rfl)) (by kernel_rfl) (by kernel_rfl) (by kernel_rfl) (fun _ _ _ h => h) (Or.inl ⟨by rfl, ?_⟩) (by assumption) ?_
              rotate_left
              · intro wt hSw
                (try dsimp only at hSw)
                go_simp
                (try with_reducible rfl)
              (try simp only [Act.put, List.setIfInBounds_toArray, List.set_cons_zero, List.set_cons_succ])
              refine wpAnyH_done (by kernel_rfl) (NoPanic.normal ?_) _
              go_wp2
              go_meet
              exact ⟨_, _, _, _, _, _, _, _, _, _, rfl, rfl, rfl, KQ, KR, vq, vr, KX.on By, Nat.le_trans BB.size hv7, BB.trans (By.mono BB.size)⟩
            · go_simp
              have B3 := B2.alloc (o := (.cells #[.bool false, .slice none 0 0] 24)) B2.size
              have R7 : Rest (wc0.alloc (.cells #[.bool false, .slice none 0 0] 24)) wc0.heap.size := Rest.newI wc0
              have hv7 : w11.heap.size ≤ wc0.heap.size := B2.size
              have hbz : Below wc0.heap.size wc0 (wc0.alloc (.cells #[.bool false, .slice none 0 0] 24)) := (Below.refl _ _).alloc (Nat.le_refl _) _
              have hne : wc0.heap.size ≠ Vd.heap.size := (Nat.ne_of_lt R8.lr).symm
              have R8 := R8.on hbz
              have m1 := m1.below hbz
              clear hbz
              generalize (wc0.alloc (.cells #[.bool false, .slice none 0 0] 24)) = Wn72 at *
              refine hK.out _ _ ⟨B3, (KX.on B3).c0, (KX.on B3).c1⟩ (fun hHeld => ?_)
              clear hK
              (try simp only [Act.put, List.setIfInBounds_toArray, List.set_cons_zero, List.set_cons_succ])
              refine wpAnyH_ready (rs := [2]) (by kernel_rfl) (by simp) (AllReadyH.cons (by (simp only [List.getElem?_toArray, List.getElem?_cons_succ, List.getElem?_cons_zero]; rfl)) (fun K hK => ?_) AllReadyH.nil)
              go_simp
              (go_at_call 30; with_reducible refine (quorem_two n1 A A1 xs l1 c c1 _ (KX.on B3).lm m1 v1 HX.out).mono ?_)
              rintro e6 wc1 ⟨nq, Aq, lq, cq, nr, Ar, lr, cr, rfl, mq, mr, vq, vr, hb⟩
              (try go_wp2_with fail)
              have B4 := B3.trans (hb.mono B3.size)
              have R8 := R8.on hb
              have R7 := R7.on hb
              clear hb
              refine hK.out _ _ ⟨B4, (KX.on B4).c0, (KX.on B4).c1⟩ (fun hHeld => ?_)
              clear hK
              (try simp only [Act.put, List.setIfInBounds_toArray, List.set_cons_zero, List.set_cons_succ])
              refine wpAnyH_take (i := 3) (v := ?_) (by (simp only [List.getElem?_toArray, List.getElem?_cons_succ, List.getElem?_cons_zero]; rfl)) (by kernel_rfl) (by kernel_rfl) (by kernel_rfl) (fun _ _ _ h => h) (Or.inl ⟨by rfl, ?_⟩) (by assumption) ?_
              rotate_left
              · intro wt hSw
                (try dsimp only at hSw)
                go_simp
                (try with_reducible rfl)
              (try simp only [Act.put, List.setIfInBounds_toArray, List.set_cons_zero, List.set_cons_succ])
              refine wpAnyH_take (i := 4) (v := ?_) (by (simp only [List.getElem?_toArray, List.getElem?_cons_succ, List.getElem?_cons_zero]; rfl)) (by kernel_rfl) (by kernel_rfl) (by kernel_rfl) (fun _ _ _ h => h) (Or.inl ⟨by rfl, ?_⟩) (by assumption) ?_
              rotate_left
              · intro wt hSw
                (try dsimp only at hSw)
                go_simp
                (try with_reducible rfl)
              (try simp only [Act.put, List.setIfInBounds_toArray, List.set_cons_zero, List.set_cons_succ])
              refine wpAnyH_take (i := 5) (v := ?_) (by (simp only [List.getElem?_toArray, List.getElem?_cons_succ, List.getElem?_cons_zero]; rfl)) (by kernel_rfl) (by kernel_rfl) (by kernel_rfl) (fun _ _ _ h => h) (Or.inl ⟨by rfl, ?_⟩) (by assumption) ?_
              rotate_left
              · intro wt hSw
                (try dsimp only at hSw)
                go_simp
                (try with_reducible rfl)
              (try simp only [Act.put, List.setIfInBounds_toArray, List.set_cons_zero, List.set_cons_succ])
              refine wpAnyH_take (i := 6) (v := ?_) (by (simp only [List.getElem?_toArray, List.getElem?_cons_succ, List.getElem?_cons_zero]; rfl)) (by kernel_rfl) (by kernel_rfl) (by kernel_rfl) (fun _ _ _ h => h) (Or.inl ⟨by rfl, ?_⟩) (by assumption) ?_
              rotate_left
              · intro wt hSw
                (try dsimp only at hSw)
                go_simp
                (try with_reducible rfl)
              (try simp only [Act.put, List.setIfInBounds_toArray, List.set_cons_zero, List.set_cons_succ])
              have g0 := R7.r0
              have g1 := R7.r1
              have g2 := R7.f0
              have g3 := R7.f1
              refine wpAnyH_ready (rs := [9]) (by kernel_rfl) (by simp) (AllReadyH.cons (by (simp only [List.getElem?_toArray, List.getElem?_cons_succ, List.getElem?_cons_zero]; rfl)) (fun K hK => ?_) AllReadyH.nil)
              go_simp
              have Bz : Below w11.heap.size w11 ((wc1.setCell ⟨wc0.heap.size, 0, none⟩ (.bool nq)).setCell ⟨wc0.heap.size, 1, none⟩ (.slice Aq lq.length cq)) := (B4.setCell (p := ⟨_, 0, none⟩) hv7 _).setCell (p := ⟨_, 1, none⟩) hv7 _
              have KQ := Own.new R7 mq
              have mr := mr.laid R7 (.bool nq) (.slice Aq lq.length cq)
              have R8 := R8.put hne (.bool nq) (.slice Aq lq.length cq)
              clear g0 g1 g2 g3 R7 mq
              generalize ((wc1.setCell ⟨wc0.heap.size, 0, none⟩ (.bool nq)).setCell ⟨wc0.heap.size, 1, none⟩ (.slice Aq lq.length cq)) = Ws at *
              refine hK.out _ _ ⟨Bz, (KX.on Bz).c0, (KX.on Bz).c1⟩ (fun hHeld => ?_)
              clear hK
              (try simp only [Act.put, List.setIfInBounds_toArray, List.set_cons_zero, List.set_cons_succ])
              have g0 := R8.r0
              have g1 := R8.r1
              have g2 := R8.f0
              have g3 := R8.f1
              refine wpAnyH_ready (rs := [10]) (by kernel_rfl) (by simp) (AllReadyH.cons (by (simp only [List.getElem?_toArray, List.getElem?_cons_succ, List.getElem?_cons_zero]; rfl)) (fun K hK => ?_) AllReadyH.nil)
              go_simp
              have By : Below w11.heap.size w11 ((Ws.setCell ⟨Vd.heap.size, 0, none⟩ (.bool nr)).setCell ⟨Vd.heap.size, 1, none⟩ (.slice Ar lr.length cr)) := (Bz.setCell (p := ⟨_, 0, none⟩) hv8 _).setCell (p := ⟨_, 1, none⟩) hv8 _
              have KQ := KQ.put R8 hne (.bool nr) (.slice Ar lr.length cr)
              have KR := Held.new R8 mr
              clear g0 g1 g2 g3 R8 mr
              generalize ((Ws.setCell ⟨Vd.heap.size, 0, none⟩ (.bool nr)).setCell ⟨Vd.heap.size, 1, none⟩ (.slice Ar lr.length cr)) = Wt at *
              refine hK.out _ _ ⟨By, (KX.on By).c0, (KX.on By).c1⟩ (fun hHeld => ?_)
              clear hK
              (try simp only [Act.put, List.setIfInBounds_toArray, List.set_cons_zero, List.set_cons_succ])
              refine wpAnyH_take (i := 11) (v := ?_) (by (simp only [List.getElem?_toArray, List.getElem?_cons_succ, List.getElem?_cons_zero]; rfl)) (by kernel_rfl) (by kernel_rfl) (by kernel_rfl) (fun _ _ _ h => h) (Or.inl ⟨by rfl, ?_⟩) (by assumption) ?_
              rotate_left
              · intro wt hSw
                (try dsimp only at hSw)
                go_simp
                (try with_reducible rfl)
              (try simp only [Act.put, List.setIfInBounds_toArray, List.set_cons_zero, List.set_cons_succ])
              refine wpAnyH_done (by kernel_rfl) (NoPanic.normal ?_) _
              go_wp2
              go_meet
              exact ⟨_, _, _, _, _, _, _, _, _, _, rfl, rfl, rfl, KQ, KR, vq, vr, KX.on By, Nat.le_trans BB.size hv7, BB.trans (By.mono BB.size)⟩
          · go_simp
            have B2 := B1.alloc (o := (.cells #[.bool false, .slice none 0 0] 24)) B1.size
            have R7 : Rest (Wn80.alloc (.cells #[.bool false, .slice none 0 0] 24)) Wn80.heap.size := Rest.newI Wn80
            have hv7 : w11.heap.size ≤ Wn80.heap.size := B1.size
            have hbz : Below Wn80.heap.size Wn80 (Wn80.alloc (.cells #[.bool false, .slice none 0 0] 24)) := (Below.refl _ _).alloc (Nat.le_refl _) _
            have hne : Wn80.heap.size ≠ Vd.heap.size := (Nat.ne_of_lt R8.lr).symm
            have R8 := R8.on hbz
            clear hbz
            generalize (Wn80.alloc (.cells #[.bool false, .slice none 0 0] 24)) = Wn71 at *
            refine hK.out _ _ ⟨B2, (KX.on B2).c0, (KX.on B2).c1⟩ (fun hHeld => ?_)
            clear hK
            (try simp only [Act.put, List.setIfInBounds_toArray, List.set_cons_zero, List.set_cons_succ])
            refine wpAnyH_ready (rs := [1]) (by kernel_rfl) (by simp) (AllReadyH.cons (by (simp only [List.getElem?_toArray, List.getElem?_cons_succ, List.getElem?_cons_zero]; rfl)) (fun K hK => ?_) AllReadyH.nil)
            go_simp
            (go_at_call 32; with_reducible refine (F2.out _).mono ?_)
            rintro e5 wc0 ⟨A1, c1, l1, rfl, m1, v1, z1, hb⟩
            (try go_wp2_with fail)
            have B3 := B2.trans (hb.mono B2.size)
            have R8 := R8.on hb
            have R7 := R7.on hb
            clear hb
            refine hK.out _ _ ⟨B3, (KX.on B3).c0, (KX.on B3).c1⟩ (fun hHeld => ?_)
            clear hK
            (try simp only [Act.put, List.setIfInBounds_toArray, List.set_cons_zero, List.set_cons_succ])
            refine wpAnyH_ready (rs := [2]) (by kernel_rfl) (by simp) (AllReadyH.cons (by (simp only [List.getElem?_toArray, List.getElem?_cons_succ, List.getElem?_cons_zero]; rfl)) (fun K hK => ?_) AllReadyH.nil)
            go_simp
            (go_at_call 30; with_reducible refine (quorem_two n1 A A1 xs l1 c c1 _ (KX.on B3).lm m1 v1 HX.out).mono ?_)
            rintro e6 wc1 ⟨nq, Aq, lq, cq, nr, Ar, lr, cr, rfl, mq, mr, vq, vr, hb⟩
            (try go_wp2_with fail)
            have B4 := B3.trans (hb.mono B3.size)
            have R8 := R8.on hb
            have R7 := R7.on hb
            clear hb
            refine hK.out _ _ ⟨B4, (KX.on B4).c0, (KX.on B4).c1⟩ (fun hHeld => ?_)
            clear hK
            (try simp only [Act.put, List.setIfInBounds_toArray, List.set_cons_zero, List.set_cons_succ])
            refine wpAnyH_take (i := 3) (v := ?_) (by (simp only [List.getElem?_toArray, List.getElem?_cons_succ, List.getElem?_cons_zero]; rfl)) (by kernel_rfl) (by kernel_rfl) (by kernel_rfl) (fun _ _ _ h => h) (Or.inl ⟨by rfl, ?_⟩) (by assumption) ?_
            rotate_left
            · intro wt hSw
              (try dsimp only at hSw)
              go_simp
              (try with_reducible rfl)
            (try simp only [Act.put, List.setIfInBounds_toArray, List.set_cons_zero, List.set_cons_succ])
            refine wpAnyH_take (i := 4) (v := ?_) (by (simp only [List.getElem?_toArray, List.getElem?_cons_succ, List.getElem?_cons_zero]; rfl)) (by kernel_rfl) (by kernel_rfl) (by kernel_rfl) (fun _ _ _ h => h) (Or.inl ⟨by rfl, ?_⟩) (by assumption) ?_
            rotate_left
            · intro wt hSw
              (try dsimp only at hSw)
              go_simp
              (try with_reducible rfl)
            (try simp only [Act.put, List.setIfInBounds_toArray, List.set_cons_zero, List.set_cons_succ])
            refine wpAnyH_take (i := 5) (v := ?_) (by (simp only [List.getElem?_toArray, List.getElem?_cons_succ, List.getElem?_cons_zero]; rfl)) (by kernel_rfl) (by kernel_rfl) (by kernel_rfl) (fun _ _ _ h => h) (Or.inl ⟨by rfl, ?_⟩) (by assumption) ?_
            rotate_left
            · intro wt hSw
              (try dsimp only at hSw)
              go_simp
              (try with_reducible rfl)
            (try simp only [Act.put, List.setIfInBounds_toArray, List.set_cons_zero, List.set_cons_succ])
            refine wpAnyH_take (i := 6) (v := ?_) (by (simp only [List.getElem?_toArray, List.getElem?_cons_succ, List.getElem?_cons_zero]; rfl)) (by kernel_rfl) (by kernel_rfl) (by kernel_rfl) (fun _ _ _ h => h) (Or.inl ⟨by rfl, ?_⟩) (by assumption) ?_
            rotate_left
            · intro wt hSw
              (try dsimp only at hSw)
              go_simp
              (try with_reducible rfl)
            (try simp only [Act.put, List.setIfInBounds_toArray, List.set_cons_zero, List.set_cons_succ])
            have g0 := R7.r0
            have g1 := R7.r1
            have g2 := R7.f0
            have g3 := R7.f1
            refine wpAnyH_ready (rs := [9]) (by kernel_rfl) (by simp) (AllReadyH.cons (by (simp only [List.getElem?_toArray, List.getElem?_cons_succ, List.getElem?_cons_zero]; rfl)) (fun K hK => ?_) AllReadyH.nil)
            go_simp
            have Bz : Below w11.heap.size w11 ((wc1.setCell ⟨Wn80.heap.size, 0, none⟩ (.bool nq)).setCell ⟨Wn80.heap.size, 1, none⟩ (.slice Aq lq.length cq)) := (B4.setCell (p := ⟨_, 0, none⟩) hv7 _).setCell (p := ⟨_, 1, none⟩) hv7 _
            have KQ := Own.new R7 mq
            have mr := mr.laid R7 (.bool nq) (.slice Aq lq.length cq)
            have R8 := R8.put hne (.bool nq) (.slice Aq lq.length cq)
            clear g0 g1 g2 g3 R7 mq
            generalize ((wc1.setCell ⟨Wn80.heap.size, 0, none⟩ (.bool nq)).setCell ⟨Wn80.heap.size, 1, none⟩ (.slice Aq lq.length cq)) = Ws at *
            refine hK.out _ _ ⟨Bz, (KX.on Bz).c0, (KX.on Bz).c1⟩ (fun hHeld => ?_)
            clear hK
            (try simp only [Act.put, List.setIfInBounds_toArray, List.set_cons_zero, List.set_cons_succ])
            have g0 := R8.r0
            have g1 := R8.r1
            have g2 := R8.f0
            have g3 := R8.f1
            refine wpAnyH_ready (rs := [10]) (by kernel_rfl) (by simp) (AllReadyH.cons (by (simp only [List.getElem?_toArray, List.getElem?_cons_succ, List.getElem?_cons_zero]; rfl)) (fun K hK => ?_) AllReadyH.nil)
            go_simp
            have By : Below w11.heap.size w11 ((Ws.setCell ⟨Vd.heap.size, 0, none⟩ (.bool nr)).setCell ⟨Vd.heap.size, 1, none⟩ (.slice Ar lr.length cr)) := (Bz.setCell (p := ⟨_, 0, none⟩) hv8 _).setCell (p := ⟨_, 1, none⟩) hv8 _
            have KQ := KQ.put R8 hne (.bool nr) (.slice Ar lr.length cr)
            have KR := Held.new R8 mr
            clear g0 g1 g2 g3 R8 mr
            generalize ((Ws.setCell ⟨Vd.heap.size, 0, none⟩ (.bool nr)).setCell ⟨Vd.heap.size, 1, none⟩ (.slice Ar lr.length cr)) = Wt at *
            refine hK.out _ _ ⟨By, (KX.on By).c0, (KX.on By).c1⟩ (fun hHeld => ?_)
            clear hK
            (try simp only [Act.put, List.setIfInBounds_toArray, List.set_cons_zero, List.set_cons_succ])
            refine wpAnyH_take (i := 11) (v := ?_) (by (simp only [List.getElem?_toArray, List.getElem?_cons_succ, List.getElem?_cons_zero]; rfl)) (by kernel_rfl) (by kernel_rfl) (by kernel_rfl) (fun _ _ _ h => h) (Or.inl ⟨by rfl, ?_⟩) (by assumption) ?_
            rotate_left
            · intro wt hSw
              (try dsimp only at hSw)
              go_simp
              (try with_reducible rfl)
            (try simp only [Act.put, List.setIfInBounds_toArray, List.set_cons_zero, List.set_cons_succ])
            refine wpAnyH_done (by kernel_rfl) (NoPanic.normal ?_) _
            go_wp2
            go_meet
            exact ⟨_, _, _, _, _, _, _, _, _, _, rfl, rfl, rfl, KQ, KR, vq, vr, KX.on By, Nat.le_trans BB.size hv7, BB.trans (By.mono BB.size)⟩
      case rest =>
        obtain ⟨p, r, nq, Aq, lq, cq, nr, Ar, lr, cr, rfl, rfl, rfl, KQ, KR, vq, vr, KX, hp, BF⟩ := hcut
        have C9 := Lib.hid (wshift_one n1 A xs c _ KX.lm HX.out)
        have a0 := KX.c0
        have a1 := KX.c1
        go_wp2_with fail
        refine (C9.out).mono ?_
        intro e7 w9 hT
        obtain ⟨n9, V9, l9, k9, rfl, m9, v9, b9⟩ := told_fit hT (shr_fits hx HO.out 1 HX.out)
        have hne9 : w9.heap.size ≠ p := by have h1 := b9.size; have h2 := KQ.h.lt; omega
        have b9 := b9.alloc b9.size (.cells #[.bool n9, .slice V9 l9.length k9] 24)
        have KQ := KQ.on b9
        have KR := KR.on b9
        have BF := BF.trans (b9.mono BF.size)
        have KH9 := Held.fresh m9
        clear hT C9 b9 m9 a0 a1 KX
        have hv := half_floor KR.lm.ok vr
        have a0 := KR.c0
        cases nr
        · rw [if_neg (by decide)] at hv
          have a2 := KQ.h.c0
          have a3 := KQ.h.c1
          have a4 := KH9.c0
          have a5 := KH9.c1
          go_wp2_with fail
          refine (same_lm _ KH9.lm KQ.h.lm (by rw [v9, vq]; exact (show X / 2 ^ 1 = _ from hv))).mono ?_
          rintro e8 w10 ⟨rfl, q⟩
          go_wp2
          go_ret
          exact ⟨rfl, BF.trans (q.mono BF.size)⟩
        · rw [if_pos rfl] at hv
          go_wp2_with fail
          generalize (w9.alloc (.cells #[.bool n9, .slice V9 l9.length k9] 24)) = W9 at *
          clear a0 KR
          have F1 := Lib.hid (fun w => of_fix 1 false w (by omega) (by omega) rfl)
          refine wp_region_noPanic ?_
          have hb : Below W9.heap.size W9 W9.drew := (Below.refl _ _).drew
          refine wp_region_held_drew (S := (fun _ => True)) (by kernel_rfl) trivial (fun hHeld => ?_)
          have KQ := KQ.on hb
          have KH9 := KH9.on hb
          have BF := BF.trans (hb.mono BF.size)
          clear hb
          generalize W9.drew = Vd at *
          refine wpAnyH_ready (rs := [0, 1]) (by kernel_rfl) (by simp) (AllReadyH.cons (by (simp only [List.getElem?_toArray, List.getElem?_cons_succ, List.getElem?_cons_zero]; rfl)) (fun K hK => ?_) (AllReadyH.cons (by (simp only [List.getElem?_toArray, List.getElem?_cons_succ, List.getElem?_cons_zero]; rfl)) (fun K hK => ?_) AllReadyH.nil))
          · have a2 := KQ.h.c0
            have a3 := KQ.h.c1
            go_simp
            refine hK.out _ _ trivial (fun hHeld => ?_)
            clear hK
            (try simp only [Act.put, List.setIfInBounds_toArray, List.set_cons_zero, List.set_cons_succ])
            clear a2 a3
            refine wpAnyH_ready (rs := [1]) (by kernel_rfl) (by simp) (AllReadyH.cons (by (simp only [List.getElem?_toArray, List.getElem?_cons_succ, List.getElem?_cons_zero]; rfl)) (fun K hK => ?_) AllReadyH.nil)
            go_simp
            (go_at_call 32; with_reducible refine (F1.out _).mono ?_)
            rintro e8 wo ⟨A1, c1, l1, rfl, m1, v1, z1, hb⟩
            (try go_wp2_with fail)
            have KQ := KQ.on hb
            have KH9 := KH9.on hb
            have BF := BF.trans (hb.mono BF.size)
            clear hb
            refine hK.out _ _ trivial (fun hHeld => ?_)
            clear hK
            (try simp only [Act.put, List.setIfInBounds_toArray, List.set_cons_zero, List.set_cons_succ])
            refine wpAnyH_ready (rs := [2]) (by kernel_rfl) (by simp) (AllReadyH.cons (by (simp only [List.getElem?_toArray, List.getElem?_cons_succ, List.getElem?_cons_zero]; rfl)) (fun K hK => ?_) AllReadyH.nil)
            go_simp
            (go_at_call 26; with_reducible refine (wsub_fit nq false Aq A1 lq l1 cq c1 _ KQ.h.lm m1 (show _ = X / 2 ^ 1 from by rw [vq, v1, show (2 : Int) ^ 1 = 2 from by decide]; exact hv.symm) (shr_fits hx HO.out 1 HX.out)).mono ?_)
            rintro e9 wp ⟨n7, V7, l7, k7, rfl, m7, v7, hb⟩
            (try go_wp2_with fail)
            have KQ := KQ.on hb
            have KH9 := KH9.on hb
            have BF := BF.trans (hb.mono BF.size)
            clear hb
            refine hK.out _ _ trivial (fun hHeld => ?_)
            clear hK
            (try simp only [Act.put, List.setIfInBounds_toArray, List.set_cons_zero, List.set_cons_succ])
            refine wpAnyH_take (i := 3) (v := ?_) (by (simp only [List.getElem?_toArray, List.getElem?_cons_succ, List.getElem?_cons_zero]; rfl)) (by kernel_rfl) (by kernel_rfl) (by kernel_rfl) (fun _ _ _ h => h) (Or.inl ⟨by rfl, ?_⟩) (by assumption) ?_
            rotate_left
            · intro wt hSw
              (try dsimp only at hSw)
              go_simp
              (try with_reducible rfl)
            (try simp only [Act.put, List.setIfInBounds_toArray, List.set_cons_zero, List.set_cons_succ])
            refine wpAnyH_take (i := 4) (v := ?_) (by (simp only [List.getElem?_toArray, List.getElem?_cons_succ, List.getElem?_cons_zero]; rfl)) (by kernel_rfl) (by kernel_rfl) (by kernel_rfl) (fun _ _ _ h => h) (Or.inl ⟨by rfl, ?_⟩) (by assumption) ?_
            rotate_left
            · intro wt hSw
              (try dsimp only at hSw)
              go_simp
              (try with_reducible rfl)
            (try simp only [Act.put, List.setIfInBounds_toArray, List.set_cons_zero, List.set_cons_succ])
            refine wpAnyH_take (i := 5) (v := ?_) (by (simp only [List.getElem?_toArray, List.getElem?_cons_succ, List.getElem?_cons_zero]; rfl)) (by kernel_rfl) (by kernel_rfl) (by kernel_rfl) (fun _ _ _ h => h) (Or.inl ⟨by rfl, ?_⟩) (by assumption) ?_
            rotate_left
            · intro wt hSw
              (try dsimp only at hSw)
              go_simp
              (try with_reducible rfl)
            (try simp only [Act.put, List.setIfInBounds_toArray, List.set_cons_zero, List.set_cons_succ])
            have a2 := KQ.h.c0
            have a3 := KQ.h.c1
            have a4 := KQ.f0
            have a5 := KQ.f1
            refine wpAnyH_ready (rs := [6]) (by kernel_rfl) (by simp) (AllReadyH.cons (by (simp only [List.getElem?_toArray, List.getElem?_cons_succ, List.getElem?_cons_zero]; rfl)) (fun K hK => ?_) AllReadyH.nil)
            go_simp
            have KQ2 := KQ.over m7
            have KH9 := KH9.over KQ hne9 (.bool n7) (.slice V7 l7.length k7)
            have BF : Below w.heap.size w ((wp.setCell ⟨p, 0, none⟩ (.bool n7)).setCell ⟨p, 1, none⟩ (.slice V7 l7.length k7)) := (BF.setCell (p := ⟨_, 0, none⟩) hp _).setCell (p := ⟨_, 1, none⟩) hp _
            clear a2 a3 a4 a5 KQ m7
            generalize ((wp.setCell ⟨p, 0, none⟩ (.bool n7)).setCell ⟨p, 1, none⟩ (.slice V7 l7.length k7)) = Wu at *
            refine hK.out _ _ trivial (fun hHeld => ?_)
            clear hK
            (try simp only [Act.put, List.setIfInBounds_toArray, List.set_cons_zero, List.set_cons_succ])
            refine wpAnyH_done (by kernel_rfl) (NoPanic.normal ?_) _
            have a2 := KQ2.c0
            have a3 := KQ2.c1
            have a4 := KH9.c0
            have a5 := KH9.c1
            go_wp2_with fail
            refine (same_lm _ KH9.lm KQ2.lm (v9.trans v7.symm)).mono ?_
            rintro e10 w10 ⟨rfl, q⟩
            go_wp2
            go_ret
            exact ⟨rfl, BF.trans (q.mono BF.size)⟩
          · go_simp
            (go_at_call 32; with_reducible refine (F1.out _).mono ?_)
            rintro e8 wo ⟨A1, c1, l1, rfl, m1, v1, z1, hb⟩
            (try go_wp2_with fail)
            have KQ := KQ.on hb
            have KH9 := KH9.on hb
            have BF := BF.trans (hb.mono BF.size)
            clear hb
            refine hK.out _ _ trivial (fun hHeld => ?_)
            clear hK
            (try simp only [Act.put, List.setIfInBounds_toArray, List.set_cons_zero, List.set_cons_succ])
            refine wpAnyH_ready (rs := [0]) (by kernel_rfl) (by simp) (AllReadyH.cons (by (simp only [List.getElem?_toArray, List.getElem?_cons_succ, List.getElem?_cons_zero]; rfl)) (fun K hK => ?_) AllReadyH.nil)
            have a2 := KQ.h.c0
            have a3 := KQ.h.c1
            go_simp
            refine hK.out _ _ trivial (fun hHeld => ?_)
            clear hK
            (try simp only [Act.put, List.setIfInBounds_toArray, List.set_cons_zero, List.set_cons_succ])
            clear a2 a3
            refine wpAnyH_ready (rs := [2]) (by kernel_rfl) (by simp) (AllReadyH.cons (by (simp only [List.getElem?_toArray, List.getElem?_cons_succ, List.getElem?_cons_zero]; rfl)) (fun K hK => ?_) AllReadyH.nil)
            go_simp
            (go_at_call 26; with_reducible refine (wsub_fit nq false Aq A1 lq l1 cq c1 _ KQ.h.lm m1 (show _ = X / 2 ^ 1 from by rw [vq, v1, show (2 : Int) ^ 1 = 2 from by decide]; exact hv.symm) (shr_fits hx HO.out 1 HX.out)).mono ?_)
            rintro e9 wp ⟨n7, V7, l7, k7, rfl, m7, v7, hb⟩
            (try go_wp2_with fail)
            have KQ := KQ.on hb
            have KH9 := KH9.on hb
            have BF := BF.trans (hb.mono BF.size)
            clear hb
            refine hK.out _ _ trivial (fun hHeld => ?_)
            clear hK
            (try simp only [Act.put, List.setIfInBounds_toArray, List.set_cons_zero, List.set_cons_succ])
            refine wpAnyH_take (i := 3) (v := ?_) (by (simp only [List.getElem?_toArray, List.getElem?_cons_succ, List.getElem?_cons_zero]; rfl)) (by kernel_rfl) (by kernel_rfl) (by kernel_rfl) (fun _ _ _ h => h) (Or.inl ⟨by rfl, ?_⟩) (by assumption) ?_
            rotate_left
            · intro wt hSw
              (try dsimp only at hSw)
              go_simp
              (try with_reducible rfl)
            (try simp only [Act.put, List.setIfInBounds_toArray, List.set_cons_zero, List.set_cons_succ])
            refine wpAnyH_take (i := 4) (v := ?_) (by (simp only [List.getElem?_toArray, List.getElem?_cons_succ, List.getElem?_cons_zero]; rfl)) (by kernel_rfl) (by kernel_rfl) (by kernel_rfl) (fun _ _ _ h => h) (Or.inl ⟨by rfl, ?_⟩) (by assumption) ?_
            rotate_left
            · intro wt hSw
              (try dsimp only at hSw)
              go_simp
              (try with_reducible rfl)
            (try simp only [Act.put, List.setIfInBounds_toArray, List.set_cons_zero, List.set_cons_succ])
            refine wpAnyH_take (i := 5) (v := ?_) (by (simp only [List.getElem?_toArray, List.getElem?_cons_succ, List.getElem?_cons_zero]; rfl)) (by kernel_rfl) (by kernel_rfl) (by kernel_rfl) (fun _ _ _ h => h) (Or.inl ⟨by rfl, ?_⟩) (by assumption) ?_
            rotate_left
            · intro wt hSw
              (try dsimp only at hSw)
              go_simp
              (try with_reducible rfl)
            (try simp only [Act.put, List.setIfInBounds_toArray, List.set_cons_zero, List.set_cons_succ])
            have a2 := KQ.h.c0
            have a3 := KQ.h.c1
            have a4 := KQ.f0
            have a5 := KQ.f1
            refine wpAnyH_ready (rs := [6]) (by kernel_rfl) (by simp) (AllReadyH.cons (by (simp only [List.getElem?_toArray, List.getElem?_cons_succ, List.getElem?_cons_zero]; rfl)) (fun K hK => ?_) AllReadyH.nil)
            go_simp
            have KQ2 := KQ.over m7
            have KH9 := KH9.over KQ hne9 (.bool n7) (.slice V7 l7.length k7)
            have BF : Below w.heap.size w ((wp.setCell ⟨p, 0, none⟩ (.bool n7)).setCell ⟨p, 1, none⟩ (.slice V7 l7.length k7)) := (BF.setCell (p := ⟨_, 0, none⟩) hp _).setCell (p := ⟨_, 1, none⟩) hp _
            clear a2 a3 a4 a5 KQ m7
            generalize ((wp.setCell ⟨p, 0, none⟩ (.bool n7)).setCell ⟨p, 1, none⟩ (.slice V7 l7.length k7)) = Wu at *
            refine hK.out _ _ trivial (fun hHeld => ?_)
            clear hK
            (try simp only [Act.put, List.setIfInBounds_toArray, List.set_cons_zero, List.set_cons_succ])
            refine wpAnyH_done (by kernel_rfl) (NoPanic.normal ?_) _
            have a2 := KQ2.c0
            have a3 := KQ2.c1
            have a4 := KH9.c0
            have a5 := KH9.c1
            go_wp2_with fail
            refine (same_lm _ KH9.lm KQ2.lm (v9.trans v7.symm)).mono ?_
            rintro e10 w10 ⟨rfl, q⟩
            go_wp2
            go_ret
            exact ⟨rfl, BF.trans (q.mono BF.size)⟩
    · clear h7 h8
      have hb := HNF.out hF
      have CB := wbits_u n1 A xs c (w3.alloc (.cells #[.bool n3, .slice V3 l3.length k3] 24)) KX.lm.sl KX.lm.dig KX.lm.sz
      rw [HBV.out] at CB
      obtain ⟨bb, hbb⟩ : ∃ bb, bitLen (val W32 xs) = bb := ⟨_, rfl⟩
      rw [hbb] at CB hb
      have CB := Lib.hid CB
      have hbi : (65536 : Int) < (bb : Int) + (K : Int) := by omega
      have hb17 : (bb : Int) ≤ 65536 := by
        have h1 := (fits_iff_len (Z := sv n1 (val W32 xs))).1 (fits_lm hx HO.out)
        rw [sv_abs, hbb] at h1
        omega
      clear hbb hb hF
      go_wp2_with fail
      refine (CB.out).mono ?_
      rintro e5 w5 ⟨rfl, q5⟩
      go_wp2
      go_ret
      exact ⟨rfl, B4.trans (q5.mono B4.size)⟩
  · rw [Bool.not_eq_true] at ho
    rw [ho]
    clear ho H1 R1
    go_wp2_with fail
    refine (alive_any w2 (tab_below HT.out B2)).mono ?_
    rintro e3 w3 ⟨rfl, q3⟩
    go_wp2
    go_ret
    exact ⟨rfl, B2.trans (q3.mono B2.size)⟩
end Go.Proofs.YtchfnkfdopbflaaDoor
