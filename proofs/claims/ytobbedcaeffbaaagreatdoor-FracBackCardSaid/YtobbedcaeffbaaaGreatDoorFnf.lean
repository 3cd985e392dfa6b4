/-
  Which rung is nearest to a ratio; what frac.nearest and frac.Float return: the nearest float, or that there is none. Conditions: that the numbers are no longer than memory.
-/
import Derived.Test.YtobbedcaeffbaaaGreatDoorExu
import Derived.Test.YtobbedcaeffbaaaGreatDoorFfl
import Derived.Test.YtobbedcaeffbaaaGreatDoorInt
import Derived.Deep.RegionHeld3
import Derived.Deep.DeepCutAuto
import Derived.BigRegion
namespace Go.Proofs.YtobbedcaeffbaaaGreatDoor
open Go.RowKit Nb Fl
/-- R is the rung nearest to T units over Y; between two the even one. -/
structure NrT (T Y R : Nat) : Prop where
  hi : 2 * T ≤ (uval R + uval (R + 1)) * Y
  hie : 2 * T = (uval R + uval (R + 1)) * Y → R % 2 = 0
  lo : ∀ Q, R = Q + 1 → (uval Q + uval R) * Y ≤ 2 * T ∧ ((uval Q + uval R) * Y = 2 * T → R % 2 = 0)
/-- R is the rung nearest to X over Y. -/
abbrev NrQ (X Y R : Nat) : Prop := NrT (X * tw 1074) Y R
theorem near_cut {T Y N D e u r R : Nat} (hY : 0 < Y) (hD : 0 < D) (hs : T * D = N * Y * tw e) (hN : N = u * D + r) (_hr : r < D) (hlo : e = 0 ∨ 4503599627370496 ≤ u) (hhi : u < 9007199254740992)
    (hR : (R = e * 4503599627370496 + u ∧ 2 * r ≤ D ∧ (2 * r = D → u % 2 = 0)) ∨ (R = e * 4503599627370496 + (u + 1) ∧ D ≤ 2 * r ∧ (2 * r = D → u % 2 = 1))) : NrT T Y R := by
  have u0 : uval (e * 4503599627370496 + u) = u * tw e := uval_bin hlo (Nat.le_of_lt hhi)
  have u1 : uval (e * 4503599627370496 + (u + 1)) = (u + 1) * tw e := uval_bin (e := e) (k := u + 1) (by omega) (by omega)
  rw [show e * 4503599627370496 + (u + 1) = e * 4503599627370496 + u + 1 by omega] at u1 hR
  have hE : 0 < tw e := Nat.two_pow_pos e
  obtain ⟨E, hEe⟩ : ∃ E, tw e = E := ⟨_, rfl⟩
  obtain ⟨P, hP⟩ : ∃ P, e * 4503599627370496 = P := ⟨_, rfl⟩
  have hP2 : P % 2 = 0 := by rw [← hP, show e * 4503599627370496 = 2 * (e * 2251799813685248) by omega]; omega
  rw [hP] at u0 u1 hR
  rw [hEe] at hs
  rw [hEe] at u0 u1 hE
  have hF : 0 < Y * E := Nat.mul_pos hY hE
  have key : ∀ x : Nat, (2 * T ≤ x * E * Y ↔ 2 * N ≤ x * D) ∧ (x * E * Y ≤ 2 * T ↔ x * D ≤ 2 * N) := fun x => by
    have a1 : 2 * T * D = 2 * N * (Y * E) := by rw [Nat.mul_assoc 2 T, hs]; simp only [Nat.mul_assoc]
    have a2 : x * E * Y * D = x * D * (Y * E) := by
      rw [Nat.mul_assoc x E, Nat.mul_comm E Y, Nat.mul_assoc x, Nat.mul_comm (Y * E) D, ← Nat.mul_assoc]
    constructor
    · constructor
      · intro h
        have := Nat.mul_le_mul_right D h
        rw [a1, a2] at this
        exact Nat.le_of_mul_le_mul_right this hF
      · intro h
        have := Nat.mul_le_mul_right (Y * E) h
        rw [← a1, ← a2] at this
        exact Nat.le_of_mul_le_mul_right this hD
    · constructor
      · intro h
        have := Nat.mul_le_mul_right D h
        rw [a1, a2] at this
        exact Nat.le_of_mul_le_mul_right this hF
      · intro h
        have := Nat.mul_le_mul_right (Y * E) h
        rw [← a1, ← a2] at this
        exact Nat.le_of_mul_le_mul_right this hD
  have hs2 : uval (P + u) + uval (P + u + 1) = (2 * u + 1) * E := by
    rw [u0, u1, ← Nat.add_mul]; congr 1; omega
  have hm : 2 * N = 2 * (u * D) + 2 * r := by omega
  have hx : (2 * u + 1) * D = 2 * (u * D) + D := by rw [Nat.add_mul, Nat.one_mul, Nat.mul_assoc]
  have kk := key (2 * u + 1)
  rcases hR with ⟨rfl, h4, h5⟩ | ⟨rfl, h4, h5⟩
  · have k2 := key (2 * u)
    refine ⟨?_, ?_, ?_⟩
    · rw [hs2]; exact kk.1.2 (by omega)
    · rw [hs2]; intro h
      have := kk.2.1 (Nat.le_of_eq h.symm)
      have := h5 (by omega)
      omega
    · intro Q hQ
      have hq := uval_step Q
      rw [← hQ] at hq
      have e3 : uval (P + u) * Y ≤ T := by
        have h9 := k2.2.2 (by rw [Nat.mul_assoc]; omega)
        rw [u0]
        rw [Nat.mul_assoc 2 u, Nat.mul_assoc 2] at h9
        omega
      have t2 := Nat.mul_lt_mul_of_pos_right hq hY
      exact ⟨by rw [Nat.add_mul]; omega, fun h => by rw [Nat.add_mul] at h; omega⟩
  · have k2 := key (2 * (u + 1))
    have e3 : T ≤ uval (P + u + 1) * Y := by
      have h9 := k2.1.2 (by rw [Nat.mul_assoc, Nat.add_mul, Nat.one_mul]; omega)
      rw [u1]
      rw [Nat.mul_assoc 2 (u + 1), Nat.mul_assoc 2] at h9
      omega
    have hq := uval_step (P + u + 1)
    have t2 := Nat.mul_lt_mul_of_pos_right hq hY
    refine ⟨by rw [Nat.add_mul]; omega, fun h => by rw [Nat.add_mul] at h; omega, fun Q hQ => ?_⟩
    obtain rfl : Q = P + u := by omega
    rw [hs2]
    refine ⟨kk.2.2 (by omega), fun h => ?_⟩
    have := kk.1.1 (Nat.le_of_eq h.symm)
    have := h5 (by omega)
    omega
theorem nrq_zero {Y : Nat} : NrQ 0 Y 0 := by
  show NrT (0 * tw 1074) Y 0
  rw [Nat.zero_mul]
  exact ⟨by simp, fun _ => rfl, fun Q h => by omega⟩
/-- Beyond the greatest float. -/
def FarT (T Y : Nat) : Prop := (uval 9218868437227405311 + uval 9218868437227405312) * Y ≤ 2 * T
abbrev FarQ (X Y : Nat) : Prop := FarT (X * tw 1074) Y
theorem NrT.far {T Y R : Nat} (h : NrT T Y R) (hR : 9218868437227405312 ≤ R) : FarT T Y := by
  obtain ⟨Q, rfl⟩ : ∃ Q, R = Q + 1 := ⟨R - 1, by omega⟩
  have a := (h.lo Q rfl).1
  have m : ∀ {a b : Nat}, a ≤ b → uval a ≤ uval b := fun {a b} hab => by
    rcases Nat.lt_or_eq_of_le hab with g | g
    · exact Nat.le_of_lt (uval_lt g)
    · rw [g]; exact Nat.le_refl _
  unfold FarT
  have m1 := m (show 9218868437227405311 ≤ Q by omega)
  have m2 := m (show 9218868437227405312 ≤ Q + 1 by omega)
  generalize uval 9218868437227405311 = p1 at *
  generalize uval 9218868437227405312 = p2 at *
  exact Nat.le_trans (Nat.mul_le_mul_right Y (by omega)) a
theorem tw_cross {X Y a b c d : Nat} (h : Y * tw b ≤ X * tw a) (e : d + a ≤ b + c) : Y * tw d ≤ X * tw c := by
  have ha : 0 < tw a := Nat.two_pow_pos a
  refine Nat.le_of_mul_le_mul_right ?_ ha
  have h1 : Y * tw d * tw a = Y * tw (d + a) := by rw [tw_add, Nat.mul_assoc]
  have h2 : X * tw c * tw a = X * tw a * tw c := by rw [Nat.mul_assoc, Nat.mul_comm (tw c), ← Nat.mul_assoc]
  rw [h1, h2]
  refine Nat.le_trans (Nat.mul_le_mul_left Y (tw_le e)) ?_
  rw [tw_add, ← Nat.mul_assoc]
  exact Nat.mul_le_mul_right _ h
theorem tw_cross_lt {X Y a b c d : Nat} (h : X * tw a < Y * tw b) (e : b + c ≤ d + a) : X * tw c < Y * tw d := by
  refine Nat.lt_of_not_le fun k => ?_
  exact absurd (tw_cross k e) (by omega)
/-- 2 to the h is not above X over Y, which is less than twice that. -/
def Hib (X Y : Nat) (h : Int) : Prop := ∃ A B : Nat, (B : Int) - A = h ∧ Y * tw B ≤ X * tw A ∧ X * tw A < Y * tw (B + 1)
theorem hib_of {X Y bx by' A B : Nat} (x1 : tw bx ≤ 2 * X) (x2 : X < tw bx) (y1 : tw by' ≤ 2 * Y) (y2 : Y < tw by') (h : bx + A = by' + B) :
    (¬ X * tw A < Y * tw B → Hib X Y ((B : Int) - A)) ∧ (X * tw A < Y * tw B → Hib X Y ((B : Int) - A - 1)) := by
  have t1 : ∀ k, tw (k + 1) = 2 * tw k := fun k => by rw [tw_add, Nat.mul_comm]; rfl
  constructor
  · intro g
    refine ⟨A, B, rfl, by omega, ?_⟩
    have h1 : X * tw A < tw (bx + A) := by rw [tw_add]; exact Nat.mul_lt_mul_of_pos_right x2 (Nat.two_pow_pos A)
    have h2 : tw (by' + B) ≤ 2 * Y * tw B := by rw [tw_add]; exact Nat.mul_le_mul_right _ y1
    rw [h] at h1
    rw [t1, ← Nat.mul_assoc, Nat.mul_comm Y 2]
    omega
  · intro g
    refine ⟨A + 1, B, by omega, ?_, ?_⟩
    · have h1 : tw (bx + A) ≤ 2 * X * tw A := by rw [tw_add]; exact Nat.mul_le_mul_right _ x1
      have h2 : Y * tw B < tw (by' + B) := by rw [tw_add]; exact Nat.mul_lt_mul_of_pos_right y2 (Nat.two_pow_pos B)
      rw [t1, ← Nat.mul_assoc, Nat.mul_comm X 2]
      rw [h] at h1
      omega
    · rw [t1, t1, ← Nat.mul_assoc, Nat.mul_comm X 2, ← Nat.mul_assoc, Nat.mul_comm Y 2, Nat.mul_assoc, Nat.mul_assoc]
      omega
/-- The places that the quotient has. -/
theorem hib_range {X Y e U V : Nat} {h : Int} (k : Hib X Y h) (hu : (U : Int) - V = max (h - 52) (-1074)) (he : (e : Int) = (U : Int) - V + 1074) :
    (e = 0 ∨ Y * tw U * 4503599627370496 ≤ X * tw V) ∧ X * tw V < Y * tw U * 9007199254740992 := by
  obtain ⟨A, B, hab, h1, h2⟩ := k
  rw [show 4503599627370496 = tw 52 from by decide, show 9007199254740992 = tw 53 from by decide, Nat.mul_assoc, Nat.mul_assoc, ← tw_add, ← tw_add]
  refine ⟨?_, tw_cross_lt h2 (by omega)⟩
  rcases Nat.eq_zero_or_pos e with g | g
  · exact .inl g
  · exact .inr (tw_cross h1 (by omega))
theorem hib_scale {X Y e U V : Nat} (he : (e : Int) = (U : Int) - V + 1074) : X * tw 1074 * (Y * tw U) = X * tw V * Y * tw e := by
  have h : tw 1074 * tw U = tw V * tw e := by rw [← tw_add, ← tw_add]; congr 1; omega
  have h1 : X * tw 1074 * (Y * tw U) = X * Y * (tw 1074 * tw U) := by
    generalize tw 1074 = p; generalize tw U = q
    rw [Nat.mul_assoc, Nat.mul_left_comm p Y q, ← Nat.mul_assoc]
  have h2 : X * tw V * Y * tw e = X * Y * (tw V * tw e) := by
    generalize tw V = p; generalize tw e = q
    rw [Nat.mul_assoc X p Y, Nat.mul_comm p Y, ← Nat.mul_assoc, Nat.mul_assoc]
  rw [h1, h2, h]
theorem hib_far {X Y : Nat} {h : Int} (k : Hib X Y h) (hh : 1023 < h) : FarQ X Y := by
  obtain ⟨A, B, hab, h1, -⟩ := k
  have h2 : Y * tw 1024 ≤ X * tw 0 := tw_cross h1 (by omega)
  have h3 : Y * tw 2098 ≤ X * tw 1074 := by
    have h4 := Nat.mul_le_mul_right (tw 1074) h2
    rw [Nat.mul_assoc, ← tw_add, Nat.mul_assoc, ← tw_add] at h4
    exact h4
  have hk : ∀ k, uval (k * 4503599627370496 + 4503599627370496) = tw (52 + k) := fun k => by
    rw [tw_add, ← show 4503599627370496 = tw 52 from by decide]
    exact uval_bin (.inr (by omega)) (by omega)
  have e1 : uval 9218868437227405312 = tw 2098 := hk 2046
  have u1 : uval 9218868437227405311 < uval 9218868437227405312 := uval_step 9218868437227405311
  show (uval 9218868437227405311 + uval 9218868437227405312) * Y ≤ 2 * (X * tw 1074)
  generalize uval 9218868437227405311 = p1 at *
  generalize uval 9218868437227405312 = p2 at *
  generalize X * tw 1074 = T at *
  rw [← e1] at h3
  clear e1 h1 h2
  have h5 := Nat.mul_le_mul_right Y (show p1 + p2 ≤ p2 + p2 by omega)
  have h6 : (p2 + p2) * Y = 2 * (Y * p2) := by rw [Nat.add_mul, Nat.mul_comm Y]; omega
  omega
/-- What the rounded quotient is. -/
theorem near_hib {X Y e U V u r R : Nat} {h : Int} (hY : 0 < Y) (k : Hib X Y h) (hu : (U : Int) - V = max (h - 52) (-1074)) (he : (e : Int) = (U : Int) - V + 1074)
    (hq : u = X * tw V / (Y * tw U)) (hr : r = X * tw V % (Y * tw U))
    (hR : (R = e * 4503599627370496 + u ∧ 2 * r ≤ Y * tw U ∧ (2 * r = Y * tw U → u % 2 = 0)) ∨ (R = e * 4503599627370496 + (u + 1) ∧ Y * tw U ≤ 2 * r ∧ (2 * r = Y * tw U → u % 2 = 1))) :
    NrQ X Y R ∧ u < 9007199254740992 := by
  have hD : 0 < Y * tw U := Nat.mul_pos hY (Nat.two_pow_pos U)
  have hg := hib_range k hu he
  have hs := hib_scale (X := X) (Y := Y) he
  generalize X * tw V = N at *
  generalize Y * tw U = D at *
  have hN : N = u * D + r := by rw [hq, hr, Nat.mul_comm]; exact (Nat.div_add_mod _ _).symm
  have hrl : r < D := by rw [hr]; exact Nat.mod_lt _ hD
  have hul : u < 9007199254740992 := by rw [hq]; exact (Nat.div_lt_iff_lt_mul hD).2 (by rw [Nat.mul_comm]; exact hg.2)
  refine ⟨near_cut hY hD hs hN hrl ?_ hul hR, hul⟩
  rcases hg.1 with g | g
  · exact .inl g
  · right; rw [hq]; exact (Nat.le_div_iff_mul_le hD).2 (by rw [Nat.mul_comm]; exact g)
end Go.Proofs.YtobbedcaeffbaaaGreatDoor
namespace Go.Proofs.YtobbedcaeffbaaaGreatDoor
open Go.RowKit Nb
set_option maxHeartbeats 400000 in
theorem lint64_yes (neg : Bool) (A : Option Addr) (ws : List Nat) (c : Nat) (w : World) (hr : Sl .u64 w w.heap.size A ws) (hd : Dig W64 ws) (hn : Norm ws) (hl : ws.length * 8 ≤ 140737488351232)
    (hs : ws = [] → neg = false) (z : Int) (hz : z = sv neg (val W64 ws)) (h0 : -9223372036854775808 ≤ z) (h1 : z ≤ 9223372036854775807) :
    Calls Tryz.prog 181 #[big neg A ws.length c] w fun e w' => e = .returned (.tuple #[.int .i64 z, .bool true]) ∧ Below w.heap.size w w' := by
  rcases hln : ws.length with _ | j
  · have e : ws = [] := List.eq_nil_of_length_eq_zero hln
    have hneg := hs e
    subst e hneg
    obtain rfl : z = 0 := by rw [hz]; rfl
    clear hz hln hl hr
    go_enter Tryz.func181, Tryz.ntmps181
    go_wp2
    go_ret2
    exact ⟨rfl, by go_grown⟩
  · have hge := norm_ge (B := W64) hn (by omega)
    rcases j with _ | j
    · obtain ⟨ad, rfl, hb, hcell⟩ := hr.at_ (i := 0) (by omega)
      have ha : ad.add 0 = ad := by simp [Addr.add]
      rw [ha] at hb hcell
      clear ha
      have hv := val_last (B := W64) hln
      simp only [List.take_zero, val_nil, Nat.pow_zero, Nat.one_mul, Nat.zero_add] at hv
      have hzz := (norm_iff (xs := ws) (by omega)).1 hn
      simp only [hln, Nat.add_sub_cancel] at hzz
      have hx : ws[0] < 18446744073709551616 := hd.get (by omega)
      rw [hv] at hz
      generalize ws[0] = x at *
      clear hge hv hn hd hs hr hl hln
      rcases neg with _ | _
      · have hz2 : z = x := hz
        have hw : IntKind.i64.wrap (x : Int) = z := by rw [IntKind.wrap_i64]; omega
        have hw2 : wrap64 (x : Int) = z := by rw [← hw]; exact (IntWalk.i64_left _).symm
        have hz0 : 0 ≤ z := by omega
        clear hz hz2 hzz hx
        go_enter Tryz.func181, Tryz.ntmps181
        go_wp2
        go_ret2
        exact ⟨rfl, by go_grown⟩
      · have hz2 : z = -(x : Int) := hz
        have hw : IntKind.i64.wrap (-IntKind.i64.wrap (x : Int)) = z := by rw [IntKind.wrap_i64, IntKind.wrap_i64]; omega
        have hw2 : wrap64 (-wrap64 (x : Int)) = z := by rw [← hw]; simp only [IntWalk.i64_left]
        have hz0 : z < 0 := by omega
        clear hz hz2 hzz hx
        go_enter Tryz.func181, Tryz.ntmps181
        go_wp2
        go_ret2
        exact ⟨by rw [← hw2]; rfl, by go_grown⟩
    · exfalso
      rw [hln] at hge
      have h2 : (18446744073709551616 : Nat) ^ 1 ≤ 18446744073709551616 ^ (j + 1 + 1 - 1) := Nat.pow_le_pow_right (by decide) (by omega)
      have h3 : 18446744073709551616 ≤ val W64 ws := Nat.le_trans (Nat.le_trans (by decide) h2) hge
      unfold sv at hz
      split at hz <;> omega
end Go.Proofs.YtobbedcaeffbaaaGreatDoor
namespace Go.Proofs.YtobbedcaeffbaaaGreatDoor
open Go.RowKit Nb Fl
section
variable {X Y : Int} {n m : Bool} {A B : Option Addr} {xs ys : List Nat} {c d C D : Nat} {w : World}
theorem Nw.abs (h : Nw w X C n A xs c) : val W64 xs = X.natAbs := by rw [← h.v, sv_abs]
theorem bits_n (h : Nw w X C n A xs c) (hC : C * 8 ≤ 140737488351232) (hX : X ≠ 0) :
    Calls Tryz.prog 178 #[big n A xs.length c] w (fun e w' => ∃ b : Nat, e = .returned (.int .i64 (b : Int)) ∧ tw b ≤ 2 * X.natAbs ∧ X.natAbs < tw b ∧ b ≤ 64 * C ∧ Below w.heap.size w w') := by
  have l1 := h.len
  refine (bits_any n A xs c w h.bg.sl h.bg.dig (by omega)).mono ?_
  rintro _ w1 ⟨rfl, hb⟩
  have hl : lenL xs = bitLen (val W64 xs) := lenL_val h.bg.dig h.bg.norm
  have hs := bitLen_spec (val W64 xs)
  have hle := lenL_le h.bg.dig
  have hne : val W64 xs ≠ 0 := by rw [h.abs]; omega
  have hp := bitLen_pos hne
  refine ⟨lenL xs, rfl, ?_, ?_, by omega, hb⟩
  · rw [hl, ← h.abs]
    have h2 := hs.2 hne
    show 2 ^ _ ≤ _
    rw [show bitLen (val W64 xs) = bitLen (val W64 xs) - 1 + 1 by omega, Nat.pow_succ]
    omega
  · rw [hl, ← h.abs]; exact hs.1
theorem cmp_n (h : Nw w X C n A xs c) (k : Nw w Y D m B ys d) (hC : C * 8 ≤ 140737488351232) (hD : D * 8 ≤ 140737488351232) :
    Calls Tryz.prog 179 #[big n A xs.length c, big m B ys.length d] w (fun e w' => e = .returned (.int .i64 (cmpI X Y)) ∧ Below w.heap.size w w') := by
  have l1 := h.len
  have l2 := k.len
  have := lcmp_any n m A B xs ys c d w h.bg.sl k.bg.sl h.bg.dig k.bg.dig h.bg.norm k.bg.norm (by omega) (by omega) (bg_pos h.bg) (bg_pos k.bg)
  rwa [h.v, k.v] at this
def Gives2N (w : World) (Z U : Int) (C : Nat) (e : Ending) (w' : World) : Prop := ∃ (n : Bool) (A : Option Addr) (zs : List Nat) (c : Nat) (m : Bool) (B : Option Addr) (rs : List Nat) (d : Nat), e = .returned (.tuple #[big n A zs.length c, big m B rs.length d]) ∧ Nw w' Z C n A zs c ∧ Nw w' U C m B rs d ∧ Below w.heap.size w w'
theorem quorem_n (h : Nw w X C n A xs c) (k : Nw w Y D m B ys d) (hC : C + 1 ≤ 1000000) (hD : D ≤ 1000000) (hY : Y ≠ 0) :
    Calls Tryz.prog 180 #[big n A xs.length c, big m B ys.length d] w (Gives2N w (X.tdiv Y) (X.tmod Y) (C + 1)) := by
  have l1 := h.bg.len
  have l2 := h.bg.cap
  have l3 := k.bg.len
  have l4 := k.bg.cap
  have hne : ys ≠ [] := fun e => hY (by have := k.v; subst e; rw [← this]; show sv m 0 = 0; cases m <;> rfl)
  refine (lquorem_any n m A B xs ys c d (C + 1) w h.bg.sl k.bg.sl (by omega) (fun W h1 h2 => quotient_any A B xs ys c d (C + 1) W h1 h2 h.bg.dig k.bg.dig h.bg.norm k.bg.norm (by omega) (by omega) l1 (by omega) (by omega) hne)).mono ?_
  rintro _ w' ⟨n1, V, zs, k1, m1, U, rs, k2, rfl, b1, v1, b2, v2, hb⟩
  exact ⟨n1, V, zs, k1, m1, U, rs, k2, rfl, ⟨b1, by rw [v1, h.v, k.v]⟩, ⟨b2, by rw [v2, h.v, k.v]⟩, hb⟩
theorem int64_n (h : Nw w X C n A xs c) (hC : C * 8 ≤ 140737488351232) (h0 : -9223372036854775808 ≤ X) (h1 : X ≤ 9223372036854775807) :
    Calls Tryz.prog 181 #[big n A xs.length c] w (fun e w' => e = .returned (.tuple #[.int .i64 X, .bool true]) ∧ Below w.heap.size w w') := by
  have l1 := h.len
  exact lint64_yes n A xs c w h.bg.sl h.bg.dig h.bg.norm (by omega) h.bg.sign X h.v.symm h0 h1
end
end Go.Proofs.YtobbedcaeffbaaaGreatDoor
namespace Go.Proofs.YtobbedcaeffbaaaGreatDoor
open Go.RowKit Nb
open Fl
theorem l_shift1 {X : Int} {n : Bool} {A : Option Addr} {xs : List Nat} {c C : Nat} {w : World} (h : Nw w X C n A xs c) (hC : C ≤ 1000000) :
    Calls Tryz.prog 173 #[big n A xs.length c, .int .i64 1] w (GivesN w (X * 2) (C + 2049)) := by
  have := l_shift (k := 1) h hC (by decide)
  exact this
theorem tdiv_tw (X Y V U : Nat) : ((X : Int) * (tw V : Int)).tdiv ((Y : Int) * (tw U : Int)) = ((X * tw V / (Y * tw U) : Nat) : Int) := by
  rw [← Int.natCast_mul, ← Int.natCast_mul]; rfl
theorem tmod_tw (X Y V U : Nat) : ((X : Int) * (tw V : Int)).tmod ((Y : Int) * (tw U : Int)) = ((X * tw V % (Y * tw U) : Nat) : Int) := by
  rw [← Int.natCast_mul, ← Int.natCast_mul]; rfl
theorem pos_tw {X : Nat} (h : 0 < X) (k : Nat) : 0 < X * tw k := Nat.mul_pos h (Nat.two_pow_pos k)
theorem rung_lt {X Y R : Nat} (h : R < 9218868437227405312) (k : NrQ X Y R) : (true = true → R < 9218868437227405312 ∧ NrQ X Y R) ∧ (true = false → FarQ X Y) := ⟨fun _ => ⟨h, k⟩, fun e => by cases e⟩
theorem rung_ge {X Y R : Nat} (h : 9218868437227405312 ≤ R) (k : NrQ X Y R) : (false = true → R < 9218868437227405312 ∧ NrQ X Y R) ∧ (false = false → FarQ X Y) := ⟨(fun e => by cases e), fun _ => k.far h⟩
set_option maxHeartbeats 8000000 in
set_option maxRecDepth 100000 in
theorem nearest_any {X Y C : Nat} {n m : Bool} {A B : Option Addr} {xs ys : List Nat} {c d : Nat} {w : World} (NX : Nw w (X : Int) C n A xs c) (NY : Nw w (Y : Int) C m B ys d) (hX : 0 < X) (hY : 0 < Y) (hC : C ≤ 1100) :
    Calls Tryz.prog 65 #[big n A xs.length c, big m B ys.length d] w (fun e w' => ∃ (R : Nat) (ok : Bool), e = .returned (.tuple #[.int .u64 (R : Int), .bool ok]) ∧ R < 18446744073709551616 ∧ ((ok = true → R < 9218868437227405312 ∧ NrQ X Y R) ∧ (ok = false → FarQ X Y)) ∧ Below w.heap.size w w') := by
  have HC := Lib.hid hC
  have HP := Lib.hid (And.intro hX hY)
  have HX0 : Hid ((X : Int) ≠ 0) := Lib.hid (by omega)
  have HY0 : Hid ((Y : Int) ≠ 0) := Lib.hid (by omega)
  clear hC hX hY
  have BW : Below w.heap.size w w := Below.refl _ _
  obtain ⟨V2, e3, hb4, K5, Z6, z1⟩ := alloc_new w [.bool n, .slice A xs.length c] 98
  have g7 : w.heap.size ≤ w.heap.size := BW.size
  replace NX := NX.kp (Kept.of hb4)
  replace NY := NY.kp (Kept.of hb4)
  replace BW := BW.trans (hb4.mono BW.size)
  clear hb4
  obtain ⟨V8, e9, hb10, K11, Z12, -⟩ := alloc_new V2 [.bool m, .slice B ys.length d] 98
  rw [z1] at K11 Z12
  have n13 : w.heap.size ≠ w.heap.size + 1 := Nat.ne_of_lt (z1 ▸ K5.lt)
  have g14 : w.heap.size ≤ w.heap.size + 1 := z1 ▸ BW.size
  replace K5 := K5.on hb10
  replace Z6 := Z6.on hb10
  replace NX := NX.kp (Kept.of hb10)
  replace NY := NY.kp (Kept.of hb10)
  replace BW := BW.trans (hb10.mono BW.size)
  clear hb10
  clear z1
  go_enter Tryz.func65, Tryz.ntmps65
  go_wp2_with fail
  rw [← e3, ← e9]
  clear e3 e9
  refine wp_region_noPanic ?_
  have hb : Below V8.heap.size V8 V8.drew := (Below.refl _ _).drew
  replace K5 := K5.on hb
  replace K11 := K11.on hb
  replace Z6 := Z6.on hb
  replace Z12 := Z12.on hb
  replace NX := NX.kp (Kept.of hb)
  replace NY := NY.kp (Kept.of hb)
  replace BW := BW.trans (hb.mono BW.size)
  clear hb
  refine wp_region_held_drew (S := (fun wx => Cs wx (w.heap.size) 0 [.bool n, .slice A xs.length c] ∧ Cs wx (w.heap.size + 1) 0 [.bool m, .slice B ys.length d])) (by kernel_rfl) (by exact ⟨K5.cs, K11.cs⟩) (fun hHeld => ?_)
  generalize V8.drew = Vd15 at *
  refine pT 0 ?_
  (try simp only [p0, p1, p2, p3])
  refine pT 2 ?_
  (try simp only [p0, p1, p2, p3])
  refine pR1 1 (fun K hK => ?_)
  go_simp
  (go_at_call 178; with_reducible refine (bits_n NX (by have := HC.out; omega) HX0.out).mono ?_)
  rintro _ w16 ⟨bx, rfl, hb1, hb2, hb3, hb⟩
  (try go_wp2_with fail)
  replace K5 := K5.on hb
  replace K11 := K11.on hb
  replace Z6 := Z6.on hb
  replace Z12 := Z12.on hb
  replace NX := NX.kp (Kept.of hb)
  replace NY := NY.kp (Kept.of hb)
  replace BW := BW.trans (hb.mono BW.size)
  clear hb
  have HB1 : Hid (tw bx ≤ 2 * X ∧ X < tw bx ∧ bx ≤ 64 * C) := Lib.hid ⟨hb1, hb2, hb3⟩
  clear hb1 hb2 hb3
  refine hK.out _ _ (by exact ⟨K5.cs, K11.cs⟩) (fun hHeld => ?_)
  clear hK
  (try simp only [p0, p1, p2, p3])
  refine pR1 3 (fun K hK => ?_)
  go_simp
  (go_at_call 178; with_reducible refine (bits_n NY (by have := HC.out; omega) HY0.out).mono ?_)
  rintro _ w17 ⟨b2, rfl, hb1, hb2, hb3, hb⟩
  (try go_wp2_with fail)
  replace K5 := K5.on hb
  replace K11 := K11.on hb
  replace Z6 := Z6.on hb
  replace Z12 := Z12.on hb
  replace NX := NX.kp (Kept.of hb)
  replace NY := NY.kp (Kept.of hb)
  replace BW := BW.trans (hb.mono BW.size)
  clear hb
  have HB2 : Hid (tw b2 ≤ 2 * Y ∧ Y < tw b2 ∧ b2 ≤ 64 * C) := Lib.hid ⟨hb1, hb2, hb3⟩
  clear hb1 hb2 hb3
  refine hK.out _ _ (by exact ⟨K5.cs, K11.cs⟩) (fun hHeld => ?_)
  clear hK
  (try simp only [p0, p1, p2, p3])
  refine pT 4 ?_
  (try simp only [p0, p1, p2, p3])
  refine pT 5 ?_
  (try simp only [p0, p1, p2, p3])
  refine wpAnyH_done (by kernel_rfl) (NoPanic.normal ?_) _
  obtain ⟨h0, hh⟩ : ∃ h0 : Int, (bx : Int) - (b2 : Int) = h0 := ⟨_, rfl⟩
  have h0l : -70400 ≤ h0 := by have := HC.out; have := HB1.out; have := HB2.out; omega
  have h0u : h0 ≤ 70400 := by have := HC.out; have := HB1.out; have := HB2.out; omega
  have hw : IntKind.i64.wrap ((bx : Int) - (b2 : Int)) = h0 := by rw [hh]; exact i64_in _ (by omega) (by omega)
  rw [hw]
  clear hw
  obtain ⟨a, ha⟩ : ∃ a : Nat, max (-h0) 0 = (a : Int) := ⟨(max (-h0) 0).toNat, by omega⟩
  obtain ⟨b, hb⟩ : ∃ b : Nat, max (-(-h0)) 0 = (b : Int) := ⟨(max (-(-h0)) 0).toNat, by omega⟩
  have HA : Hid (max (-h0) 0 = (a : Int) ∧ max (-(-h0)) 0 = (b : Int) ∧ IntKind.i64.wrap (-(-h0)) = -(-h0) ∧ a ≤ 131072 ∧ b ≤ 131072 ∧ bx + a = b2 + b ∧ (b : Int) - a = h0) := Lib.hid ⟨ha, hb, i64_in _ (by omega) (by omega), by omega, by omega, by omega, by omega⟩
  clear hh ha hb
  obtain ⟨c18, c19⟩ := K5.c2
  obtain ⟨c20, c21⟩ := K11.c2
  go_wp2_with fail
  clear c18 c19 c20 c21
  refine (bal_any NX NY HA.out.1 HA.out.2.1 HA.out.2.2.1 HA.out.2.2.2.1 ⟨HA.out.2.2.2.2.1, by have := HC.out; omega, trivial⟩).mono ?_
  rintro _ w22 ⟨n1, A1, z1, k1, n2, A2, z2, k2, rfl, N1, N2, hb⟩
  replace K5 := K5.on hb
  replace K11 := K11.on hb
  replace Z6 := Z6.on hb
  replace Z12 := Z12.on hb
  replace NX := NX.kp (Kept.of hb)
  replace NY := NY.kp (Kept.of hb)
  replace BW := BW.trans (hb.mono BW.size)
  clear hb
  obtain ⟨V24, e25, hb26, K27, -, z23⟩ := alloc_new w22 [.bool n1, .slice A1 z1.length k1] 98
  have n28 : w.heap.size ≠ w22.heap.size := Nat.ne_of_lt (K5.lt)
  have n29 : w.heap.size + 1 ≠ w22.heap.size := Nat.ne_of_lt (K11.lt)
  replace K5 := K5.on hb26
  replace K11 := K11.on hb26
  replace Z6 := Z6.on hb26
  replace Z12 := Z12.on hb26
  replace NX := NX.kp (Kept.of hb26)
  replace NY := NY.kp (Kept.of hb26)
  replace N1 := N1.kp (Kept.of hb26)
  replace N2 := N2.kp (Kept.of hb26)
  replace BW := BW.trans (hb26.mono BW.size)
  clear hb26
  obtain ⟨V30, e31, hb32, K33, -, -⟩ := alloc_new V24 [.bool n2, .slice A2 z2.length k2] 98
  rw [z23] at K33
  have n34 : w.heap.size ≠ w22.heap.size + 1 := Nat.ne_of_lt (z23 ▸ K5.lt)
  have n35 : w.heap.size + 1 ≠ w22.heap.size + 1 := Nat.ne_of_lt (z23 ▸ K11.lt)
  replace K5 := K5.on hb32
  replace K11 := K11.on hb32
  replace Z6 := Z6.on hb32
  replace Z12 := Z12.on hb32
  replace NX := NX.kp (Kept.of hb32)
  replace NY := NY.kp (Kept.of hb32)
  replace N1 := N1.kp (Kept.of hb32)
  replace N2 := N2.kp (Kept.of hb32)
  replace BW := BW.trans (hb32.mono BW.size)
  clear hb32
  clear z23
  go_wp2_with fail
  rw [← e25, ← e31]
  clear e25 e31
  generalize w22.heap.size + 1 = b36 at *
  generalize w22.heap.size = b37 at *
  refine (cmp_n N1 N2 (by have := HC.out; omega) (by have := HC.out; omega)).mono ?_
  rintro _ w38 ⟨rfl, hb⟩
  replace K5 := K5.on hb
  replace K11 := K11.on hb
  replace Z6 := Z6.on hb
  replace Z12 := Z12.on hb
  replace NX := NX.kp (Kept.of hb)
  replace NY := NY.kp (Kept.of hb)
  replace N1 := N1.kp (Kept.of hb)
  replace N2 := N2.kp (Kept.of hb)
  replace BW := BW.trans (hb.mono BW.size)
  clear hb
  clear N1 N2
  go_upto_if 32 with fail
  go_cut [6] (fun s6 wx => ∃ h : Int, s6 = .int .i64 h ∧ (-70500 ≤ h ∧ h ≤ 70500) ∧ Hib X Y h ∧ Below w.heap.size w wx ∧ Box wx (w.heap.size) [.bool n, .slice A xs.length c] ∧ Box wx (w.heap.size + 1) [.bool m, .slice B ys.length d] ∧ Fz wx (w.heap.size) ∧ Fz wx (w.heap.size + 1) ∧ Nw wx (X : Int) C n A xs c ∧ Nw wx (Y : Int) C m B ys d)
  case first =>
    have HH := hib_of HB1.out.1 HB1.out.2.1 HB2.out.1 HB2.out.2.1 HA.out.2.2.2.2.2.1
    rw [HA.out.2.2.2.2.2.2] at HH
    rcases Nat.lt_or_ge (X * tw a) (Y * tw b) with hlt | hge
    · have hz : cmpI ((X : Int) * (tw a : Int)) ((Y : Int) * (tw b : Int)) = -1 := cmpI_lt (by exact_mod_cast hlt)
      replace HH := HH.2 hlt
      go_wp2
      go_meet
      exact ⟨h0 - 1, rfl, ⟨by omega, by omega⟩, HH, BW, K5, K11, Z6, Z12, NX, NY⟩
    · have hz : ¬ cmpI ((X : Int) * (tw a : Int)) ((Y : Int) * (tw b : Int)) < 0 := by have hge2 : (Y : Int) * (tw b : Int) ≤ (X : Int) * (tw a : Int) := (by exact_mod_cast hge); unfold cmpI; split <;> (try split) <;> omega
      replace HH := HH.1 (by omega)
      go_wp2
      go_meet
      exact ⟨h0, rfl, ⟨by omega, by omega⟩, HH, BW, K5, K11, Z6, Z12, NX, NY⟩
  case rest =>
    clear HA HB1 HB2 h0l h0u BW K5 K11 Z6 Z12 NX NY
    obtain ⟨h, rfl, ⟨hl, hu⟩, HH, BW, K5, K11, Z6, Z12, NX, NY⟩ := hcut
    by_cases hbig : 1023 < h
    · as_aux_lemma =>
        have hgt : 1023 < h := hbig
        clear hbig
        go_wp2_with fail
        exact bodyPost_ret (v := .tuple #[.int .u64 ((0 : Nat) : Int), .bool false]) (by simp [results, Tryz.results65, go_sem]) rfl ⟨0, false, rfl, by decide, ⟨(fun e => by cases e), fun _ => hib_far HH hgt⟩, BW⟩
    · as_aux_lemma =>
        have hle : ¬ 1023 < h := hbig
        clear hbig
        obtain ⟨u, hu1⟩ : ∃ u : Int, max (h - 52) (-1074) = u := ⟨_, rfl⟩
        have ul : -1074 ≤ u := by omega
        have uu : u ≤ 971 := by omega
        obtain ⟨V, hV⟩ : ∃ V : Nat, max (-u) 0 = (V : Int) := ⟨(max (-u) 0).toNat, by omega⟩
        obtain ⟨U, hU⟩ : ∃ U : Nat, max (-(-u)) 0 = (U : Int) := ⟨(max (-(-u)) 0).toNat, by omega⟩
        obtain ⟨e, he⟩ : ∃ e : Nat, (e : Int) = u + 1074 := ⟨(u + 1074).toNat, by omega⟩
        have HU := Lib.hid hu1
        have HUW : Hid (IntKind.i64.wrap (-u) = -u ∧ wrap64 (-u) = -u) := Lib.hid ⟨i64_in _ (by omega) (by omega), w64_in _ (by omega)⟩
        have HV : Hid (max (-u) 0 = (V : Int) ∧ max (-(-u)) 0 = (U : Int) ∧ IntKind.i64.wrap (-(-u)) = -(-u) ∧ V ≤ 131072 ∧ U ≤ 131072 ∧ (U : Int) - V = u ∧ (e : Int) = u + 1074 ∧ e ≤ 2045) := Lib.hid ⟨hV, hU, i64_in _ (by omega) (by omega), by omega, by omega, by omega, he, by omega⟩
        have HR := Lib.hid (hib_range HH (by rw [HV.out.2.2.2.2.2.1, HU.out]) (by rw [HV.out.2.2.2.2.2.1]; exact he) : (e = 0 ∨ Y * tw U * 4503599627370496 ≤ X * tw V) ∧ X * tw V < Y * tw U * 9007199254740992)
        clear hu1 hV hU he
        obtain ⟨c39, c40⟩ := K5.c2
        obtain ⟨c41, c42⟩ := K11.c2
        go_wp2_with fail
        clear c39 c40 c41 c42
        (try rw [HU.out])
        (try rw [HUW.out.1])
        (try rw [HUW.out.2])
        refine (bal_any NX NY HV.out.1 HV.out.2.1 HV.out.2.2.1 HV.out.2.2.2.1 ⟨HV.out.2.2.2.2.1, by have := HC.out; omega, trivial⟩).mono ?_
        rintro _ w43 ⟨n3, A3, z3, k3, n4, A4, z4, k4, rfl, N3, N4, hb⟩
        replace K5 := K5.on hb
        replace K11 := K11.on hb
        replace Z6 := Z6.on hb
        replace Z12 := Z12.on hb
        replace NX := NX.kp (Kept.of hb)
        replace NY := NY.kp (Kept.of hb)
        replace BW := BW.trans (hb.mono BW.size)
        clear hb
        clear NX NY
        obtain ⟨c44, c45⟩ := K5.c2
        obtain ⟨c46, c47⟩ := Z6.f2
        obtain ⟨V48, hk50⟩ : ∃ V48, V48 = w43.setCells (w.heap.size) 0 [.bool n3, .slice A3 z3.length k3] := ⟨_, rfl⟩
        have e49 := hk50
        simp only [World.setCells, Nat.zero_add] at e49
        have hk51 := Kept.overE hk50 K5 rfl (by simp)
        replace K5 := K5.overE hk50 rfl
        replace K11 := K11.awayE hk50 n13.symm
        replace Z12 := Z12.putE hk50
        replace N3 := N3.kp hk51
        replace N4 := N4.kp hk51
        replace BW := Below.putE BW hk50 g7
        clear hk50 hk51
        obtain ⟨c52, c53⟩ := K11.c2
        obtain ⟨c54, c55⟩ := Z12.f2
        rw [e49] at c52 c53 c54 c55
        obtain ⟨V56, hk58⟩ : ∃ V56, V56 = V48.setCells (w.heap.size + 1) 0 [.bool n4, .slice A4 z4.length k4] := ⟨_, rfl⟩
        have e57 := hk58
        simp only [World.setCells, Nat.zero_add] at e57
        have hk59 := Kept.overE hk58 K11 rfl (by simp)
        replace K5 := K5.awayE hk58 n13
        replace K11 := K11.overE hk58 rfl
        replace N3 := N3.kp hk59
        replace N4 := N4.kp hk59
        replace BW := Below.putE BW hk58 g14
        clear hk58 hk59
        obtain ⟨c60, c61⟩ := K5.c2
        obtain ⟨c62, c63⟩ := K11.c2
        rw [e57, e49] at c60 c61 c62 c63
        go_wp2_with fail
        clear c44 c45 c46 c47 c52 c53 c54 c55 c60 c61 c62 c63
        rw [← e49, ← e57]
        clear e49 e57
        refine (quorem_n N3 N4 (by have := HC.out; omega) (by have := HC.out; omega) (by have := pos_tw HP.out.2 U; exact_mod_cast Nat.ne_of_gt this)).mono ?_
        rintro _ w64 ⟨n5, A5, z5, k5, n6, A6, z6, k6, rfl, N5, N6, hb⟩
        replace K5 := K5.on hb
        replace K11 := K11.on hb
        replace N3 := N3.kp (Kept.of hb)
        replace N4 := N4.kp (Kept.of hb)
        replace BW := BW.trans (hb.mono BW.size)
        clear hb
        clear N3
        rw [tdiv_tw] at N5
        rw [tmod_tw] at N6
        obtain ⟨q, hq⟩ : ∃ q, q = X * tw V / (Y * tw U) := ⟨_, rfl⟩
        obtain ⟨r, hr⟩ : ∃ r, r = X * tw V % (Y * tw U) := ⟨_, rfl⟩
        have hql : q < 9007199254740992 := by rw [hq]; exact (Nat.div_lt_iff_lt_mul (pos_tw HP.out.2 U)).2 (by have h9 := HR.out.2; rw [Nat.mul_comm (Y * tw U)] at h9; exact h9)
        have HQ : Hid (∀ R : Nat, ((R = e * 4503599627370496 + q ∧ 2 * r ≤ Y * tw U ∧ (2 * r = Y * tw U → q % 2 = 0)) ∨ (R = e * 4503599627370496 + (q + 1) ∧ Y * tw U ≤ 2 * r ∧ (2 * r = Y * tw U → q % 2 = 1))) → NrQ X Y R) := Lib.hid (fun R hR => (near_hib HP.out.2 HH (by rw [HV.out.2.2.2.2.2.1, HU.out]) (by rw [HV.out.2.2.2.2.2.1]; exact HV.out.2.2.2.2.2.2.1) hq hr hR).1)
        rw [← hq] at N5
        rw [← hr] at N6
        have HQL := Lib.hid hql
        clear hq hr hql
        obtain ⟨V66, e67, hb68, K69, -, z65⟩ := alloc_new w64 [.bool n5, .slice A5 z5.length k5] 98
        have n70 : w.heap.size ≠ w64.heap.size := Nat.ne_of_lt (K5.lt)
        have n71 : w.heap.size + 1 ≠ w64.heap.size := Nat.ne_of_lt (K11.lt)
        replace K5 := K5.on hb68
        replace K11 := K11.on hb68
        replace N4 := N4.kp (Kept.of hb68)
        replace N5 := N5.kp (Kept.of hb68)
        replace N6 := N6.kp (Kept.of hb68)
        replace BW := BW.trans (hb68.mono BW.size)
        clear hb68
        obtain ⟨V72, e73, hb74, K75, -, -⟩ := alloc_new V66 [.bool n6, .slice A6 z6.length k6] 98
        rw [z65] at K75
        have n76 : w.heap.size ≠ w64.heap.size + 1 := Nat.ne_of_lt (z65 ▸ K5.lt)
        have n77 : w.heap.size + 1 ≠ w64.heap.size + 1 := Nat.ne_of_lt (z65 ▸ K11.lt)
        replace K11 := K11.on hb74
        replace N4 := N4.kp (Kept.of hb74)
        replace N5 := N5.kp (Kept.of hb74)
        replace N6 := N6.kp (Kept.of hb74)
        replace BW := BW.trans (hb74.mono BW.size)
        clear hb74
        clear z65
        go_wp2_with fail
        rw [← e67, ← e73]
        clear e67 e73
        generalize w64.heap.size + 1 = b78 at *
        generalize w64.heap.size = b79 at *
        refine (int64_n N5 (by have := HC.out; omega) (by omega) (by have := HQL.out; omega)).mono ?_
        rintro _ w80 ⟨rfl, hb⟩
        replace K11 := K11.on hb
        replace K75 := K75.on hb
        replace N4 := N4.kp (Kept.of hb)
        replace N5 := N5.kp (Kept.of hb)
        replace N6 := N6.kp (Kept.of hb)
        replace BW := BW.trans (hb.mono BW.size)
        clear hb
        clear N5
        go_wp2_with fail
        refine wp_region_noPanic ?_
        have hb : Below w80.heap.size w80 w80.drew := (Below.refl _ _).drew
        replace K11 := K11.on hb
        replace K75 := K75.on hb
        replace N4 := N4.kp (Kept.of hb)
        replace N6 := N6.kp (Kept.of hb)
        replace BW := BW.trans (hb.mono BW.size)
        clear hb
        refine wp_region_held_drew (S := (fun wx => Cs wx (w.heap.size + 1) 0 [.bool n4, .slice A4 z4.length k4] ∧ Cs wx (b78) 0 [.bool n6, .slice A6 z6.length k6])) (by kernel_rfl) (by exact ⟨K11.cs, K75.cs⟩) (fun hHeld => ?_)
        generalize w80.drew = Vd81 at *
        refine pT 0 ?_
        (try simp only [p0, p1, p2, p3])
        refine pT 2 ?_
        (try simp only [p0, p1, p2, p3])
        refine pR1 1 (fun K hK => ?_)
        go_simp
        (go_at_call 173; with_reducible refine (l_shift1 N6 (by have := HC.out; omega)).mono ?_)
        rintro _ w82 ⟨n7, A7, z7, k7, rfl, N7, hb⟩
        (try go_wp2_with fail)
        replace K11 := K11.on hb
        replace K75 := K75.on hb
        replace N4 := N4.kp (Kept.of hb)
        replace BW := BW.trans (hb.mono BW.size)
        clear hb
        refine hK.out _ _ (by exact ⟨K11.cs, K75.cs⟩) (fun hHeld => ?_)
        clear hK
        (try simp only [p0, p1, p2, p3])
        refine pR1 3 (fun K hK => ?_)
        go_simp
        (go_at_call 179; with_reducible refine (cmp_n N7 N4 (by have := HC.out; omega) (by have := HC.out; omega)).mono ?_)
        rintro _ w83 ⟨rfl, hb⟩
        (try go_wp2_with fail)
        replace K11 := K11.on hb
        replace K75 := K75.on hb
        replace BW := BW.trans (hb.mono BW.size)
        clear hb
        refine hK.out _ _ (by exact ⟨K11.cs, K75.cs⟩) (fun hHeld => ?_)
        clear hK
        (try simp only [p0, p1, p2, p3])
        refine pT 4 ?_
        (try simp only [p0, p1, p2, p3])
        refine wpAnyH_done (by kernel_rfl) (NoPanic.normal ?_) _
        obtain ⟨D, hD⟩ : ∃ D : Nat, Y * tw U = D := ⟨_, rfl⟩
        rw [hD] at HQ
        have hD2 : (Y : Int) * (tw U : Int) = (D : Int) := by rw [← hD]; exact (Int.natCast_mul ..).symm
        rw [hD2]
        have hq0 : (0 : Int) ≤ q := by omega
        have hq1 : (q : Int) < 9007199254740992 := by have := HQL.out; omega
        have he0 : (0 : Int) ≤ e := by omega
        have he1 : (e : Int) ≤ 2045 := by have := HV.out; omega
        have heu : u = (e : Int) - 1074 := by have := HV.out; omega
        have HEU : Hid (u + 1074 = (e : Int)) := Lib.hid (by omega)
        clear hD hD2 HR HU HUW HX0 HY0 HP HH hl hu heu
        rcases Nat.lt_trichotomy (2 * r) D with hlt | heq | hgt
        · have hz : cmpI ((r : Int) * 2) (D : Int) = -1 := cmpI_lt (by omega)
          obtain ⟨R, hR⟩ : ∃ R : Nat, e * 4503599627370496 + q = R := ⟨_, rfl⟩
          have HN : Hid (NrQ X Y R) := Lib.hid (HQ.out R (.inl ⟨hR.symm, by omega, by omega⟩))
          have HRI : Hid ((e : Int) * 4503599627370496 + (q : Int) = (R : Int) ∧ R < 18446744073709551616) := Lib.hid ⟨by omega, by omega⟩
          obtain ⟨ok, hok⟩ : ∃ ok : Bool, decide ((R : Int) / 4503599627370496 < 2047) = ok := ⟨_, rfl⟩
          have HOK := Lib.hid hok
          have HW2 : Hid (IntKind.u64.wrap ((R : Int) / 4503599627370496) = (R : Int) / 4503599627370496) := Lib.hid (by have := HRI.out.2; rw [IntKind.wrap_u64]; omega)
          clear hR hok HQ
          go_upto_region 15 with fail
          (try rw [HEU.out])
          (try rw [HRI.out.1])
          go_wp2
          (try rw [HW2.out])
          (try rw [HOK.out])
          exact bodyPost_ret (v := .tuple #[.int .u64 (R : Int), .bool ok]) (by simp [results, Tryz.results65, go_sem]) rfl ⟨R, ok, rfl, HRI.out.2, by cases hk : ok with
 | true => exact rung_lt (by have := HOK.out; rw [hk] at this; have := of_decide_eq_true this; omega) HN.out
 | false => exact rung_ge (by have := HOK.out; rw [hk] at this; have := of_decide_eq_false this; omega) HN.out, BW⟩
        · have hz : cmpI ((r : Int) * 2) (D : Int) = 0 := cmpI_eq (by omega)
          rcases Nat.mod_two_eq_zero_or_one q with hm | hm
          · have hm2 : ((q : Int) % 2) = 0 := by omega
            have hm3 : (((q : Int).tmod 2) != 0) = false := by rw [Int.tmod_eq_emod_of_nonneg hq0, hm2]; rfl
            obtain ⟨R, hR⟩ : ∃ R : Nat, e * 4503599627370496 + q = R := ⟨_, rfl⟩
            have HN : Hid (NrQ X Y R) := Lib.hid (HQ.out R (.inl ⟨hR.symm, by omega, fun _ => hm⟩))
            have HRI : Hid ((e : Int) * 4503599627370496 + (q : Int) = (R : Int) ∧ R < 18446744073709551616) := Lib.hid ⟨by omega, by omega⟩
            obtain ⟨ok, hok⟩ : ∃ ok : Bool, decide ((R : Int) / 4503599627370496 < 2047) = ok := ⟨_, rfl⟩
            have HOK := Lib.hid hok
            have HW2 : Hid (IntKind.u64.wrap ((R : Int) / 4503599627370496) = (R : Int) / 4503599627370496) := Lib.hid (by have := HRI.out.2; rw [IntKind.wrap_u64]; omega)
            clear hR hok HQ
            go_upto_region 15 with fail
            (try rw [HEU.out])
            (try rw [HRI.out.1])
            go_wp2
            (try rw [HW2.out])
            (try rw [HOK.out])
            exact bodyPost_ret (v := .tuple #[.int .u64 (R : Int), .bool ok]) (by simp [results, Tryz.results65, go_sem]) rfl ⟨R, ok, rfl, HRI.out.2, by cases hk : ok with
 | true => exact rung_lt (by have := HOK.out; rw [hk] at this; have := of_decide_eq_true this; omega) HN.out
 | false => exact rung_ge (by have := HOK.out; rw [hk] at this; have := of_decide_eq_false this; omega) HN.out, BW⟩
          · have hm2 : ((q : Int) % 2) = 1 := by omega
            have hm3 : (((q : Int).tmod 2) != 0) = true := by rw [Int.tmod_eq_emod_of_nonneg hq0, hm2]; rfl
            obtain ⟨R, hR⟩ : ∃ R : Nat, e * 4503599627370496 + (q + 1) = R := ⟨_, rfl⟩
            have HN : Hid (NrQ X Y R) := Lib.hid (HQ.out R (.inr ⟨hR.symm, by omega, fun _ => hm⟩))
            have HRI : Hid ((e : Int) * 4503599627370496 + ((q : Int) + 1) = (R : Int) ∧ R < 18446744073709551616) := Lib.hid ⟨by omega, by omega⟩
            obtain ⟨ok, hok⟩ : ∃ ok : Bool, decide ((R : Int) / 4503599627370496 < 2047) = ok := ⟨_, rfl⟩
            have HOK := Lib.hid hok
            have HW2 : Hid (IntKind.u64.wrap ((R : Int) / 4503599627370496) = (R : Int) / 4503599627370496) := Lib.hid (by have := HRI.out.2; rw [IntKind.wrap_u64]; omega)
            clear hR hok HQ
            go_upto_region 15 with fail
            (try rw [HEU.out])
            (try rw [HRI.out.1])
            go_wp2
            (try rw [HW2.out])
            (try rw [HOK.out])
            exact bodyPost_ret (v := .tuple #[.int .u64 (R : Int), .bool ok]) (by simp [results, Tryz.results65, go_sem]) rfl ⟨R, ok, rfl, HRI.out.2, by cases hk : ok with
 | true => exact rung_lt (by have := HOK.out; rw [hk] at this; have := of_decide_eq_true this; omega) HN.out
 | false => exact rung_ge (by have := HOK.out; rw [hk] at this; have := of_decide_eq_false this; omega) HN.out, BW⟩
        · have hz : cmpI ((r : Int) * 2) (D : Int) = 1 := cmpI_gt (by omega)
          obtain ⟨R, hR⟩ : ∃ R : Nat, e * 4503599627370496 + (q + 1) = R := ⟨_, rfl⟩
          have HN : Hid (NrQ X Y R) := Lib.hid (HQ.out R (.inr ⟨hR.symm, by omega, by omega⟩))
          have HRI : Hid ((e : Int) * 4503599627370496 + ((q : Int) + 1) = (R : Int) ∧ R < 18446744073709551616) := Lib.hid ⟨by omega, by omega⟩
          obtain ⟨ok, hok⟩ : ∃ ok : Bool, decide ((R : Int) / 4503599627370496 < 2047) = ok := ⟨_, rfl⟩
          have HOK := Lib.hid hok
          have HW2 : Hid (IntKind.u64.wrap ((R : Int) / 4503599627370496) = (R : Int) / 4503599627370496) := Lib.hid (by have := HRI.out.2; rw [IntKind.wrap_u64]; omega)
          clear hR hok HQ
          go_upto_region 15 with fail
          (try rw [HEU.out])
          (try rw [HRI.out.1])
          go_wp2
          (try rw [HW2.out])
          (try rw [HOK.out])
          exact bodyPost_ret (v := .tuple #[.int .u64 (R : Int), .bool ok]) (by simp [results, Tryz.results65, go_sem]) rfl ⟨R, ok, rfl, HRI.out.2, by cases hk : ok with
 | true => exact rung_lt (by have := HOK.out; rw [hk] at this; have := of_decide_eq_true this; omega) HN.out
 | false => exact rung_ge (by have := HOK.out; rw [hk] at this; have := of_decide_eq_false this; omega) HN.out, BW⟩
end Go.Proofs.YtobbedcaeffbaaaGreatDoor
namespace Go.Proofs.YtobbedcaeffbaaaGreatDoor
open Go.RowKit Nb
open Fl Ieee
/-- What frac.Float answers of q: the nearest float, whose nought has no sign, or that there is none. -/
def FloatIs (q : Rat) (v : Nat) (er : Int) : Prop := (er = 0 ∧ ∃ R, R < 9218868437227405312 ∧ NrQ q.num.natAbs q.den R ∧ v = if q.num < 0 ∧ R ≠ 0 then R + 9223372036854775808 else R) ∨ (er = 6 ∧ v = 0 ∧ FarQ q.num.natAbs q.den)
section
variable {W : World} {q : Rat} {f : Fv}
theorem Ff.nden (h : Ff W q f) : Nl W ((q.den : Nat) : Int) f.m f.B f.ds f.d := h.1 ▸ h.2.den
theorem Ff.nabs (h : Ff W q f) (_hz : q.num ≠ 0) : Nl W ((q.num.natAbs : Nat) : Int) false f.A f.xs f.c := by
  have v := h.2.num.v
  refine ⟨⟨h.2.num.lm.sl, h.2.num.lm.dig, ⟨h.2.num.lm.ok.len, h.2.num.lm.ok.norm, fun _ => rfl⟩⟩, ?_⟩
  show ((val W32 f.xs : Nat) : Int) = _
  rw [← v, sv_abs]
theorem Ff.sgn (h : Ff W q f) : (f.n = true ↔ q.num < 0) ∧ (f.xs.length = 0 ↔ q.num = 0) := by
  have v := h.2.num.v
  have z := norm_zero (B := W32) (by decide) h.2.num.lm.ok.norm
  have s := h.2.num.lm.ok.sign
  have l : f.xs.length = 0 ↔ f.xs = [] := List.length_eq_zero_iff
  rw [l, ← z, ← v]
  constructor
  · constructor
    · intro e
      rw [e]
      have : val W32 f.xs ≠ 0 := fun h0 => by have := s (z.1 h0); rw [e] at this; cases this
      show -((val W32 f.xs : Nat) : Int) < 0
      omega
    · intro e
      cases hn : f.n
      · rw [hn] at e
        exact absurd e (by show ¬ ((val W32 f.xs : Nat) : Int) < 0; omega)
      · rfl
  · constructor
    · intro e; rw [e]; cases f.n <;> rfl
    · intro e
      cases hn : f.n <;> rw [hn] at e
      · have e2 : ((val W32 f.xs : Nat) : Int) = 0 := e
        omega
      · have e2 : -((val W32 f.xs : Nat) : Int) = 0 := e
        omega
end
theorem ord_zero {R : Nat} (h : R < 9218868437227405312) : (FloatKind.f64.format.order R 0 == some .eq) = decide (R = 0) := by
  rw [ord_eq]
  have hm : mg R = R := Nat.mod_eq_of_lt (by omega)
  have hn : ng R = false := by unfold ng; rw [Nat.div_eq_of_lt (by omega)]; rfl
  have h0 : key 0 = 0 := by decide
  have hk : key R = R := by unfold key; rw [hn, hm]; rfl
  rw [hk, h0, hm]
  refine decide_eq_decide.2 ⟨fun e => by omega, fun e => ⟨by omega, by decide, by omega⟩⟩
theorem ngf_low {R : Nat} (h : R < 9218868437227405312) : ngf R = R + 9223372036854775808 := by
  unfold ngf
  have h1 : R + 9223372036854775808 = R ||| 9223372036854775808 := by
    have := Nat.two_pow_add_eq_or_of_lt (i := 63) (b := R) (by omega) 1
    rw [Nat.or_comm, ← show 2 ^ 63 * 1 = 9223372036854775808 by decide, ← this]
    exact Nat.add_comm _ _
  rw [h1]
  apply Nat.eq_of_testBit_eq
  intro i
  rw [Nat.testBit_xor, Nat.testBit_or]
  by_cases hi : i < 63
  · have : Nat.testBit 9223372036854775808 i = false := by
      rw [show (9223372036854775808 : Nat) = 2 ^ 63 by decide]; exact Nat.testBit_two_pow_of_ne (by omega)
    rw [this]; simp
  · have : Nat.testBit R i = false := Nat.testBit_lt_two_pow (Nat.lt_of_lt_of_le (show R < 2 ^ 63 by omega) (Nat.pow_le_pow_right (by decide) (by omega)))
    rw [this]; simp
set_option maxHeartbeats 8000000 in
set_option maxRecDepth 100000 in
theorem float_any {q : Rat} {f : Fv} {w : World} (L : Ff w q f) :
    Calls Tryz.prog 12 #[fv f] w (fun e w' => ∃ (v : Nat) (er : Int), e = .returned (.tuple #[.float .f64 v, .int .i64 er]) ∧ FloatIs q v er ∧ Below w.heap.size w w') := by
  have HZ := Lib.hid L.sgn.2
  have HG := Lib.hid L.sgn.1
  by_cases hq : q.num = 0
  · have HQ : Hid (q.num = 0) := Lib.hid hq
    clear hq
    have BW : Below w.heap.size w w := Below.refl _ _
    obtain ⟨V1, e2, hb3, K4, -, -⟩ := alloc_new w [.bool f.n, .slice f.A f.xs.length f.c, .bool f.m, .slice f.B f.ds.length f.d] 27
    replace L := L.kp (Kept.of hb3)
    replace BW := BW.trans (hb3.mono BW.size)
    clear hb3
    go_enter Tryz.func12, Tryz.ntmps12
    go_wp2_with fail
    rw [← e2]
    clear e2
    refine (r_check L.fx).mono ?_
    rintro _ w5 ⟨rfl, hb⟩
    replace K4 := K4.on hb
    replace L := L.kp (Kept.of hb)
    replace BW := BW.trans (hb.mono BW.size)
    clear hb
    rw [chkv_ok L.okv]
    have h0 : ((f.xs.length : Nat) : Int) = 0 := by have := HZ.out.2 HQ.out; omega
    obtain ⟨c6, c7, c8, c9⟩ := K4.c4
    go_wp2_with fail
    clear c6 c7 c8 c9
    exact bodyPost_ret (v := .tuple #[.float .f64 0, .int .i64 0]) (by simp [results, Tryz.results12, go_sem]) rfl ⟨0, 0, rfl, .inl ⟨rfl, 0, by decide, by rw [HQ.out, Int.natAbs_zero]; exact nrq_zero, by rw [if_neg (fun e => e.2 rfl)]⟩, BW⟩
  · have HQ : Hid (q.num ≠ 0) := Lib.hid hq
    clear hq
    have BW : Below w.heap.size w w := Below.refl _ _
    obtain ⟨V1, e2, hb3, K4, -, -⟩ := alloc_new w [.bool f.n, .slice f.A f.xs.length f.c, .bool f.m, .slice f.B f.ds.length f.d] 27
    replace L := L.kp (Kept.of hb3)
    replace BW := BW.trans (hb3.mono BW.size)
    clear hb3
    go_enter Tryz.func12, Tryz.ntmps12
    go_wp2_with fail
    rw [← e2]
    clear e2
    refine (r_check L.fx).mono ?_
    rintro _ w5 ⟨rfl, hb⟩
    replace K4 := K4.on hb
    replace L := L.kp (Kept.of hb)
    replace BW := BW.trans (hb.mono BW.size)
    clear hb
    rw [chkv_ok L.okv]
    have h9 : f.xs.length ≠ 0 := fun e => HQ.out (HZ.out.1 e)
    have h0 : (((f.xs.length : Nat) : Int) == 0) = false := by rw [beq_eq_false_iff_ne]; omega
    clear h9
    obtain ⟨c6, c7, c8, c9⟩ := K4.c4
    obtain ⟨V10, e11, hb12, K13, -, -⟩ := alloc_new w5 [.bool false, .slice f.A f.xs.length f.c] 25
    replace K4 := K4.on hb12
    replace L := L.kp (Kept.of hb12)
    replace BW := BW.trans (hb12.mono BW.size)
    clear hb12
    go_wp2_with fail
    clear c6 c7 c8 c9
    rw [← e11]
    clear e11
    generalize w5.heap.size = b14 at *
    have NA := L.nabs HQ.out
    have ND := L.nden
    clear h0
    refine wp_region_noPanic ?_
    have hb : Below V10.heap.size V10 V10.drew := (Below.refl _ _).drew
    replace K4 := K4.on hb
    replace K13 := K13.on hb
    replace NA := NA.kp (Kept.of hb)
    replace ND := ND.kp (Kept.of hb)
    replace BW := BW.trans (hb.mono BW.size)
    clear hb
    refine wp_region_held_drew (S := (fun wx => Cs wx (w.heap.size) 0 [.bool f.n, .slice f.A f.xs.length f.c, .bool f.m, .slice f.B f.ds.length f.d] ∧ Cs wx (b14) 0 [.bool false, .slice f.A f.xs.length f.c])) (by kernel_rfl) (by exact ⟨K4.cs, K13.cs⟩) (fun hHeld => ?_)
    generalize V10.drew = Vd15 at *
    refine pT 0 ?_
    (try simp only [p0, p1, p2, p3])
    refine pT 2 ?_
    (try simp only [p0, p1, p2, p3])
    refine pT 3 ?_
    (try simp only [p0, p1, p2, p3])
    refine pR1 1 (fun K hK => ?_)
    go_simp
    (go_at_call 66; with_reducible refine (from_n NA).mono ?_)
    rintro _ w16 ⟨n1, A1, z1, k1, rfl, N1, hb⟩
    (try go_wp2_with fail)
    replace K4 := K4.on hb
    replace K13 := K13.on hb
    replace ND := ND.kp (Kept.of hb)
    replace BW := BW.trans (hb.mono BW.size)
    clear hb
    refine hK.out _ _ (by exact ⟨K4.cs, K13.cs⟩) (fun hHeld => ?_)
    clear hK
    (try simp only [p0, p1, p2, p3])
    refine pR1 4 (fun K hK => ?_)
    go_simp
    (go_at_call 66; with_reducible refine (from_n ND).mono ?_)
    rintro _ w17 ⟨n2, A2, z2, k2, rfl, N2, hb⟩
    (try go_wp2_with fail)
    replace K4 := K4.on hb
    replace K13 := K13.on hb
    replace N1 := N1.kp (Kept.of hb)
    replace BW := BW.trans (hb.mono BW.size)
    clear hb
    refine hK.out _ _ (by exact ⟨K4.cs, K13.cs⟩) (fun hHeld => ?_)
    clear hK
    (try simp only [p0, p1, p2, p3])
    refine pR1 5 (fun K hK => ?_)
    go_simp
    (go_at_call 65; with_reducible refine (nearest_any N1 N2 (Int.natAbs_pos.2 HQ.out) q.den_pos (by decide)).mono ?_)
    rintro _ w18 ⟨R, ok, rfl, hRw, hok, hb⟩
    (try go_wp2_with fail)
    replace K4 := K4.on hb
    replace K13 := K13.on hb
    replace BW := BW.trans (hb.mono BW.size)
    clear hb
    have HO := Lib.hid hok
    clear hok hRw
    refine hK.out _ _ (by exact ⟨K4.cs, K13.cs⟩) (fun hHeld => ?_)
    clear hK
    (try simp only [p0, p1, p2, p3])
    refine pT 6 ?_
    (try simp only [p0, p1, p2, p3])
    refine pT 7 ?_
    (try simp only [p0, p1, p2, p3])
    refine pT 8 ?_
    (try simp only [p0, p1, p2, p3])
    refine pT 9 ?_
    (try simp only [p0, p1, p2, p3])
    refine pT 10 ?_
    (try simp only [p0, p1, p2, p3])
    refine wpAnyH_done (by kernel_rfl) (NoPanic.normal ?_) _
    by_cases hok2 : ok = false
    · obtain rfl : ok = false := hok2
      go_wp2_with fail
      exact bodyPost_ret (v := .tuple #[.float .f64 0, .int .i64 6]) (by simp [results, Tryz.results12, go_sem]) rfl ⟨0, 6, rfl, .inr ⟨rfl, rfl, HO.out.2 (by trivial)⟩, BW⟩
    · obtain rfl : ok = true := by cases ok with
 | true => rfl
 | false => exact absurd rfl hok2
      obtain ⟨hRl, hRn⟩ := HO.out.1 (by trivial)
      have HRN := Lib.hid (And.intro hRl hRn)
      have hfr : ∀ w, (callFunc 67 #[.int .u64 (R : Int)]).run Tryz.prog w = .ok (.value (.float .f64 R)) w := fun w => run_from (R : Int) w
      have hng := run_ngf
      have hO := ord_zero hRl
      have hO2 : (FloatKind.f64.format.order R 0 != some .eq) = !decide (R = 0) := by rw [bne, hO]
      clear hRl hRn
      obtain ⟨n0, hn0⟩ : ∃ n0, f.n = n0 := ⟨_, rfl⟩
      have HS : Hid ((n0 = true ↔ q.num < 0)) := Lib.hid (by rw [← hn0]; exact HG.out)
      cases hn1 : n0
      · have hn : f.n = false := hn0.trans hn1
        obtain ⟨b0, hb0⟩ : ∃ b0, decide (R = 0) = b0 := ⟨_, rfl⟩
        rw [hb0] at hO hO2
        clear hb0
        obtain ⟨c19, c20, c21, c22⟩ := K4.c4
        go_wp2_with fail
        clear c19 c20 c21 c22
        exact bodyPost_ret (v := .tuple #[.float .f64 R, .int .i64 0]) (by simp [results, Tryz.results12, go_sem]) rfl ⟨R, 0, rfl, .inl ⟨rfl, R, HRN.out.1, HRN.out.2, by rw [if_neg (fun e => by have := HS.out.2 e.1; rw [hn1] at this; cases this)]⟩, BW⟩
      · by_cases hR0 : R = 0
        · have hn : f.n = true := hn0.trans hn1
          rw [decide_eq_true hR0] at hO hO2
          clear hfr
          subst hR0
          have hfr0 : ∀ w, (callFunc 67 #[.int .u64 0]).run Tryz.prog w = .ok (.value (.float .f64 0)) w := fun w => run_from 0 w
          obtain ⟨c19, c20, c21, c22⟩ := K4.c4
          go_wp2_with fail
          clear c19 c20 c21 c22
          exact bodyPost_ret (v := .tuple #[.float .f64 0, .int .i64 0]) (by simp [results, Tryz.results12, go_sem]) rfl ⟨0, 0, rfl, .inl ⟨rfl, 0, HRN.out.1, HRN.out.2, by rw [if_neg (fun e => e.2 rfl)]⟩, BW⟩
        · have hn : f.n = true := hn0.trans hn1
          rw [decide_eq_false hR0] at hO hO2
          obtain ⟨c19, c20, c21, c22⟩ := K4.c4
          go_wp2_with fail
          clear c19 c20 c21 c22
          exact bodyPost_ret (v := .tuple #[.float .f64 (ngf R), .int .i64 0]) (by simp [results, Tryz.results12, go_sem]) rfl ⟨(ngf R), 0, rfl, .inl ⟨rfl, R, HRN.out.1, HRN.out.2, by rw [if_pos ⟨HS.out.1 hn1, hR0⟩]; exact ngf_low HRN.out.1⟩, BW⟩
end Go.Proofs.YtobbedcaeffbaaaGreatDoor
