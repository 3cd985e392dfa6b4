/-
 Fractions as they are handed in: what Check, the closures, Cmp, Sign and SameFrac return. Conditions: as each theorem states.
-/
import Derived.Test.YtjamfkafgfpobaaGreatFqe
import Derived.Test.YtjamfkafgfpobaaGreatCom0
import Derived.Test.YtjamfkafgfpobaaGreatSame
import Derived.Deep.RegionHeld3
import Derived.Deep.DeepCutAuto
import Derived.BigRegion
import Derived.Test.YtjamfkafgfpobaaGreatFq7
import Derived.Test.YtjamfkafgfpobaaGreatFq5
/-! ### Fra -/
namespace Go.Proofs.YtjamfkafgfpobaaGreat
open Go.RowKit Nb
/-- A list of limbs that is handed in. -/
structure Rl (W : World) (A : Option Addr) (ls : List Nat) : Prop where
 sl : Sl .u32 W W.heap.size A ls
 dig : Dig W32 ls
 sz : ls.length * 4 ≤ 140737488351232
theorem Rl.on {W W' : World} {A : Option Addr} {ls : List Nat} (h : Rl W A ls) (hb : Below W.heap.size W W') : Rl W' A ls := ⟨(h.sl.below hb).more hb.size, h.dig, h.sz⟩
/-- A fraction that is handed in. -/
structure Rq (W : World) (A : Option Addr) (xs : List Nat) (B : Option Addr) (ds : List Nat) : Prop where
 x : Rl W A xs
 y : Rl W B ds
theorem Rq.on {W W' : World} {A B : Option Addr} {xs ds : List Nat} (h : Rq W A xs B ds) (hb : Below W.heap.size W W') : Rq W' A xs B ds := ⟨h.x.on hb, h.y.on hb⟩
/-- May it be? -/
structure Okf (n : Bool) (xs : List Nat) (m : Bool) (ds : List Nat) : Prop where
 x : Ok n xs
 y : Ok m ds
 pos : m = false
 ne : 0 < val W32 ds
 low : Nat.gcd (val W32 xs) (val W32 ds) = 1
noncomputable def chkF (n : Bool) (xs : List Nat) (m : Bool) (ds : List Nat) : Int := open Classical in if Okf n xs m ds then 0 else 1
theorem chkF_ok {n m : Bool} {xs ds : List Nat} (h : Okf n xs m ds) : chkF n xs m ds = 0 := if_pos h
theorem chkF_bad {n m : Bool} {xs ds : List Nat} (h : ¬ Okf n xs m ds) : chkF n xs m ds = 1 := if_neg h
theorem chkF_two (n m : Bool) (xs ds : List Nat) : chkF n xs m ds = 0 ∨ chkF n xs m ds = 1 := by
 by_cases h : Okf n xs m ds
 ·exact .inl (chkF_ok h)
 ·exact .inr (chkF_bad h)
theorem chkF_zero {n m : Bool} {xs ds : List Nat} (h : chkF n xs m ds = 0) : Okf n xs m ds := by
 by_cases o : Okf n xs m ds
 ·exact o
 ·rw [chkF_bad o] at h; omega
section
variable {W : World} {q : Rat} {n m : Bool} {A B : Option Addr} {xs ds : List Nat} {c d : Nat}
theorem Okf.lf (h : Okf n xs m ds) (r : Rq W A xs B ds) : ∃ q : Rat, Lf W q n A xs c B ds d := by
 have h1 : (sv n (val W32 xs)).natAbs.Coprime (val W32 ds) := by rw [sv_abs]; exact h.low
 have hm := h.pos
 subst hm
 exact ⟨⟨sv n (val W32 xs), val W32 ds, Nat.ne_of_gt h.ne, h1⟩, ⟨⟨r.x.sl, r.x.dig, h.x⟩, rfl⟩, ⟨⟨r.y.sl, r.y.dig, h.y⟩, rfl⟩⟩
theorem Lf.den_val (h : Lf W q n A xs c B ds d) : val W32 ds = q.den := (sv_nat h.den.lm.ok h.den.v).2
theorem Lf.num_val (h : Lf W q n A xs c B ds d) : val W32 xs = q.num.natAbs := by rw [← h.num.v, sv_abs]
theorem Lf.okf (h : Lf W q n A xs c B ds d) : Okf n xs false ds :=
 ⟨h.num.lm.ok, h.den.lm.ok, rfl, by rw [h.den_val]; exact q.den_pos, by rw [h.den_val, h.num_val]; exact q.reduced⟩
theorem Lf.rq (h : Lf W q n A xs c B ds d) : Rq W A xs B ds := ⟨⟨h.num.lm.sl, h.num.lm.dig, h.num.lm.sz⟩, ⟨h.den.lm.sl, h.den.lm.dig, h.den.lm.sz⟩⟩
end
/-- Its sign is 1. -/
def PosL (m : Bool) (ds : List Nat) : Prop := Ok m ds ∧ m = false ∧ 0 < val W32 ds
theorem sgnV_pos {m : Bool} {ds : List Nat} (hd : Dig W32 ds) (h : PosL m ds) : sgnV m ds = 1 := by
 obtain ⟨h1, rfl, h3⟩ := h
 unfold sgnV sgn
 rw [if_pos h1]
 have : ds.length ≠ 0 := fun e => by
  have : ds = [] := List.length_eq_zero_iff.1 e
  subst this
  simp [val] at h3
 simp [this]
theorem sgnV_not {m : Bool} {ds : List Nat} (_hd : Dig W32 ds) (h : ¬ PosL m ds) : sgnV m ds ≠ 1 := by
 unfold sgnV sgn
 by_cases h1 : Ok m ds
 ·rw [if_pos h1]
  cases m with
  | true => simp
  | false =>
   simp only [Bool.false_eq_true, if_false]
   by_cases hl : ds.length = 0
   ·rw [if_pos hl]; decide
   ·exfalso
    apply h
    refine ⟨h1, rfl, ?_⟩
    rcases Nat.eq_zero_or_pos (val W32 ds) with h0 | h0
    ·exact absurd (by rw [(norm_zero (B := W32) (by decide) h1.norm).1 h0]; rfl) hl
    ·exact h0
 ·rw [if_neg h1]; decide
end Go.Proofs.YtjamfkafgfpobaaGreat
/-! ### Frb -/
namespace Go.Proofs.YtjamfkafgfpobaaGreat
open Go.RowKit Nb
theorem fits_gcd {m : Bool} {xs ds : List Nat} (hd : Dig W32 ds) (ho : Ok m ds) (hp : 0 < val W32 ds) : Fits ((Nat.gcd (val W32 xs) (val W32 ds) : Nat) : Int) := by
 have h := fits_lm (n := m) hd ho
 refine fits_abs h ?_
 rw [sv_abs]
 exact Nat.le_of_dvd hp (Nat.gcd_dvd_right _ _)
set_option maxHeartbeats 8000000 in
set_option maxRecDepth 20000 in
theorem fcheck_any (n m : Bool) (A B : Option Addr) (xs ds : List Nat) (c d : Nat) (w : World) (h : Rq w A xs B ds) :
  Calls Tryz.prog 41 #[frq n A xs.length c m B ds.length d] w (fun e w' => e = .returned (.int .i64 (chkF n xs m ds)) ∧ Below w.heap.size w w') := by
 obtain ⟨V, hV⟩ : ∃ V, V = (w.alloc (.cells #[.bool n, .slice A xs.length c, .bool m, .slice B ds.length d] 29)) := ⟨_, rfl⟩
 have BW : Below w.heap.size w V := by rw [hV]; go_grown
 have KX : Box V w.heap.size [.bool n, .slice A xs.length c, .bool m, .slice B ds.length d] := by rw [hV]; exact Box.new w _ _
 have RX := h.on BW
 clear h
 by_cases hp : PosL m ds
 ·have KX_0 := KX.c 0 _ rfl
  have KX_1 := KX.c 1 _ rfl
  have KX_2 := KX.c 2 _ rfl
  have KX_3 := KX.c 3 _ rfl
  go_enter Tryz.func41, Tryz.ntmps41
  go_wp2_with fail
  clear KX_0 KX_1 KX_2 KX_3
  rw [← hV]
  clear hV
  refine (wsign_u m B ds d V RX.y.sl RX.y.dig RX.y.sz).mono ?_
  rintro _ w1 ⟨rfl, hb⟩
  replace KX := KX.on hb
  replace RX := RX.on hb
  replace BW := BW.trans (hb.mono BW.size)
  clear hb
  rw [sgnV_pos RX.y.dig hp]
  have KX_0 := KX.c 0 _ rfl
  have KX_1 := KX.c 1 _ rfl
  have KX_2 := KX.c 2 _ rfl
  have KX_3 := KX.c 3 _ rfl
  go_wp2_with fail
  clear KX_0 KX_1 KX_2 KX_3
  refine (wgcd_any n m A B xs ds c d w1 RX.x.sl RX.y.sl RX.x.dig RX.y.dig RX.x.sz RX.y.sz).mono ?_
  rintro _ w2 ⟨gn, gA, gz, gk, er, rfl, Lg, hs, hb⟩
  replace KX := KX.on hb
  replace RX := RX.on hb
  replace BW := BW.trans (hb.mono BW.size)
  clear hb
  have HP := Lib.hid hp
  clear hp
  have hb : Below w2.heap.size w2 (w2.alloc (.cells #[.bool gn, .slice gA gz.length gk] 27)) := by go_grown
  have KG := Box.new w2 [.bool gn, .slice gA gz.length gk] 27
  replace Lg := Lg.below hb
  replace KX := KX.on hb
  replace RX := RX.on hb
  replace BW := BW.trans (hb.mono BW.size)
  clear hb
  by_cases hn : Ok n xs
  ·obtain ⟨rfl, hv⟩ : er = 0 ∧ sv gn (val W32 gz) = ((Nat.gcd (val W32 xs) (val W32 ds) : Nat) : Int) := by
    rcases hs with ⟨_, ⟨_, h1, h2⟩ | ⟨hf, _⟩⟩ | ⟨hf, _⟩
    ·exact ⟨h1, h2⟩
    ·exact absurd (fits_gcd RX.y.dig HP.out.1 HP.out.2.2) hf
    ·exact absurd ⟨hn, HP.out.1⟩ hf
   clear hs
   have Ng : Nl _ _ _ _ _ _ := ⟨Lg, hv⟩
   clear Lg hv
   have HN := Lib.hid hn
   clear hn
   by_cases hg : Nat.gcd (val W32 xs) (val W32 ds) = 1
   ·have HO := Lib.hid (⟨HN.out, HP.out.1, HP.out.2.1, HP.out.2.2, hg⟩ : Okf n xs m ds)
    rw [hg] at Ng
    have HR := Lib.hid (show cmpI ((1 : Nat) : Int) 1 = 0 from by decide)
    clear hg KX RX
    go_wp2_with fail
    generalize (w2.alloc (.cells #[.bool gn, .slice gA gz.length gk] 27)) = VG at *
    generalize w2.heap.size = pG at *
    refine wp_region_noPanic ?_
    have hb : Below VG.heap.size VG VG.drew := (Below.refl _ _).drew
    replace KG := KG.on hb
    replace Ng := Ng.on hb
    replace BW := BW.trans (hb.mono BW.size)
    clear hb
    refine wp_region_held_drew (S := (fun wx => wx.cell? ⟨pG, 0, none⟩ = some (.bool gn) ∧ wx.cell? ⟨pG, 1, none⟩ = some (.slice gA gz.length gk))) (by kernel_rfl) (by exact KG.b2) (fun hHeld => ?_)
    generalize VG.drew = Vd at *
    refine pT 0 ?_
    (try simp only [p0, p1, p2, p3])
    refine pT 1 ?_
    (try simp only [p0, p1, p2, p3])
    refine pT 2 ?_
    (try simp only [p0, p1, p2, p3])
    refine pT 3 ?_
    (try simp only [p0, p1, p2, p3])
    refine pR1 4 (fun K hK => ?_)
    go_simp
    (go_at_call 84; with_reducible refine (of_fix 1 false _ (by decide) (by decide) rfl).mono ?_)
    rintro _ wc0 ⟨oA, oc, oz, rfl, No, ov, ol, hb⟩
    (try go_wp2_with fail)
    replace No : Nl _ _ _ _ _ _ := ⟨No, ov⟩
    replace KG := KG.on hb
    replace Ng := Ng.on hb
    replace BW := BW.trans (hb.mono BW.size)
    clear hb
    refine hK.out _ _ (by exact KG.b2) (fun hHeld => ?_)
    clear hK
    (try simp only [p0, p1, p2, p3])
    refine pR1 5 (fun K hK => ?_)
    go_simp
    (go_at_call 83; with_reducible refine (wcmp_lm _ Ng.lm No.lm 0 (by rw [Ng.v, No.v]; exact HR.out)).mono ?_)
    rintro _ wc1 ⟨rfl, hb⟩
    (try go_wp2_with fail)
    replace KG := KG.on hb
    replace BW := BW.trans (hb.mono BW.size)
    clear hb
    refine hK.out _ _ (by exact KG.b2) (fun hHeld => ?_)
    clear hK
    (try simp only [p0, p1, p2, p3])
    refine pT 6 ?_
    (try simp only [p0, p1, p2, p3])
    refine pT 7 ?_
    (try simp only [p0, p1, p2, p3])
    refine wpAnyH_done (by kernel_rfl) (NoPanic.normal ?_) _
    go_wp2
    go_ret
    exact ⟨by rw [chkF_ok HO.out]; rfl, BW⟩
   ·have HO := Lib.hid (show ¬ Okf n xs m ds from fun h => hg h.low)
    have hg0 : 0 < Nat.gcd (val W32 xs) (val W32 ds) := Nat.gcd_pos_of_pos_right _ HP.out.2.2
    generalize Nat.gcd (val W32 xs) (val W32 ds) = G at *
    have HR := Lib.hid (show cmpI (G : Int) 1 = 1 from cmpI_gt (by omega))
    clear hg hg0 KX RX
    go_wp2_with fail
    generalize (w2.alloc (.cells #[.bool gn, .slice gA gz.length gk] 27)) = VG at *
    generalize w2.heap.size = pG at *
    refine wp_region_noPanic ?_
    have hb : Below VG.heap.size VG VG.drew := (Below.refl _ _).drew
    replace KG := KG.on hb
    replace Ng := Ng.on hb
    replace BW := BW.trans (hb.mono BW.size)
    clear hb
    refine wp_region_held_drew (S := (fun wx => wx.cell? ⟨pG, 0, none⟩ = some (.bool gn) ∧ wx.cell? ⟨pG, 1, none⟩ = some (.slice gA gz.length gk))) (by kernel_rfl) (by exact KG.b2) (fun hHeld => ?_)
    generalize VG.drew = Vd at *
    refine pT 0 ?_
    (try simp only [p0, p1, p2, p3])
    refine pT 1 ?_
    (try simp only [p0, p1, p2, p3])
    refine pT 2 ?_
    (try simp only [p0, p1, p2, p3])
    refine pT 3 ?_
    (try simp only [p0, p1, p2, p3])
    refine pR1 4 (fun K hK => ?_)
    go_simp
    (go_at_call 84; with_reducible refine (of_fix 1 false _ (by decide) (by decide) rfl).mono ?_)
    rintro _ wc0 ⟨oA, oc, oz, rfl, No, ov, ol, hb⟩
    (try go_wp2_with fail)
    replace No : Nl _ _ _ _ _ _ := ⟨No, ov⟩
    replace KG := KG.on hb
    replace Ng := Ng.on hb
    replace BW := BW.trans (hb.mono BW.size)
    clear hb
    refine hK.out _ _ (by exact KG.b2) (fun hHeld => ?_)
    clear hK
    (try simp only [p0, p1, p2, p3])
    refine pR1 5 (fun K hK => ?_)
    go_simp
    (go_at_call 83; with_reducible refine (wcmp_lm _ Ng.lm No.lm 1 (by rw [Ng.v, No.v]; exact HR.out)).mono ?_)
    rintro _ wc1 ⟨rfl, hb⟩
    (try go_wp2_with fail)
    replace KG := KG.on hb
    replace BW := BW.trans (hb.mono BW.size)
    clear hb
    refine hK.out _ _ (by exact KG.b2) (fun hHeld => ?_)
    clear hK
    (try simp only [p0, p1, p2, p3])
    refine pT 6 ?_
    (try simp only [p0, p1, p2, p3])
    refine pT 7 ?_
    (try simp only [p0, p1, p2, p3])
    refine wpAnyH_done (by kernel_rfl) (NoPanic.normal ?_) _
    go_wp2
    go_ret
    exact ⟨by rw [chkF_bad HO.out]; rfl, BW⟩
  ·obtain rfl : er = 1 := by
    rcases hs with ⟨h1, _⟩ | ⟨_, h1, _⟩
    ·exact absurd h1.1 hn
    ·exact h1
   clear hs
   have HO := Lib.hid (show ¬ Okf n xs m ds from fun h => hn h.x)
   clear hn KX RX Lg
   go_wp2_with fail
   generalize (w2.alloc (.cells #[.bool gn, .slice gA gz.length gk] 27)) = VG at *
   generalize w2.heap.size = pG at *
   refine wp_region_noPanic ?_
   have hb : Below VG.heap.size VG VG.drew := (Below.refl _ _).drew
   replace KG := KG.on hb
   replace BW := BW.trans (hb.mono BW.size)
   clear hb
   refine wp_region_held_drew (S := (fun wx => wx.cell? ⟨pG, 0, none⟩ = some (.bool gn) ∧ wx.cell? ⟨pG, 1, none⟩ = some (.slice gA gz.length gk))) (by kernel_rfl) (by exact KG.b2) (fun hHeld => ?_)
   generalize VG.drew = Vd at *
   refine pT 0 ?_
   (try simp only [p0, p1, p2, p3])
   refine pT 1 ?_
   (try simp only [p0, p1, p2, p3])
   refine pT 2 ?_
   (try simp only [p0, p1, p2, p3])
   refine pS 3 ?_
   (try simp only [p0, p1, p2, p3])
   refine pS 4 ?_
   (try simp only [p0, p1, p2, p3])
   refine pS 5 ?_
   (try simp only [p0, p1, p2, p3])
   refine pS 6 ?_
   (try simp only [p0, p1, p2, p3])
   refine pT 7 ?_
   (try simp only [p0, p1, p2, p3])
   refine wpAnyH_done (by kernel_rfl) (NoPanic.normal ?_) _
   go_wp2
   go_ret
   exact ⟨by rw [chkF_bad HO.out]; rfl, BW⟩
 ·have hs := sgnV_not RX.y.dig hp
  have KX_0 := KX.c 0 _ rfl
  have KX_1 := KX.c 1 _ rfl
  have KX_2 := KX.c 2 _ rfl
  have KX_3 := KX.c 3 _ rfl
  go_enter Tryz.func41, Tryz.ntmps41
  go_wp2_with fail
  clear KX_0 KX_1 KX_2 KX_3
  rw [← hV]
  clear hV
  refine (wsign_u m B ds d V RX.y.sl RX.y.dig RX.y.sz).mono ?_
  rintro _ w1 ⟨rfl, hb⟩
  have HO := Lib.hid (show ¬ Okf n xs m ds from fun h => hp ⟨h.y, h.pos, h.ne⟩)
  replace KX := KX.on hb
  replace RX := RX.on hb
  replace BW := BW.trans (hb.mono BW.size)
  clear hb
  generalize sgnV m ds = sg at *
  clear hp KX RX
  go_wp2
  go_ret
  exact ⟨by rw [chkF_bad HO.out]; rfl, BW⟩
end Go.Proofs.YtjamfkafgfpobaaGreat
/-! ### Frc -/
namespace Go.Proofs.YtjamfkafgfpobaaGreat
open Go.RowKit Nb
/-- What a closure answers: the fraction, or that it is divided by nought. -/
def Dq (W : World) (z : Rat) (C : Nat) (bad : Prop) (n : Bool) (A : Option Addr) (xs : List Nat) (c : Nat) (m : Bool) (B : Option Addr) (ds : List Nat) (d : Nat) (er : Int) : Prop :=
 (¬ bad ∧ er = 0 ∧ m = false ∧ Lq W z n A xs c B ds d C) ∨ (bad ∧ er = 3)
theorem Dq.on {W W' : World} {z : Rat} {C : Nat} {bad : Prop} {n m : Bool} {A B : Option Addr} {xs ds : List Nat} {c d : Nat} {er : Int} (h : Dq W z C bad n A xs c m B ds d er) (hb : Below W.heap.size W W') : Dq W' z C bad n A xs c m B ds d er := by
 rcases h with ⟨h1, h2, h3, h4⟩ | h
 ·exact .inl ⟨h1, h2, h3, h4.on hb⟩
 ·exact .inr h
theorem Dq.put4 {W : World} {z : Rat} {C p : Nat} {bad : Prop} {n m : Bool} {A B : Option Addr} {xs ds : List Nat} {c d : Nat} {er : Int} (h : Dq W z C bad n A xs c m B ds d er) (hr : RestQ W p) (u0 u1 u2 u3 : Value) : Dq ((((W.setCell ⟨p, 0, none⟩ u0).setCell ⟨p, 1, none⟩ u1).setCell ⟨p, 2, none⟩ u2).setCell ⟨p, 3, none⟩ u3) z C bad n A xs c m B ds d er := by
 rcases h with ⟨h1, h2, h3, h4⟩ | h
 ·exact .inl ⟨h1, h2, h3, h4.put4 hr u0 u1 u2 u3⟩
 ·exact .inr h
/-- No fraction at all. -/
def Zq (n : Bool) (A : Option Addr) (xs : List Nat) (c : Nat) (m : Bool) (B : Option Addr) (ds : List Nat) (d : Nat) : Prop := n = false ∧ A = none ∧ xs = [] ∧ c = 0 ∧ m = false ∧ B = none ∧ ds = [] ∧ d = 0
theorem Zq.mk' : Zq false none [] 0 false none [] 0 := ⟨rfl, rfl, rfl, rfl, rfl, rfl, rfl, rfl⟩
/-- What is answered of fractions that may be: the fraction, or the refusal. -/
def Rk (W : World) (bad : Prop) (z : Rat) (n : Bool) (A : Option Addr) (xs : List Nat) (c : Nat) (m : Bool) (B : Option Addr) (ds : List Nat) (d : Nat) (er : Int) : Prop :=
 (¬ bad ∧ FitsQ z ∧ er = 0 ∧ m = false ∧ Lf W z n A xs c B ds d) ∨ ((bad ∧ er = 3 ∨ ¬ bad ∧ ¬ FitsQ z ∧ er = 4) ∧ Zq n A xs c m B ds d)
theorem Rk.on {W W' : World} {z : Rat} {bad : Prop} {n m : Bool} {A B : Option Addr} {xs ds : List Nat} {c d : Nat} {er : Int} (h : Rk W bad z n A xs c m B ds d er) (hb : Below W.heap.size W W') : Rk W' bad z n A xs c m B ds d er := by
 rcases h with ⟨h1, h2, h3, h4, h5⟩ | h
 ·exact .inl ⟨h1, h2, h3, h4, h5.on hb⟩
 ·exact .inr h
theorem Rk.put4 {W : World} {z : Rat} {p : Nat} {bad : Prop} {n m : Bool} {A B : Option Addr} {xs ds : List Nat} {c d : Nat} {er : Int} (h : Rk W bad z n A xs c m B ds d er) (hr : RestQ W p) (u0 u1 u2 u3 : Value) : Rk ((((W.setCell ⟨p, 0, none⟩ u0).setCell ⟨p, 1, none⟩ u1).setCell ⟨p, 2, none⟩ u2).setCell ⟨p, 3, none⟩ u3) bad z n A xs c m B ds d er := by
 rcases h with ⟨h1, h2, h3, h4, h5⟩ | h
 ·exact .inl ⟨h1, h2, h3, h4, h5.put4 hr u0 u1 u2 u3⟩
 ·exact .inr h
def ReckF (w : World) (bad : Prop) (z : Rat) (e : Ending) (w' : World) : Prop := ∃ (n : Bool) (A : Option Addr) (xs : List Nat) (c : Nat) (m : Bool) (B : Option Addr) (ds : List Nat) (d : Nat) (er : Int), e = .returned (.tuple #[frq n A xs.length c m B ds.length d, .int .i64 er]) ∧ Rk w' bad z n A xs c m B ds d er ∧ Below w.heap.size w w'
end Go.Proofs.YtjamfkafgfpobaaGreat
/-! ### Fre -/
namespace Go.Proofs.YtjamfkafgfpobaaGreat
open Go.RowKit Nb
theorem box_pair (w : World) (us vs : List Value) (s t : TypeId) : ∃ V : World, V = (w.alloc (.cells us.toArray s)).alloc (.cells vs.toArray t) ∧ Below w.heap.size w V ∧ V.heap.size = w.heap.size + 1 + 1 ∧ Box V w.heap.size us ∧ Box V (w.heap.size + 1) vs := by
 have h1 := Box.new w us s
 have z1 : (w.alloc (.cells us.toArray s)).heap.size = w.heap.size + 1 := by go_size
 have b2 : Below (w.alloc (.cells us.toArray s)).heap.size (w.alloc (.cells us.toArray s)) ((w.alloc (.cells us.toArray s)).alloc (.cells vs.toArray t)) := by go_grown
 have h2 := Box.new (w.alloc (.cells us.toArray s)) vs t
 rw [z1] at h2
 exact ⟨_, rfl, by go_grown, by go_size, h1.on b2, h2⟩
theorem sv_inj' {n1 n2 : Bool} {xs ys : List Nat} (o1 : Ok n1 xs) (o2 : Ok n2 ys) (d1 : Dig W32 xs) (d2 : Dig W32 ys) (h : sv n1 (val W32 xs) = sv n2 (val W32 ys)) : n1 = n2 ∧ xs = ys := by
 have hz1 := ok_vpos o1
 have hz2 := ok_vpos o2
 have hn : n1 = n2 := by
  unfold sv at h
  cases n1 <;> cases n2 <;> simp_all <;> omega
 subst hn
 refine ⟨rfl, norm_inj (by decide) d1 d2 o1.norm o2.norm ?_⟩
 unfold sv at h
 cases n1 <;> simp_all <;> omega
theorem same_val {n1 n2 : Bool} {xs ys : List Nat} (o1 : Ok n1 xs) (o2 : Ok n2 ys) (d1 : Dig W32 xs) (d2 : Dig W32 ys) : decide (n1 = n2 ∧ xs = ys) = decide (sv n1 (val W32 xs) = sv n2 (val W32 ys)) := by
 refine decide_eq_decide.2 ⟨?_, sv_inj' o1 o2 d1 d2⟩
 rintro ⟨rfl, rfl⟩; rfl
theorem same_nl {n m : Bool} {A B : Option Addr} {xs ys : List Nat} {c d : Nat} {X Y : Int} {w : World} (h : Nl w X n A xs c) (k : Nl w Y m B ys d) (b : Bool) (hb : decide (X = Y) = b) :
  Calls Tryz.prog 59 #[big n A xs.length c, big m B ys.length d] w fun e w' => e = .returned (.bool b) ∧ Below w.heap.size w w' := by
 have := same_any n m A B xs ys c d w h.lm.sl k.lm.sl h.lm.sz k.lm.sz
 rwa [same_val h.lm.ok k.lm.ok h.lm.dig k.lm.dig, h.v, k.v, hb] at this
theorem sgnV_nl {n : Bool} {A : Option Addr} {xs : List Nat} {c : Nat} {X : Int} {w : World} (h : Nl w X n A xs c) : sgnV n xs = X.sign := by
 have hz := norm_zero (B := W32) (by decide) h.lm.ok.norm
 have hp := ok_vpos h.lm.ok
 have hv := h.v
 unfold sgnV sgn
 rw [if_pos h.lm.ok]
 cases n with
 | true =>
  have := hp rfl
  rw [show sv true (val W32 xs) = -((val W32 xs : Nat) : Int) from rfl] at hv
  rw [if_pos rfl, Int.sign_eq_neg_one_of_neg (by omega)]
 | false =>
  rw [show sv false (val W32 xs) = ((val W32 xs : Nat) : Int) from rfl] at hv
  rw [if_neg (by decide)]
  by_cases hl : xs.length = 0
  ·have h0 : xs = [] := List.length_eq_zero_iff.1 hl
   have := hz.2 h0
   rw [if_pos hl, show X = 0 by omega]; rfl
  ·have : val W32 xs ≠ 0 := fun e => hl (by rw [hz.1 e]; rfl)
   rw [if_neg hl, Int.sign_eq_one_of_pos (by omega)]
theorem rat_same (q p : Rat) : decide (q = p) = (decide (q.num = p.num) && decide ((q.den : Int) = (p.den : Int))) := by
 by_cases h1 : q.num = p.num
 ·by_cases h2 : (q.den : Int) = (p.den : Int)
  ·have : q = p := Rat.ext h1 (by omega)
   simp [this]
  ·have : q ≠ p := fun e => h2 (by rw [e])
   simp [h1, h2, this]
 ·have : q ≠ p := fun e => h1 (by rw [e])
  simp [h1, this]
set_option maxHeartbeats 8000000 in
set_option maxRecDepth 20000 in
theorem same_frac (q p : Rat) (n n' : Bool) (A B A' B' : Option Addr) (xs ds ys es : List Nat) (c d c' d' : Nat) (w : World) (h : Lf w q n A xs c B ds d) (k : Lf w p n' A' ys c' B' es d') :
  Calls Tryz.prog 23 #[frq n A xs.length c false B ds.length d, frq n' A' ys.length c' false B' es.length d'] w (fun e w' => e = .returned (.bool (decide (q = p))) ∧ Below w.heap.size w w') := by
 obtain ⟨V, hV, BW, hz, KX, KY⟩ := box_pair w [.bool n, .slice A xs.length c, .bool false, .slice B ds.length d] [.bool n', .slice A' ys.length c', .bool false, .slice B' es.length d'] 29 29
 have LX := h.on BW
 have LY := k.on BW
 clear h k hz
 rw [rat_same]
 obtain ⟨b1, hb1⟩ : ∃ b, decide (q.num = p.num) = b := ⟨_, rfl⟩
 obtain ⟨b2, hb2⟩ : ∃ b, decide ((q.den : Int) = (p.den : Int)) = b := ⟨_, rfl⟩
 rw [hb1, hb2]
 have KX_0 := KX.c 0 _ rfl
 have KX_1 := KX.c 1 _ rfl
 have KX_2 := KX.c 2 _ rfl
 have KX_3 := KX.c 3 _ rfl
 have KY_0 := KY.c 0 _ rfl
 have KY_1 := KY.c 1 _ rfl
 have KY_2 := KY.c 2 _ rfl
 have KY_3 := KY.c 3 _ rfl
 go_enter Tryz.func23, Tryz.ntmps23
 go_wp2_with fail
 clear KX_0 KX_1 KX_2 KX_3 KY_0 KY_1 KY_2 KY_3
 rw [← hV]
 clear hV
 refine (same_nl LX.num LY.num b1 hb1).mono ?_
 rintro _ w1 ⟨rfl, hb⟩
 replace KX := KX.on hb
 replace KY := KY.on hb
 replace LX := LX.on hb
 replace LY := LY.on hb
 replace BW := BW.trans (hb.mono BW.size)
 clear hb
 cases b1 with
 | false =>
  clear hb1 hb2 LX LY KX KY
  go_wp2
  go_ret
  exact ⟨rfl, BW⟩
 | true =>
  have KX_0 := KX.c 0 _ rfl
  have KX_1 := KX.c 1 _ rfl
  have KX_2 := KX.c 2 _ rfl
  have KX_3 := KX.c 3 _ rfl
  have KY_0 := KY.c 0 _ rfl
  have KY_1 := KY.c 1 _ rfl
  have KY_2 := KY.c 2 _ rfl
  have KY_3 := KY.c 3 _ rfl
  go_wp2_with fail
  clear KX_0 KX_1 KX_2 KX_3 KY_0 KY_1 KY_2 KY_3
  refine (same_nl LX.den LY.den b2 hb2).mono ?_
  rintro _ w2 ⟨rfl, hb⟩
  replace KX := KX.on hb
  replace KY := KY.on hb
  replace LX := LX.on hb
  replace LY := LY.on hb
  replace BW := BW.trans (hb.mono BW.size)
  clear hb
  clear hb1 hb2 LX LY KX KY
  go_wp2
  go_ret
  exact ⟨by simp, BW⟩
end Go.Proofs.YtjamfkafgfpobaaGreat
