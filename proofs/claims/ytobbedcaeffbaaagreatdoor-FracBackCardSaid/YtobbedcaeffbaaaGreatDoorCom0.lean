/-
  Plain facts and contracts that hold in this seat: joined by program. Conditions: as each theorem states.
-/
import Derived.Test.YtobbedcaeffbaaaGreatDoorBws
import Derived.Test.YtobbedcaeffbaaaGreatDoorNums
import Derived.Deep.LoopGhost
import Derived.Test.YtobbedcaeffbaaaGreatDoorGcd
import Derived.Test.YtobbedcaeffbaaaGreatDoorSame
import Derived.Deep.RegionHeld3
/-! ### Com0 -/
/-! ### Root -/
namespace Go.Proofs.YtobbedcaeffbaaaGreatDoor
open Go.RowKit Nb
/-- So many limbs hold it. -/
def FitK (k : Nat) (Z : Int) : Prop := Z.natAbs < W32 ^ k
theorem FitK.mono {k l : Nat} {Z : Int} (h : FitK k Z) (hk : k ≤ l) : FitK l Z := Nat.lt_of_lt_of_le h (Nat.pow_le_pow_right (by decide) hk)
theorem lt_more {Z : Int} {k : Nat} (h : Z.natAbs < W32 ^ k) (l : Nat) (hk : k ≤ l) : Z.natAbs < W32 ^ l := Nat.lt_of_lt_of_le h (Nat.pow_le_pow_right (by decide) hk)
theorem FitK.fits {k : Nat} {Z : Int} (h : FitK k Z) (hk : k ≤ 2048) : Fits Z := lt_more h 2048 hk
theorem FitK.add {a b : Nat} {X Y : Int} (h : FitK a X) (k : FitK b Y) : FitK (a + b + 1) (X + Y) := by
  have h1 := h.mono (Nat.le_add_right a b)
  have h2 := k.mono (Nat.le_add_left b a)
  unfold FitK at *
  rw [Nat.pow_succ]
  have h3 : 2 ≤ W32 := by decide
  have h4 : W32 ^ (a + b) * 2 ≤ W32 ^ (a + b) * W32 := Nat.mul_le_mul_left _ h3
  omega
theorem fitk_sv {n : Bool} {ls : List Nat} (hd : Dig W32 ls) : FitK ls.length (sv n (val W32 ls)) := by
  unfold FitK; rw [sv_abs]; exact val_lt hd
theorem fits_lm {n : Bool} {ls : List Nat} (hd : Dig W32 ls) (ho : Ok n ls) : Fits (sv n (val W32 ls)) := (fitk_sv (n := n) hd).fits ho.len
theorem fits_abs {Z U : Int} (h : Fits Z) (hle : U.natAbs ≤ Z.natAbs) : Fits U := Nat.lt_of_le_of_lt hle h
theorem quotient_any (A B : Option Addr) (xs ys : List Nat) (c d C : Nat) (w : World) (hx : Sl .u64 w w.heap.size A xs) (hy : Sl .u64 w w.heap.size B ys) (dx : Dig W64 xs) (dy : Dig W64 ys) (nx : Norm xs) (ny : Norm ys)
    (hl : (xs.length + 1) * 8 ≤ 140737488351232) (hk : ys.length * 8 ≤ 140737488351232) (hc : xs.length ≤ c) (hC : c ≤ C) (hC1 : xs.length + 1 ≤ C) (hne : ys ≠ []) :
    Calls Tryz.prog 254 #[.slice A xs.length c, .slice B ys.length d] w (Words2 w (val W64 xs / val W64 ys) (val W64 xs % val W64 ys) C) := by
  rcases Nat.lt_or_ge (val W64 xs) (val W64 ys) with hlt | hge
  · exact quotient_less A B xs ys c d C w hx hy dx dy nx ny (by omega) hk hc hC hlt
  · have hp : 0 < ys.length := List.length_pos_iff.2 hne
    rcases Nat.lt_or_ge ys.length 2 with h1 | h1
    · obtain ⟨y, rfl⟩ : ∃ y, ys = [y] := by
        match ys, hp, h1 with
        | [y], _, _ => exact ⟨y, rfl⟩
      have hv : val W64 [y] = y := by simp [val]
      have hy0 : 0 < y := by
        rcases Nat.eq_zero_or_pos y with h0 | h0
        · subst h0; exact absurd rfl (ny (by simp))
        · exact h0
      rw [hv] at hge ⊢
      exact quotient_word A B xs y c d C w hx hy dx (dy y (by simp)) nx hy0 (by omega) (by omega) hge
    · obtain ⟨j, hj⟩ : ∃ j, ys.length = j + 2 := ⟨ys.length - 2, by omega⟩
      exact quotient_words A B xs ys c d C j w hx hy dx dy nx ny hj hl hC1 hge
/-- A new list of words that tells the root. -/
def Rooted (w : World) (X C : Nat) (e : Ending) (w' : World) : Prop := ∃ r, r * r ≤ X ∧ X < (r + 1) * (r + 1) ∧ Words w r C e w'
/-- The power of two that Newton's steps begin with is above the root. -/
theorem root_start {X n : Nat} (h : X < 2 ^ n) : X < 2 ^ ((n + 1) / 2) * 2 ^ ((n + 1) / 2) := by
  rw [← Nat.pow_add]
  exact Nat.lt_of_lt_of_le h (Nat.pow_le_pow_right (by decide) (by omega))
theorem cmpI_neg' {x y : Int} (h : x < y) : cmpI x y < 0 := by rw [cmpI_lt h]; decide
theorem root_above {X r s : Nat} (h : X < r * r) (hs : s * s ≤ X) : s ≤ r := by
  rcases Nat.lt_or_ge r s with h1 | h1
  · have := Nat.mul_le_mul (Nat.le_of_lt h1) (Nat.le_of_lt h1); omega
  · exact h1
theorem root_next {X r : Nat} (h : ∀ s, s * s ≤ X → s ≤ r) : X < (r + 1) * (r + 1) := by
  rcases Nat.lt_or_ge X ((r + 1) * (r + 1)) with h1 | h1
  · exact h1
  · have := h _ h1; omega
set_option maxHeartbeats 4000000 in
set_option maxRecDepth 20000 in
theorem root_pos (A : Option Addr) (xs : List Nat) (c : Nat) (w : World) (hx : Sl .u64 w w.heap.size A xs) (dx : Dig W64 xs) (nx : Norm xs) (hp : 0 < xs.length) (hl : (xs.length + 4) * 64 ≤ 140737488351232) (hc : xs.length ≤ c) (hC : c ≤ 17592186043904) :
    Calls Tryz.prog 269 #[.slice A xs.length c] w (Rooted w (val W64 xs) (xs.length + 3)) := by
  obtain ⟨X, hX⟩ : ∃ X, val W64 xs = X := ⟨_, rfl⟩
  obtain ⟨n, hn⟩ : ∃ n, lenL xs = n := ⟨_, rfl⟩
  obtain ⟨m, hm⟩ : ∃ m, (n + 1) / 2 = m := ⟨_, rfl⟩
  have hlen : ∀ W, Below w.heap.size w W → Calls Tryz.prog 252 #[.slice A xs.length c] W fun e w' => e = .returned (.int .i64 n) ∧ W = w' := fun W hb => by
    rw [← hn]; exact length_any A xs c W ((hx.below hb).more hb.size) dx (by omega)
  have hn1 : n ≤ 64 * xs.length := by
    rw [← hn]; unfold lenL; rw [dif_neg (by omega)]
    have := bitLen_le64 _ (dx.get (k := xs.length - 1) (by omega))
    omega
  have hXn : X < 2 ^ n := by rw [← hX, ← hn, lenL_val dx nx]; exact bitLen_le_iff.1 (Nat.le_refl _)
  have hX0 : 1 ≤ X := by
    rcases Nat.eq_zero_or_pos X with h0 | h0
    · rw [h0] at hX; rw [(norm_zero (by decide) nx).1 hX] at hp; simp at hp
    · exact h0
  have hst := root_start hXn
  rw [hm] at hst
  have hmI : ((n : Int) + 1) / 2 = (m : Int) := by omega
  have hnI : (n : Int) + 1 ≤ 18446744073709551615 := by omega
  have hmW : m < W64 := by simp only [W64]; omega
  have hmS : 1 + m / 64 + 1 ≤ xs.length + 2 := by omega
  have hz : ((xs.length : Int) == 0) = false := beq_false_of_ne (by omega)
  have hal : Below w.heap.size w (w.alloc (.cells #[.int .u64 (1 : Nat)] 49)) := (Below.refl _ _).alloc (Nat.le_refl _) _
  have hrow1 : Row .u64 (w.alloc (.cells #[.int .u64 (1 : Nat)] 49)) w.heap.size 49 [1] := heap_alloc_new _ _
  have hSU := shiftUp_any (some ⟨w.heap.size, 0, none⟩) [1] 1 m _ (hrow1.sl hrow1.lt) (Dig.one (by decide)) hmW (by intro _; simp; omega)
  have hv1 : val W64 [1] * 2 ^ m = 2 ^ m := by simp [val]
  rw [hv1] at hSU
  have HSU := Lib.hid hSU
  have HL := Lib.hid hlen
  have HX := Lib.hid (And.intro hX (And.intro hX0 nx))
  have HM := Lib.hid (And.intro hm hst)
  rw [hX]
  clear hlen hX hn hm hXn hst hSU hv1 hX0 nx
  go_enter Tryz.func269, Tryz.ntmps269
  go_wp2_with fail
  refine (HL.out _ hal).mono ?_
  rintro e w1 ⟨rfl, rfl⟩
  go_wp2_with fail
  refine (HSU.out).mono ?_
  rintro e w2 ⟨A0, r0, k0, rfl, hs0, hd0, hn0, hv0, hk0, hk1, hb0⟩
  have hb0 := hal.trans (hb0.mono hal.size)
  simp only [List.length_singleton] at hk1
  have HV0 := Lib.hid (And.intro hn0 hv0)
  clear hn0 hv0 hrow1 hal HSU hnI hmI hmW
  go_wp2_with fail
  go_loopg [3] (2 ^ m) (fun r rv wr => ∃ (A' : Option Addr) (rs : List Nat) (c' : Nat), rv = .slice A' rs.length c' ∧ Sl .u64 wr wr.heap.size A' rs ∧ Dig W64 rs ∧ Hid (Norm rs ∧ val W64 rs = r ∧ 0 < r ∧ (∀ s, s * s ≤ X → s ≤ r)) ∧ rs.length ≤ xs.length + 2 ∧ rs.length ≤ c' ∧ c' ≤ xs.length + 3 ∧ Below w.heap.size w wr)
  case atStart => exact ⟨A0, r0, k0, rfl, hs0, hd0, Lib.hid ⟨HV0.out.1, HV0.out.2, Nat.pow_pos (by decide), fun s hs => root_above HM.out.2 hs⟩, by omega, hk0, by omega, hb0⟩
  case round =>
    clear hs0 hd0 hk0 hk1 hb0 HV0
    obtain ⟨A', rs, c', rfl, hsl, hd, HR, hrl, hrc, hcc, hbw⟩ := hrel
    have hrne : rs ≠ [] := fun h => by
      have h1 := HR.out.2.1
      rw [h] at h1
      simp [val] at h1
      have := HR.out.2.2.1
      omega
    have hQ := quotient_any A A' xs rs c c' (c + 1) wr ((hx.below hbw).more hbw.size) hsl dx hd HX.out.2.2 HR.out.1 (by omega) (by omega) hc (by omega) (by omega) hrne
    rw [HX.out.1, HR.out.2.1] at hQ
    have HQ := Lib.hid hQ
    clear hQ hrne
    go_wp2_with fail
    refine (HQ.out).mono ?_
    rintro e w3 ⟨Aq, qs, cq, Ar, rr, cr, rfl, hq1, hq2, hq3, hq4, hq5, hq6, hr1, hr2, hr3, hr4, hr5, hr6, hb3⟩
    have hql : qs.length ≤ xs.length := norm_len_le (B := W64) (by decide) hq3 dx (by rw [hq4, HX.out.1]; exact Nat.div_le_self _ _)
    have hsl3 : Sl .u64 w3 w3.heap.size A' rs := (hsl.below hb3).more hb3.size
    have hS := sum_any A' Aq rs qs c' cq w3 hsl3 hq1 hd hq2 (by omega) (by omega)
    rw [HR.out.2.1, hq4] at hS
    have HS := Lib.hid hS
    have hbw3 := hbw.trans (hb3.mono hbw.size)
    clear hS hq1 hq2 hq3 hq4 hr1 hr2 hr3 hr4 hr5 hr6 hb3 HQ
    go_wp2_with fail
    refine (HS.out).mono ?_
    rintro e w4 ⟨As, ss, cs, rfl, hs1, hs2, hs3, hs4, hs5, hs6, hb4⟩
    have hD := shiftDown_any As ss cs 1 w4 hs1 hs2 (by omega) hs5 (by decide)
    rw [hs4] at hD
    have HD := Lib.hid hD
    have hsl4 : Sl .u64 w4 w4.heap.size A' rs := (hsl3.below hb4).more hb4.size
    have hbw4 := hbw3.trans (hb4.mono hbw3.size)
    clear hD hs1 hs2 hs3 hs4 hb4 HS
    go_wp2_with fail
    refine (HD.out).mono ?_
    rintro e w5 ⟨An, ns, cn, rfl, ht1, ht2, ht3, ht4, ht5, ht6, hb5⟩
    have hsl5 : Sl .u64 w5 w5.heap.size A' rs := (hsl4.below hb5).more hb5.size
    have hbw5 := hbw4.trans (hb5.mono hbw4.size)
    rw [Nat.pow_one] at ht4
    have hnl : ns.length ≤ xs.length + 3 := by omega
    have hC := compare_any An A' ns rs cn c' w5 ht1 hsl5 ht2 hd ht3 HR.out.1 (by omega) (by omega)
    rw [ht4, HR.out.2.1] at hC
    have HC := Lib.hid hC
    have HT := Lib.hid (And.intro ht3 ht4)
    clear hC hb5 HD ht3 ht4
    go_wp2_with fail
    refine (HC.out).mono ?_
    rintro e w6 ⟨rfl, hqu⟩
    have hbq := hqu.below w5.heap.size
    have hbw6 := hbw5.trans (hbq.mono hbw5.size)
    have hsl6 : Sl .u64 w6 w6.heap.size A' rs := (hsl5.below hbq).more hbq.size
    have hsn6 : Sl .u64 w6 w6.heap.size An ns := (ht1.below hbq).more hbq.size
    clear HC hbq
    obtain ⟨N, hN⟩ : ∃ N, (gk + X / gk) / 2 = N := ⟨_, rfl⟩
    have HN := Lib.hid hN
    rw [hN]
    clear hN
    rcases Nat.lt_or_ge N gk with hlt | hge
    · have hneg := cmpI_neg' (x := (N : Nat)) (y := (gk : Nat)) (by omega)
      have hneg2 : ¬ 0 ≤ cmpI (N : Nat) (gk : Nat) := by omega
      generalize cmpI (N : Nat) (gk : Nat) = z at *
      go_wp2
      go_roundg N
      case measure => omega
      case rel =>
        have hv := HT.out.2
        rw [HN.out] at hv
        have hnl2 : ns.length ≤ rs.length := norm_len_le (B := W64) (by decide) HT.out.1 hd (by rw [hv, HR.out.2.1]; omega)
        have hall : ∀ s, s * s ≤ X → s ≤ N := fun s hs => by rw [← HN.out]; exact newton_ge HR.out.2.2.1 hs
        exact ⟨An, ns, cn, rfl, hsn6, ht2, Lib.hid ⟨HT.out.1, hv, hall 1 (by have := HX.out.2.1; omega), hall⟩, by omega, ht5, by omega, hbw6⟩
    · have hpos := cmpI_ge (x := (N : Nat)) (y := (gk : Nat)) (by omega)
      have hpos2 : 0 ≤ cmpI (N : Nat) (gk : Nat) := by omega
      generalize cmpI (N : Nat) (gk : Nat) = z at *
      go_wp2
      go_ret
      exact ⟨gk, newton_done HR.out.2.2.1 (by rw [HN.out]; exact hge), root_next HR.out.2.2.2, A', rs, c', rfl, hsl6, hd, HR.out.1, HR.out.2.1, hrc, hcc, hbw6⟩
end Go.Proofs.YtobbedcaeffbaaaGreatDoor
/-! ### Wgcd -/
namespace Go.Proofs.YtobbedcaeffbaaaGreatDoor
open Go.RowKit Nb
/-- It answers this number; its block may be great. -/
def GivesL (w : World) (Z : Int) (L : Nat) (e : Ending) (w' : World) : Prop := ∃ (neg : Bool) (A : Option Addr) (zs : List Nat) (c : Nat), e = .returned (big neg A zs.length c) ∧ Bg w' neg A zs c maxLen ∧ zs.length ≤ L ∧ sv neg (val W64 zs) = Z ∧ Below w.heap.size w w'
theorem made_plain (A : Option Addr) (l c : Nat) (W : World) (h : l ≤ maxLen) : Calls Tryz.prog 174 #[.bool false, .slice A l c] W fun e w' => e = .returned (big false A l c) ∧ Below W.heap.size W w' :=
  (made_any false A l c W h).mono fun e w' ⟨h1, h2⟩ => ⟨by simpa using h1, h2⟩
set_option maxHeartbeats 4000000 in
theorem lgcd_any (n1 n2 : Bool) (A B : Option Addr) (xs ys : List Nat) (c d L : Nat) (w : World) (hx : Sl .u64 w w.heap.size A xs) (hy : Sl .u64 w w.heap.size B ys) (dx : Dig W64 xs) (dy : Dig W64 ys) (nx : Norm xs) (ny : Norm ys)
    (hl : (L + 2) * 8 ≤ 140737488351232) (h1 : xs.length ≤ L) (h2 : ys.length ≤ L) :
    Calls Tryz.prog 171 #[big n1 A xs.length c, big n2 B ys.length d] w (GivesL w ((Nat.gcd (val W64 xs) (val W64 ys) : Nat) : Int) (L + 1)) := by
  have hr := Rest.new ((w.alloc (.cells #[.bool n1, .slice A xs.length c] 98)).alloc (.cells #[.bool n2, .slice B ys.length d] 98))
  rw [show ((w.alloc (.cells #[.bool n1, .slice A xs.length c] 98)).alloc (.cells #[.bool n2, .slice B ys.length d] 98)).heap.size = w.heap.size + 1 + 1 by go_size] at hr
  have c1 : (((w.alloc (.cells #[.bool n1, .slice A xs.length c] 98)).alloc (.cells #[.bool n2, .slice B ys.length d] 98)).alloc (.cells #[.bool false, .slice none 0 0] 98)).cell? ⟨w.heap.size, 1, none⟩ = some (.slice A xs.length c) := by go_cell
  have c2 : (((w.alloc (.cells #[.bool n1, .slice A xs.length c] 98)).alloc (.cells #[.bool n2, .slice B ys.length d] 98)).alloc (.cells #[.bool false, .slice none 0 0] 98)).cell? ⟨w.heap.size + 1, 1, none⟩ = some (.slice B ys.length d) := by go_cell
  have hb0 : Below w.heap.size w (((w.alloc (.cells #[.bool n1, .slice A xs.length c] 98)).alloc (.cells #[.bool n2, .slice B ys.length d] 98)).alloc (.cells #[.bool false, .slice none 0 0] 98)) := by go_grown
  have HC := Lib.hid (fun W (hb : Below w.heap.size w W) => common_any A B xs ys c d L W ((hx.below hb).more hb.size) ((hy.below hb).more hb.size) dx dy nx ny hl h1 h2)
  have HR := Lib.hid hr
  clear hr
  go_enter Tryz.func171, Tryz.ntmps171
  go_wp2_with fail
  generalize (((w.alloc (.cells #[.bool n1, .slice A xs.length c] 98)).alloc (.cells #[.bool n2, .slice B ys.length d] 98)).alloc (.cells #[.bool false, .slice none 0 0] 98)) = W at *
  refine (HC.out _ hb0).mono ?_
  rintro e w2 ⟨V, zs, k, rfl, hs1, hd1, hn1, hv1, hk1, hk2, hk3, hb⟩
  have hr2 := (HR.out).on hb
  have hb2 := hb0.trans (hb.mono hb0.size)
  have HV := Lib.hid (And.intro hn1 hv1)
  clear hn1 hv1 HC
  go_wp2_with fail
  refine (made_plain V zs.length k w2 (by omega)).mono ?_
  rintro e w3 ⟨rfl, hb3⟩
  have hr3 := hr2.on hb3
  have hb4 := hb2.trans (hb3.mono hb2.size)
  have g0 := hr3.r0
  have g1 := hr3.r1
  have g2 := hr3.f0
  have g3 := hr3.f1
  have hB : Bg w3 false V zs k maxLen := ⟨(hs1.below hb3).more hb3.size, hd1, HV.out.1, fun _ => rfl, hk1, hk2⟩
  have hL := hr3.laid hb4 (by omega) hB
  go_wp2
  exact bodyPost_ret (v := big false V zs.length k) (by simp [results, Tryz.results171, go_sem, g0, g1]) rfl ⟨false, V, zs, k, rfl, hL.1, hk3, by show ((val W64 zs : Nat) : Int) = _; rw [HV.out.2], hL.2⟩
/-- It answers the root. -/
def RootGives (w : World) (X C : Nat) (e : Ending) (w' : World) : Prop := ∃ r, r * r ≤ X ∧ X < (r + 1) * (r + 1) ∧ Gives w (r : Nat) C e w'
theorem root_nil (A : Option Addr) (c : Nat) (w : World) : Calls Tryz.prog 269 #[.slice A 0 c] w (Rooted w 0 0) := by
  go_enter Tryz.func269, Tryz.ntmps269
  go_wp2
  go_ret
  exact ⟨0, by omega, by omega, Words.nil (Below.refl _ _)⟩
theorem root_any (A : Option Addr) (xs : List Nat) (c : Nat) (w : World) (hx : Sl .u64 w w.heap.size A xs) (dx : Dig W64 xs) (nx : Norm xs) (hl : (xs.length + 4) * 64 ≤ 140737488351232) (hc : xs.length ≤ c) (hC : c ≤ 17592186043904) :
    Calls Tryz.prog 269 #[.slice A xs.length c] w (Rooted w (val W64 xs) (xs.length + 3)) := by
  rcases Nat.eq_zero_or_pos xs.length with h0 | h0
  · obtain rfl : xs = [] := List.eq_nil_of_length_eq_zero h0
    exact (root_nil A c w).mono fun e w' ⟨r, h1, h2, h3⟩ => ⟨r, h1, h2, h3.mono (Nat.zero_le _)⟩
  · exact root_pos A xs c w hx dx nx h0 hl hc hC
set_option maxHeartbeats 4000000 in
theorem lroot_any (n1 : Bool) (A : Option Addr) (xs : List Nat) (c : Nat) (w : World) (hx : Sl .u64 w w.heap.size A xs) (dx : Dig W64 xs) (nx : Norm xs) (hl : (xs.length + 4) * 64 ≤ 140737488351232) (hc : xs.length ≤ c) (hC : c ≤ 17592186043904) :
    Calls Tryz.prog 192 #[big n1 A xs.length c] w (RootGives w (val W64 xs) (xs.length + 3)) := by
  have hr := Rest.new (w.alloc (.cells #[.bool n1, .slice A xs.length c] 98))
  rw [World.size_alloc] at hr
  have c1 : ((w.alloc (.cells #[.bool n1, .slice A xs.length c] 98)).alloc (.cells #[.bool false, .slice none 0 0] 98)).cell? ⟨w.heap.size, 1, none⟩ = some (.slice A xs.length c) := by go_cell
  have hb0 : Below w.heap.size w ((w.alloc (.cells #[.bool n1, .slice A xs.length c] 98)).alloc (.cells #[.bool false, .slice none 0 0] 98)) := by go_grown
  have HC := Lib.hid (fun W (hb : Below w.heap.size w W) => root_any A xs c W ((hx.below hb).more hb.size) dx nx hl hc hC)
  have HR := Lib.hid hr
  clear hr
  go_enter Tryz.func192, Tryz.ntmps192
  go_wp2_with fail
  generalize ((w.alloc (.cells #[.bool n1, .slice A xs.length c] 98)).alloc (.cells #[.bool false, .slice none 0 0] 98)) = W at *
  refine (HC.out _ hb0).mono ?_
  rintro e w2 ⟨r, hr1, hr2, V, zs, k, rfl, hs1, hd1, hn1, hv1, hk1, hk2, hb⟩
  have hq2 := (HR.out).on hb
  have hb2 := hb0.trans (hb.mono hb0.size)
  have HV := Lib.hid (And.intro (And.intro hn1 hv1) (And.intro hr1 hr2))
  clear hn1 hv1 hr1 hr2 HC
  go_wp2_with fail
  refine (made_plain V zs.length k w2 (by unfold maxLen; omega)).mono ?_
  rintro e w3 ⟨rfl, hb3⟩
  have hr3 := hq2.on hb3
  have hb4 := hb2.trans (hb3.mono hb2.size)
  have g0 := hr3.r0
  have g1 := hr3.r1
  have g2 := hr3.f0
  have g3 := hr3.f1
  have hB : Bg w3 false V zs k (xs.length + 3) := ⟨(hs1.below hb3).more hb3.size, hd1, HV.out.1.1, fun _ => rfl, hk1, hk2⟩
  have hL := hr3.laid hb4 (by omega) hB
  go_wp2
  exact bodyPost_ret (v := big false V zs.length k) (by simp [results, Tryz.results192, go_sem, g0, g1]) rfl ⟨r, HV.out.2.1, HV.out.2.2, false, V, zs, k, rfl, hL.1, by show ((val W64 zs : Nat) : Int) = _; rw [HV.out.1.2], hL.2⟩
set_option maxHeartbeats 4000000 in
theorem reckon_gcd (n1 n2 : Bool) (A B : Option Addr) (xs ys : List Nat) (c d : Nat) (w : World) (hr : Sl .u32 w w.heap.size A xs) (hs : Sl .u32 w w.heap.size B ys) (hx : Dig W32 xs) (hy : Dig W32 ys) (hl : xs.length * 4 ≤ 140737488351232) (hk : ys.length * 4 ≤ 140737488351232) :
    Calls Tryz.prog 188 #[big n1 A xs.length c, big n2 B ys.length d, .func (.func 171) #[] #[]] w (Reck w (Ok n1 xs ∧ Ok n2 ys) ((Nat.gcd (val W32 xs) (val W32 ys) : Nat) : Int)) := by
  have ht := Two.boxed (n1 := n1) (n2 := n2) (l1 := xs.length) (c := c) (l2 := ys.length) (d := d) hr hs
  have hrow : ∀ (W : World) (g : Nat), g = W.heap.size → ∀ (i : Nat) (u : Value), (#[.bool n1, .slice A xs.length c, .bool n2, .slice B ys.length d] : Array Value)[i]? = some u → (W.alloc (.cells #[.bool n1, .slice A xs.length c, .bool n2, .slice B ys.length d] 25)).cell? ⟨g, i, none⟩ = some u := by
    intro W g hg i u hu
    subst hg
    rw [World.cell?_alloc_new]; exact hu
  have hre := Rest.newI ((w.alloc (.cells #[.bool n1, .slice A xs.length c] 25)).alloc (.cells #[.bool n2, .slice B ys.length d] 25))
  have ht := ht.on (W' := ((w.alloc (.cells #[.bool n1, .slice A xs.length c] 25)).alloc (.cells #[.bool n2, .slice B ys.length d] 25)).alloc (.cells #[.bool false, .slice none 0 0] 25)) (by go_grown)
  rw [show ((w.alloc (.cells #[.bool n1, .slice A xs.length c] 25)).alloc (.cells #[.bool n2, .slice B ys.length d] 25)).heap.size = w.heap.size + 1 + 1 by go_size] at hre
  have ha0 := ht.a0
  have ha1 := ht.a1
  have hb0 := ht.b0
  have hb1 := ht.b1
  go_enter Tryz.func188, Tryz.ntmps188
  go_wp2_with fail
  have hz : (((w.alloc (.cells #[.bool n1, .slice A xs.length c] 25)).alloc (.cells #[.bool n2, .slice B ys.length d] 25)).alloc (.cells #[.bool false, .slice none 0 0] 25)).heap.size = w.heap.size + 1 + 1 + 1 := by go_size
  generalize hW : (((w.alloc (.cells #[.bool n1, .slice A xs.length c] 25)).alloc (.cells #[.bool n2, .slice B ys.length d] 25)).alloc (.cells #[.bool false, .slice none 0 0] 25)) = W at *
  clear hW
  have tW := ht.on (W' := W.alloc (.cells #[.bool n1, .slice A xs.length c, .bool n2, .slice B ys.length d] 25)) ((Below.refl _ _).alloc (Nat.le_refl _) _)
  have rW := hre.on (W' := W.alloc (.cells #[.bool n1, .slice A xs.length c, .bool n2, .slice B ys.length d] 25)) ((Below.refl _ _).alloc (Nat.le_refl _) _)
  refine (check_two (w.heap.size + 1 + 1 + 1) n1 n2 A B xs ys 2 c d _ tW.sa tW.sb (by simp; omega) hl hk (hrow _ _ hz.symm 0 _ rfl) (hrow _ _ hz.symm 1 _ rfl) (hrow _ _ hz.symm 2 _ rfl) (hrow _ _ hz.symm 3 _ rfl)).mono ?_
  rintro e w1 ⟨rfl, hq1⟩
  have t1 := tW.on hq1
  have r1 := rW.on hq1
  clear tW rW ht hre ha0 ha1 hb0 hb1 hrow hq1 hz
  by_cases ho : Ok n1 xs ∧ Ok n2 ys
  · obtain ⟨o1, o2⟩ := ho
    have hn1 := norm_pack o1.norm
    have hn2 := norm_pack o2.norm
    have hd1 := dig_pack hx
    have hd2 := dig_pack hy
    have hg1 : (pack xs).length ≤ 1024 := by rw [pack_length]; have := o1.len; omega
    have hg2 : (pack ys).length ≤ 1024 := by rw [pack_length]; have := o2.len; omega
    have L : ∀ (g1 g2 : Nat) (W : World), Sl .u64 W W.heap.size (some ⟨g1, 0, none⟩) (pack xs) → Sl .u64 W W.heap.size (some ⟨g2, 0, none⟩) (pack ys) → Calls Tryz.prog 171 #[big n1 (some ⟨g1, 0, none⟩) (pack xs).length (pack xs).length, big n2 (some ⟨g2, 0, none⟩) (pack ys).length (pack ys).length] W (GivesL W ((Nat.gcd (val W32 xs) (val W32 ys) : Nat) : Int) 1025) := by
      intro g1 g2 W h1 h2
      rw [← val_pack xs, ← val_pack ys]
      exact lgcd_any n1 n2 _ _ _ _ _ _ 1024 W h1 h2 hd1 hd2 hn1 hn2 (by decide) hg1 hg2
    have HL := Lib.hid L; clear L
    rw [chkV_ok o1, chkV_ok o2]
    have HT := Lib.hid t1.all
    have hall := HT.out
    have ra0 := r1.r0
    have ra1 := r1.r1
    go_wp2_with fail
    go_region_held3 (fun w' => Two w w' w.heap.size (w.heap.size + 1) n1 n2 A B xs ys xs.length c ys.length d ∧ w'.cell? ⟨w.heap.size, 0, none⟩ = some (.bool n1) ∧ w'.cell? ⟨w.heap.size, 1, none⟩ = some (.slice A xs.length c) ∧ w'.cell? ⟨w.heap.size + 1, 0, none⟩ = some (.bool n2) ∧ w'.cell? ⟨w.heap.size + 1, 1, none⟩ = some (.slice B ys.length d))
      (first | exact HT.out | exact Two.keep HT.out ((Below.refl _ _).drew) | exact Two.keep (by assumption) (by assumption) | exact Two.keep (by assumption) ((Below.refl _ _).drew) | exact Two.put (by assumption) (by assumption) (by omega) (by omega) (by omega) _ _)
      (first
        | (go_at_call 66; refine (from_ok _ _ _ _ _ (by first | exact Two.sa' (by assumption) | exact Two.sb' (by assumption)) (by first | exact hx | exact hy) (by first | exact o1 | exact o2)).mono ?_; rintro e w' ⟨g, rfl, hrow, hg, hb⟩
           have hre := Rest.on (by first | assumption | exact Rest.drew (by assumption)) hb)
        | (go_at_call 171; refine (HL.out _ _ _ (by first | exact sl_row (by assumption) | exact sl_row_then (by assumption) (by assumption)) (by first | exact sl_row (by assumption) | exact sl_row_then (by assumption) (by assumption))).mono ?_; rintro e w' ⟨n, V, zs, k, rfl, hB, hzl, hv, hb⟩
           have hre := Rest.on (by first | assumption | exact Rest.drew (by assumption)) hb)
        | (go_at_call 267; refine (fit_any _ _ _ _ _ _ hB (by omega)).mono ?_; rintro e w9 ⟨n', V', ls, k', er, rfl, hM, hSay, hb9⟩
           rw [hv] at hSay
           have hre := Rest.on (by first | assumption | exact Rest.drew (by assumption)) hb9
           have g0 := hre.r0
           have g1 := hre.r1
           have g2 := hre.f0
           have g3 := hre.f1))
    all_goals
      go_wp2
      refine bodyPost_ret (v := .tuple #[big n' V' ls.length k', .int .i64 er]) (by simp [results, Tryz.results188, go_sem, g0, g1]) rfl ⟨n', V', ls, k', er, rfl, hM.laid hre _ _, .inl ⟨⟨o1, o2⟩, hSay⟩, ?_⟩
      exact Two.below' (by assumption)
  · have hk2 : (if chkV n1 xs = 0 then chkV n2 ys else 1) = 1 := by
      by_cases h : Ok n1 xs
      · rw [if_pos (chkV_ok h), chkV_bad (fun h2 => ho ⟨h, h2⟩)]
      · rw [if_neg (by rw [chkV_bad h]; decide)]
    rw [hk2]
    have ra0 := r1.r0
    have ra1 := r1.r1
    have ra2 := r1.f0
    have ra3 := r1.f1
    go_wp2
    refine bodyPost_ret (v := .tuple #[big false none ([] : List Nat).length 0, .int .i64 1]) (by simp [results, Tryz.results188, go_sem, ra0, ra1]) rfl ?_
    exact ⟨false, none, [], 0, 1, rfl, ⟨fun h => absurd h (by simp), by intro x hx; simp at hx, ok_zero⟩, .inr ⟨ho, rfl, rfl, rfl⟩, (t1.below.setCell (by simp; omega) _).setCell (by simp; omega) _⟩
set_option maxHeartbeats 400000 in
theorem wgcd_any (n1 n2 : Bool) (A B : Option Addr) (xs ys : List Nat) (c d : Nat) (w : World) (hr : Sl .u32 w w.heap.size A xs) (hs : Sl .u32 w w.heap.size B ys) (hx : Dig W32 xs) (hy : Dig W32 ys) (hl : xs.length * 4 ≤ 140737488351232) (hk : ys.length * 4 ≤ 140737488351232) :
    Calls Tryz.prog 72 #[big n1 A xs.length c, big n2 B ys.length d] w (Reck w (Ok n1 xs ∧ Ok n2 ys) ((Nat.gcd (val W32 xs) (val W32 ys) : Nat) : Int)) := by
  have ht := Two.boxed (n1 := n1) (n2 := n2) (l1 := xs.length) (c := c) (l2 := ys.length) (d := d) hr hs
  have hre := Rest.newI ((w.alloc (.cells #[.bool n1, .slice A xs.length c] 25)).alloc (.cells #[.bool n2, .slice B ys.length d] 25))
  have ht := ht.on (W' := ((w.alloc (.cells #[.bool n1, .slice A xs.length c] 25)).alloc (.cells #[.bool n2, .slice B ys.length d] 25)).alloc (.cells #[.bool false, .slice none 0 0] 25)) (by go_grown)
  rw [show ((w.alloc (.cells #[.bool n1, .slice A xs.length c] 25)).alloc (.cells #[.bool n2, .slice B ys.length d] 25)).heap.size = w.heap.size + 1 + 1 by go_size] at hre
  have HC := Lib.hid (fun W h1 h2 => reckon_gcd n1 n2 A B xs ys c d W h1 h2 hx hy hl hk)
  go_enter Tryz.func72, Tryz.ntmps72
  go_wp2_with fail
  refine (HC.out _ ht.sa ht.sb).mono ?_
  rintro e w1 ⟨n, V, ls, k, er, rfl, hM, hSay, hb1⟩
  have hre := hre.on hb1
  have t1 := ht.on hb1
  have g0 := hre.r0
  have g1 := hre.r1
  have g2 := hre.f0
  have g3 := hre.f1
  go_wp2
  refine bodyPost_ret (v := .tuple #[big n V ls.length k, .int .i64 er]) (by simp [results, Tryz.results72, go_sem, g0, g1]) rfl ⟨n, V, ls, k, er, rfl, hM.laid hre _ _, hSay, (t1.below.setCell (by simp; omega) _).setCell (by simp; omega) _⟩
end Go.Proofs.YtobbedcaeffbaaaGreatDoor
/-! ### Com0 -/
namespace Go.Proofs.YtobbedcaeffbaaaGreatDoor
open Go.RowKit Nb
theorem sv_nat {n : Bool} {ls : List Nat} {V : Nat} (ho : Ok n ls) (h : sv n (val W32 ls) = (V : Int)) : n = false ∧ val W32 ls = V := by
  cases n
  · exact ⟨rfl, Int.ofNat_inj.1 h⟩
  · have h1 : -((val W32 ls : Nat) : Int) = (V : Int) := h
    have h2 : val W32 ls = 0 := by omega
    have h3 := (norm_zero (B := W32) (by decide) ho.norm).1 h2
    have := ho.sign h3
    cases this
end Go.Proofs.YtobbedcaeffbaaaGreatDoor
/-! ### Wroot -/
namespace Go.Proofs.YtobbedcaeffbaaaGreatDoor
open Go.RowKit Nb
/-- The root, and whether its square is the number. -/
def WRoot (w : World) (X : Nat) (e : Ending) (w' : World) : Prop := ∃ (V : Option Addr) (ls : List Nat) (k r : Nat), e = .returned (.tuple #[big false V ls.length k, .bool (decide (r * r = X)), .int .i64 0]) ∧ Lm w' false V ls k ∧ val W32 ls = r ∧ r * r ≤ X ∧ X < (r + 1) * (r + 1) ∧ Below w.heap.size w w'
theorem bg_pos {w : World} {n : Bool} {A : Option Addr} {ls : List Nat} {c C : Nat} (h : Bg w n A ls c C) (hn : n = true) : 0 < val W64 ls := by
  rcases Nat.eq_zero_or_pos (val W64 ls) with h0 | h0
  · have := h.sign ((norm_zero (B := W64) (by decide) h.norm).1 h0)
    rw [hn] at this; cases this
  · exact h0
theorem bg_nat {w : World} {n : Bool} {A : Option Addr} {ls : List Nat} {c C V : Nat} (h : Bg w n A ls c C) (hv : sv n (val W64 ls) = (V : Int)) : n = false ∧ val W64 ls = V := by
  cases n
  · exact ⟨rfl, Int.ofNat_inj.1 hv⟩
  · have h1 : -((val W64 ls : Nat) : Int) = (V : Int) := hv
    have := bg_pos h rfl
    omega
theorem cmpI_zero (a b : Nat) : (cmpI (a : Int) (b : Int) == 0) = decide (a = b) := by
  rcases Nat.lt_trichotomy a b with h | h | h
  · rw [cmpI_lt (by omega)]; simp; omega
  · rw [cmpI_eq (by omega)]; simp [h]
  · rw [cmpI_gt (by omega)]; simp; omega
set_option maxHeartbeats 2000000 in
set_option maxRecDepth 20000 in
theorem wroot_any (A : Option Addr) (xs : List Nat) (c X : Nat) (w : World) (h : Lm w false A xs c) (hX : val W32 xs = X) :
    Calls Tryz.prog 78 #[big false A xs.length c] w (WRoot w X) := by
  have hr0 := Rest.newI (w.alloc (.cells #[.bool false, .slice A xs.length c] 25))
  rw [World.size_alloc] at hr0
  have c0 : ((w.alloc (.cells #[.bool false, .slice A xs.length c] 25)).alloc (.cells #[.bool false, .slice none 0 0] 25)).cell? ⟨w.heap.size, 0, none⟩ = some (.bool false) := by go_cell
  have c1 : ((w.alloc (.cells #[.bool false, .slice A xs.length c] 25)).alloc (.cells #[.bool false, .slice none 0 0] 25)).cell? ⟨w.heap.size, 1, none⟩ = some (.slice A xs.length c) := by go_cell
  have hb0 : Below w.heap.size w ((w.alloc (.cells #[.bool false, .slice A xs.length c] 25)).alloc (.cells #[.bool false, .slice none 0 0] 25)) := by go_grown
  have h0 := h.below hb0
  have hlw : w.heap.size < ((w.alloc (.cells #[.bool false, .slice A xs.length c] 25)).alloc (.cells #[.bool false, .slice none 0 0] 25)).heap.size := by go_size
  have dp := dig_pack h.dig
  have np := norm_pack h.ok.norm
  have hpl : (pack xs).length ≤ 1024 := by rw [pack_length]; have := h.ok.len; omega
  have hpv := val_pack xs
  rw [hX] at hpv
  have HP := Lib.hid (And.intro hpv hX)
  clear hpv hX
  go_enter Tryz.func78, Tryz.ntmps78
  go_wp2_with fail
  generalize ((w.alloc (.cells #[.bool false, .slice A xs.length c] 25)).alloc (.cells #[.bool false, .slice none 0 0] 25)) = W at *
  refine (check_ok false A xs c W h0.sl h0.ok).mono ?_
  rintro e w1 ⟨rfl, q1⟩
  have c0 := (q1.cell (p := ⟨w.heap.size, 0, none⟩) hlw).trans c0
  have c1 := (q1.cell (p := ⟨w.heap.size, 1, none⟩) hlw).trans c1
  have hr1 := hr0.on q1
  have h1 := h0.below q1
  have hb1 := hb0.trans (q1.mono hb0.size)
  clear hr0 q1
  go_wp2_with fail
  refine (from_ok false A xs c w1 h1.sl h1.dig h1.ok).mono ?_
  rintro e w2 ⟨g, rfl, hrow, hg, q2⟩
  have q3 : Below w1.heap.size w1 (w2.alloc (.cells #[.bool false, .slice (some ⟨g, 0, none⟩) (pack xs).length (pack xs).length] 98)) := q2.alloc q2.size _
  have hrow3 := hrow.alloc (.cells #[.bool false, .slice (some ⟨g, 0, none⟩) (pack xs).length (pack xs).length] 98)
  have n0 : (w2.alloc (.cells #[.bool false, .slice (some ⟨g, 0, none⟩) (pack xs).length (pack xs).length] 98)).cell? ⟨w2.heap.size, 0, none⟩ = some (.bool false) := by go_cell
  have n1 : (w2.alloc (.cells #[.bool false, .slice (some ⟨g, 0, none⟩) (pack xs).length (pack xs).length] 98)).cell? ⟨w2.heap.size, 1, none⟩ = some (.slice (some ⟨g, 0, none⟩) (pack xs).length (pack xs).length) := by go_cell
  have hl3 : w2.heap.size < (w2.alloc (.cells #[.bool false, .slice (some ⟨g, 0, none⟩) (pack xs).length (pack xs).length] 98)).heap.size := by go_size
  have hr3 := hr1.on q3
  have hb3 := hb1.trans (q3.mono hb1.size)
  have hlr := hr1.lr
  have hsz2 := q2.size
  clear c0 c1 hr1 q2 q3 hrow
  go_wp2_with fail
  generalize (w2.alloc (.cells #[.bool false, .slice (some ⟨g, 0, none⟩) (pack xs).length (pack xs).length] 98)) = W3 at *
  refine (lroot_any false (some ⟨g, 0, none⟩) (pack xs) (pack xs).length W3 (hrow3.sl hrow3.lt) dp np (by omega) (Nat.le_refl _) (by omega)).mono ?_
  rintro e w4 ⟨r, e1, e2, neg, V, zs, k, rfl, hB, hv, q4⟩
  obtain ⟨hn, hvz⟩ := bg_nat hB hv
  subst hn
  rw [HP.out.1] at e1 e2
  have q5 : Below W3.heap.size W3 (w4.alloc (.cells #[.bool false, .slice V zs.length k] 98)) := q4.alloc q4.size _
  have hrow5 := (hrow3.below q4 hrow3.lt).alloc (.cells #[.bool false, .slice V zs.length k] 98)
  have hB5 := hB.below (w' := w4.alloc (.cells #[.bool false, .slice V zs.length k] 98)) (by go_grown)
  have hr5 := hr3.on q5
  have hb5 := hb3.trans (q5.mono hb3.size)
  have hl4 := q4.size
  have hbo : Both w (w4.alloc (.cells #[.bool false, .slice V zs.length k] 98)) w2.heap.size w4.heap.size false false (some ⟨g, 0, none⟩) V (pack xs) zs (pack xs).length (pack xs).length zs.length k :=
    ⟨hb5, by go_size, by go_size, hrow5.sl hrow5.lt, hB5.sl, (q5.cell (p := ⟨w2.heap.size, 0, none⟩) hl3).trans n0, (q5.cell (p := ⟨w2.heap.size, 1, none⟩) hl3).trans n1, by go_cell, by go_cell⟩
  have HE := Lib.hid (And.intro (And.intro e1 e2) hvz)
  have hne1 : w2.heap.size ≠ w.heap.size + 1 := by omega
  have hne2 : w4.heap.size ≠ w.heap.size + 1 := by omega
  obtain ⟨z, hz⟩ : ∃ z, cmpI ((r * r : Nat) : Int) (X : Nat) = z := ⟨_, rfl⟩
  have hz0 : (z == 0) = decide (r * r = X) := by rw [← hz]; exact cmpI_zero _ _
  have dz := hB.dig
  have nz := hB.norm
  have hzl : zs.length ≤ 1100 := by have := hB.len; have := hB.cap; omega
  have HK : Hid (∀ (W : World) (nm : Bool) (Vm : Option Addr) (zm : List Nat) (km C : Nat), Bg W nm Vm zm km C → zm.length * 8 ≤ 140737488351232 → sv nm (val W64 zm) = ((r * r : Nat) : Int) → Sl .u64 W W.heap.size (some ⟨g, 0, none⟩) (pack xs) →
      Calls Tryz.prog 179 #[big nm Vm zm.length km, big false (some ⟨g, 0, none⟩) (pack xs).length (pack xs).length] W fun e w' => e = .returned (.int .i64 z) ∧ Below W.heap.size W w') := Lib.hid (fun W nm Vm zm km C hBm hlm hvm hsa => by
    have := lcmp_any nm false Vm (some ⟨g, 0, none⟩) zm (pack xs) km (pack xs).length W hBm.sl hsa hBm.dig dp hBm.norm np hlm (by omega) (bg_pos hBm) (by intro h; cases h)
    rw [hvm, show sv false (val W64 (pack xs)) = ((X : Nat) : Int) from by show ((val W64 (pack xs) : Nat) : Int) = _; rw [HP.out.1], hz] at this
    exact this)
  have HM : Hid (sv false (val W64 zs) * sv false (val W64 zs) = ((r * r : Nat) : Int)) := Lib.hid (by
    show ((val W64 zs : Nat) : Int) * ((val W64 zs : Nat) : Int) = _
    rw [hvz, Int.natCast_mul])
  have HZ := Lib.hid hz0
  clear hz hz0 e1 e2 hvz hv n0 n1 hr3 hb3 q4 q5 hrow3 hB
  go_wp2_with fail
  generalize (w4.alloc (.cells #[.bool false, .slice V zs.length k] 98)) = W5 at *
  have HB := Lib.hid hbo.all
  clear hbo
  go_region_held3 (fun w' => Both w w' w2.heap.size w4.heap.size false false (some ⟨g, 0, none⟩) V (pack xs) zs (pack xs).length (pack xs).length zs.length k ∧ w'.cell? ⟨w2.heap.size, 0, none⟩ = some (.bool false) ∧ w'.cell? ⟨w2.heap.size, 1, none⟩ = some (.slice (some ⟨g, 0, none⟩) (pack xs).length (pack xs).length) ∧ w'.cell? ⟨w4.heap.size, 0, none⟩ = some (.bool false) ∧ w'.cell? ⟨w4.heap.size, 1, none⟩ = some (.slice V zs.length k))
    (first | exact HB.out | exact Both.keep HB.out ((Below.refl _ _).drew) | exact Both.keep (by assumption) (by assumption) | exact Both.keep (by assumption) ((Below.refl _ _).drew) | exact Both.put (by assumption) (by assumption) (by omega) hne1 hne2 _ _)
    (first
      | (go_at_call 190; refine (int_any false V zs k _ (Both.sb' (by assumption)) dz nz (by omega)).mono ?_; rintro e wi ⟨gi, rfl, hri, hgi, hb⟩
         have hre := Rest.on (by first | exact hr5 | exact Rest.drew hr5) hb
         clear hr5)
      | (go_at_call 191; refine (lmul_any false false V V zs zs k k _ (Both.sb' (by assumption)) (Both.sb' (by assumption)) dz dz (by omega)).mono ?_; rintro e wm ⟨nm, Vm, zm, km, rfl, hBm, hvm, hb⟩
         have hre := Rest.on (by assumption) hb
         have hri := Row.below hri hb hri.lt
         have HVM := Lib.hid (hvm.trans HM.out)
         clear hvm)
      | (go_at_call 179; refine (HK.out _ nm Vm zm km _ hBm (by have := hBm.len; have := hBm.cap; omega) HVM.out (Both.sa' (by assumption))).mono ?_; rintro e wk ⟨rfl, hb⟩
         have hre := Rest.on (by assumption) hb
         have hri := Row.below hri hb hri.lt
         have g0 := hre.r0
         have g1 := hre.r1
         have g2 := hre.f0
         have g3 := hre.f1))
  have hrX : r ≤ X := by
    rcases Nat.eq_zero_or_pos r with h5 | h5
    · omega
    · have h6 : r * 1 ≤ r * r := Nat.mul_le_mul_left _ h5
      have := HE.out.1.1
      omega
  have hF : Ok false (unpack zs) := ok_unpack dz nz (fun _ => rfl) (fits_abs (fits_lm (n := false) h.dig h.ok) (by rw [sv_abs, sv_abs, HE.out.2, HP.out.2]; exact hrX))
  have L1 : Lm wk false (some ⟨gi, 0, none⟩) (unpack zs) (unpack zs).length := ⟨sl_row hri, dig_unpack zs, hF⟩
  go_wp2
  refine bodyPost_ret (v := .tuple #[big false (some ⟨gi, 0, none⟩) (unpack zs).length (unpack zs).length, .bool (z == 0), .int .i64 0]) (by simp [results, Tryz.results78, go_sem, g0, g1]) rfl ?_
  exact ⟨_, unpack zs, _, r, by rw [HZ.out], L1.laid hre _ _, (val_unpack dz nz).trans HE.out.2, HE.out.1.1, HE.out.1.2, Both.below' (by assumption)⟩
end Go.Proofs.YtobbedcaeffbaaaGreatDoor
/-! ### Sq0 -/
namespace Go.Proofs.YtobbedcaeffbaaaGreatDoor
open Go.RowKit Nb
end Go.Proofs.YtobbedcaeffbaaaGreatDoor
