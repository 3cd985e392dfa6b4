/-
  Plain facts and contracts that hold in this seat: joined by program. Conditions: as each theorem states.
-/
import Derived.Test.YtjamfkafgfpobaaGreatBws
import Derived.Test.YtjamfkafgfpobaaGreatNums
import Derived.Deep.LoopGhost
import Derived.Test.YtjamfkafgfpobaaGreatGcd
import Derived.Test.YtjamfkafgfpobaaGreatSame
import Derived.Deep.RegionHeld3
/-! ### Com0 -/
/-! ### Root -/
namespace Go.Proofs.YtjamfkafgfpobaaGreat
open Go.RowKit Nb
/-- So many limbs hold it. -/
def FitK (k : Nat) (Z : Int) : Prop := Z.natAbs < W32 ^ k
theorem FitK.mono {k l : Nat} {Z : Int} (h : FitK k Z) (hk : k ≤ l) : FitK l Z := Nat.lt_of_lt_of_le h (Nat.pow_le_pow_right (by decide) hk)
theorem lt_more {Z : Int} {k : Nat} (h : Z.natAbs < W32 ^ k) (l : Nat) (hk : k ≤ l) : Z.natAbs < W32 ^ l := Nat.lt_of_lt_of_le h (Nat.pow_le_pow_right (by decide) hk)
theorem FitK.fits {k : Nat} {Z : Int} (h : FitK k Z) (hk : k ≤ 2048) : Fits Z := lt_more h 2048 hk
theorem FitK.mul {a b : Nat} {X Y : Int} (h : FitK a X) (k : FitK b Y) : FitK (a + b) (X * Y) := by
  unfold FitK at *
  rw [Int.natAbs_mul, Nat.pow_add]
  exact Nat.mul_lt_mul_of_lt_of_lt h k
theorem FitK.add {a b : Nat} {X Y : Int} (h : FitK a X) (k : FitK b Y) : FitK (a + b + 1) (X + Y) := by
  have h1 := h.mono (Nat.le_add_right a b)
  have h2 := k.mono (Nat.le_add_left b a)
  unfold FitK at *
  rw [Nat.pow_succ]
  have h3 : 2 ≤ W32 := by decide
  have h4 : W32 ^ (a + b) * 2 ≤ W32 ^ (a + b) * W32 := Nat.mul_le_mul_left _ h3
  omega
theorem fitk_sv {n : Bool} {ls : List Nat} (hd : Dig W32 ls) : FitK ls.length (sv n (val W32 ls)) := by
  unfold FitK; rw [sv_abs]; exact val_lt hd
theorem fits_lm {n : Bool} {ls : List Nat} (hd : Dig W32 ls) (ho : Ok n ls) : Fits (sv n (val W32 ls)) := (fitk_sv (n := n) hd).fits ho.len
theorem fits_abs {Z U : Int} (h : Fits Z) (hle : U.natAbs ≤ Z.natAbs) : Fits U := Nat.lt_of_le_of_lt hle h
theorem quotient_any (A B : Option Addr) (xs ys : List Nat) (c d C : Nat) (w : World) (hx : Sl .u64 w w.heap.size A xs) (hy : Sl .u64 w w.heap.size B ys) (dx : Dig W64 xs) (dy : Dig W64 ys) (nx : Norm xs) (ny : Norm ys)
    (hl : (xs.length + 1) * 8 ≤ 140737488351232) (hk : ys.length * 8 ≤ 140737488351232) (hc : xs.length ≤ c) (hC : c ≤ C) (hC1 : xs.length + 1 ≤ C) (hne : ys ≠ []) :
    Calls Tryz.prog 140 #[.slice A xs.length c, .slice B ys.length d] w (Words2 w (val W64 xs / val W64 ys) (val W64 xs % val W64 ys) C) := by
  rcases Nat.lt_or_ge (val W64 xs) (val W64 ys) with hlt | hge
  · exact quotient_less A B xs ys c d C w hx hy dx dy nx ny (by omega) hk hc hC hlt
  · have hp : 0 < ys.length := List.length_pos_iff.2 hne
    rcases Nat.lt_or_ge ys.length 2 with h1 | h1
    · obtain ⟨y, rfl⟩ : ∃ y, ys = [y] := by
        match ys, hp, h1 with
        | [y], _, _ => exact ⟨y, rfl⟩
      have hv : val W64 [y] = y := by simp [val]
      have hy0 : 0 < y := by
        rcases Nat.eq_zero_or_pos y with h0 | h0
        · subst h0; exact absurd rfl (ny (by simp))
        · exact h0
      rw [hv] at hge ⊢
      exact quotient_word A B xs y c d C w hx hy dx (dy y (by simp)) nx hy0 (by omega) (by omega) hge
    · obtain ⟨j, hj⟩ : ∃ j, ys.length = j + 2 := ⟨ys.length - 2, by omega⟩
      exact quotient_words A B xs ys c d C j w hx hy dx dy nx ny hj hl hC1 hge
end Go.Proofs.YtjamfkafgfpobaaGreat
/-! ### Wgcd -/
namespace Go.Proofs.YtjamfkafgfpobaaGreat
open Go.RowKit Nb
/-- It answers this number; its block may be great. -/
def GivesL (w : World) (Z : Int) (L : Nat) (e : Ending) (w' : World) : Prop := ∃ (neg : Bool) (A : Option Addr) (zs : List Nat) (c : Nat), e = .returned (big neg A zs.length c) ∧ Bg w' neg A zs c maxLen ∧ zs.length ≤ L ∧ sv neg (val W64 zs) = Z ∧ Below w.heap.size w w'
theorem made_plain (A : Option Addr) (l c : Nat) (W : World) (h : l ≤ maxLen) : Calls Tryz.prog 118 #[.bool false, .slice A l c] W fun e w' => e = .returned (big false A l c) ∧ Below W.heap.size W w' :=
  (made_any false A l c W h).mono fun e w' ⟨h1, h2⟩ => ⟨by simpa using h1, h2⟩
set_option maxHeartbeats 4000000 in
theorem lgcd_any (n1 n2 : Bool) (A B : Option Addr) (xs ys : List Nat) (c d L : Nat) (w : World) (hx : Sl .u64 w w.heap.size A xs) (hy : Sl .u64 w w.heap.size B ys) (dx : Dig W64 xs) (dy : Dig W64 ys) (nx : Norm xs) (ny : Norm ys)
    (hl : (L + 2) * 8 ≤ 140737488351232) (h1 : xs.length ≤ L) (h2 : ys.length ≤ L) :
    Calls Tryz.prog 106 #[big n1 A xs.length c, big n2 B ys.length d] w (GivesL w ((Nat.gcd (val W64 xs) (val W64 ys) : Nat) : Int) (L + 1)) := by
  have hr := Rest.new ((w.alloc (.cells #[.bool n1, .slice A xs.length c] 72)).alloc (.cells #[.bool n2, .slice B ys.length d] 72))
  rw [show ((w.alloc (.cells #[.bool n1, .slice A xs.length c] 72)).alloc (.cells #[.bool n2, .slice B ys.length d] 72)).heap.size = w.heap.size + 1 + 1 by go_size] at hr
  have c1 : (((w.alloc (.cells #[.bool n1, .slice A xs.length c] 72)).alloc (.cells #[.bool n2, .slice B ys.length d] 72)).alloc (.cells #[.bool false, .slice none 0 0] 72)).cell? ⟨w.heap.size, 1, none⟩ = some (.slice A xs.length c) := by go_cell
  have c2 : (((w.alloc (.cells #[.bool n1, .slice A xs.length c] 72)).alloc (.cells #[.bool n2, .slice B ys.length d] 72)).alloc (.cells #[.bool false, .slice none 0 0] 72)).cell? ⟨w.heap.size + 1, 1, none⟩ = some (.slice B ys.length d) := by go_cell
  have hb0 : Below w.heap.size w (((w.alloc (.cells #[.bool n1, .slice A xs.length c] 72)).alloc (.cells #[.bool n2, .slice B ys.length d] 72)).alloc (.cells #[.bool false, .slice none 0 0] 72)) := by go_grown
  have HC := Lib.hid (fun W (hb : Below w.heap.size w W) => common_any A B xs ys c d L W ((hx.below hb).more hb.size) ((hy.below hb).more hb.size) dx dy nx ny hl h1 h2)
  have HR := Lib.hid hr
  clear hr
  go_enter Tryz.func106, Tryz.ntmps106
  go_wp2_with fail
  generalize (((w.alloc (.cells #[.bool n1, .slice A xs.length c] 72)).alloc (.cells #[.bool n2, .slice B ys.length d] 72)).alloc (.cells #[.bool false, .slice none 0 0] 72)) = W at *
  refine (HC.out _ hb0).mono ?_
  rintro e w2 ⟨V, zs, k, rfl, hs1, hd1, hn1, hv1, hk1, hk2, hk3, hb⟩
  have hr2 := (HR.out).on hb
  have hb2 := hb0.trans (hb.mono hb0.size)
  have HV := Lib.hid (And.intro hn1 hv1)
  clear hn1 hv1 HC
  go_wp2_with fail
  refine (made_plain V zs.length k w2 (by omega)).mono ?_
  rintro e w3 ⟨rfl, hb3⟩
  have hr3 := hr2.on hb3
  have hb4 := hb2.trans (hb3.mono hb2.size)
  have g0 := hr3.r0
  have g1 := hr3.r1
  have g2 := hr3.f0
  have g3 := hr3.f1
  have hB : Bg w3 false V zs k maxLen := ⟨(hs1.below hb3).more hb3.size, hd1, HV.out.1, fun _ => rfl, hk1, Nat.le_trans hk1 hk2, hk2⟩
  have hL := hr3.laid hb4 (by omega) hB
  go_wp2
  exact bodyPost_ret (v := big false V zs.length k) (by simp [results, Tryz.results106, go_sem, g0, g1]) rfl ⟨false, V, zs, k, rfl, hL.1, hk3, by show ((val W64 zs : Nat) : Int) = _; rw [HV.out.2], hL.2⟩
set_option maxHeartbeats 4000000 in
theorem reckon_gcd (n1 n2 : Bool) (A B : Option Addr) (xs ys : List Nat) (c d : Nat) (w : World) (hr : Sl .u32 w w.heap.size A xs) (hs : Sl .u32 w w.heap.size B ys) (hx : Dig W32 xs) (hy : Dig W32 ys) (hl : xs.length * 4 ≤ 140737488351232) (hk : ys.length * 4 ≤ 140737488351232) :
    Calls Tryz.prog 113 #[big n1 A xs.length c, big n2 B ys.length d, .func (.func 106) #[] #[]] w (Reck w (Ok n1 xs ∧ Ok n2 ys) ((Nat.gcd (val W32 xs) (val W32 ys) : Nat) : Int)) := by
  have ht := Two.boxed (n1 := n1) (n2 := n2) (l1 := xs.length) (c := c) (l2 := ys.length) (d := d) hr hs
  have hrow : ∀ (W : World) (g : Nat), g = W.heap.size → ∀ (i : Nat) (u : Value), (#[.bool n1, .slice A xs.length c, .bool n2, .slice B ys.length d] : Array Value)[i]? = some u → (W.alloc (.cells #[.bool n1, .slice A xs.length c, .bool n2, .slice B ys.length d] 27)).cell? ⟨g, i, none⟩ = some u := by
    intro W g hg i u hu
    subst hg
    rw [World.cell?_alloc_new]; exact hu
  have hre := Rest.newI ((w.alloc (.cells #[.bool n1, .slice A xs.length c] 27)).alloc (.cells #[.bool n2, .slice B ys.length d] 27))
  have ht := ht.on (W' := ((w.alloc (.cells #[.bool n1, .slice A xs.length c] 27)).alloc (.cells #[.bool n2, .slice B ys.length d] 27)).alloc (.cells #[.bool false, .slice none 0 0] 27)) (by go_grown)
  rw [show ((w.alloc (.cells #[.bool n1, .slice A xs.length c] 27)).alloc (.cells #[.bool n2, .slice B ys.length d] 27)).heap.size = w.heap.size + 1 + 1 by go_size] at hre
  have ha0 := ht.a0
  have ha1 := ht.a1
  have hb0 := ht.b0
  have hb1 := ht.b1
  go_enter Tryz.func113, Tryz.ntmps113
  go_wp2_with fail
  have hz : (((w.alloc (.cells #[.bool n1, .slice A xs.length c] 27)).alloc (.cells #[.bool n2, .slice B ys.length d] 27)).alloc (.cells #[.bool false, .slice none 0 0] 27)).heap.size = w.heap.size + 1 + 1 + 1 := by go_size
  generalize hW : (((w.alloc (.cells #[.bool n1, .slice A xs.length c] 27)).alloc (.cells #[.bool n2, .slice B ys.length d] 27)).alloc (.cells #[.bool false, .slice none 0 0] 27)) = W at *
  clear hW
  have tW := ht.on (W' := W.alloc (.cells #[.bool n1, .slice A xs.length c, .bool n2, .slice B ys.length d] 27)) ((Below.refl _ _).alloc (Nat.le_refl _) _)
  have rW := hre.on (W' := W.alloc (.cells #[.bool n1, .slice A xs.length c, .bool n2, .slice B ys.length d] 27)) ((Below.refl _ _).alloc (Nat.le_refl _) _)
  refine (check_two (w.heap.size + 1 + 1 + 1) n1 n2 A B xs ys 2 c d _ tW.sa tW.sb (by simp; omega) hl hk (hrow _ _ hz.symm 0 _ rfl) (hrow _ _ hz.symm 1 _ rfl) (hrow _ _ hz.symm 2 _ rfl) (hrow _ _ hz.symm 3 _ rfl)).mono ?_
  rintro e w1 ⟨rfl, hq1⟩
  have t1 := tW.on hq1
  have r1 := rW.on hq1
  clear tW rW ht hre ha0 ha1 hb0 hb1 hrow hq1 hz
  by_cases ho : Ok n1 xs ∧ Ok n2 ys
  · obtain ⟨o1, o2⟩ := ho
    have hn1 := norm_pack o1.norm
    have hn2 := norm_pack o2.norm
    have hd1 := dig_pack hx
    have hd2 := dig_pack hy
    have hg1 : (pack xs).length ≤ 1024 := by rw [pack_length]; have := o1.len; omega
    have hg2 : (pack ys).length ≤ 1024 := by rw [pack_length]; have := o2.len; omega
    have L : ∀ (g1 g2 : Nat) (W : World), Sl .u64 W W.heap.size (some ⟨g1, 0, none⟩) (pack xs) → Sl .u64 W W.heap.size (some ⟨g2, 0, none⟩) (pack ys) → Calls Tryz.prog 106 #[big n1 (some ⟨g1, 0, none⟩) (pack xs).length (pack xs).length, big n2 (some ⟨g2, 0, none⟩) (pack ys).length (pack ys).length] W (GivesL W ((Nat.gcd (val W32 xs) (val W32 ys) : Nat) : Int) 1025) := by
      intro g1 g2 W h1 h2
      rw [← val_pack xs, ← val_pack ys]
      exact lgcd_any n1 n2 _ _ _ _ _ _ 1024 W h1 h2 hd1 hd2 hn1 hn2 (by decide) hg1 hg2
    have HL := Lib.hid L; clear L
    rw [chkV_ok o1, chkV_ok o2]
    have HT := Lib.hid t1.all
    have hall := HT.out
    have ra0 := r1.r0
    have ra1 := r1.r1
    go_wp2_with fail
    go_region_held3 (fun w' => Two w w' w.heap.size (w.heap.size + 1) n1 n2 A B xs ys xs.length c ys.length d ∧ w'.cell? ⟨w.heap.size, 0, none⟩ = some (.bool n1) ∧ w'.cell? ⟨w.heap.size, 1, none⟩ = some (.slice A xs.length c) ∧ w'.cell? ⟨w.heap.size + 1, 0, none⟩ = some (.bool n2) ∧ w'.cell? ⟨w.heap.size + 1, 1, none⟩ = some (.slice B ys.length d))
      (first | exact HT.out | exact Two.keep HT.out ((Below.refl _ _).drew) | exact Two.keep (by assumption) (by assumption) | exact Two.keep (by assumption) ((Below.refl _ _).drew) | exact Two.put (by assumption) (by assumption) (by omega) (by omega) (by omega) _ _)
      (first
        | (go_at_call 90; refine (from_ok _ _ _ _ _ (by first | exact Two.sa' (by assumption) | exact Two.sb' (by assumption)) (by first | exact hx | exact hy) (by first | exact o1 | exact o2)).mono ?_; rintro e w' ⟨g, rfl, hrow, hg, hb⟩
           have hre := Rest.on (by first | assumption | exact Rest.drew (by assumption)) hb)
        | (go_at_call 106; refine (HL.out _ _ _ (by first | exact sl_row (by assumption) | exact sl_row_then (by assumption) (by assumption)) (by first | exact sl_row (by assumption) | exact sl_row_then (by assumption) (by assumption))).mono ?_; rintro e w' ⟨n, V, zs, k, rfl, hB, hzl, hv, hb⟩
           have hre := Rest.on (by first | assumption | exact Rest.drew (by assumption)) hb)
        | (go_at_call 128; refine (fit_any _ _ _ _ _ _ hB (by omega)).mono ?_; rintro e w9 ⟨n', V', ls, k', er, rfl, hM, hSay, hb9⟩
           rw [hv] at hSay
           have hre := Rest.on (by first | assumption | exact Rest.drew (by assumption)) hb9
           have g0 := hre.r0
           have g1 := hre.r1
           have g2 := hre.f0
           have g3 := hre.f1))
    all_goals
      go_wp2
      refine bodyPost_ret (v := .tuple #[big n' V' ls.length k', .int .i64 er]) (by simp [results, Tryz.results113, go_sem, g0, g1]) rfl ⟨n', V', ls, k', er, rfl, hM.laid hre _ _, .inl ⟨⟨o1, o2⟩, hSay⟩, ?_⟩
      exact Two.below' (by assumption)
  · have hk2 : (if chkV n1 xs = 0 then chkV n2 ys else 1) = 1 := by
      by_cases h : Ok n1 xs
      · rw [if_pos (chkV_ok h), chkV_bad (fun h2 => ho ⟨h, h2⟩)]
      · rw [if_neg (by rw [chkV_bad h]; decide)]
    rw [hk2]
    have ra0 := r1.r0
    have ra1 := r1.r1
    have ra2 := r1.f0
    have ra3 := r1.f1
    go_wp2
    refine bodyPost_ret (v := .tuple #[big false none ([] : List Nat).length 0, .int .i64 1]) (by simp [results, Tryz.results113, go_sem, ra0, ra1]) rfl ?_
    exact ⟨false, none, [], 0, 1, rfl, ⟨fun h => absurd h (by simp), by intro x hx; simp at hx, ok_zero⟩, .inr ⟨ho, rfl, rfl, rfl⟩, (t1.below.setCell (by simp; omega) _).setCell (by simp; omega) _⟩
set_option maxHeartbeats 400000 in
theorem wgcd_any (n1 n2 : Bool) (A B : Option Addr) (xs ys : List Nat) (c d : Nat) (w : World) (hr : Sl .u32 w w.heap.size A xs) (hs : Sl .u32 w w.heap.size B ys) (hx : Dig W32 xs) (hy : Dig W32 ys) (hl : xs.length * 4 ≤ 140737488351232) (hk : ys.length * 4 ≤ 140737488351232) :
    Calls Tryz.prog 82 #[big n1 A xs.length c, big n2 B ys.length d] w (Reck w (Ok n1 xs ∧ Ok n2 ys) ((Nat.gcd (val W32 xs) (val W32 ys) : Nat) : Int)) := by
  have ht := Two.boxed (n1 := n1) (n2 := n2) (l1 := xs.length) (c := c) (l2 := ys.length) (d := d) hr hs
  have hre := Rest.newI ((w.alloc (.cells #[.bool n1, .slice A xs.length c] 27)).alloc (.cells #[.bool n2, .slice B ys.length d] 27))
  have ht := ht.on (W' := ((w.alloc (.cells #[.bool n1, .slice A xs.length c] 27)).alloc (.cells #[.bool n2, .slice B ys.length d] 27)).alloc (.cells #[.bool false, .slice none 0 0] 27)) (by go_grown)
  rw [show ((w.alloc (.cells #[.bool n1, .slice A xs.length c] 27)).alloc (.cells #[.bool n2, .slice B ys.length d] 27)).heap.size = w.heap.size + 1 + 1 by go_size] at hre
  have HC := Lib.hid (fun W h1 h2 => reckon_gcd n1 n2 A B xs ys c d W h1 h2 hx hy hl hk)
  go_enter Tryz.func82, Tryz.ntmps82
  go_wp2_with fail
  refine (HC.out _ ht.sa ht.sb).mono ?_
  rintro e w1 ⟨n, V, ls, k, er, rfl, hM, hSay, hb1⟩
  have hre := hre.on hb1
  have t1 := ht.on hb1
  have g0 := hre.r0
  have g1 := hre.r1
  have g2 := hre.f0
  have g3 := hre.f1
  go_wp2
  refine bodyPost_ret (v := .tuple #[big n V ls.length k, .int .i64 er]) (by simp [results, Tryz.results82, go_sem, g0, g1]) rfl ⟨n, V, ls, k, er, rfl, hM.laid hre _ _, hSay, (t1.below.setCell (by simp; omega) _).setCell (by simp; omega) _⟩
end Go.Proofs.YtjamfkafgfpobaaGreat
/-! ### Com0 -/
namespace Go.Proofs.YtjamfkafgfpobaaGreat
open Go.RowKit Nb
theorem sv_nat {n : Bool} {ls : List Nat} {V : Nat} (ho : Ok n ls) (h : sv n (val W32 ls) = (V : Int)) : n = false ∧ val W32 ls = V := by
  cases n
  · exact ⟨rfl, Int.ofNat_inj.1 h⟩
  · have h1 : -((val W32 ls : Nat) : Int) = (V : Int) := h
    have h2 : val W32 ls = 0 := by omega
    have h3 := (norm_zero (B := W32) (by decide) ho.norm).1 h2
    have := ho.sign h3
    cases this
end Go.Proofs.YtjamfkafgfpobaaGreat
/-! ### Wroot -/
namespace Go.Proofs.YtjamfkafgfpobaaGreat
open Go.RowKit Nb
theorem bg_pos {w : World} {n : Bool} {A : Option Addr} {ls : List Nat} {c C : Nat} (h : Bg w n A ls c C) (hn : n = true) : 0 < val W64 ls := by
  rcases Nat.eq_zero_or_pos (val W64 ls) with h0 | h0
  · have := h.sign ((norm_zero (B := W64) (by decide) h.norm).1 h0)
    rw [hn] at this; cases this
  · exact h0
theorem bg_nat {w : World} {n : Bool} {A : Option Addr} {ls : List Nat} {c C V : Nat} (h : Bg w n A ls c C) (hv : sv n (val W64 ls) = (V : Int)) : n = false ∧ val W64 ls = V := by
  cases n
  · exact ⟨rfl, Int.ofNat_inj.1 hv⟩
  · have h1 : -((val W64 ls : Nat) : Int) = (V : Int) := hv
    have := bg_pos h rfl
    omega
end Go.Proofs.YtjamfkafgfpobaaGreat
/-! ### Sq0 -/
namespace Go.Proofs.YtjamfkafgfpobaaGreat
open Go.RowKit Nb
end Go.Proofs.YtjamfkafgfpobaaGreat
