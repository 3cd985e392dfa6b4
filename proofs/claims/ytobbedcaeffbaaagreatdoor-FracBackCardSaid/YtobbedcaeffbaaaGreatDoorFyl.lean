/-
  What the library answers of floats; costs; what the statements ask at each input. Conditions: floats of 64 bits; the table of digits.
-/
import Derived.Test.YtobbedcaeffbaaaGreatDoorFfl
import Derived.Test.YtobbedcaeffbaaaGreatDoorFnf
import Derived.Deep.RegionHeld3
import Derived.Deep.DeepCutAuto
import Derived.BigRegion
namespace Go.Proofs.YtobbedcaeffbaaaGreatDoor.Fl
open Go.RowKit Ieee
theorem andNot63 (x : Nat) (h : x < 18446744073709551616) : bits .andNot .u64 (x : Int) 9223372036854775808 = (mg x : Int) := by
  have h1 := u64_andNot_nat x 9223372036854775808 h (by omega)
  rw [show ((9223372036854775808 : Nat) : Int) = 9223372036854775808 from rfl] at h1
  rw [h1]
  congr 1
  show x &&& (2 ^ 63 - 1) = x % 9223372036854775808
  rw [Nat.and_two_pow_sub_one_eq_mod]
end Go.Proofs.YtobbedcaeffbaaaGreatDoor.Fl
namespace Go.Proofs.YtobbedcaeffbaaaGreatDoor.Fl
open Go.RowKit Ieee
set_option maxHeartbeats 400000 in
theorem abs_any (x : Nat) (w : World) (h : x < 18446744073709551616) : Calls Tryz.prog 64 #[.float .f64 x] w fun e w' => e = .returned (.float .f64 (mg x)) ∧ w' = w := by
  have hb := andNot63 x h
  have hfb := run_bits
  have hff := run_from
  go_enter Tryz.func64, Tryz.ntmps64
  go_wp2
  go_ret; exact ⟨rfl, rfl⟩
end Go.Proofs.YtobbedcaeffbaaaGreatDoor.Fl
namespace Go.Proofs.YtobbedcaeffbaaaGreatDoor.Fl
open Go.RowKit Ieee
set_option maxHeartbeats 400000 in
theorem signbit_any (x : Nat) (w : World) (h : x < 18446744073709551616) : Calls Tryz.prog 13 #[.float .f64 x] w fun e w' => e = .returned (.bool (ng x)) ∧ w' = w := by
  have hfb := run_bits
  have hw : decide (wrap64 (x : Int) < 0) = ng x := by
    unfold wrap64 ng
    rcases Nat.lt_or_ge x 9223372036854775808 with g | g
    · rw [Nat.div_eq_of_lt g]; simp; omega
    · rw [show x / 9223372036854775808 = 1 by omega]; simp; omega
  go_enter Tryz.func13, Tryz.ntmps13
  go_wp2
  go_ret; exact ⟨rfl, rfl⟩
end Go.Proofs.YtobbedcaeffbaaaGreatDoor.Fl
namespace Go.Proofs.YtobbedcaeffbaaaGreatDoor.Fl
open Go.RowKit Ieee
theorem ord_lt (x y : Nat) : (FloatKind.f64.format.order x y == some .lt) = decide (mg x ≤ 9218868437227405312 ∧ mg y ≤ 9218868437227405312 ∧ key x < key y) := by
  show (double.order x y == some .lt) = _
  by_cases h : mg x ≤ 9218868437227405312 ∧ mg y ≤ 9218868437227405312
  · rw [order_key x y h.1 h.2]
    rcases Int.lt_trichotomy (key x) (key y) with g | g | g
    · rw [cmp_lt g, decide_eq_true ⟨h.1, h.2, g⟩]; rfl
    · rw [g, cmp_eq, decide_eq_false (by omega)]; rfl
    · rw [cmp_gt g, decide_eq_false (by omega)]; rfl
  · rw [order_nan x y (by omega), decide_eq_false (fun g => h ⟨g.1, g.2.1⟩)]; rfl
end Go.Proofs.YtobbedcaeffbaaaGreatDoor.Fl
namespace Go.Proofs.YtobbedcaeffbaaaGreatDoor.Fl
open Go.RowKit Ieee
theorem ord_gt (x y : Nat) : (FloatKind.f64.format.order x y == some .gt) = decide (mg x ≤ 9218868437227405312 ∧ mg y ≤ 9218868437227405312 ∧ key y < key x) := by
  show (double.order x y == some .gt) = _
  by_cases h : mg x ≤ 9218868437227405312 ∧ mg y ≤ 9218868437227405312
  · rw [order_key x y h.1 h.2]
    rcases Int.lt_trichotomy (key x) (key y) with g | g | g
    · rw [cmp_lt g, decide_eq_false (by omega)]; rfl
    · rw [g, cmp_eq, decide_eq_false (by omega)]; rfl
    · rw [cmp_gt g, decide_eq_true ⟨h.1, h.2, g⟩]; rfl
  · rw [order_nan x y (by omega), decide_eq_false (fun g => h ⟨g.1, g.2.1⟩)]; rfl
end Go.Proofs.YtobbedcaeffbaaaGreatDoor.Fl
namespace Go.Proofs.YtobbedcaeffbaaaGreatDoor.Fl
open Go.RowKit Ieee
theorem isNaN_any (x : Nat) (w : World) : Calls Tryz.prog 10 #[.float .f64 x] w fun e w' => e = .returned (.bool (decide (9218868437227405312 < mg x))) ∧ w' = w := by
  have h : (!(FloatKind.f64.format.order x x == some .eq)) = decide (9218868437227405312 < mg x) := by
    rw [ord_eq]
    by_cases h : mg x ≤ 9218868437227405312
    · rw [decide_eq_true ⟨h, h, rfl⟩, decide_eq_false (by omega)]; rfl
    · rw [decide_eq_false (by omega), decide_eq_true (by omega)]; rfl
  have h' : (FloatKind.f64.format.order x x != some .eq) = decide (9218868437227405312 < mg x) := h
  clear h
  go_enter Tryz.func10, Tryz.ntmps10
  go_wp2
  go_ret; exact ⟨rfl, rfl⟩
end Go.Proofs.YtobbedcaeffbaaaGreatDoor.Fl
namespace Go.Proofs.YtobbedcaeffbaaaGreatDoor.Fl
open Go.RowKit Ieee
theorem mg_max : mg 9218868437227405311 = 9218868437227405311 ∧ ng 9218868437227405311 = false := by decide
end Go.Proofs.YtobbedcaeffbaaaGreatDoor.Fl
namespace Go.Proofs.YtobbedcaeffbaaaGreatDoor.Fl
open Go.RowKit Ieee
theorem gt_max (x : Nat) : (FloatKind.f64.format.order x 9218868437227405311 == some .gt) = decide (mg x = 9218868437227405312 ∧ ng x = false) := by
  rw [ord_gt, mg_max.1]
  have : key 9218868437227405311 = 9218868437227405311 := by decide
  rw [this]
  unfold key
  by_cases h : mg x = 9218868437227405312
  · rw [h]
    cases ng x <;> simp
  · rw [decide_eq_false (p := mg x = _ ∧ _) (fun g => h g.1)]
    refine decide_eq_false ?_
    split <;> omega
end Go.Proofs.YtobbedcaeffbaaaGreatDoor.Fl
namespace Go.Proofs.YtobbedcaeffbaaaGreatDoor
open Go.RowKit Nb
open Fl Ieee
theorem mg_mg (x : Nat) : mg (mg x) = mg x ∧ ng (mg x) = false := by
  have h : mg x < 9223372036854775808 := Nat.mod_lt _ (by omega)
  refine ⟨Nat.mod_eq_of_lt h, ?_⟩
  unfold ng
  rw [Nat.div_eq_of_lt h]; rfl
end Go.Proofs.YtobbedcaeffbaaaGreatDoor
namespace Go.Proofs.YtobbedcaeffbaaaGreatDoor
open Go.RowKit Nb
open Fl Ieee
set_option maxHeartbeats 400000 in
theorem isInfAny_any (x : Nat) (w : World) (hx : x < 18446744073709551616) : Calls Tryz.prog 11 #[.float .f64 x, .int .i64 0] w fun e w' => e = .returned (.bool (decide (mg x = 9218868437227405312))) ∧ w' = w := by
  have h := gt_max (mg x)
  rw [(mg_mg x).1, (mg_mg x).2] at h
  simp only [and_true] at h
  have HA : Hid (∀ w : World, Calls Tryz.prog 64 #[.float .f64 x] w fun e w' => e = .returned (.float .f64 (mg x)) ∧ w' = w) := Lib.hid (fun w => abs_any x w hx)
  obtain ⟨b, hb⟩ : ∃ b, decide (mg x = 9218868437227405312) = b := ⟨_, rfl⟩
  rw [hb] at h ⊢
  generalize mg x = m at *
  clear hb hx
  go_enter Tryz.func11, Tryz.ntmps11
  go_wp2_with fail
  refine (HA.out _).mono ?_
  rintro _ w1 ⟨rfl, rfl⟩
  go_wp2
  go_ret; exact ⟨rfl, rfl⟩
end Go.Proofs.YtobbedcaeffbaaaGreatDoor
namespace Go.Proofs.YtobbedcaeffbaaaGreatDoor
open Go.RowKit Nb
open Fl Ieee
end Go.Proofs.YtobbedcaeffbaaaGreatDoor
namespace Go.Proofs.YtobbedcaeffbaaaGreatDoor
open Go.RowKit Nb
open Fl Ieee
theorem inf0 {x : Nat} {w : World} {b : Bool} (hx : x < 18446744073709551616) (h : decide (mg x = 9218868437227405312) = b) : Calls Tryz.prog 11 #[.float .f64 x, .int .i64 0] w fun e w' => e = .returned (.bool b) ∧ Below w.heap.size w w' :=
  (isInfAny_any x w hx).mono fun _ _ ⟨h1, h2⟩ => ⟨by rw [h1, h], h2 ▸ Below.refl _ _⟩
end Go.Proofs.YtobbedcaeffbaaaGreatDoor

namespace Go.Proofs.YtobbedcaeffbaaaGreatDoor
open Go.RowKit Nb
set_option maxHeartbeats 1000000 in
theorem isize_any (n : Bool) (A : Option Addr) (l c : Nat) (w : World) :
  Calls Tryz.prog 169 #[big n A l c] w (fun e w' => (∃ k : Int, e = .returned (.int .i64 k)) ∧ Below w.heap.size w w') := by
 go_enter Tryz.func169, Tryz.ntmps169
 go_wp2
 go_ret
 exact ⟨⟨_, rfl⟩, by go_grown⟩
end Go.Proofs.YtobbedcaeffbaaaGreatDoor
namespace Go.Proofs.YtobbedcaeffbaaaGreatDoor
open Go.RowKit Nb
set_option maxHeartbeats 1000000 in
theorem lowest_any (n m : Bool) (A B : Option Addr) (l c k d : Nat) (w : World) :
  Calls Tryz.prog 59 #[big n A l c, big m B k d] w (fun e w' => (∃ k : Int, e = .returned (.int .i64 k)) ∧ Below w.heap.size w w') := by
 go_enter Tryz.func59, Tryz.ntmps59
 go_wp2
 go_ret
 exact ⟨⟨_, rfl⟩, by go_grown⟩
end Go.Proofs.YtobbedcaeffbaaaGreatDoor
namespace Go.Proofs.YtobbedcaeffbaaaGreatDoor
open Go.RowKit Nb
set_option maxHeartbeats 8000000 in
set_option maxRecDepth 20000 in
theorem fsize_any (n m : Bool) (A B : Option Addr) (l c k d : Nat) (w : World) :
  Calls Tryz.prog 58 #[frq n A l c m B k d] w (fun e w' => (∃ k : Int, e = .returned (.int .i64 k)) ∧ Below w.heap.size w w') := by
 obtain ⟨V, hV⟩ : ∃ V, V = (w.alloc (.cells #[.bool n, .slice A l c, .bool m, .slice B k d] 27)) := ⟨_, rfl⟩
 have BW : Below w.heap.size w V := by rw [hV]; go_grown
 have KX : Box V w.heap.size [.bool n, .slice A l c, .bool m, .slice B k d] := by rw [hV]; exact Box.new w _ _
 have KX_0 := KX.c 0 _ rfl
 have KX_1 := KX.c 1 _ rfl
 have KX_2 := KX.c 2 _ rfl
 have KX_3 := KX.c 3 _ rfl
 go_enter Tryz.func58, Tryz.ntmps58
 go_wp2_with fail
 clear KX_0 KX_1 KX_2 KX_3
 rw [← hV]
 clear hV
 refine wp_region_noPanic ?_
 have hb : Below V.heap.size V V.drew := (Below.refl _ _).drew
 replace KX := KX.on hb
 replace BW := BW.trans (hb.mono BW.size)
 clear hb
 refine wp_region_held_drew (S := (fun wx => wx.cell? ⟨w.heap.size, 0, none⟩ = some (.bool n) ∧ wx.cell? ⟨w.heap.size, 1, none⟩ = some (.slice A l c) ∧ wx.cell? ⟨w.heap.size, 2, none⟩ = some (.bool m) ∧ wx.cell? ⟨w.heap.size, 3, none⟩ = some (.slice B k d))) (by kernel_rfl) (by exact KX.b4) (fun hHeld => ?_)
 generalize V.drew = Vd at *
 refine pT 0 ?_
 (try simp only [p0, p1, p2, p3])
 refine pT 1 ?_
 (try simp only [p0, p1, p2, p3])
 refine pT 3 ?_
 (try simp only [p0, p1, p2, p3])
 refine pT 4 ?_
 (try simp only [p0, p1, p2, p3])
 refine pR1 2 (fun K hK => ?_)
 go_simp
 (go_at_call 169; with_reducible refine (isize_any _ _ _ _ _).mono ?_)
 rintro _ wc0 ⟨⟨i1, rfl⟩, hb⟩
 (try go_wp2_with fail)
 replace KX := KX.on hb
 replace BW := BW.trans (hb.mono BW.size)
 clear hb
 refine hK.out _ _ (by exact KX.b4) (fun hHeld => ?_)
 clear hK
 (try simp only [p0, p1, p2, p3])
 refine pR1 5 (fun K hK => ?_)
 go_simp
 (go_at_call 169; with_reducible refine (isize_any _ _ _ _ _).mono ?_)
 rintro _ wc1 ⟨⟨i2, rfl⟩, hb⟩
 (try go_wp2_with fail)
 replace KX := KX.on hb
 replace BW := BW.trans (hb.mono BW.size)
 clear hb
 refine hK.out _ _ (by exact KX.b4) (fun hHeld => ?_)
 clear hK
 (try simp only [p0, p1, p2, p3])
 refine pT 6 ?_
 (try simp only [p0, p1, p2, p3])
 refine pT 7 ?_
 (try simp only [p0, p1, p2, p3])
 refine wpAnyH_done (by kernel_rfl) (NoPanic.normal ?_) _
 go_wp2
 go_ret
 exact ⟨⟨_, rfl⟩, BW⟩
end Go.Proofs.YtobbedcaeffbaaaGreatDoor
namespace Go.Proofs.YtobbedcaeffbaaaGreatDoor
open Go.RowKit Nb
set_option maxHeartbeats 8000000 in
set_option maxRecDepth 20000 in
theorem fcost_any (n m : Bool) (A B : Option Addr) (l c k d : Nat) (w : World) :
  Calls Tryz.prog 8 #[frq n A l c m B k d] w (fun e w' => (∃ k : Int, e = .returned (.int .i64 k)) ∧ Below w.heap.size w w') := by
 obtain ⟨V, hV⟩ : ∃ V, V = (w.alloc (.cells #[.bool n, .slice A l c, .bool m, .slice B k d] 27)) := ⟨_, rfl⟩
 have BW : Below w.heap.size w V := by rw [hV]; go_grown
 have KX : Box V w.heap.size [.bool n, .slice A l c, .bool m, .slice B k d] := by rw [hV]; exact Box.new w _ _
 have KX_0 := KX.c 0 _ rfl
 have KX_1 := KX.c 1 _ rfl
 have KX_2 := KX.c 2 _ rfl
 have KX_3 := KX.c 3 _ rfl
 go_enter Tryz.func8, Tryz.ntmps8
 go_wp2_with fail
 clear KX_0 KX_1 KX_2 KX_3
 rw [← hV]
 clear hV
 refine wp_region_noPanic ?_
 have hb : Below V.heap.size V V.drew := (Below.refl _ _).drew
 replace KX := KX.on hb
 replace BW := BW.trans (hb.mono BW.size)
 clear hb
 refine wp_region_held_drew (S := (fun wx => wx.cell? ⟨w.heap.size, 0, none⟩ = some (.bool n) ∧ wx.cell? ⟨w.heap.size, 1, none⟩ = some (.slice A l c) ∧ wx.cell? ⟨w.heap.size, 2, none⟩ = some (.bool m) ∧ wx.cell? ⟨w.heap.size, 3, none⟩ = some (.slice B k d))) (by kernel_rfl) (by exact KX.b4) (fun hHeld => ?_)
 generalize V.drew = Vd at *
 refine pT 0 ?_
 (try simp only [p0, p1, p2, p3])
 refine pT 2 ?_
 (try simp only [p0, p1, p2, p3])
 refine pT 3 ?_
 (try simp only [p0, p1, p2, p3])
 refine pT 4 ?_
 (try simp only [p0, p1, p2, p3])
 refine pT 5 ?_
 (try simp only [p0, p1, p2, p3])
 refine pR1 1 (fun K hK => ?_)
 go_simp
 (go_at_call 58; with_reducible refine (fsize_any _ _ _ _ _ _ _ _ _).mono ?_)
 rintro _ wc0 ⟨⟨i1, rfl⟩, hb⟩
 (try go_wp2_with fail)
 replace KX := KX.on hb
 replace BW := BW.trans (hb.mono BW.size)
 clear hb
 refine hK.out _ _ (by exact KX.b4) (fun hHeld => ?_)
 clear hK
 (try simp only [p0, p1, p2, p3])
 refine pR1 6 (fun K hK => ?_)
 go_simp
 (go_at_call 59; with_reducible refine (lowest_any _ _ _ _ _ _ _ _ _).mono ?_)
 rintro _ wc1 ⟨⟨i2, rfl⟩, hb⟩
 (try go_wp2_with fail)
 replace KX := KX.on hb
 replace BW := BW.trans (hb.mono BW.size)
 clear hb
 refine hK.out _ _ (by exact KX.b4) (fun hHeld => ?_)
 clear hK
 (try simp only [p0, p1, p2, p3])
 refine pT 7 ?_
 (try simp only [p0, p1, p2, p3])
 refine pT 8 ?_
 (try simp only [p0, p1, p2, p3])
 refine wpAnyH_done (by kernel_rfl) (NoPanic.normal ?_) _
 go_wp2
 go_ret
 exact ⟨⟨_, rfl⟩, BW⟩
end Go.Proofs.YtobbedcaeffbaaaGreatDoor
namespace Go.Proofs.YtobbedcaeffbaaaGreatDoor
open Go.RowKit Nb
theorem wtext_n {Z : Int} {n : Bool} {A : Option Addr} {ls : List Nat} {c : Nat} {w : World} (h : Nl w Z n A ls c) (hz : Z ≠ 0) (htab : Tab w) (s : ByteArray) (hs : (⟨((if n then [45] else []) ++ Lib.decDigits Z.natAbs).toArray⟩ : ByteArray) = s) :
  Calls Tryz.prog 68 #[big n A ls.length c] w fun e w' => e = .returned (.tuple #[.string s, .int .i64 0]) ∧ Below w.heap.size w w' := by
 have hp : 0 < ls.length := by
  rcases Nat.eq_zero_or_pos ls.length with h0 | h0
  ·exfalso
   have : ls = [] := List.length_eq_zero_iff.1 h0
   subst this
   apply hz
   rw [← h.v]
   cases n <;> rfl
  ·exact h0
 have := wtext_pos n A ls c w h.lm.sl h.lm.dig h.lm.ok hp htab
 rwa [show val W32 ls = Z.natAbs by rw [← h.v, sv_abs], hs] at this
end Go.Proofs.YtobbedcaeffbaaaGreatDoor
namespace Go.Proofs.YtobbedcaeffbaaaGreatDoor
open Go.RowKit Nb
open Fl Ieee
theorem f_cost {f : Fv} {w : World} : Calls Tryz.prog 8 #[fv f] w (fun e w' => (∃ k : Int, e = .returned (.int .i64 k)) ∧ Below w.heap.size w w') := fcost_any _ _ _ _ _ _ _ _ _
end Go.Proofs.YtobbedcaeffbaaaGreatDoor
namespace Go.Proofs.YtobbedcaeffbaaaGreatDoor
open Go.RowKit Nb
open Fl Ieee
end Go.Proofs.YtobbedcaeffbaaaGreatDoor

namespace Go.Proofs.YtobbedcaeffbaaaGreatDoor
open Go.RowKit Nb
theorem half3 : (Rat.divInt 6 (-4)).num = -3 ∧ (Rat.divInt 6 (-4)).den = 2 := by decide +kernel
/-- Minus three by two. -/
abbrev q3 : Rat := Rat.divInt 6 (-4)
theorem q3_fits : FitsQ q3 := by
  refine ⟨?_, ?_⟩
  · rw [half3.1]; exact fits_low (by decide)
  · rw [half3.2]; exact fits_low (by decide)
theorem q3_sign : sgnQ q3 = -1 := by unfold sgnQ; rw [half3.1]; rfl
theorem t3 : (⟨((if true then [45] else []) ++ Lib.decDigits 3).toArray⟩ : ByteArray) = ⟨#[45, 51]⟩ := by decide +kernel
theorem Lf.q3n {W : World} {n : Bool} {A B : Option Addr} {xs ds : List Nat} {c d : Nat} (h : Lf W q3 n A xs c B ds d) : n = true ∧ Nl W (-3) n A xs c ∧ Nl W 2 false B ds d := by
  have h1 := h.num
  have h2 := h.den
  rw [half3.1] at h1
  rw [half3.2] at h2
  refine ⟨?_, h1, h2⟩
  cases n with
  | true => rfl
  | false =>
    have h3 : ((val W32 xs : Nat) : Int) = -3 := h1.v
    omega
set_option maxHeartbeats 8000000 in
set_option maxRecDepth 20000 in
theorem ftext_q3 (A B : Option Addr) (xs ds : List Nat) (c d : Nat) (w : World) (h : Lf w q3 true A xs c B ds d) (htab : Tab w) :
    Calls Tryz.prog 14 #[frq true A xs.length c false B ds.length d] w (fun e w' => e = .returned (.tuple #[.string ⟨#[45, 51, 47, 50]⟩, .int .i64 0]) ∧ Below w.heap.size w w') := by
  obtain ⟨V, hV⟩ : ∃ V, V = (w.alloc (.cells #[.bool true, .slice A xs.length c, .bool false, .slice B ds.length d] 27)) := ⟨_, rfl⟩
  have BW : Below w.heap.size w V := by rw [hV]; go_grown
  have KX : Box V w.heap.size [.bool true, .slice A xs.length c, .bool false, .slice B ds.length d] := by rw [hV]; exact Box.new w _ _
  have LX := h.on BW
  have HT := Lib.hid htab
  clear h htab
  have KX_0 := KX.c 0 _ rfl
  have KX_1 := KX.c 1 _ rfl
  have KX_2 := KX.c 2 _ rfl
  have KX_3 := KX.c 3 _ rfl
  go_enter Tryz.func14, Tryz.ntmps14
  go_wp2_with fail
  clear KX_0 KX_1 KX_2 KX_3
  rw [← hV]
  clear hV
  refine (fcheck_any true false A B xs ds c d V LX.rq).mono ?_
  rw [chkF_ok LX.okf]
  rintro _ w1 ⟨rfl, hb⟩
  replace KX := KX.on hb
  replace LX := LX.on hb
  replace BW := BW.trans (hb.mono BW.size)
  clear hb
  have KX_0 := KX.c 0 _ rfl
  have KX_1 := KX.c 1 _ rfl
  have KX_2 := KX.c 2 _ rfl
  have KX_3 := KX.c 3 _ rfl
  go_wp2_with fail
  clear KX_0 KX_1 KX_2 KX_3
  refine (wtext_n LX.q3n.2.1 (by decide) (tab_below HT.out BW) _ t3).mono ?_
  rintro _ w2 ⟨rfl, hb⟩
  replace KX := KX.on hb
  replace LX := LX.on hb
  replace BW := BW.trans (hb.mono BW.size)
  clear hb
  have KX_0 := KX.c 0 _ rfl
  have KX_1 := KX.c 1 _ rfl
  have KX_2 := KX.c 2 _ rfl
  have KX_3 := KX.c 3 _ rfl
  go_wp2_with fail
  clear KX_0 KX_1 KX_2 KX_3
  refine (wtext_n LX.q3n.2.2 (by decide) (tab_below HT.out BW) _ t2).mono ?_
  rintro _ w3 ⟨rfl, hb⟩
  replace KX := KX.on hb
  replace LX := LX.on hb
  replace BW := BW.trans (hb.mono BW.size)
  clear hb
  clear LX KX
  go_wp2
  go_ret2
  exact ⟨rfl, BW⟩
set_option maxHeartbeats 8000000 in
set_option maxRecDepth 20000 in
theorem lives_any (w : World) (htab : Tab w) :
    Calls Tryz.prog 19 #[] w (fun e w' => e = .returned (.bool true) ∧ Below w.heap.size w w') := by
  have HT := Lib.hid htab
  clear htab
  go_enter Tryz.func19, Tryz.ntmps19
  go_wp2_with fail
  refine (frac_of 6 (-4) w (by omega) (by omega) (by omega) (by omega)).mono ?_
  rintro _ w1 ⟨n, A, xs, c, m, B, ds, d, er, rfl, Rt, BW⟩
  obtain ⟨rfl, rfl, LX⟩ : er = 0 ∧ m = false ∧ Lf w1 q3 n A xs c B ds d := by
    rcases Rt with ⟨_, _, h1, h2, h3⟩ | ⟨⟨h, _⟩ | ⟨_, h, _⟩, _⟩
    · exact ⟨h1, h2, h3⟩
    · exact absurd h (by decide)
    · exact absurd q3_fits h
  obtain rfl := LX.q3n.1
  clear Rt
  have hb : Below w1.heap.size w1 (w1.alloc (.cells #[.bool true, .slice A xs.length c, .bool false, .slice B ds.length d] 27)) := by go_grown
  have KX := Box.new w1 [.bool true, .slice A xs.length c, .bool false, .slice B ds.length d] 27
  replace LX := LX.on hb
  replace BW := BW.trans (hb.mono BW.size)
  clear hb
  go_wp2_with fail
  generalize (w1.alloc (.cells #[.bool true, .slice A xs.length c, .bool false, .slice B ds.length d] 27)) = VX at *
  generalize w1.heap.size = pX at *
  refine (frac_of 1 0 VX (by omega) (by omega) (by omega) (by omega)).mono ?_
  rintro _ w2 ⟨n2, A2, x2, c2, m2, B2, d2, l2, er2, rfl, Rt, hb⟩
  obtain rfl : er2 = 3 := by
    rcases Rt with ⟨h, _⟩ | ⟨⟨_, h⟩ | ⟨h, _⟩, _⟩
    · exact absurd rfl h
    · exact h
    · exact absurd rfl h
  clear Rt
  replace KX := KX.on hb
  replace LX := LX.on hb
  replace BW := BW.trans (hb.mono BW.size)
  clear hb
  have hb : Below w2.heap.size w2 (w2.alloc (.cells #[.bool n2, .slice A2 x2.length c2, .bool m2, .slice B2 d2.length l2] 27)) := by go_grown
  replace KX := KX.on hb
  replace LX := LX.on hb
  replace BW := BW.trans (hb.mono BW.size)
  clear hb
  have KX_0 := KX.c 0 _ rfl
  have KX_1 := KX.c 1 _ rfl
  have KX_2 := KX.c 2 _ rfl
  have KX_3 := KX.c 3 _ rfl
  go_wp2_with fail
  clear KX_0 KX_1 KX_2 KX_3
  generalize (w2.alloc (.cells #[.bool n2, .slice A2 x2.length c2, .bool m2, .slice B2 d2.length l2] 27)) = VY at *
  refine (ftext_q3 A B xs ds c d VY LX (tab_below HT.out BW)).mono ?_
  rintro _ w3 ⟨rfl, hb⟩
  replace KX := KX.on hb
  replace LX := LX.on hb
  replace BW := BW.trans (hb.mono BW.size)
  clear hb
  have KX_0 := KX.c 0 _ rfl
  have KX_1 := KX.c 1 _ rfl
  have KX_2 := KX.c 2 _ rfl
  have KX_3 := KX.c 3 _ rfl
  go_wp2_with fail
  clear KX_0 KX_1 KX_2 KX_3
  refine (frac_sign q3 true A B xs ds c d w3 LX).mono ?_
  rw [q3_sign]
  rintro _ w4 ⟨rfl, hb⟩
  replace KX := KX.on hb
  replace LX := LX.on hb
  replace BW := BW.trans (hb.mono BW.size)
  clear hb
  clear LX KX
  go_wp2
  go_ret
  exact ⟨rfl, BW⟩
end Go.Proofs.YtobbedcaeffbaaaGreatDoor
