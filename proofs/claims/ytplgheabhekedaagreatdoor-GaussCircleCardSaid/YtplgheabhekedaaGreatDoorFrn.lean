/-
  The costs, frac.Make and Of; what frac.Add, Sub, Mul, Quo return of two fractions that may be. Conditions: as each theorem states.
-/
import Derived.Test.YtplgheabhekedaaGreatDoorFqe
import Derived.Deep.RegionHeld3
import Derived.Deep.DeepCutAuto
import Derived.BigRegion
import Derived.Test.YtplgheabhekedaaGreatDoorFq7
import Derived.Test.YtplgheabhekedaaGreatDoorFre
import Derived.Test.YtplgheabhekedaaGreatDoorFix
import Derived.Test.YtplgheabhekedaaGreatDoorWText
namespace Go.Proofs.YtplgheabhekedaaGreatDoor
open Go.RowKit Nb
set_option maxHeartbeats 1000000 in
theorem isize_any (n : Bool) (A : Option Addr) (l c : Nat) (w : World) :
  Calls Tryz.prog 41 #[big n A l c] w (fun e w' => (∃ k : Int, e = .returned (.int .i64 k)) ∧ Below w.heap.size w w') := by
 go_enter Tryz.func41, Tryz.ntmps41
 go_wp2
 go_ret
 exact ⟨⟨_, rfl⟩, by go_grown⟩
set_option maxHeartbeats 1000000 in
theorem lowest_any (n m : Bool) (A B : Option Addr) (l c k d : Nat) (w : World) :
  Calls Tryz.prog 40 #[big n A l c, big m B k d] w (fun e w' => (∃ k : Int, e = .returned (.int .i64 k)) ∧ Below w.heap.size w w') := by
 go_enter Tryz.func40, Tryz.ntmps40
 go_wp2
 go_ret
 exact ⟨⟨_, rfl⟩, by go_grown⟩
set_option maxHeartbeats 8000000 in
set_option maxRecDepth 20000 in
theorem fsize_any (n m : Bool) (A B : Option Addr) (l c k d : Nat) (w : World) :
  Calls Tryz.prog 9 #[frq n A l c m B k d] w (fun e w' => (∃ k : Int, e = .returned (.int .i64 k)) ∧ Below w.heap.size w w') := by
 obtain ⟨V, hV⟩ : ∃ V, V = (w.alloc (.cells #[.bool n, .slice A l c, .bool m, .slice B k d] 26)) := ⟨_, rfl⟩
 have BW : Below w.heap.size w V := by rw [hV]; go_grown
 have KX : Box V w.heap.size [.bool n, .slice A l c, .bool m, .slice B k d] := by rw [hV]; exact Box.new w _ _
 have KX_0 := KX.c 0 _ rfl
 have KX_1 := KX.c 1 _ rfl
 have KX_2 := KX.c 2 _ rfl
 have KX_3 := KX.c 3 _ rfl
 go_enter Tryz.func9, Tryz.ntmps9
 go_wp2_with fail
 clear KX_0 KX_1 KX_2 KX_3
 rw [← hV]
 clear hV
 refine wp_region_noPanic ?_
 have hb : Below V.heap.size V V.drew := (Below.refl _ _).drew
 replace KX := KX.on hb
 replace BW := BW.trans (hb.mono BW.size)
 clear hb
 refine wp_region_held_drew (S := (fun wx => wx.cell? ⟨w.heap.size, 0, none⟩ = some (.bool n) ∧ wx.cell? ⟨w.heap.size, 1, none⟩ = some (.slice A l c) ∧ wx.cell? ⟨w.heap.size, 2, none⟩ = some (.bool m) ∧ wx.cell? ⟨w.heap.size, 3, none⟩ = some (.slice B k d))) (by kernel_rfl) (by exact KX.b4) (fun hHeld => ?_)
 generalize V.drew = Vd at *
 refine pT 0 ?_
 (try simp only [p0, p1, p2, p3])
 refine pT 1 ?_
 (try simp only [p0, p1, p2, p3])
 refine pT 3 ?_
 (try simp only [p0, p1, p2, p3])
 refine pT 4 ?_
 (try simp only [p0, p1, p2, p3])
 refine pR1 2 (fun K hK => ?_)
 go_simp
 (go_at_call 41; with_reducible refine (isize_any _ _ _ _ _).mono ?_)
 rintro _ wc0 ⟨⟨i1, rfl⟩, hb⟩
 (try go_wp2_with fail)
 replace KX := KX.on hb
 replace BW := BW.trans (hb.mono BW.size)
 clear hb
 refine hK.out _ _ (by exact KX.b4) (fun hHeld => ?_)
 clear hK
 (try simp only [p0, p1, p2, p3])
 refine pR1 5 (fun K hK => ?_)
 go_simp
 (go_at_call 41; with_reducible refine (isize_any _ _ _ _ _).mono ?_)
 rintro _ wc1 ⟨⟨i2, rfl⟩, hb⟩
 (try go_wp2_with fail)
 replace KX := KX.on hb
 replace BW := BW.trans (hb.mono BW.size)
 clear hb
 refine hK.out _ _ (by exact KX.b4) (fun hHeld => ?_)
 clear hK
 (try simp only [p0, p1, p2, p3])
 refine pT 6 ?_
 (try simp only [p0, p1, p2, p3])
 refine pT 7 ?_
 (try simp only [p0, p1, p2, p3])
 refine wpAnyH_done (by kernel_rfl) (NoPanic.normal ?_) _
 go_wp2
 go_ret
 exact ⟨⟨_, rfl⟩, BW⟩
set_option maxHeartbeats 8000000 in
set_option maxRecDepth 20000 in
theorem fcost_any (n m : Bool) (A B : Option Addr) (l c k d : Nat) (w : World) :
  Calls Tryz.prog 8 #[frq n A l c m B k d] w (fun e w' => (∃ k : Int, e = .returned (.int .i64 k)) ∧ Below w.heap.size w w') := by
 obtain ⟨V, hV⟩ : ∃ V, V = (w.alloc (.cells #[.bool n, .slice A l c, .bool m, .slice B k d] 26)) := ⟨_, rfl⟩
 have BW : Below w.heap.size w V := by rw [hV]; go_grown
 have KX : Box V w.heap.size [.bool n, .slice A l c, .bool m, .slice B k d] := by rw [hV]; exact Box.new w _ _
 have KX_0 := KX.c 0 _ rfl
 have KX_1 := KX.c 1 _ rfl
 have KX_2 := KX.c 2 _ rfl
 have KX_3 := KX.c 3 _ rfl
 go_enter Tryz.func8, Tryz.ntmps8
 go_wp2_with fail
 clear KX_0 KX_1 KX_2 KX_3
 rw [← hV]
 clear hV
 refine wp_region_noPanic ?_
 have hb : Below V.heap.size V V.drew := (Below.refl _ _).drew
 replace KX := KX.on hb
 replace BW := BW.trans (hb.mono BW.size)
 clear hb
 refine wp_region_held_drew (S := (fun wx => wx.cell? ⟨w.heap.size, 0, none⟩ = some (.bool n) ∧ wx.cell? ⟨w.heap.size, 1, none⟩ = some (.slice A l c) ∧ wx.cell? ⟨w.heap.size, 2, none⟩ = some (.bool m) ∧ wx.cell? ⟨w.heap.size, 3, none⟩ = some (.slice B k d))) (by kernel_rfl) (by exact KX.b4) (fun hHeld => ?_)
 generalize V.drew = Vd at *
 refine pT 0 ?_
 (try simp only [p0, p1, p2, p3])
 refine pT 2 ?_
 (try simp only [p0, p1, p2, p3])
 refine pT 3 ?_
 (try simp only [p0, p1, p2, p3])
 refine pT 4 ?_
 (try simp only [p0, p1, p2, p3])
 refine pT 5 ?_
 (try simp only [p0, p1, p2, p3])
 refine pR1 1 (fun K hK => ?_)
 go_simp
 (go_at_call 9; with_reducible refine (fsize_any _ _ _ _ _ _ _ _ _).mono ?_)
 rintro _ wc0 ⟨⟨i1, rfl⟩, hb⟩
 (try go_wp2_with fail)
 replace KX := KX.on hb
 replace BW := BW.trans (hb.mono BW.size)
 clear hb
 refine hK.out _ _ (by exact KX.b4) (fun hHeld => ?_)
 clear hK
 (try simp only [p0, p1, p2, p3])
 refine pR1 6 (fun K hK => ?_)
 go_simp
 (go_at_call 40; with_reducible refine (lowest_any _ _ _ _ _ _ _ _ _).mono ?_)
 rintro _ wc1 ⟨⟨i2, rfl⟩, hb⟩
 (try go_wp2_with fail)
 replace KX := KX.on hb
 replace BW := BW.trans (hb.mono BW.size)
 clear hb
 refine hK.out _ _ (by exact KX.b4) (fun hHeld => ?_)
 clear hK
 (try simp only [p0, p1, p2, p3])
 refine pT 7 ?_
 (try simp only [p0, p1, p2, p3])
 refine pT 8 ?_
 (try simp only [p0, p1, p2, p3])
 refine wpAnyH_done (by kernel_rfl) (NoPanic.normal ?_) _
 go_wp2
 go_ret
 exact ⟨⟨_, rfl⟩, BW⟩
end Go.Proofs.YtplgheabhekedaaGreatDoor
/-! ### Frg -/
namespace Go.Proofs.YtplgheabhekedaaGreatDoor
open Go.RowKit Nb
theorem Rk.ofTold {W : World} {z : Rat} {bad : Prop} {n m : Bool} {A B : Option Addr} {xs ds : List Nat} {c d : Nat} {er : Int} (hb : ¬ bad) (h : (FitsQ z ∧ er = 0 ∧ m = false ∧ Lf W z n A xs c B ds d) ∨ (¬ FitsQ z ∧ er = 4 ∧ n = false ∧ A = none ∧ xs = [] ∧ c = 0 ∧ m = false ∧ B = none ∧ ds = [] ∧ d = 0)) : Rk W bad z n A xs c m B ds d er := by
 rcases h with ⟨a, b, e1, f⟩ | ⟨a, b, e1⟩
 ·exact .inl ⟨hb, a, b, e1, f⟩
 ·exact .inr ⟨.inr ⟨hb, a, b⟩, e1⟩
set_option maxHeartbeats 8000000 in
set_option maxRecDepth 20000 in
theorem frac_make (X Y : Int) (n m : Bool) (A B : Option Addr) (xs ds : List Nat) (c d : Nat) (w : World) (h : Nl w X n A xs c) (k : Nl w Y m B ds d) :
  Calls Tryz.prog 58 #[big n A xs.length c, big m B ds.length d] w (ReckF w (Y = 0) (Rat.divInt X Y)) := by
 obtain ⟨V, hV, BW, hz, RR, KX, KY, FX, FY⟩ := box_ints w n A xs.length c m B ds.length d 24 24 26
 have Xn := h.on BW
 have Yn := k.on BW
 clear h k hz FX FY
 have KX_0 := KX.c 0 _ rfl
 have KX_1 := KX.c 1 _ rfl
 have KY_0 := KY.c 0 _ rfl
 have KY_1 := KY.c 1 _ rfl
 go_enter Tryz.func58, Tryz.ntmps58
 go_wp2_with fail
 clear KX_0 KX_1 KY_0 KY_1
 rw [← hV]
 clear hV
 refine (check_u n A xs c V Xn.lm.sl Xn.lm.sz).mono ?_
 rw [chkV_ok Xn.lm.ok]
 rintro _ w1 ⟨rfl, hb⟩
 replace KX := KX.on hb
 replace KY := KY.on hb
 replace Xn := Xn.on hb
 replace Yn := Yn.on hb
 replace RR := RR.on hb
 replace BW := BW.trans (hb.mono BW.size)
 clear hb
 have KX_0 := KX.c 0 _ rfl
 have KX_1 := KX.c 1 _ rfl
 have KY_0 := KY.c 0 _ rfl
 have KY_1 := KY.c 1 _ rfl
 go_wp2_with fail
 clear KX_0 KX_1 KY_0 KY_1
 refine (check_u m B ds d w1 Yn.lm.sl Yn.lm.sz).mono ?_
 rw [chkV_ok Yn.lm.ok]
 rintro _ w2 ⟨rfl, hb⟩
 replace KX := KX.on hb
 replace KY := KY.on hb
 replace Xn := Xn.on hb
 replace Yn := Yn.on hb
 replace RR := RR.on hb
 replace BW := BW.trans (hb.mono BW.size)
 clear hb
 have KX_0 := KX.c 0 _ rfl
 have KX_1 := KX.c 1 _ rfl
 have KY_0 := KY.c 0 _ rfl
 have KY_1 := KY.c 1 _ rfl
 go_wp2_with fail
 clear KX_0 KX_1 KY_0 KY_1
 refine (wsign_u m B ds d w2 Yn.lm.sl Yn.lm.dig Yn.lm.sz).mono ?_
 rw [sgnV_nl Yn]
 rintro _ w3 ⟨rfl, hb⟩
 replace KX := KX.on hb
 replace KY := KY.on hb
 replace Xn := Xn.on hb
 replace Yn := Yn.on hb
 replace RR := RR.on hb
 replace BW := BW.trans (hb.mono BW.size)
 clear hb
 by_cases hY : Y = 0
 ·have hs : Y.sign = 0 := by rw [hY]; rfl
  rw [hs]
  clear hs
  have KX_0 := KX.c 0 _ rfl
  have KX_1 := KX.c 1 _ rfl
  have KY_0 := KY.c 0 _ rfl
  have KY_1 := KY.c 1 _ rfl
  have y0 := RR.r0
  have y1 := RR.r1
  have y2 := RR.r2
  have y3 := RR.r3
  have y4 := RR.f0
  have y5 := RR.f1
  have y6 := RR.f2
  have y7 := RR.f3
  have HL := Lib.hid (Below.putq BW (r := w.heap.size + 1 + 1) (by omega) (.bool false) (.slice none 0 0) (.bool false) (.slice none 0 0))
  have HB := Lib.hid hY
  clear Xn Yn BW KX KY RR hY
  go_wp2
  exact bodyPost_ret (v := .tuple #[frq false none ([] : List Nat).length 0 false none ([] : List Nat).length 0, .int .i64 3]) (by simp [results, Tryz.results58, go_sem, y0, y1, y2, y3]) rfl ⟨_, _, _, _, _, _, _, _, _, rfl, .inr ⟨.inl ⟨HB.out, rfl⟩, Zq.mk'⟩, HL.out⟩
 ·have hs : Y.sign ≠ 0 := fun e => hY (Int.sign_eq_zero_iff_zero.1 e)
  generalize Y.sign = sg at *
  have KX_0 := KX.c 0 _ rfl
  have KX_1 := KX.c 1 _ rfl
  have KY_0 := KY.c 0 _ rfl
  have KY_1 := KY.c 1 _ rfl
  go_wp2_with fail
  clear hs
  clear KX_0 KX_1 KY_0 KY_1
  refine wp_region_noPanic ?_
  have hb : Below w3.heap.size w3 w3.drew := (Below.refl _ _).drew
  replace KX := KX.on hb
  replace KY := KY.on hb
  replace Xn := Xn.on hb
  replace Yn := Yn.on hb
  replace RR := RR.on hb
  replace BW := BW.trans (hb.mono BW.size)
  clear hb
  refine wp_region_held_drew (S := (fun wx => wx.cell? ⟨w.heap.size, 0, none⟩ = some (.bool n) ∧ wx.cell? ⟨w.heap.size, 1, none⟩ = some (.slice A xs.length c) ∧ wx.cell? ⟨w.heap.size + 1, 0, none⟩ = some (.bool m) ∧ wx.cell? ⟨w.heap.size + 1, 1, none⟩ = some (.slice B ds.length d))) (by kernel_rfl) (by exact KX.a2 KY.b2) (fun hHeld => ?_)
  generalize w3.drew = Vd at *
  refine pT 0 ?_
  (try simp only [p0, p1, p2, p3])
  refine pT 2 ?_
  (try simp only [p0, p1, p2, p3])
  refine pR1 1 (fun K hK => ?_)
  go_simp
  (go_at_call 105; with_reducible refine (from_n Xn).mono ?_)
  rintro _ wc0 ⟨un, uA, uz, uk, rfl, Nu, hb⟩
  (try go_wp2_with fail)
  replace KX := KX.on hb
  replace KY := KY.on hb
  replace Yn := Yn.on hb
  replace RR := RR.on hb
  replace BW := BW.trans (hb.mono BW.size)
  clear hb
  refine hK.out _ _ (by exact KX.a2 KY.b2) (fun hHeld => ?_)
  clear hK
  (try simp only [p0, p1, p2, p3])
  refine pR1 3 (fun K hK => ?_)
  go_simp
  (go_at_call 105; with_reducible refine (from_n Yn).mono ?_)
  rintro _ wc1 ⟨vn, vA, vz, vk, rfl, Nv, hb⟩
  (try go_wp2_with fail)
  replace KX := KX.on hb
  replace KY := KY.on hb
  replace Nu := Nu.on hb
  replace RR := RR.on hb
  replace BW := BW.trans (hb.mono BW.size)
  clear hb
  refine hK.out _ _ (by exact KX.a2 KY.b2) (fun hHeld => ?_)
  clear hK
  (try simp only [p0, p1, p2, p3])
  refine pR1 4 (fun K hK => ?_)
  go_simp
  (go_at_call 126; with_reducible refine (ratio_any X Y _ _ _ _ _ _ _ _ 1024 _ Nu Nv hY (by decide)).mono ?_)
  rintro _ wc2 ⟨sn, sA, sz, sk, sB, sd, sl, rfl, Ls, hb⟩
  (try go_wp2_with fail)
  replace KX := KX.on hb
  replace KY := KY.on hb
  replace RR := RR.on hb
  replace BW := BW.trans (hb.mono BW.size)
  clear hb
  refine hK.out _ _ (by exact KX.a2 KY.b2) (fun hHeld => ?_)
  clear hK
  (try simp only [p0, p1, p2, p3])
  refine pR1 5 (fun K hK => ?_)
  go_simp
  (go_at_call 57; with_reducible refine (ffit_any _ _ _ _ _ _ _ _ _ _ Ls (by decide)).mono ?_)
  rintro _ wc3 ⟨tn, tA, tz, tk, tm, tB, td, tl, er, rfl, Ht, hb⟩
  (try go_wp2_with fail)
  have Rt := Rk.ofTold (bad := Y = 0) hY Ht
  clear Ht
  replace KX := KX.on hb
  replace KY := KY.on hb
  replace RR := RR.on hb
  replace BW := BW.trans (hb.mono BW.size)
  clear hb
  refine hK.out _ _ (by exact KX.a2 KY.b2) (fun hHeld => ?_)
  clear hK
  (try simp only [p0, p1, p2, p3])
  refine pT 6 ?_
  (try simp only [p0, p1, p2, p3])
  refine pT 7 ?_
  (try simp only [p0, p1, p2, p3])
  have y0 := RR.r0
  have y1 := RR.r1
  have y2 := RR.r2
  have y3 := RR.r3
  have y4 := RR.f0
  have y5 := RR.f1
  have y6 := RR.f2
  have y7 := RR.f3
  refine pR1 8 (fun K hK => ?_)
  go_simp
  replace KX := KX.far4 (g := w.heap.size + 1 + 1) (by omega) (.bool tn) (.slice tA tz.length tk) (.bool tm) (.slice tB td.length tl)
  replace KY := KY.far4 (g := w.heap.size + 1 + 1) (by omega) (.bool tn) (.slice tA tz.length tk) (.bool tm) (.slice tB td.length tl)
  replace Rt := Rt.put4 RR (.bool tn) (.slice tA tz.length tk) (.bool tm) (.slice tB td.length tl)
  replace BW := Below.putq BW (r := w.heap.size + 1 + 1) (by omega) (.bool tn) (.slice tA tz.length tk) (.bool tm) (.slice tB td.length tl)
  have KR := Box.laidQ RR (.bool tn) (.slice tA tz.length tk) (.bool tm) (.slice tB td.length tl)
  clear RR y0 y1 y2 y3 y4 y5 y6 y7
  generalize ((((wc3.setCell ⟨w.heap.size + 1 + 1, 0, none⟩ (.bool tn)).setCell ⟨w.heap.size + 1 + 1, 1, none⟩ (.slice tA tz.length tk)).setCell ⟨w.heap.size + 1 + 1, 2, none⟩ (.bool tm)).setCell ⟨w.heap.size + 1 + 1, 3, none⟩ (.slice tB td.length tl)) = ws at *
  refine hK.out _ _ (by exact KX.a2 KY.b2) (fun hHeld => ?_)
  clear hK
  (try simp only [p0, p1, p2, p3])
  refine pT 9 ?_
  (try simp only [p0, p1, p2, p3])
  refine wpAnyH_done (by kernel_rfl) (NoPanic.normal ?_) _
  have y0 := KR.c 0 _ rfl
  have y1 := KR.c 1 _ rfl
  have y2 := KR.c 2 _ rfl
  have y3 := KR.c 3 _ rfl
  go_wp2
  exact bodyPost_ret (v := .tuple #[frq tn tA tz.length tk tm tB td.length tl, .int .i64 er]) (by simp [results, Tryz.results58, go_sem, y0, y1, y2, y3]) rfl ⟨_, _, _, _, _, _, _, _, _, rfl, Rt, BW⟩
theorem of_nl (n : Int) (w : World) (h0 : -9223372036854775808 ≤ n) (h1 : n ≤ 9223372036854775807) :
  Calls Tryz.prog 45 #[.int .i64 n] w (GivesL32 w n) := by
 refine (of_fix n (decide (n < 0)) w h0 h1 rfl).mono ?_
 rintro e w' ⟨A, c, xs, rfl, hl, hv, _, hb⟩
 exact ⟨_, A, xs, c, rfl, ⟨hl, hv⟩, hb⟩
set_option maxHeartbeats 8000000 in
set_option maxRecDepth 20000 in
theorem frac_of (X Y : Int) (w : World) (h0 : -9223372036854775808 ≤ X) (h1 : X ≤ 9223372036854775807) (k0 : -9223372036854775808 ≤ Y) (k1 : Y ≤ 9223372036854775807) :
  Calls Tryz.prog 14 #[.int .i64 X, .int .i64 Y] w (ReckF w (Y = 0) (Rat.divInt X Y)) := by
 have H1 := Lib.hid (fun W => of_nl X W h0 h1)
 have H2 := Lib.hid (fun W => of_nl Y W k0 k1)
 clear h0 h1 k0 k1
 have RR := RestQ.new w 26
 have BW : Below w.heap.size w (w.alloc (.cells #[.bool false, .slice none 0 0, .bool false, .slice none 0 0] 26)) := by go_grown
 go_enter Tryz.func14, Tryz.ntmps14
 go_wp2_with fail
 generalize (w.alloc (.cells #[.bool false, .slice none 0 0, .bool false, .slice none 0 0] 26)) = V at *
 refine (H1.out V).mono ?_
 rintro _ w1 ⟨un, uA, uz, uk, rfl, Nu, hb⟩
 replace RR := RR.on hb
 replace BW := BW.trans (hb.mono BW.size)
 clear hb
 go_wp2_with fail
 refine (H2.out w1).mono ?_
 rintro _ w2 ⟨vn, vA, vz, vk, rfl, Nv, hb⟩
 replace Nu := Nu.on hb
 replace RR := RR.on hb
 replace BW := BW.trans (hb.mono BW.size)
 clear hb
 go_wp2_with fail
 refine (frac_make X Y _ _ _ _ _ _ _ _ w2 Nu Nv).mono ?_
 rintro _ w9 ⟨tn, tA, tz, tk, tm, tB, td, tl, er, rfl, Rt, hb⟩
 replace RR := RR.on hb
 replace BW := BW.trans (hb.mono BW.size)
 clear hb
 have y0 := RR.r0
 have y1 := RR.r1
 have y2 := RR.r2
 have y3 := RR.r3
 have y4 := RR.f0
 have y5 := RR.f1
 have y6 := RR.f2
 have y7 := RR.f3
 have HL := Lib.hid (And.intro (Rt.put4 RR (.bool tn) (.slice tA tz.length tk) (.bool tm) (.slice tB td.length tl)) (Below.putq BW (r := w.heap.size) (by omega) (.bool tn) (.slice tA tz.length tk) (.bool tm) (.slice tB td.length tl)))
 clear Nu Nv Rt BW RR H1 H2
 go_wp2
 exact bodyPost_ret (v := .tuple #[frq tn tA tz.length tk tm tB td.length tl, .int .i64 er]) (by simp [results, Tryz.results14, go_sem, y0, y1, y2, y3]) rfl ⟨_, _, _, _, _, _, _, _, _, rfl, HL.out.1, HL.out.2⟩
end Go.Proofs.YtplgheabhekedaaGreatDoor
/-! ### Frh -/
namespace Go.Proofs.YtplgheabhekedaaGreatDoor
open Go.RowKit Nb
theorem fits_of' {Z : Int} (hz : Z.natAbs < 2 ^ 100) (k : Nat) (hk : 4 ≤ k) : Z.natAbs < W32 ^ k := by
 have h4 : (2 : Nat) ^ 100 ≤ W32 ^ 4 := by decide
 exact Nat.lt_of_lt_of_le (Nat.lt_of_lt_of_le hz h4) (Nat.pow_le_pow_right (by decide) hk)
theorem fits_low {Z : Int} (hz : Z.natAbs < 2 ^ 100) : Fits Z := fits_of' hz 2048 (by omega)
theorem t2 : (⟨((if false then [45] else []) ++ Lib.decDigits 2).toArray⟩ : ByteArray) = ⟨#[50]⟩ := by decide +kernel
theorem wtext_n {Z : Int} {n : Bool} {A : Option Addr} {ls : List Nat} {c : Nat} {w : World} (h : Nl w Z n A ls c) (hz : Z ≠ 0) (htab : Tab w) (s : ByteArray) (hs : (⟨((if n then [45] else []) ++ Lib.decDigits Z.natAbs).toArray⟩ : ByteArray) = s) :
  Calls Tryz.prog 152 #[big n A ls.length c] w fun e w' => e = .returned (.tuple #[.string s, .int .i64 0]) ∧ Below w.heap.size w w' := by
 have hp : 0 < ls.length := by
  rcases Nat.eq_zero_or_pos ls.length with h0 | h0
  ·exfalso
   have : ls = [] := List.length_eq_zero_iff.1 h0
   subst this
   apply hz
   rw [← h.v]
   cases n <;> rfl
  ·exact h0
 have := wtext_pos n A ls c w h.lm.sl h.lm.dig h.lm.ok hp htab
 rwa [show val W32 ls = Z.natAbs by rw [← h.v, sv_abs], hs] at this
end Go.Proofs.YtplgheabhekedaaGreatDoor
namespace Go.Proofs.YtplgheabhekedaaGreatDoor
open Go.RowKit Nb
set_option maxHeartbeats 8000000 in
set_option maxRecDepth 20000 in
theorem freck_any (N : Nat) (hN : ∀ (av : Array Value) (v : World), (callFunc N av).run Tryz.prog v = .ok (.enter N av) v) (r q p : Rat) (Z : Prop)
  (hdo : ∀ (n n' : Bool) (A B A' B' : Option Addr) (xs ds ys es : List Nat) (c d c' d' : Nat) (w : World), Lq w q n A xs c B ds d 1024 → Lq w p n' A' ys c' B' es d' 1024 → Calls Tryz.prog N #[frq n A xs.length c false B ds.length d, frq n' A' ys.length c' false B' es.length d'] w (DidQ w r 2052 Z))
  (n n' : Bool) (A B A' B' : Option Addr) (xs ds ys es : List Nat) (c d c' d' : Nat) (w : World) (h : Lf w q n A xs c B ds d) (k : Lf w p n' A' ys c' B' es d') :
  Calls Tryz.prog 59 #[frq n A xs.length c false B ds.length d, frq n' A' ys.length c' false B' es.length d', .func (.func N) #[] #[]] w (ReckF w Z r) := by
 have HN := Lib.hid hN
 have HD := Lib.hid hdo
 clear hN hdo
 obtain ⟨V, hV, BW, hz, RR, ⟨c0, c1, c2, c3⟩, ⟨e0, e1, e2, e3⟩⟩ := box_two w n A xs.length c false B ds.length d n' A' ys.length c' false B' es.length d' 26 26 26
 have KX := Box.of4 (by omega) c0 c1 c2 c3
 have KY := Box.of4 (by omega) e0 e1 e2 e3
 have LX := h.on BW
 have LY := k.on BW
 clear h k c0 c1 c2 c3 e0 e1 e2 e3
 have hb : Below V.heap.size V (V.alloc (.cells #[.bool n, .slice A xs.length c, .bool false, .slice B ds.length d, .bool n', .slice A' ys.length c', .bool false, .slice B' es.length d'] 26)) := by go_grown
 have KB := Box.new V [.bool n, .slice A xs.length c, .bool false, .slice B ds.length d, .bool n', .slice A' ys.length c', .bool false, .slice B' es.length d'] 26
 replace KX := KX.on hb
 replace KY := KY.on hb
 replace LX := LX.on hb
 replace LY := LY.on hb
 replace RR := RR.on hb
 replace BW := BW.trans (hb.mono BW.size)
 clear hb
 rw [hz] at KB
 clear hz
 go_enter Tryz.func59, Tryz.ntmps59
 go_wp2_with fail
 rw [← hV]
 clear hV
 generalize (V.alloc (.cells #[.bool n, .slice A xs.length c, .bool false, .slice B ds.length d, .bool n', .slice A' ys.length c', .bool false, .slice B' es.length d'] 26)) = VB at *
 refine (fcheck_two (w.heap.size + 1 + 1 + 1) n false n' false A B A' B' xs ds ys es 2 c d c' d' VB LX.rq LY.rq KB.lt (KB.c 0 _ rfl) (KB.c 1 _ rfl) (KB.c 2 _ rfl) (KB.c 3 _ rfl) (KB.c 4 _ rfl) (KB.c 5 _ rfl) (KB.c 6 _ rfl) (KB.c 7 _ rfl)).mono ?_
 rw [chkF_ok LX.okf, chkF_ok LY.okf]
 rintro _ w1 ⟨rfl, hb⟩
 clear KB
 replace KX := KX.on hb
 replace KY := KY.on hb
 replace LX := LX.on hb
 replace LY := LY.on hb
 replace RR := RR.on hb
 replace BW := BW.trans (hb.mono BW.size)
 clear hb
 have KX_0 := KX.c 0 _ rfl
 have KX_1 := KX.c 1 _ rfl
 have KX_2 := KX.c 2 _ rfl
 have KX_3 := KX.c 3 _ rfl
 have KY_0 := KY.c 0 _ rfl
 have KY_1 := KY.c 1 _ rfl
 have KY_2 := KY.c 2 _ rfl
 have KY_3 := KY.c 3 _ rfl
 rw [if_pos rfl]
 go_wp2_with fail
 clear KX_0 KX_1 KX_2 KX_3 KY_0 KY_1 KY_2 KY_3
 go_cut [9, 10] (fun s9 s10 wx => ∃ (pS : Nat) (sn : Bool) (sA : Option Addr) (sz : List Nat) (sk : Nat) (sm : Bool) (sB : Option Addr) (sd : List Nat) (sl : Nat) (er : Int), s9 = .pointer (some ⟨pS, 0, none⟩) ∧ s10 = .int .i64 er ∧ Below w.heap.size w wx ∧ Box wx pS [.bool sn, .slice sA sz.length sk, .bool sm, .slice sB sd.length sl] ∧ RestQ wx (w.heap.size + 1 + 1) ∧ Dq wx r 2052 Z sn sA sz sk sm sB sd sl er)
 case first =>
  refine wp_region_noPanic ?_
  have hb : Below w1.heap.size w1 w1.drew := (Below.refl _ _).drew
  replace KX := KX.on hb
  replace KY := KY.on hb
  replace LX := LX.on hb
  replace LY := LY.on hb
  replace RR := RR.on hb
  replace BW := BW.trans (hb.mono BW.size)
  clear hb
  refine wp_region_held_drew (S := (fun wx => wx.cell? ⟨w.heap.size, 0, none⟩ = some (.bool n) ∧ wx.cell? ⟨w.heap.size, 1, none⟩ = some (.slice A xs.length c) ∧ wx.cell? ⟨w.heap.size, 2, none⟩ = some (.bool false) ∧ wx.cell? ⟨w.heap.size, 3, none⟩ = some (.slice B ds.length d) ∧ wx.cell? ⟨w.heap.size + 1, 0, none⟩ = some (.bool n') ∧ wx.cell? ⟨w.heap.size + 1, 1, none⟩ = some (.slice A' ys.length c') ∧ wx.cell? ⟨w.heap.size + 1, 2, none⟩ = some (.bool false) ∧ wx.cell? ⟨w.heap.size + 1, 3, none⟩ = some (.slice B' es.length d'))) (by kernel_rfl) (by exact KX.a4 KY.b4) (fun hHeld => ?_)
  generalize w1.drew = Vd at *
  refine pT 0 ?_
  (try simp only [p0, p1, p2, p3])
  refine pT 1 ?_
  (try simp only [p0, p1, p2, p3])
  refine pT 3 ?_
  (try simp only [p0, p1, p2, p3])
  refine pR2 2 9 (fun K hK => ?_) (fun K hK => ?_)
  ·go_simp
   (go_at_call 50; with_reducible refine (ffrom_any q _ _ _ _ _ _ _ _ LX).mono ?_)
   rintro _ wc0 ⟨un, uA, uz, uk, uB, ud, ul, rfl, Lu, hb⟩
   (try go_wp2_with fail)
   replace KX := KX.on hb
   replace KY := KY.on hb
   replace LX := LX.on hb
   replace LY := LY.on hb
   replace RR := RR.on hb
   replace BW := BW.trans (hb.mono BW.size)
   clear hb
   refine hK.out _ _ (by exact KX.a4 KY.b4) (fun hHeld => ?_)
   clear hK
   (try simp only [p0, p1, p2, p3])
   refine pR2 4 9 (fun K hK => ?_) (fun K hK => ?_)
   ·go_simp
    (go_at_call 50; with_reducible refine (ffrom_any p _ _ _ _ _ _ _ _ LY).mono ?_)
    rintro _ wc1 ⟨vn, vA, vz, vk, vB, vd, vl, rfl, Lv, hb⟩
    (try go_wp2_with fail)
    replace KX := KX.on hb
    replace KY := KY.on hb
    replace LX := LX.on hb
    replace LY := LY.on hb
    replace Lu := Lu.on hb
    replace RR := RR.on hb
    replace BW := BW.trans (hb.mono BW.size)
    clear hb
    refine hK.out _ _ (by exact KX.a4 KY.b4) (fun hHeld => ?_)
    clear hK
    (try simp only [p0, p1, p2, p3])
    refine pR2 5 9 (fun K hK => ?_) (fun K hK => ?_)
    ·go_simp
     rw [HN.out, Oper.upon_enter]
     with_reducible refine (HD.out _ _ _ _ _ _ _ _ _ _ _ _ _ _ _ Lu Lv).mono ?_
     rintro _ wc2 ⟨sn, sA, sz, sk, sm, sB, sd, sl, er, rfl, Ds, hb⟩
     (try go_wp2_with fail)
     replace KX := KX.on hb
     replace KY := KY.on hb
     replace LX := LX.on hb
     replace LY := LY.on hb
     replace Lu := Lu.on hb
     replace Lv := Lv.on hb
     replace RR := RR.on hb
     replace BW := BW.trans (hb.mono BW.size)
     clear hb
     refine hK.out _ _ (by exact KX.a4 KY.b4) (fun hHeld => ?_)
     clear hK
     (try simp only [p0, p1, p2, p3])
     refine pT 6 ?_
     (try simp only [p0, p1, p2, p3])
     refine pT 7 ?_
     (try simp only [p0, p1, p2, p3])
     refine pT 8 ?_
     (try simp only [p0, p1, p2, p3])
     refine pR1 9 (fun K hK => ?_)
     go_simp
     have hb : Below wc2.heap.size wc2 (wc2.alloc (.cells #[.bool false, .slice none 0 0, .bool false, .slice none 0 0] 87)) := Below.alloc (Below.refl _ _) (Nat.le_refl _) _
     have RS : RestQ (wc2.alloc (.cells #[.bool false, .slice none 0 0, .bool false, .slice none 0 0] 87)) wc2.heap.size := RestQ.new wc2 _
     have gS : w.heap.size ≤ wc2.heap.size := BW.size
     have nSKX : w.heap.size ≠ wc2.heap.size := Nat.ne_of_lt KX.lt
     have nSKY : w.heap.size + 1 ≠ wc2.heap.size := Nat.ne_of_lt KY.lt
     have nSRR : w.heap.size + 1 + 1 ≠ wc2.heap.size := Nat.ne_of_lt RR.lr
     replace KX := KX.on hb
     replace KY := KY.on hb
     replace LX := LX.on hb
     replace LY := LY.on hb
     replace Lu := Lu.on hb
     replace Lv := Lv.on hb
     replace Ds := Ds.on hb
     replace RR := RR.on hb
     replace BW := BW.trans (hb.mono BW.size)
     clear hb
     generalize wc2.heap.size = pS at *
     generalize (wc2.alloc (.cells #[.bool false, .slice none 0 0, .bool false, .slice none 0 0] 87)) = wzS3 at *
     refine hK.out _ _ (by exact KX.a4 KY.b4) (fun hHeld => ?_)
     clear hK
     (try simp only [p0, p1, p2, p3])
     have a0 := RS.r0
     have a1 := RS.r1
     have a2 := RS.r2
     have a3 := RS.r3
     have b0 := RS.f0
     have b1 := RS.f1
     have b2 := RS.f2
     have b3 := RS.f3
     refine pR1 10 (fun K hK => ?_)
     go_simp
     replace KX := KX.far4 (g := pS) nSKX (.bool sn) (.slice sA sz.length sk) (.bool sm) (.slice sB sd.length sl)
     replace KY := KY.far4 (g := pS) nSKY (.bool sn) (.slice sA sz.length sk) (.bool sm) (.slice sB sd.length sl)
     replace RR := (((RR.far (g := pS) nSRR 0 (.bool sn)).far (g := pS) nSRR 1 (.slice sA sz.length sk)).far (g := pS) nSRR 2 (.bool sm)).far (g := pS) nSRR 3 (.slice sB sd.length sl)
     replace Ds := Ds.put4 RS (.bool sn) (.slice sA sz.length sk) (.bool sm) (.slice sB sd.length sl)
     have KS := Box.laidQ RS (.bool sn) (.slice sA sz.length sk) (.bool sm) (.slice sB sd.length sl)
     replace BW := Below.putq BW (r := pS) gS (.bool sn) (.slice sA sz.length sk) (.bool sm) (.slice sB sd.length sl)
     clear RS LX LY Lu Lv a0 b0 a1 b1 a2 b2 a3 b3
     generalize ((((wzS3.setCell ⟨pS, 0, none⟩ (.bool sn)).setCell ⟨pS, 1, none⟩ (.slice sA sz.length sk)).setCell ⟨pS, 2, none⟩ (.bool sm)).setCell ⟨pS, 3, none⟩ (.slice sB sd.length sl)) = ws at *
     refine hK.out _ _ (by exact KX.a4 KY.b4) (fun hHeld => ?_)
     clear hK
     (try simp only [p0, p1, p2, p3])
     refine pT 11 ?_
     (try simp only [p0, p1, p2, p3])
     refine wpAnyH_done (by kernel_rfl) (NoPanic.normal ?_) _
     go_wp2
     go_meet
     exact ⟨pS, sn, sA, sz, sk, sm, sB, sd, sl, er, rfl, rfl, BW, KS, RR, Ds⟩
    ·go_simp
     have hb : Below wc1.heap.size wc1 (wc1.alloc (.cells #[.bool false, .slice none 0 0, .bool false, .slice none 0 0] 87)) := Below.alloc (Below.refl _ _) (Nat.le_refl _) _
     have RS : RestQ (wc1.alloc (.cells #[.bool false, .slice none 0 0, .bool false, .slice none 0 0] 87)) wc1.heap.size := RestQ.new wc1 _
     have gS : w.heap.size ≤ wc1.heap.size := BW.size
     have nSKX : w.heap.size ≠ wc1.heap.size := Nat.ne_of_lt KX.lt
     have nSKY : w.heap.size + 1 ≠ wc1.heap.size := Nat.ne_of_lt KY.lt
     have nSRR : w.heap.size + 1 + 1 ≠ wc1.heap.size := Nat.ne_of_lt RR.lr
     replace KX := KX.on hb
     replace KY := KY.on hb
     replace LX := LX.on hb
     replace LY := LY.on hb
     replace Lu := Lu.on hb
     replace Lv := Lv.on hb
     replace RR := RR.on hb
     replace BW := BW.trans (hb.mono BW.size)
     clear hb
     generalize wc1.heap.size = pS at *
     generalize (wc1.alloc (.cells #[.bool false, .slice none 0 0, .bool false, .slice none 0 0] 87)) = wzS2 at *
     refine hK.out _ _ (by exact KX.a4 KY.b4) (fun hHeld => ?_)
     clear hK
     (try simp only [p0, p1, p2, p3])
     refine pR1 5 (fun K hK => ?_)
     go_simp
     rw [HN.out, Oper.upon_enter]
     with_reducible refine (HD.out _ _ _ _ _ _ _ _ _ _ _ _ _ _ _ Lu Lv).mono ?_
     rintro _ wc29 ⟨sn, sA, sz, sk, sm, sB, sd, sl, er, rfl, Ds, hb⟩
     (try go_wp2_with fail)
     replace KX := KX.on hb
     replace KY := KY.on hb
     replace LX := LX.on hb
     replace LY := LY.on hb
     replace Lu := Lu.on hb
     replace Lv := Lv.on hb
     replace RR := RR.on hb
     replace RS := RS.on hb
     replace BW := BW.trans (hb.mono BW.size)
     clear hb
     refine hK.out _ _ (by exact KX.a4 KY.b4) (fun hHeld => ?_)
     clear hK
     (try simp only [p0, p1, p2, p3])
     refine pT 6 ?_
     (try simp only [p0, p1, p2, p3])
     refine pT 7 ?_
     (try simp only [p0, p1, p2, p3])
     refine pT 8 ?_
     (try simp only [p0, p1, p2, p3])
     have a0 := RS.r0
     have a1 := RS.r1
     have a2 := RS.r2
     have a3 := RS.r3
     have b0 := RS.f0
     have b1 := RS.f1
     have b2 := RS.f2
     have b3 := RS.f3
     refine pR1 10 (fun K hK => ?_)
     go_simp
     replace KX := KX.far4 (g := pS) nSKX (.bool sn) (.slice sA sz.length sk) (.bool sm) (.slice sB sd.length sl)
     replace KY := KY.far4 (g := pS) nSKY (.bool sn) (.slice sA sz.length sk) (.bool sm) (.slice sB sd.length sl)
     replace RR := (((RR.far (g := pS) nSRR 0 (.bool sn)).far (g := pS) nSRR 1 (.slice sA sz.length sk)).far (g := pS) nSRR 2 (.bool sm)).far (g := pS) nSRR 3 (.slice sB sd.length sl)
     replace Ds := Ds.put4 RS (.bool sn) (.slice sA sz.length sk) (.bool sm) (.slice sB sd.length sl)
     have KS := Box.laidQ RS (.bool sn) (.slice sA sz.length sk) (.bool sm) (.slice sB sd.length sl)
     replace BW := Below.putq BW (r := pS) gS (.bool sn) (.slice sA sz.length sk) (.bool sm) (.slice sB sd.length sl)
     clear RS LX LY Lu Lv a0 b0 a1 b1 a2 b2 a3 b3
     generalize ((((wc29.setCell ⟨pS, 0, none⟩ (.bool sn)).setCell ⟨pS, 1, none⟩ (.slice sA sz.length sk)).setCell ⟨pS, 2, none⟩ (.bool sm)).setCell ⟨pS, 3, none⟩ (.slice sB sd.length sl)) = ws at *
     refine hK.out _ _ (by exact KX.a4 KY.b4) (fun hHeld => ?_)
     clear hK
     (try simp only [p0, p1, p2, p3])
     refine pT 11 ?_
     (try simp only [p0, p1, p2, p3])
     refine wpAnyH_done (by kernel_rfl) (NoPanic.normal ?_) _
     go_wp2
     go_meet
     exact ⟨pS, sn, sA, sz, sk, sm, sB, sd, sl, er, rfl, rfl, BW, KS, RR, Ds⟩
   ·go_simp
    have hb : Below wc0.heap.size wc0 (wc0.alloc (.cells #[.bool false, .slice none 0 0, .bool false, .slice none 0 0] 87)) := Below.alloc (Below.refl _ _) (Nat.le_refl _) _
    have RS : RestQ (wc0.alloc (.cells #[.bool false, .slice none 0 0, .bool false, .slice none 0 0] 87)) wc0.heap.size := RestQ.new wc0 _
    have gS : w.heap.size ≤ wc0.heap.size := BW.size
    have nSKX : w.heap.size ≠ wc0.heap.size := Nat.ne_of_lt KX.lt
    have nSKY : w.heap.size + 1 ≠ wc0.heap.size := Nat.ne_of_lt KY.lt
    have nSRR : w.heap.size + 1 + 1 ≠ wc0.heap.size := Nat.ne_of_lt RR.lr
    replace KX := KX.on hb
    replace KY := KY.on hb
    replace LX := LX.on hb
    replace LY := LY.on hb
    replace Lu := Lu.on hb
    replace RR := RR.on hb
    replace BW := BW.trans (hb.mono BW.size)
    clear hb
    generalize wc0.heap.size = pS at *
    generalize (wc0.alloc (.cells #[.bool false, .slice none 0 0, .bool false, .slice none 0 0] 87)) = wzS1 at *
    refine hK.out _ _ (by exact KX.a4 KY.b4) (fun hHeld => ?_)
    clear hK
    (try simp only [p0, p1, p2, p3])
    refine pR1 4 (fun K hK => ?_)
    go_simp
    (go_at_call 50; with_reducible refine (ffrom_any p _ _ _ _ _ _ _ _ LY).mono ?_)
    rintro _ wc19 ⟨vn, vA, vz, vk, vB, vd, vl, rfl, Lv, hb⟩
    (try go_wp2_with fail)
    replace KX := KX.on hb
    replace KY := KY.on hb
    replace LX := LX.on hb
    replace LY := LY.on hb
    replace Lu := Lu.on hb
    replace RR := RR.on hb
    replace RS := RS.on hb
    replace BW := BW.trans (hb.mono BW.size)
    clear hb
    refine hK.out _ _ (by exact KX.a4 KY.b4) (fun hHeld => ?_)
    clear hK
    (try simp only [p0, p1, p2, p3])
    refine pR1 5 (fun K hK => ?_)
    go_simp
    rw [HN.out, Oper.upon_enter]
    with_reducible refine (HD.out _ _ _ _ _ _ _ _ _ _ _ _ _ _ _ Lu Lv).mono ?_
    rintro _ wc29 ⟨sn, sA, sz, sk, sm, sB, sd, sl, er, rfl, Ds, hb⟩
    (try go_wp2_with fail)
    replace KX := KX.on hb
    replace KY := KY.on hb
    replace LX := LX.on hb
    replace LY := LY.on hb
    replace Lu := Lu.on hb
    replace Lv := Lv.on hb
    replace RR := RR.on hb
    replace RS := RS.on hb
    replace BW := BW.trans (hb.mono BW.size)
    clear hb
    refine hK.out _ _ (by exact KX.a4 KY.b4) (fun hHeld => ?_)
    clear hK
    (try simp only [p0, p1, p2, p3])
    refine pT 6 ?_
    (try simp only [p0, p1, p2, p3])
    refine pT 7 ?_
    (try simp only [p0, p1, p2, p3])
    refine pT 8 ?_
    (try simp only [p0, p1, p2, p3])
    have a0 := RS.r0
    have a1 := RS.r1
    have a2 := RS.r2
    have a3 := RS.r3
    have b0 := RS.f0
    have b1 := RS.f1
    have b2 := RS.f2
    have b3 := RS.f3
    refine pR1 10 (fun K hK => ?_)
    go_simp
    replace KX := KX.far4 (g := pS) nSKX (.bool sn) (.slice sA sz.length sk) (.bool sm) (.slice sB sd.length sl)
    replace KY := KY.far4 (g := pS) nSKY (.bool sn) (.slice sA sz.length sk) (.bool sm) (.slice sB sd.length sl)
    replace RR := (((RR.far (g := pS) nSRR 0 (.bool sn)).far (g := pS) nSRR 1 (.slice sA sz.length sk)).far (g := pS) nSRR 2 (.bool sm)).far (g := pS) nSRR 3 (.slice sB sd.length sl)
    replace Ds := Ds.put4 RS (.bool sn) (.slice sA sz.length sk) (.bool sm) (.slice sB sd.length sl)
    have KS := Box.laidQ RS (.bool sn) (.slice sA sz.length sk) (.bool sm) (.slice sB sd.length sl)
    replace BW := Below.putq BW (r := pS) gS (.bool sn) (.slice sA sz.length sk) (.bool sm) (.slice sB sd.length sl)
    clear RS LX LY Lu Lv a0 b0 a1 b1 a2 b2 a3 b3
    generalize ((((wc29.setCell ⟨pS, 0, none⟩ (.bool sn)).setCell ⟨pS, 1, none⟩ (.slice sA sz.length sk)).setCell ⟨pS, 2, none⟩ (.bool sm)).setCell ⟨pS, 3, none⟩ (.slice sB sd.length sl)) = ws at *
    refine hK.out _ _ (by exact KX.a4 KY.b4) (fun hHeld => ?_)
    clear hK
    (try simp only [p0, p1, p2, p3])
    refine pT 11 ?_
    (try simp only [p0, p1, p2, p3])
    refine wpAnyH_done (by kernel_rfl) (NoPanic.normal ?_) _
    go_wp2
    go_meet
    exact ⟨pS, sn, sA, sz, sk, sm, sB, sd, sl, er, rfl, rfl, BW, KS, RR, Ds⟩
  ·go_simp
   have hb : Below Vd.heap.size Vd (Vd.alloc (.cells #[.bool false, .slice none 0 0, .bool false, .slice none 0 0] 87)) := Below.alloc (Below.refl _ _) (Nat.le_refl _) _
   have RS : RestQ (Vd.alloc (.cells #[.bool false, .slice none 0 0, .bool false, .slice none 0 0] 87)) Vd.heap.size := RestQ.new Vd _
   have gS : w.heap.size ≤ Vd.heap.size := BW.size
   have nSKX : w.heap.size ≠ Vd.heap.size := Nat.ne_of_lt KX.lt
   have nSKY : w.heap.size + 1 ≠ Vd.heap.size := Nat.ne_of_lt KY.lt
   have nSRR : w.heap.size + 1 + 1 ≠ Vd.heap.size := Nat.ne_of_lt RR.lr
   replace KX := KX.on hb
   replace KY := KY.on hb
   replace LX := LX.on hb
   replace LY := LY.on hb
   replace RR := RR.on hb
   replace BW := BW.trans (hb.mono BW.size)
   clear hb
   generalize Vd.heap.size = pS at *
   generalize (Vd.alloc (.cells #[.bool false, .slice none 0 0, .bool false, .slice none 0 0] 87)) = wzS0 at *
   refine hK.out _ _ (by exact KX.a4 KY.b4) (fun hHeld => ?_)
   clear hK
   (try simp only [p0, p1, p2, p3])
   refine pR1 2 (fun K hK => ?_)
   go_simp
   (go_at_call 50; with_reducible refine (ffrom_any q _ _ _ _ _ _ _ _ LX).mono ?_)
   rintro _ wc09 ⟨un, uA, uz, uk, uB, ud, ul, rfl, Lu, hb⟩
   (try go_wp2_with fail)
   replace KX := KX.on hb
   replace KY := KY.on hb
   replace LX := LX.on hb
   replace LY := LY.on hb
   replace RR := RR.on hb
   replace RS := RS.on hb
   replace BW := BW.trans (hb.mono BW.size)
   clear hb
   refine hK.out _ _ (by exact KX.a4 KY.b4) (fun hHeld => ?_)
   clear hK
   (try simp only [p0, p1, p2, p3])
   refine pR1 4 (fun K hK => ?_)
   go_simp
   (go_at_call 50; with_reducible refine (ffrom_any p _ _ _ _ _ _ _ _ LY).mono ?_)
   rintro _ wc19 ⟨vn, vA, vz, vk, vB, vd, vl, rfl, Lv, hb⟩
   (try go_wp2_with fail)
   replace KX := KX.on hb
   replace KY := KY.on hb
   replace LX := LX.on hb
   replace LY := LY.on hb
   replace Lu := Lu.on hb
   replace RR := RR.on hb
   replace RS := RS.on hb
   replace BW := BW.trans (hb.mono BW.size)
   clear hb
   refine hK.out _ _ (by exact KX.a4 KY.b4) (fun hHeld => ?_)
   clear hK
   (try simp only [p0, p1, p2, p3])
   refine pR1 5 (fun K hK => ?_)
   go_simp
   rw [HN.out, Oper.upon_enter]
   with_reducible refine (HD.out _ _ _ _ _ _ _ _ _ _ _ _ _ _ _ Lu Lv).mono ?_
   rintro _ wc29 ⟨sn, sA, sz, sk, sm, sB, sd, sl, er, rfl, Ds, hb⟩
   (try go_wp2_with fail)
   replace KX := KX.on hb
   replace KY := KY.on hb
   replace LX := LX.on hb
   replace LY := LY.on hb
   replace Lu := Lu.on hb
   replace Lv := Lv.on hb
   replace RR := RR.on hb
   replace RS := RS.on hb
   replace BW := BW.trans (hb.mono BW.size)
   clear hb
   refine hK.out _ _ (by exact KX.a4 KY.b4) (fun hHeld => ?_)
   clear hK
   (try simp only [p0, p1, p2, p3])
   refine pT 6 ?_
   (try simp only [p0, p1, p2, p3])
   refine pT 7 ?_
   (try simp only [p0, p1, p2, p3])
   refine pT 8 ?_
   (try simp only [p0, p1, p2, p3])
   have a0 := RS.r0
   have a1 := RS.r1
   have a2 := RS.r2
   have a3 := RS.r3
   have b0 := RS.f0
   have b1 := RS.f1
   have b2 := RS.f2
   have b3 := RS.f3
   refine pR1 10 (fun K hK => ?_)
   go_simp
   replace KX := KX.far4 (g := pS) nSKX (.bool sn) (.slice sA sz.length sk) (.bool sm) (.slice sB sd.length sl)
   replace KY := KY.far4 (g := pS) nSKY (.bool sn) (.slice sA sz.length sk) (.bool sm) (.slice sB sd.length sl)
   replace RR := (((RR.far (g := pS) nSRR 0 (.bool sn)).far (g := pS) nSRR 1 (.slice sA sz.length sk)).far (g := pS) nSRR 2 (.bool sm)).far (g := pS) nSRR 3 (.slice sB sd.length sl)
   replace Ds := Ds.put4 RS (.bool sn) (.slice sA sz.length sk) (.bool sm) (.slice sB sd.length sl)
   have KS := Box.laidQ RS (.bool sn) (.slice sA sz.length sk) (.bool sm) (.slice sB sd.length sl)
   replace BW := Below.putq BW (r := pS) gS (.bool sn) (.slice sA sz.length sk) (.bool sm) (.slice sB sd.length sl)
   clear RS LX LY Lu Lv a0 b0 a1 b1 a2 b2 a3 b3
   generalize ((((wc29.setCell ⟨pS, 0, none⟩ (.bool sn)).setCell ⟨pS, 1, none⟩ (.slice sA sz.length sk)).setCell ⟨pS, 2, none⟩ (.bool sm)).setCell ⟨pS, 3, none⟩ (.slice sB sd.length sl)) = ws at *
   refine hK.out _ _ (by exact KX.a4 KY.b4) (fun hHeld => ?_)
   clear hK
   (try simp only [p0, p1, p2, p3])
   refine pT 11 ?_
   (try simp only [p0, p1, p2, p3])
   refine wpAnyH_done (by kernel_rfl) (NoPanic.normal ?_) _
   go_wp2
   go_meet
   exact ⟨pS, sn, sA, sz, sk, sm, sB, sd, sl, er, rfl, rfl, BW, KS, RR, Ds⟩
 case rest =>
  obtain ⟨pS, sn, sA, sz, sk, sm, sB, sd, sl, er, rfl, rfl, BW, KS, RR, Ds⟩ := hcut
  rcases Ds with ⟨hnb, rfl, rfl, Ls⟩ | ⟨hbad, rfl⟩
  ·have KS_0 := KS.c 0 _ rfl
   have KS_1 := KS.c 1 _ rfl
   have KS_2 := KS.c 2 _ rfl
   have KS_3 := KS.c 3 _ rfl
   go_wp2_with fail
   clear KS_0 KS_1 KS_2 KS_3
   refine (ffit_any _ _ _ _ _ _ _ _ _ _ Ls (by decide)).mono ?_
   rintro e w9 hT
   obtain ⟨tn, tA, tz, tk, tm, tB, td, tl, er, rfl, Rt, hb⟩ := ToldQ.rk hnb hT
   clear hT
   replace RR := RR.on hb
   replace BW := BW.trans (hb.mono BW.size)
   clear hb
   have y0 := RR.r0
   have y1 := RR.r1
   have y2 := RR.r2
   have y3 := RR.r3
   have y4 := RR.f0
   have y5 := RR.f1
   have y6 := RR.f2
   have y7 := RR.f3
   have HL := Lib.hid (And.intro (Rt.put4 RR (.bool tn) (.slice tA tz.length tk) (.bool tm) (.slice tB td.length tl)) (Below.putq BW (r := w.heap.size + 1 + 1) (by omega) (.bool tn) (.slice tA tz.length tk) (.bool tm) (.slice tB td.length tl)))
   clear Ls Rt BW KS RR hnb
   go_wp2
   exact bodyPost_ret (v := .tuple #[frq tn tA tz.length tk tm tB td.length tl, .int .i64 er]) (by simp [results, Tryz.results59, go_sem, y0, y1, y2, y3]) rfl ⟨_, _, _, _, _, _, _, _, _, rfl, HL.out.1, HL.out.2⟩
  ·have y0 := RR.r0
   have y1 := RR.r1
   have y2 := RR.r2
   have y3 := RR.r3
   have y4 := RR.f0
   have y5 := RR.f1
   have y6 := RR.f2
   have y7 := RR.f3
   have HL := Lib.hid (Below.putq BW (r := w.heap.size + 1 + 1) (by omega) (.bool false) (.slice none 0 0) (.bool false) (.slice none 0 0))
   have HB := Lib.hid hbad
   clear BW KS RR hbad
   go_wp2
   exact bodyPost_ret (v := .tuple #[frq false none ([] : List Nat).length 0 false none ([] : List Nat).length 0, .int .i64 3]) (by simp [results, Tryz.results59, go_sem, y0, y1, y2, y3]) rfl ⟨_, _, _, _, _, _, _, _, _, rfl, .inr ⟨.inl ⟨HB.out, rfl⟩, Zq.mk'⟩, HL.out⟩
theorem freck_add (q p : Rat) (n n' : Bool) (A B A' B' : Option Addr) (xs ds ys es : List Nat) (c d c' d' : Nat) (w : World) (h : Lf w q n A xs c B ds d) (k : Lf w p n' A' ys c' B' es d') :
    Calls Tryz.prog 59 #[frq n A xs.length c false B ds.length d, frq n' A' ys.length c' false B' es.length d', .func (.func 64) #[] #[]] w (ReckF w (False) (q + p)) :=
  freck_any _ (fun _ _ => by simp [go_sem]) (q + p) q p (False) (fun _ _ _ _ _ _ _ _ _ _ _ _ _ _ _ h k => fadd1_any q p _ _ _ _ _ _ _ _ _ _ _ _ _ _ 1024 _ h k (by decide)) n n' A B A' B' xs ds ys es c d c' d' w h k
set_option maxHeartbeats 8000000 in
set_option maxRecDepth 20000 in
theorem frac_add (q p : Rat) (n n' : Bool) (A B A' B' : Option Addr) (xs ds ys es : List Nat) (c d c' d' : Nat) (w : World) (h : Lf w q n A xs c B ds d) (k : Lf w p n' A' ys c' B' es d') :
  Calls Tryz.prog 17 #[frq n A xs.length c false B ds.length d, frq n' A' ys.length c' false B' es.length d'] w (ReckF w (False) (q + p)) := by
 obtain ⟨V, hV, BW, hz, RR, ⟨c0, c1, c2, c3⟩, ⟨e0, e1, e2, e3⟩⟩ := box_two w n A xs.length c false B ds.length d n' A' ys.length c' false B' es.length d' 26 26 26
 have KX := Box.of4 (by omega) c0 c1 c2 c3
 have KY := Box.of4 (by omega) e0 e1 e2 e3
 have LX := h.on BW
 have LY := k.on BW
 clear h k c0 c1 c2 c3 e0 e1 e2 e3 hz
 have KX_0 := KX.c 0 _ rfl
 have KX_1 := KX.c 1 _ rfl
 have KX_2 := KX.c 2 _ rfl
 have KX_3 := KX.c 3 _ rfl
 have KY_0 := KY.c 0 _ rfl
 have KY_1 := KY.c 1 _ rfl
 have KY_2 := KY.c 2 _ rfl
 have KY_3 := KY.c 3 _ rfl
 go_enter Tryz.func17, Tryz.ntmps17
 go_wp2_with fail
 clear KX_0 KX_1 KX_2 KX_3 KY_0 KY_1 KY_2 KY_3
 rw [← hV]
 clear hV
 refine (freck_add q p _ _ _ _ _ _ _ _ _ _ _ _ _ _ _ LX LY).mono ?_
 rintro _ w9 ⟨tn, tA, tz, tk, tm, tB, td, tl, er, rfl, Rt, hb⟩
 replace KX := KX.on hb
 replace KY := KY.on hb
 replace LX := LX.on hb
 replace LY := LY.on hb
 replace RR := RR.on hb
 replace BW := BW.trans (hb.mono BW.size)
 clear hb
 have y0 := RR.r0
 have y1 := RR.r1
 have y2 := RR.r2
 have y3 := RR.r3
 have y4 := RR.f0
 have y5 := RR.f1
 have y6 := RR.f2
 have y7 := RR.f3
 have HL := Lib.hid (And.intro (Rt.put4 RR (.bool tn) (.slice tA tz.length tk) (.bool tm) (.slice tB td.length tl)) (Below.putq BW (r := w.heap.size + 1 + 1) (by omega) (.bool tn) (.slice tA tz.length tk) (.bool tm) (.slice tB td.length tl)))
 clear LX LY Rt BW KX KY RR
 go_wp2
 exact bodyPost_ret (v := .tuple #[frq tn tA tz.length tk tm tB td.length tl, .int .i64 er]) (by simp [results, Tryz.results17, go_sem, y0, y1, y2, y3]) rfl ⟨_, _, _, _, _, _, _, _, _, rfl, HL.out.1, HL.out.2⟩
theorem freck_sub (q p : Rat) (n n' : Bool) (A B A' B' : Option Addr) (xs ds ys es : List Nat) (c d c' d' : Nat) (w : World) (h : Lf w q n A xs c B ds d) (k : Lf w p n' A' ys c' B' es d') :
    Calls Tryz.prog 59 #[frq n A xs.length c false B ds.length d, frq n' A' ys.length c' false B' es.length d', .func (.func 62) #[] #[]] w (ReckF w (False) (q - p)) :=
  freck_any _ (fun _ _ => by simp [go_sem]) (q - p) q p (False) (fun _ _ _ _ _ _ _ _ _ _ _ _ _ _ _ h k => fsub1_any q p _ _ _ _ _ _ _ _ _ _ _ _ _ _ 1024 _ h k (by decide)) n n' A B A' B' xs ds ys es c d c' d' w h k
set_option maxHeartbeats 8000000 in
set_option maxRecDepth 20000 in
theorem frac_sub (q p : Rat) (n n' : Bool) (A B A' B' : Option Addr) (xs ds ys es : List Nat) (c d c' d' : Nat) (w : World) (h : Lf w q n A xs c B ds d) (k : Lf w p n' A' ys c' B' es d') :
  Calls Tryz.prog 16 #[frq n A xs.length c false B ds.length d, frq n' A' ys.length c' false B' es.length d'] w (ReckF w (False) (q - p)) := by
 obtain ⟨V, hV, BW, hz, RR, ⟨c0, c1, c2, c3⟩, ⟨e0, e1, e2, e3⟩⟩ := box_two w n A xs.length c false B ds.length d n' A' ys.length c' false B' es.length d' 26 26 26
 have KX := Box.of4 (by omega) c0 c1 c2 c3
 have KY := Box.of4 (by omega) e0 e1 e2 e3
 have LX := h.on BW
 have LY := k.on BW
 clear h k c0 c1 c2 c3 e0 e1 e2 e3 hz
 have KX_0 := KX.c 0 _ rfl
 have KX_1 := KX.c 1 _ rfl
 have KX_2 := KX.c 2 _ rfl
 have KX_3 := KX.c 3 _ rfl
 have KY_0 := KY.c 0 _ rfl
 have KY_1 := KY.c 1 _ rfl
 have KY_2 := KY.c 2 _ rfl
 have KY_3 := KY.c 3 _ rfl
 go_enter Tryz.func16, Tryz.ntmps16
 go_wp2_with fail
 clear KX_0 KX_1 KX_2 KX_3 KY_0 KY_1 KY_2 KY_3
 rw [← hV]
 clear hV
 refine (freck_sub q p _ _ _ _ _ _ _ _ _ _ _ _ _ _ _ LX LY).mono ?_
 rintro _ w9 ⟨tn, tA, tz, tk, tm, tB, td, tl, er, rfl, Rt, hb⟩
 replace KX := KX.on hb
 replace KY := KY.on hb
 replace LX := LX.on hb
 replace LY := LY.on hb
 replace RR := RR.on hb
 replace BW := BW.trans (hb.mono BW.size)
 clear hb
 have y0 := RR.r0
 have y1 := RR.r1
 have y2 := RR.r2
 have y3 := RR.r3
 have y4 := RR.f0
 have y5 := RR.f1
 have y6 := RR.f2
 have y7 := RR.f3
 have HL := Lib.hid (And.intro (Rt.put4 RR (.bool tn) (.slice tA tz.length tk) (.bool tm) (.slice tB td.length tl)) (Below.putq BW (r := w.heap.size + 1 + 1) (by omega) (.bool tn) (.slice tA tz.length tk) (.bool tm) (.slice tB td.length tl)))
 clear LX LY Rt BW KX KY RR
 go_wp2
 exact bodyPost_ret (v := .tuple #[frq tn tA tz.length tk tm tB td.length tl, .int .i64 er]) (by simp [results, Tryz.results16, go_sem, y0, y1, y2, y3]) rfl ⟨_, _, _, _, _, _, _, _, _, rfl, HL.out.1, HL.out.2⟩
theorem freck_mul (q p : Rat) (n n' : Bool) (A B A' B' : Option Addr) (xs ds ys es : List Nat) (c d c' d' : Nat) (w : World) (h : Lf w q n A xs c B ds d) (k : Lf w p n' A' ys c' B' es d') :
    Calls Tryz.prog 59 #[frq n A xs.length c false B ds.length d, frq n' A' ys.length c' false B' es.length d', .func (.func 60) #[] #[]] w (ReckF w (False) (q * p)) :=
  freck_any _ (fun _ _ => by simp [go_sem]) (q * p) q p (False) (fun _ _ _ _ _ _ _ _ _ _ _ _ _ _ _ h k => fmul1_any q p _ _ _ _ _ _ _ _ _ _ _ _ _ _ 1024 _ h k (by decide)) n n' A B A' B' xs ds ys es c d c' d' w h k
set_option maxHeartbeats 8000000 in
set_option maxRecDepth 20000 in
theorem frac_mul (q p : Rat) (n n' : Bool) (A B A' B' : Option Addr) (xs ds ys es : List Nat) (c d c' d' : Nat) (w : World) (h : Lf w q n A xs c B ds d) (k : Lf w p n' A' ys c' B' es d') :
  Calls Tryz.prog 15 #[frq n A xs.length c false B ds.length d, frq n' A' ys.length c' false B' es.length d'] w (ReckF w (False) (q * p)) := by
 obtain ⟨V, hV, BW, hz, RR, ⟨c0, c1, c2, c3⟩, ⟨e0, e1, e2, e3⟩⟩ := box_two w n A xs.length c false B ds.length d n' A' ys.length c' false B' es.length d' 26 26 26
 have KX := Box.of4 (by omega) c0 c1 c2 c3
 have KY := Box.of4 (by omega) e0 e1 e2 e3
 have LX := h.on BW
 have LY := k.on BW
 clear h k c0 c1 c2 c3 e0 e1 e2 e3 hz
 have KX_0 := KX.c 0 _ rfl
 have KX_1 := KX.c 1 _ rfl
 have KX_2 := KX.c 2 _ rfl
 have KX_3 := KX.c 3 _ rfl
 have KY_0 := KY.c 0 _ rfl
 have KY_1 := KY.c 1 _ rfl
 have KY_2 := KY.c 2 _ rfl
 have KY_3 := KY.c 3 _ rfl
 go_enter Tryz.func15, Tryz.ntmps15
 go_wp2_with fail
 clear KX_0 KX_1 KX_2 KX_3 KY_0 KY_1 KY_2 KY_3
 rw [← hV]
 clear hV
 refine (freck_mul q p _ _ _ _ _ _ _ _ _ _ _ _ _ _ _ LX LY).mono ?_
 rintro _ w9 ⟨tn, tA, tz, tk, tm, tB, td, tl, er, rfl, Rt, hb⟩
 replace KX := KX.on hb
 replace KY := KY.on hb
 replace LX := LX.on hb
 replace LY := LY.on hb
 replace RR := RR.on hb
 replace BW := BW.trans (hb.mono BW.size)
 clear hb
 have y0 := RR.r0
 have y1 := RR.r1
 have y2 := RR.r2
 have y3 := RR.r3
 have y4 := RR.f0
 have y5 := RR.f1
 have y6 := RR.f2
 have y7 := RR.f3
 have HL := Lib.hid (And.intro (Rt.put4 RR (.bool tn) (.slice tA tz.length tk) (.bool tm) (.slice tB td.length tl)) (Below.putq BW (r := w.heap.size + 1 + 1) (by omega) (.bool tn) (.slice tA tz.length tk) (.bool tm) (.slice tB td.length tl)))
 clear LX LY Rt BW KX KY RR
 go_wp2
 exact bodyPost_ret (v := .tuple #[frq tn tA tz.length tk tm tB td.length tl, .int .i64 er]) (by simp [results, Tryz.results15, go_sem, y0, y1, y2, y3]) rfl ⟨_, _, _, _, _, _, _, _, _, rfl, HL.out.1, HL.out.2⟩
theorem freck_quo (q p : Rat) (n n' : Bool) (A B A' B' : Option Addr) (xs ds ys es : List Nat) (c d c' d' : Nat) (w : World) (h : Lf w q n A xs c B ds d) (k : Lf w p n' A' ys c' B' es d') :
    Calls Tryz.prog 59 #[frq n A xs.length c false B ds.length d, frq n' A' ys.length c' false B' es.length d', .func (.func 70) #[] #[]] w (ReckF w (p.num = 0) (q / p)) :=
  freck_any _ (fun _ _ => by simp [go_sem]) (q / p) q p (p.num = 0) (fun _ _ _ _ _ _ _ _ _ _ _ _ _ _ _ h k => fquo1_any q p _ _ _ _ _ _ _ _ _ _ _ _ _ _ 1024 _ h k (by decide)) n n' A B A' B' xs ds ys es c d c' d' w h k
set_option maxHeartbeats 8000000 in
set_option maxRecDepth 20000 in
theorem frac_quo (q p : Rat) (n n' : Bool) (A B A' B' : Option Addr) (xs ds ys es : List Nat) (c d c' d' : Nat) (w : World) (h : Lf w q n A xs c B ds d) (k : Lf w p n' A' ys c' B' es d') :
  Calls Tryz.prog 23 #[frq n A xs.length c false B ds.length d, frq n' A' ys.length c' false B' es.length d'] w (ReckF w (p.num = 0) (q / p)) := by
 obtain ⟨V, hV, BW, hz, RR, ⟨c0, c1, c2, c3⟩, ⟨e0, e1, e2, e3⟩⟩ := box_two w n A xs.length c false B ds.length d n' A' ys.length c' false B' es.length d' 26 26 26
 have KX := Box.of4 (by omega) c0 c1 c2 c3
 have KY := Box.of4 (by omega) e0 e1 e2 e3
 have LX := h.on BW
 have LY := k.on BW
 clear h k c0 c1 c2 c3 e0 e1 e2 e3 hz
 have KX_0 := KX.c 0 _ rfl
 have KX_1 := KX.c 1 _ rfl
 have KX_2 := KX.c 2 _ rfl
 have KX_3 := KX.c 3 _ rfl
 have KY_0 := KY.c 0 _ rfl
 have KY_1 := KY.c 1 _ rfl
 have KY_2 := KY.c 2 _ rfl
 have KY_3 := KY.c 3 _ rfl
 go_enter Tryz.func23, Tryz.ntmps23
 go_wp2_with fail
 clear KX_0 KX_1 KX_2 KX_3 KY_0 KY_1 KY_2 KY_3
 rw [← hV]
 clear hV
 refine (freck_quo q p _ _ _ _ _ _ _ _ _ _ _ _ _ _ _ LX LY).mono ?_
 rintro _ w9 ⟨tn, tA, tz, tk, tm, tB, td, tl, er, rfl, Rt, hb⟩
 replace KX := KX.on hb
 replace KY := KY.on hb
 replace LX := LX.on hb
 replace LY := LY.on hb
 replace RR := RR.on hb
 replace BW := BW.trans (hb.mono BW.size)
 clear hb
 have y0 := RR.r0
 have y1 := RR.r1
 have y2 := RR.r2
 have y3 := RR.r3
 have y4 := RR.f0
 have y5 := RR.f1
 have y6 := RR.f2
 have y7 := RR.f3
 have HL := Lib.hid (And.intro (Rt.put4 RR (.bool tn) (.slice tA tz.length tk) (.bool tm) (.slice tB td.length tl)) (Below.putq BW (r := w.heap.size + 1 + 1) (by omega) (.bool tn) (.slice tA tz.length tk) (.bool tm) (.slice tB td.length tl)))
 clear LX LY Rt BW KX KY RR
 go_wp2
 exact bodyPost_ret (v := .tuple #[frq tn tA tz.length tk tm tB td.length tl, .int .i64 er]) (by simp [results, Tryz.results23, go_sem, y0, y1, y2, y3]) rfl ⟨_, _, _, _, _, _, _, _, _, rfl, HL.out.1, HL.out.2⟩
section
variable {W W' : World} {z : Rat} {bad : Prop} {n m n' m' : Bool} {A B A' B' : Option Addr} {xs ds ys es : List Nat} {c d c' d' : Nat} {er er' : Int}
theorem Rk.er_eq (h : Rk W bad z n A xs c m B ds d er) (k : Rk W' bad z n' A' ys c' m' B' es d' er') : er = er' := by
  rcases h with ⟨h1, h2, h3, _⟩ | ⟨⟨h1, h3⟩ | ⟨h1, h2, h3⟩, _⟩ <;> rcases k with ⟨k1, k2, k3, _⟩ | ⟨⟨k1, k3⟩ | ⟨k1, k2, k3⟩, _⟩
  · rw [h3, k3]
  · exact absurd k1 h1
  · exact absurd h2 k2
  · exact absurd h1 k1
  · rw [h3, k3]
  · exact absurd h1 k1
  · exact absurd k2 h2
  · exact absurd k1 h1
  · rw [h3, k3]
theorem Rk.lf (h : Rk W bad z n A xs c m B ds d er) (he : er = 0) : m = false ∧ Lf W z n A xs c B ds d := by
  rcases h with ⟨_, _, _, h4, h5⟩ | ⟨⟨_, h3⟩ | ⟨_, _, h3⟩, _⟩
  · exact ⟨h4, h5⟩
  · omega
  · omega
theorem Rk.no (h : Rk W bad z n A xs c m B ds d er) (he : er ≠ 0) : Zq n A xs c m B ds d := by
  rcases h with ⟨_, _, h3, _⟩ | ⟨_, h⟩
  · exact absurd h3 he
  · exact h
theorem Rk.yes (h : Rk W bad z n A xs c m B ds d er) (hb : ¬ bad) (hf : FitsQ z) : er = 0 := by
  rcases h with ⟨_, _, h3, _⟩ | ⟨⟨h1, _⟩ | ⟨_, h2, _⟩, _⟩
  · exact h3
  · exact absurd h1 hb
  · exact absurd hf h2
theorem Rk.bad3 (h : Rk W bad z n A xs c m B ds d er) (hb : bad) : er = 3 := by
  rcases h with ⟨h1, _⟩ | ⟨⟨_, h3⟩ | ⟨h1, _⟩, _⟩
  · exact absurd hb h1
  · exact h3
  · exact absurd hb h1
theorem Rk.to {z' : Rat} (h : Rk W bad z n A xs c m B ds d er) (e : z = z') : Rk W bad z' n A xs c m B ds d er := e ▸ h
theorem Lf.fitsQ (h : Lf W z n A xs c B ds d) : FitsQ z := ⟨h.num.fits, h.den.fits⟩
theorem Lf.rk (h : Lf W z n A xs c B ds d) : Rk W False z n A xs c false B ds d 0 := .inl ⟨not_false, h.fitsQ, rfl, rfl, h⟩
end
end Go.Proofs.YtplgheabhekedaaGreatDoor
