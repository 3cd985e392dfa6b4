/-
  What frac.Add, Sub, Mul, Quo return of fractions that may be; fractions in one letter and what is made of them; what a float is worth; frac.FromFloat. Conditions: as each theorem states.
-/
import Derived.Test.YtobbedcaeffbaaaGreatDoorFqe
import Derived.Deep.RegionHeld3
import Derived.Deep.DeepCutAuto
import Derived.BigRegion
import Derived.Test.YtobbedcaeffbaaaGreatDoorFq7
import Derived.Test.YtobbedcaeffbaaaGreatDoorFre
import Derived.Test.YtobbedcaeffbaaaGreatDoorSame
import Derived.Laws.IdiomCopy
import Derived.Test.YtobbedcaeffbaaaGreatDoorExu
import Derived.Test.YtobbedcaeffbaaaGreatDoorShs
import Derived.Test.YtobbedcaeffbaaaGreatDoorInt3
namespace Go.Proofs.YtobbedcaeffbaaaGreatDoor
open Go.RowKit Nb
end Go.Proofs.YtobbedcaeffbaaaGreatDoor
/-! ### Frg -/
namespace Go.Proofs.YtobbedcaeffbaaaGreatDoor
open Go.RowKit Nb
theorem Rk.ofTold {W : World} {z : Rat} {bad : Prop} {n m : Bool} {A B : Option Addr} {xs ds : List Nat} {c d : Nat} {er : Int} (hb : ¬ bad) (h : (FitsQ z ∧ er = 0 ∧ m = false ∧ Lf W z n A xs c B ds d) ∨ (¬ FitsQ z ∧ er = 4 ∧ n = false ∧ A = none ∧ xs = [] ∧ c = 0 ∧ m = false ∧ B = none ∧ ds = [] ∧ d = 0)) : Rk W bad z n A xs c m B ds d er := by
 rcases h with ⟨a, b, e1, f⟩ | ⟨a, b, e1⟩
 ·exact .inl ⟨hb, a, b, e1, f⟩
 ·exact .inr ⟨.inr ⟨hb, a, b⟩, e1⟩
set_option maxHeartbeats 8000000 in
set_option maxRecDepth 20000 in
theorem frac_make (X Y : Int) (n m : Bool) (A B : Option Addr) (xs ds : List Nat) (c d : Nat) (w : World) (h : Nl w X n A xs c) (k : Nl w Y m B ds d) :
  Calls Tryz.prog 81 #[big n A xs.length c, big m B ds.length d] w (ReckF w (Y = 0) (Rat.divInt X Y)) := by
 obtain ⟨V, hV, BW, hz, RR, KX, KY, FX, FY⟩ := box_ints w n A xs.length c m B ds.length d 25 25 27
 have Xn := h.on BW
 have Yn := k.on BW
 clear h k hz FX FY
 have KX_0 := KX.c 0 _ rfl
 have KX_1 := KX.c 1 _ rfl
 have KY_0 := KY.c 0 _ rfl
 have KY_1 := KY.c 1 _ rfl
 go_enter Tryz.func81, Tryz.ntmps81
 go_wp2_with fail
 clear KX_0 KX_1 KY_0 KY_1
 rw [← hV]
 clear hV
 refine (check_u n A xs c V Xn.lm.sl Xn.lm.sz).mono ?_
 rw [chkV_ok Xn.lm.ok]
 rintro _ w1 ⟨rfl, hb⟩
 replace KX := KX.on hb
 replace KY := KY.on hb
 replace Xn := Xn.on hb
 replace Yn := Yn.on hb
 replace RR := RR.on hb
 replace BW := BW.trans (hb.mono BW.size)
 clear hb
 have KX_0 := KX.c 0 _ rfl
 have KX_1 := KX.c 1 _ rfl
 have KY_0 := KY.c 0 _ rfl
 have KY_1 := KY.c 1 _ rfl
 go_wp2_with fail
 clear KX_0 KX_1 KY_0 KY_1
 refine (check_u m B ds d w1 Yn.lm.sl Yn.lm.sz).mono ?_
 rw [chkV_ok Yn.lm.ok]
 rintro _ w2 ⟨rfl, hb⟩
 replace KX := KX.on hb
 replace KY := KY.on hb
 replace Xn := Xn.on hb
 replace Yn := Yn.on hb
 replace RR := RR.on hb
 replace BW := BW.trans (hb.mono BW.size)
 clear hb
 have KX_0 := KX.c 0 _ rfl
 have KX_1 := KX.c 1 _ rfl
 have KY_0 := KY.c 0 _ rfl
 have KY_1 := KY.c 1 _ rfl
 go_wp2_with fail
 clear KX_0 KX_1 KY_0 KY_1
 refine (wsign_u m B ds d w2 Yn.lm.sl Yn.lm.dig Yn.lm.sz).mono ?_
 rw [sgnV_nl Yn]
 rintro _ w3 ⟨rfl, hb⟩
 replace KX := KX.on hb
 replace KY := KY.on hb
 replace Xn := Xn.on hb
 replace Yn := Yn.on hb
 replace RR := RR.on hb
 replace BW := BW.trans (hb.mono BW.size)
 clear hb
 by_cases hY : Y = 0
 ·have hs : Y.sign = 0 := by rw [hY]; rfl
  rw [hs]
  clear hs
  have KX_0 := KX.c 0 _ rfl
  have KX_1 := KX.c 1 _ rfl
  have KY_0 := KY.c 0 _ rfl
  have KY_1 := KY.c 1 _ rfl
  have y0 := RR.r0
  have y1 := RR.r1
  have y2 := RR.r2
  have y3 := RR.r3
  have y4 := RR.f0
  have y5 := RR.f1
  have y6 := RR.f2
  have y7 := RR.f3
  have HL := Lib.hid (Below.putq BW (r := w.heap.size + 1 + 1) (by omega) (.bool false) (.slice none 0 0) (.bool false) (.slice none 0 0))
  have HB := Lib.hid hY
  clear Xn Yn BW KX KY RR hY
  go_wp2
  exact bodyPost_ret (v := .tuple #[frq false none ([] : List Nat).length 0 false none ([] : List Nat).length 0, .int .i64 3]) (by simp [results, Tryz.results81, go_sem, y0, y1, y2, y3]) rfl ⟨_, _, _, _, _, _, _, _, _, rfl, .inr ⟨.inl ⟨HB.out, rfl⟩, Zq.mk'⟩, HL.out⟩
 ·have hs : Y.sign ≠ 0 := fun e => hY (Int.sign_eq_zero_iff_zero.1 e)
  generalize Y.sign = sg at *
  have KX_0 := KX.c 0 _ rfl
  have KX_1 := KX.c 1 _ rfl
  have KY_0 := KY.c 0 _ rfl
  have KY_1 := KY.c 1 _ rfl
  go_wp2_with fail
  clear hs
  clear KX_0 KX_1 KY_0 KY_1
  refine wp_region_noPanic ?_
  have hb : Below w3.heap.size w3 w3.drew := (Below.refl _ _).drew
  replace KX := KX.on hb
  replace KY := KY.on hb
  replace Xn := Xn.on hb
  replace Yn := Yn.on hb
  replace RR := RR.on hb
  replace BW := BW.trans (hb.mono BW.size)
  clear hb
  refine wp_region_held_drew (S := (fun wx => wx.cell? ⟨w.heap.size, 0, none⟩ = some (.bool n) ∧ wx.cell? ⟨w.heap.size, 1, none⟩ = some (.slice A xs.length c) ∧ wx.cell? ⟨w.heap.size + 1, 0, none⟩ = some (.bool m) ∧ wx.cell? ⟨w.heap.size + 1, 1, none⟩ = some (.slice B ds.length d))) (by kernel_rfl) (by exact KX.a2 KY.b2) (fun hHeld => ?_)
  generalize w3.drew = Vd at *
  refine pT 0 ?_
  (try simp only [p0, p1, p2, p3])
  refine pT 2 ?_
  (try simp only [p0, p1, p2, p3])
  refine pR1 1 (fun K hK => ?_)
  go_simp
  (go_at_call 66; with_reducible refine (from_n Xn).mono ?_)
  rintro _ wc0 ⟨un, uA, uz, uk, rfl, Nu, hb⟩
  (try go_wp2_with fail)
  replace KX := KX.on hb
  replace KY := KY.on hb
  replace Yn := Yn.on hb
  replace RR := RR.on hb
  replace BW := BW.trans (hb.mono BW.size)
  clear hb
  refine hK.out _ _ (by exact KX.a2 KY.b2) (fun hHeld => ?_)
  clear hK
  (try simp only [p0, p1, p2, p3])
  refine pR1 3 (fun K hK => ?_)
  go_simp
  (go_at_call 66; with_reducible refine (from_n Yn).mono ?_)
  rintro _ wc1 ⟨vn, vA, vz, vk, rfl, Nv, hb⟩
  (try go_wp2_with fail)
  replace KX := KX.on hb
  replace KY := KY.on hb
  replace Nu := Nu.on hb
  replace RR := RR.on hb
  replace BW := BW.trans (hb.mono BW.size)
  clear hb
  refine hK.out _ _ (by exact KX.a2 KY.b2) (fun hHeld => ?_)
  clear hK
  (try simp only [p0, p1, p2, p3])
  refine pR1 4 (fun K hK => ?_)
  go_simp
  (go_at_call 60; with_reducible refine (ratio_any X Y _ _ _ _ _ _ _ _ 1024 _ Nu Nv hY (by decide)).mono ?_)
  rintro _ wc2 ⟨sn, sA, sz, sk, sB, sd, sl, rfl, Ls, hb⟩
  (try go_wp2_with fail)
  replace KX := KX.on hb
  replace KY := KY.on hb
  replace RR := RR.on hb
  replace BW := BW.trans (hb.mono BW.size)
  clear hb
  refine hK.out _ _ (by exact KX.a2 KY.b2) (fun hHeld => ?_)
  clear hK
  (try simp only [p0, p1, p2, p3])
  refine pR1 5 (fun K hK => ?_)
  go_simp
  (go_at_call 63; with_reducible refine (ffit_any _ _ _ _ _ _ _ _ _ _ Ls (by decide)).mono ?_)
  rintro _ wc3 ⟨tn, tA, tz, tk, tm, tB, td, tl, er, rfl, Ht, hb⟩
  (try go_wp2_with fail)
  have Rt := Rk.ofTold (bad := Y = 0) hY Ht
  clear Ht
  replace KX := KX.on hb
  replace KY := KY.on hb
  replace RR := RR.on hb
  replace BW := BW.trans (hb.mono BW.size)
  clear hb
  refine hK.out _ _ (by exact KX.a2 KY.b2) (fun hHeld => ?_)
  clear hK
  (try simp only [p0, p1, p2, p3])
  refine pT 6 ?_
  (try simp only [p0, p1, p2, p3])
  refine pT 7 ?_
  (try simp only [p0, p1, p2, p3])
  have y0 := RR.r0
  have y1 := RR.r1
  have y2 := RR.r2
  have y3 := RR.r3
  have y4 := RR.f0
  have y5 := RR.f1
  have y6 := RR.f2
  have y7 := RR.f3
  refine pR1 8 (fun K hK => ?_)
  go_simp
  replace KX := KX.far4 (g := w.heap.size + 1 + 1) (by omega) (.bool tn) (.slice tA tz.length tk) (.bool tm) (.slice tB td.length tl)
  replace KY := KY.far4 (g := w.heap.size + 1 + 1) (by omega) (.bool tn) (.slice tA tz.length tk) (.bool tm) (.slice tB td.length tl)
  replace Rt := Rt.put4 RR (.bool tn) (.slice tA tz.length tk) (.bool tm) (.slice tB td.length tl)
  replace BW := Below.putq BW (r := w.heap.size + 1 + 1) (by omega) (.bool tn) (.slice tA tz.length tk) (.bool tm) (.slice tB td.length tl)
  have KR := Box.laidQ RR (.bool tn) (.slice tA tz.length tk) (.bool tm) (.slice tB td.length tl)
  clear RR y0 y1 y2 y3 y4 y5 y6 y7
  generalize ((((wc3.setCell ⟨w.heap.size + 1 + 1, 0, none⟩ (.bool tn)).setCell ⟨w.heap.size + 1 + 1, 1, none⟩ (.slice tA tz.length tk)).setCell ⟨w.heap.size + 1 + 1, 2, none⟩ (.bool tm)).setCell ⟨w.heap.size + 1 + 1, 3, none⟩ (.slice tB td.length tl)) = ws at *
  refine hK.out _ _ (by exact KX.a2 KY.b2) (fun hHeld => ?_)
  clear hK
  (try simp only [p0, p1, p2, p3])
  refine pT 9 ?_
  (try simp only [p0, p1, p2, p3])
  refine wpAnyH_done (by kernel_rfl) (NoPanic.normal ?_) _
  have y0 := KR.c 0 _ rfl
  have y1 := KR.c 1 _ rfl
  have y2 := KR.c 2 _ rfl
  have y3 := KR.c 3 _ rfl
  go_wp2
  exact bodyPost_ret (v := .tuple #[frq tn tA tz.length tk tm tB td.length tl, .int .i64 er]) (by simp [results, Tryz.results81, go_sem, y0, y1, y2, y3]) rfl ⟨_, _, _, _, _, _, _, _, _, rfl, Rt, BW⟩
theorem of_nl (n : Int) (w : World) (h0 : -9223372036854775808 ≤ n) (h1 : n ≤ 9223372036854775807) :
  Calls Tryz.prog 74 #[.int .i64 n] w (GivesL32 w n) := by
 refine (of_fix n (decide (n < 0)) w h0 h1 rfl).mono ?_
 rintro e w' ⟨A, c, xs, rfl, hl, hv, _, hb⟩
 exact ⟨_, A, xs, c, rfl, ⟨hl, hv⟩, hb⟩
set_option maxHeartbeats 8000000 in
set_option maxRecDepth 20000 in
theorem frac_of (X Y : Int) (w : World) (h0 : -9223372036854775808 ≤ X) (h1 : X ≤ 9223372036854775807) (k0 : -9223372036854775808 ≤ Y) (k1 : Y ≤ 9223372036854775807) :
  Calls Tryz.prog 23 #[.int .i64 X, .int .i64 Y] w (ReckF w (Y = 0) (Rat.divInt X Y)) := by
 have H1 := Lib.hid (fun W => of_nl X W h0 h1)
 have H2 := Lib.hid (fun W => of_nl Y W k0 k1)
 clear h0 h1 k0 k1
 have RR := RestQ.new w 27
 have BW : Below w.heap.size w (w.alloc (.cells #[.bool false, .slice none 0 0, .bool false, .slice none 0 0] 27)) := by go_grown
 go_enter Tryz.func23, Tryz.ntmps23
 go_wp2_with fail
 generalize (w.alloc (.cells #[.bool false, .slice none 0 0, .bool false, .slice none 0 0] 27)) = V at *
 refine (H1.out V).mono ?_
 rintro _ w1 ⟨un, uA, uz, uk, rfl, Nu, hb⟩
 replace RR := RR.on hb
 replace BW := BW.trans (hb.mono BW.size)
 clear hb
 go_wp2_with fail
 refine (H2.out w1).mono ?_
 rintro _ w2 ⟨vn, vA, vz, vk, rfl, Nv, hb⟩
 replace Nu := Nu.on hb
 replace RR := RR.on hb
 replace BW := BW.trans (hb.mono BW.size)
 clear hb
 go_wp2_with fail
 refine (frac_make X Y _ _ _ _ _ _ _ _ w2 Nu Nv).mono ?_
 rintro _ w9 ⟨tn, tA, tz, tk, tm, tB, td, tl, er, rfl, Rt, hb⟩
 replace RR := RR.on hb
 replace BW := BW.trans (hb.mono BW.size)
 clear hb
 have y0 := RR.r0
 have y1 := RR.r1
 have y2 := RR.r2
 have y3 := RR.r3
 have y4 := RR.f0
 have y5 := RR.f1
 have y6 := RR.f2
 have y7 := RR.f3
 have HL := Lib.hid (And.intro (Rt.put4 RR (.bool tn) (.slice tA tz.length tk) (.bool tm) (.slice tB td.length tl)) (Below.putq BW (r := w.heap.size) (by omega) (.bool tn) (.slice tA tz.length tk) (.bool tm) (.slice tB td.length tl)))
 clear Nu Nv Rt BW RR H1 H2
 go_wp2
 exact bodyPost_ret (v := .tuple #[frq tn tA tz.length tk tm tB td.length tl, .int .i64 er]) (by simp [results, Tryz.results23, go_sem, y0, y1, y2, y3]) rfl ⟨_, _, _, _, _, _, _, _, _, rfl, HL.out.1, HL.out.2⟩
end Go.Proofs.YtobbedcaeffbaaaGreatDoor
/-! ### Frh -/
namespace Go.Proofs.YtobbedcaeffbaaaGreatDoor
open Go.RowKit Nb
theorem fits_of' {Z : Int} (hz : Z.natAbs < 2 ^ 100) (k : Nat) (hk : 4 ≤ k) : Z.natAbs < W32 ^ k := by
 have h4 : (2 : Nat) ^ 100 ≤ W32 ^ 4 := by decide
 exact Nat.lt_of_lt_of_le (Nat.lt_of_lt_of_le hz h4) (Nat.pow_le_pow_right (by decide) hk)
theorem fits_low {Z : Int} (hz : Z.natAbs < 2 ^ 100) : Fits Z := fits_of' hz 2048 (by omega)
theorem t2 : (⟨((if false then [45] else []) ++ Lib.decDigits 2).toArray⟩ : ByteArray) = ⟨#[50]⟩ := by decide +kernel
end Go.Proofs.YtobbedcaeffbaaaGreatDoor
namespace Go.Proofs.YtobbedcaeffbaaaGreatDoor
open Go.RowKit Nb
set_option maxHeartbeats 8000000 in
set_option maxRecDepth 20000 in
theorem freck_any (N : Nat) (hN : ∀ (av : Array Value) (v : World), (callFunc N av).run Tryz.prog v = .ok (.enter N av) v) (r q p : Rat) (Z : Prop)
  (hdo : ∀ (n n' : Bool) (A B A' B' : Option Addr) (xs ds ys es : List Nat) (c d c' d' : Nat) (w : World), Lq w q n A xs c B ds d 1024 → Lq w p n' A' ys c' B' es d' 1024 → Calls Tryz.prog N #[frq n A xs.length c false B ds.length d, frq n' A' ys.length c' false B' es.length d'] w (DidQ w r 2052 Z))
  (n n' : Bool) (A B A' B' : Option Addr) (xs ds ys es : List Nat) (c d c' d' : Nat) (w : World) (h : Lf w q n A xs c B ds d) (k : Lf w p n' A' ys c' B' es d') :
  Calls Tryz.prog 75 #[frq n A xs.length c false B ds.length d, frq n' A' ys.length c' false B' es.length d', .func (.func N) #[] #[]] w (ReckF w Z r) := by
 have HN := Lib.hid hN
 have HD := Lib.hid hdo
 clear hN hdo
 obtain ⟨V, hV, BW, hz, RR, ⟨c0, c1, c2, c3⟩, ⟨e0, e1, e2, e3⟩⟩ := box_two w n A xs.length c false B ds.length d n' A' ys.length c' false B' es.length d' 27 27 27
 have KX := Box.of4 (by omega) c0 c1 c2 c3
 have KY := Box.of4 (by omega) e0 e1 e2 e3
 have LX := h.on BW
 have LY := k.on BW
 clear h k c0 c1 c2 c3 e0 e1 e2 e3
 have hb : Below V.heap.size V (V.alloc (.cells #[.bool n, .slice A xs.length c, .bool false, .slice B ds.length d, .bool n', .slice A' ys.length c', .bool false, .slice B' es.length d'] 27)) := by go_grown
 have KB := Box.new V [.bool n, .slice A xs.length c, .bool false, .slice B ds.length d, .bool n', .slice A' ys.length c', .bool false, .slice B' es.length d'] 27
 replace KX := KX.on hb
 replace KY := KY.on hb
 replace LX := LX.on hb
 replace LY := LY.on hb
 replace RR := RR.on hb
 replace BW := BW.trans (hb.mono BW.size)
 clear hb
 rw [hz] at KB
 clear hz
 go_enter Tryz.func75, Tryz.ntmps75
 go_wp2_with fail
 rw [← hV]
 clear hV
 generalize (V.alloc (.cells #[.bool n, .slice A xs.length c, .bool false, .slice B ds.length d, .bool n', .slice A' ys.length c', .bool false, .slice B' es.length d'] 27)) = VB at *
 refine (fcheck_two (w.heap.size + 1 + 1 + 1) n false n' false A B A' B' xs ds ys es 2 c d c' d' VB LX.rq LY.rq KB.lt (KB.c 0 _ rfl) (KB.c 1 _ rfl) (KB.c 2 _ rfl) (KB.c 3 _ rfl) (KB.c 4 _ rfl) (KB.c 5 _ rfl) (KB.c 6 _ rfl) (KB.c 7 _ rfl)).mono ?_
 rw [chkF_ok LX.okf, chkF_ok LY.okf]
 rintro _ w1 ⟨rfl, hb⟩
 clear KB
 replace KX := KX.on hb
 replace KY := KY.on hb
 replace LX := LX.on hb
 replace LY := LY.on hb
 replace RR := RR.on hb
 replace BW := BW.trans (hb.mono BW.size)
 clear hb
 have KX_0 := KX.c 0 _ rfl
 have KX_1 := KX.c 1 _ rfl
 have KX_2 := KX.c 2 _ rfl
 have KX_3 := KX.c 3 _ rfl
 have KY_0 := KY.c 0 _ rfl
 have KY_1 := KY.c 1 _ rfl
 have KY_2 := KY.c 2 _ rfl
 have KY_3 := KY.c 3 _ rfl
 rw [if_pos rfl]
 go_wp2_with fail
 clear KX_0 KX_1 KX_2 KX_3 KY_0 KY_1 KY_2 KY_3
 go_cut [9, 10] (fun s9 s10 wx => ∃ (pS : Nat) (sn : Bool) (sA : Option Addr) (sz : List Nat) (sk : Nat) (sm : Bool) (sB : Option Addr) (sd : List Nat) (sl : Nat) (er : Int), s9 = .pointer (some ⟨pS, 0, none⟩) ∧ s10 = .int .i64 er ∧ Below w.heap.size w wx ∧ Box wx pS [.bool sn, .slice sA sz.length sk, .bool sm, .slice sB sd.length sl] ∧ RestQ wx (w.heap.size + 1 + 1) ∧ Dq wx r 2052 Z sn sA sz sk sm sB sd sl er)
 case first =>
  refine wp_region_noPanic ?_
  have hb : Below w1.heap.size w1 w1.drew := (Below.refl _ _).drew
  replace KX := KX.on hb
  replace KY := KY.on hb
  replace LX := LX.on hb
  replace LY := LY.on hb
  replace RR := RR.on hb
  replace BW := BW.trans (hb.mono BW.size)
  clear hb
  refine wp_region_held_drew (S := (fun wx => wx.cell? ⟨w.heap.size, 0, none⟩ = some (.bool n) ∧ wx.cell? ⟨w.heap.size, 1, none⟩ = some (.slice A xs.length c) ∧ wx.cell? ⟨w.heap.size, 2, none⟩ = some (.bool false) ∧ wx.cell? ⟨w.heap.size, 3, none⟩ = some (.slice B ds.length d) ∧ wx.cell? ⟨w.heap.size + 1, 0, none⟩ = some (.bool n') ∧ wx.cell? ⟨w.heap.size + 1, 1, none⟩ = some (.slice A' ys.length c') ∧ wx.cell? ⟨w.heap.size + 1, 2, none⟩ = some (.bool false) ∧ wx.cell? ⟨w.heap.size + 1, 3, none⟩ = some (.slice B' es.length d'))) (by kernel_rfl) (by exact KX.a4 KY.b4) (fun hHeld => ?_)
  generalize w1.drew = Vd at *
  refine pT 0 ?_
  (try simp only [p0, p1, p2, p3])
  refine pT 1 ?_
  (try simp only [p0, p1, p2, p3])
  refine pT 3 ?_
  (try simp only [p0, p1, p2, p3])
  refine pR2 2 9 (fun K hK => ?_) (fun K hK => ?_)
  ·go_simp
   (go_at_call 88; with_reducible refine (ffrom_any q _ _ _ _ _ _ _ _ LX).mono ?_)
   rintro _ wc0 ⟨un, uA, uz, uk, uB, ud, ul, rfl, Lu, hb⟩
   (try go_wp2_with fail)
   replace KX := KX.on hb
   replace KY := KY.on hb
   replace LX := LX.on hb
   replace LY := LY.on hb
   replace RR := RR.on hb
   replace BW := BW.trans (hb.mono BW.size)
   clear hb
   refine hK.out _ _ (by exact KX.a4 KY.b4) (fun hHeld => ?_)
   clear hK
   (try simp only [p0, p1, p2, p3])
   refine pR2 4 9 (fun K hK => ?_) (fun K hK => ?_)
   ·go_simp
    (go_at_call 88; with_reducible refine (ffrom_any p _ _ _ _ _ _ _ _ LY).mono ?_)
    rintro _ wc1 ⟨vn, vA, vz, vk, vB, vd, vl, rfl, Lv, hb⟩
    (try go_wp2_with fail)
    replace KX := KX.on hb
    replace KY := KY.on hb
    replace LX := LX.on hb
    replace LY := LY.on hb
    replace Lu := Lu.on hb
    replace RR := RR.on hb
    replace BW := BW.trans (hb.mono BW.size)
    clear hb
    refine hK.out _ _ (by exact KX.a4 KY.b4) (fun hHeld => ?_)
    clear hK
    (try simp only [p0, p1, p2, p3])
    refine pR2 5 9 (fun K hK => ?_) (fun K hK => ?_)
    ·go_simp
     rw [HN.out, Oper.upon_enter]
     with_reducible refine (HD.out _ _ _ _ _ _ _ _ _ _ _ _ _ _ _ Lu Lv).mono ?_
     rintro _ wc2 ⟨sn, sA, sz, sk, sm, sB, sd, sl, er, rfl, Ds, hb⟩
     (try go_wp2_with fail)
     replace KX := KX.on hb
     replace KY := KY.on hb
     replace LX := LX.on hb
     replace LY := LY.on hb
     replace Lu := Lu.on hb
     replace Lv := Lv.on hb
     replace RR := RR.on hb
     replace BW := BW.trans (hb.mono BW.size)
     clear hb
     refine hK.out _ _ (by exact KX.a4 KY.b4) (fun hHeld => ?_)
     clear hK
     (try simp only [p0, p1, p2, p3])
     refine pT 6 ?_
     (try simp only [p0, p1, p2, p3])
     refine pT 7 ?_
     (try simp only [p0, p1, p2, p3])
     refine pT 8 ?_
     (try simp only [p0, p1, p2, p3])
     refine pR1 9 (fun K hK => ?_)
     go_simp
     have hb : Below wc2.heap.size wc2 (wc2.alloc (.cells #[.bool false, .slice none 0 0, .bool false, .slice none 0 0] 100)) := Below.alloc (Below.refl _ _) (Nat.le_refl _) _
     have RS : RestQ (wc2.alloc (.cells #[.bool false, .slice none 0 0, .bool false, .slice none 0 0] 100)) wc2.heap.size := RestQ.new wc2 _
     have gS : w.heap.size ≤ wc2.heap.size := BW.size
     have nSKX : w.heap.size ≠ wc2.heap.size := Nat.ne_of_lt KX.lt
     have nSKY : w.heap.size + 1 ≠ wc2.heap.size := Nat.ne_of_lt KY.lt
     have nSRR : w.heap.size + 1 + 1 ≠ wc2.heap.size := Nat.ne_of_lt RR.lr
     replace KX := KX.on hb
     replace KY := KY.on hb
     replace LX := LX.on hb
     replace LY := LY.on hb
     replace Lu := Lu.on hb
     replace Lv := Lv.on hb
     replace Ds := Ds.on hb
     replace RR := RR.on hb
     replace BW := BW.trans (hb.mono BW.size)
     clear hb
     generalize wc2.heap.size = pS at *
     generalize (wc2.alloc (.cells #[.bool false, .slice none 0 0, .bool false, .slice none 0 0] 100)) = wzS3 at *
     refine hK.out _ _ (by exact KX.a4 KY.b4) (fun hHeld => ?_)
     clear hK
     (try simp only [p0, p1, p2, p3])
     have a0 := RS.r0
     have a1 := RS.r1
     have a2 := RS.r2
     have a3 := RS.r3
     have b0 := RS.f0
     have b1 := RS.f1
     have b2 := RS.f2
     have b3 := RS.f3
     refine pR1 10 (fun K hK => ?_)
     go_simp
     replace KX := KX.far4 (g := pS) nSKX (.bool sn) (.slice sA sz.length sk) (.bool sm) (.slice sB sd.length sl)
     replace KY := KY.far4 (g := pS) nSKY (.bool sn) (.slice sA sz.length sk) (.bool sm) (.slice sB sd.length sl)
     replace RR := (((RR.far (g := pS) nSRR 0 (.bool sn)).far (g := pS) nSRR 1 (.slice sA sz.length sk)).far (g := pS) nSRR 2 (.bool sm)).far (g := pS) nSRR 3 (.slice sB sd.length sl)
     replace Ds := Ds.put4 RS (.bool sn) (.slice sA sz.length sk) (.bool sm) (.slice sB sd.length sl)
     have KS := Box.laidQ RS (.bool sn) (.slice sA sz.length sk) (.bool sm) (.slice sB sd.length sl)
     replace BW := Below.putq BW (r := pS) gS (.bool sn) (.slice sA sz.length sk) (.bool sm) (.slice sB sd.length sl)
     clear RS LX LY Lu Lv a0 b0 a1 b1 a2 b2 a3 b3
     generalize ((((wzS3.setCell ⟨pS, 0, none⟩ (.bool sn)).setCell ⟨pS, 1, none⟩ (.slice sA sz.length sk)).setCell ⟨pS, 2, none⟩ (.bool sm)).setCell ⟨pS, 3, none⟩ (.slice sB sd.length sl)) = ws at *
     refine hK.out _ _ (by exact KX.a4 KY.b4) (fun hHeld => ?_)
     clear hK
     (try simp only [p0, p1, p2, p3])
     refine pT 11 ?_
     (try simp only [p0, p1, p2, p3])
     refine wpAnyH_done (by kernel_rfl) (NoPanic.normal ?_) _
     go_wp2
     go_meet
     exact ⟨pS, sn, sA, sz, sk, sm, sB, sd, sl, er, rfl, rfl, BW, KS, RR, Ds⟩
    ·go_simp
     have hb : Below wc1.heap.size wc1 (wc1.alloc (.cells #[.bool false, .slice none 0 0, .bool false, .slice none 0 0] 100)) := Below.alloc (Below.refl _ _) (Nat.le_refl _) _
     have RS : RestQ (wc1.alloc (.cells #[.bool false, .slice none 0 0, .bool false, .slice none 0 0] 100)) wc1.heap.size := RestQ.new wc1 _
     have gS : w.heap.size ≤ wc1.heap.size := BW.size
     have nSKX : w.heap.size ≠ wc1.heap.size := Nat.ne_of_lt KX.lt
     have nSKY : w.heap.size + 1 ≠ wc1.heap.size := Nat.ne_of_lt KY.lt
     have nSRR : w.heap.size + 1 + 1 ≠ wc1.heap.size := Nat.ne_of_lt RR.lr
     replace KX := KX.on hb
     replace KY := KY.on hb
     replace LX := LX.on hb
     replace LY := LY.on hb
     replace Lu := Lu.on hb
     replace Lv := Lv.on hb
     replace RR := RR.on hb
     replace BW := BW.trans (hb.mono BW.size)
     clear hb
     generalize wc1.heap.size = pS at *
     generalize (wc1.alloc (.cells #[.bool false, .slice none 0 0, .bool false, .slice none 0 0] 100)) = wzS2 at *
     refine hK.out _ _ (by exact KX.a4 KY.b4) (fun hHeld => ?_)
     clear hK
     (try simp only [p0, p1, p2, p3])
     refine pR1 5 (fun K hK => ?_)
     go_simp
     rw [HN.out, Oper.upon_enter]
     with_reducible refine (HD.out _ _ _ _ _ _ _ _ _ _ _ _ _ _ _ Lu Lv).mono ?_
     rintro _ wc29 ⟨sn, sA, sz, sk, sm, sB, sd, sl, er, rfl, Ds, hb⟩
     (try go_wp2_with fail)
     replace KX := KX.on hb
     replace KY := KY.on hb
     replace LX := LX.on hb
     replace LY := LY.on hb
     replace Lu := Lu.on hb
     replace Lv := Lv.on hb
     replace RR := RR.on hb
     replace RS := RS.on hb
     replace BW := BW.trans (hb.mono BW.size)
     clear hb
     refine hK.out _ _ (by exact KX.a4 KY.b4) (fun hHeld => ?_)
     clear hK
     (try simp only [p0, p1, p2, p3])
     refine pT 6 ?_
     (try simp only [p0, p1, p2, p3])
     refine pT 7 ?_
     (try simp only [p0, p1, p2, p3])
     refine pT 8 ?_
     (try simp only [p0, p1, p2, p3])
     have a0 := RS.r0
     have a1 := RS.r1
     have a2 := RS.r2
     have a3 := RS.r3
     have b0 := RS.f0
     have b1 := RS.f1
     have b2 := RS.f2
     have b3 := RS.f3
     refine pR1 10 (fun K hK => ?_)
     go_simp
     replace KX := KX.far4 (g := pS) nSKX (.bool sn) (.slice sA sz.length sk) (.bool sm) (.slice sB sd.length sl)
     replace KY := KY.far4 (g := pS) nSKY (.bool sn) (.slice sA sz.length sk) (.bool sm) (.slice sB sd.length sl)
     replace RR := (((RR.far (g := pS) nSRR 0 (.bool sn)).far (g := pS) nSRR 1 (.slice sA sz.length sk)).far (g := pS) nSRR 2 (.bool sm)).far (g := pS) nSRR 3 (.slice sB sd.length sl)
     replace Ds := Ds.put4 RS (.bool sn) (.slice sA sz.length sk) (.bool sm) (.slice sB sd.length sl)
     have KS := Box.laidQ RS (.bool sn) (.slice sA sz.length sk) (.bool sm) (.slice sB sd.length sl)
     replace BW := Below.putq BW (r := pS) gS (.bool sn) (.slice sA sz.length sk) (.bool sm) (.slice sB sd.length sl)
     clear RS LX LY Lu Lv a0 b0 a1 b1 a2 b2 a3 b3
     generalize ((((wc29.setCell ⟨pS, 0, none⟩ (.bool sn)).setCell ⟨pS, 1, none⟩ (.slice sA sz.length sk)).setCell ⟨pS, 2, none⟩ (.bool sm)).setCell ⟨pS, 3, none⟩ (.slice sB sd.length sl)) = ws at *
     refine hK.out _ _ (by exact KX.a4 KY.b4) (fun hHeld => ?_)
     clear hK
     (try simp only [p0, p1, p2, p3])
     refine pT 11 ?_
     (try simp only [p0, p1, p2, p3])
     refine wpAnyH_done (by kernel_rfl) (NoPanic.normal ?_) _
     go_wp2
     go_meet
     exact ⟨pS, sn, sA, sz, sk, sm, sB, sd, sl, er, rfl, rfl, BW, KS, RR, Ds⟩
   ·go_simp
    have hb : Below wc0.heap.size wc0 (wc0.alloc (.cells #[.bool false, .slice none 0 0, .bool false, .slice none 0 0] 100)) := Below.alloc (Below.refl _ _) (Nat.le_refl _) _
    have RS : RestQ (wc0.alloc (.cells #[.bool false, .slice none 0 0, .bool false, .slice none 0 0] 100)) wc0.heap.size := RestQ.new wc0 _
    have gS : w.heap.size ≤ wc0.heap.size := BW.size
    have nSKX : w.heap.size ≠ wc0.heap.size := Nat.ne_of_lt KX.lt
    have nSKY : w.heap.size + 1 ≠ wc0.heap.size := Nat.ne_of_lt KY.lt
    have nSRR : w.heap.size + 1 + 1 ≠ wc0.heap.size := Nat.ne_of_lt RR.lr
    replace KX := KX.on hb
    replace KY := KY.on hb
    replace LX := LX.on hb
    replace LY := LY.on hb
    replace Lu := Lu.on hb
    replace RR := RR.on hb
    replace BW := BW.trans (hb.mono BW.size)
    clear hb
    generalize wc0.heap.size = pS at *
    generalize (wc0.alloc (.cells #[.bool false, .slice none 0 0, .bool false, .slice none 0 0] 100)) = wzS1 at *
    refine hK.out _ _ (by exact KX.a4 KY.b4) (fun hHeld => ?_)
    clear hK
    (try simp only [p0, p1, p2, p3])
    refine pR1 4 (fun K hK => ?_)
    go_simp
    (go_at_call 88; with_reducible refine (ffrom_any p _ _ _ _ _ _ _ _ LY).mono ?_)
    rintro _ wc19 ⟨vn, vA, vz, vk, vB, vd, vl, rfl, Lv, hb⟩
    (try go_wp2_with fail)
    replace KX := KX.on hb
    replace KY := KY.on hb
    replace LX := LX.on hb
    replace LY := LY.on hb
    replace Lu := Lu.on hb
    replace RR := RR.on hb
    replace RS := RS.on hb
    replace BW := BW.trans (hb.mono BW.size)
    clear hb
    refine hK.out _ _ (by exact KX.a4 KY.b4) (fun hHeld => ?_)
    clear hK
    (try simp only [p0, p1, p2, p3])
    refine pR1 5 (fun K hK => ?_)
    go_simp
    rw [HN.out, Oper.upon_enter]
    with_reducible refine (HD.out _ _ _ _ _ _ _ _ _ _ _ _ _ _ _ Lu Lv).mono ?_
    rintro _ wc29 ⟨sn, sA, sz, sk, sm, sB, sd, sl, er, rfl, Ds, hb⟩
    (try go_wp2_with fail)
    replace KX := KX.on hb
    replace KY := KY.on hb
    replace LX := LX.on hb
    replace LY := LY.on hb
    replace Lu := Lu.on hb
    replace Lv := Lv.on hb
    replace RR := RR.on hb
    replace RS := RS.on hb
    replace BW := BW.trans (hb.mono BW.size)
    clear hb
    refine hK.out _ _ (by exact KX.a4 KY.b4) (fun hHeld => ?_)
    clear hK
    (try simp only [p0, p1, p2, p3])
    refine pT 6 ?_
    (try simp only [p0, p1, p2, p3])
    refine pT 7 ?_
    (try simp only [p0, p1, p2, p3])
    refine pT 8 ?_
    (try simp only [p0, p1, p2, p3])
    have a0 := RS.r0
    have a1 := RS.r1
    have a2 := RS.r2
    have a3 := RS.r3
    have b0 := RS.f0
    have b1 := RS.f1
    have b2 := RS.f2
    have b3 := RS.f3
    refine pR1 10 (fun K hK => ?_)
    go_simp
    replace KX := KX.far4 (g := pS) nSKX (.bool sn) (.slice sA sz.length sk) (.bool sm) (.slice sB sd.length sl)
    replace KY := KY.far4 (g := pS) nSKY (.bool sn) (.slice sA sz.length sk) (.bool sm) (.slice sB sd.length sl)
    replace RR := (((RR.far (g := pS) nSRR 0 (.bool sn)).far (g := pS) nSRR 1 (.slice sA sz.length sk)).far (g := pS) nSRR 2 (.bool sm)).far (g := pS) nSRR 3 (.slice sB sd.length sl)
    replace Ds := Ds.put4 RS (.bool sn) (.slice sA sz.length sk) (.bool sm) (.slice sB sd.length sl)
    have KS := Box.laidQ RS (.bool sn) (.slice sA sz.length sk) (.bool sm) (.slice sB sd.length sl)
    replace BW := Below.putq BW (r := pS) gS (.bool sn) (.slice sA sz.length sk) (.bool sm) (.slice sB sd.length sl)
    clear RS LX LY Lu Lv a0 b0 a1 b1 a2 b2 a3 b3
    generalize ((((wc29.setCell ⟨pS, 0, none⟩ (.bool sn)).setCell ⟨pS, 1, none⟩ (.slice sA sz.length sk)).setCell ⟨pS, 2, none⟩ (.bool sm)).setCell ⟨pS, 3, none⟩ (.slice sB sd.length sl)) = ws at *
    refine hK.out _ _ (by exact KX.a4 KY.b4) (fun hHeld => ?_)
    clear hK
    (try simp only [p0, p1, p2, p3])
    refine pT 11 ?_
    (try simp only [p0, p1, p2, p3])
    refine wpAnyH_done (by kernel_rfl) (NoPanic.normal ?_) _
    go_wp2
    go_meet
    exact ⟨pS, sn, sA, sz, sk, sm, sB, sd, sl, er, rfl, rfl, BW, KS, RR, Ds⟩
  ·go_simp
   have hb : Below Vd.heap.size Vd (Vd.alloc (.cells #[.bool false, .slice none 0 0, .bool false, .slice none 0 0] 100)) := Below.alloc (Below.refl _ _) (Nat.le_refl _) _
   have RS : RestQ (Vd.alloc (.cells #[.bool false, .slice none 0 0, .bool false, .slice none 0 0] 100)) Vd.heap.size := RestQ.new Vd _
   have gS : w.heap.size ≤ Vd.heap.size := BW.size
   have nSKX : w.heap.size ≠ Vd.heap.size := Nat.ne_of_lt KX.lt
   have nSKY : w.heap.size + 1 ≠ Vd.heap.size := Nat.ne_of_lt KY.lt
   have nSRR : w.heap.size + 1 + 1 ≠ Vd.heap.size := Nat.ne_of_lt RR.lr
   replace KX := KX.on hb
   replace KY := KY.on hb
   replace LX := LX.on hb
   replace LY := LY.on hb
   replace RR := RR.on hb
   replace BW := BW.trans (hb.mono BW.size)
   clear hb
   generalize Vd.heap.size = pS at *
   generalize (Vd.alloc (.cells #[.bool false, .slice none 0 0, .bool false, .slice none 0 0] 100)) = wzS0 at *
   refine hK.out _ _ (by exact KX.a4 KY.b4) (fun hHeld => ?_)
   clear hK
   (try simp only [p0, p1, p2, p3])
   refine pR1 2 (fun K hK => ?_)
   go_simp
   (go_at_call 88; with_reducible refine (ffrom_any q _ _ _ _ _ _ _ _ LX).mono ?_)
   rintro _ wc09 ⟨un, uA, uz, uk, uB, ud, ul, rfl, Lu, hb⟩
   (try go_wp2_with fail)
   replace KX := KX.on hb
   replace KY := KY.on hb
   replace LX := LX.on hb
   replace LY := LY.on hb
   replace RR := RR.on hb
   replace RS := RS.on hb
   replace BW := BW.trans (hb.mono BW.size)
   clear hb
   refine hK.out _ _ (by exact KX.a4 KY.b4) (fun hHeld => ?_)
   clear hK
   (try simp only [p0, p1, p2, p3])
   refine pR1 4 (fun K hK => ?_)
   go_simp
   (go_at_call 88; with_reducible refine (ffrom_any p _ _ _ _ _ _ _ _ LY).mono ?_)
   rintro _ wc19 ⟨vn, vA, vz, vk, vB, vd, vl, rfl, Lv, hb⟩
   (try go_wp2_with fail)
   replace KX := KX.on hb
   replace KY := KY.on hb
   replace LX := LX.on hb
   replace LY := LY.on hb
   replace Lu := Lu.on hb
   replace RR := RR.on hb
   replace RS := RS.on hb
   replace BW := BW.trans (hb.mono BW.size)
   clear hb
   refine hK.out _ _ (by exact KX.a4 KY.b4) (fun hHeld => ?_)
   clear hK
   (try simp only [p0, p1, p2, p3])
   refine pR1 5 (fun K hK => ?_)
   go_simp
   rw [HN.out, Oper.upon_enter]
   with_reducible refine (HD.out _ _ _ _ _ _ _ _ _ _ _ _ _ _ _ Lu Lv).mono ?_
   rintro _ wc29 ⟨sn, sA, sz, sk, sm, sB, sd, sl, er, rfl, Ds, hb⟩
   (try go_wp2_with fail)
   replace KX := KX.on hb
   replace KY := KY.on hb
   replace LX := LX.on hb
   replace LY := LY.on hb
   replace Lu := Lu.on hb
   replace Lv := Lv.on hb
   replace RR := RR.on hb
   replace RS := RS.on hb
   replace BW := BW.trans (hb.mono BW.size)
   clear hb
   refine hK.out _ _ (by exact KX.a4 KY.b4) (fun hHeld => ?_)
   clear hK
   (try simp only [p0, p1, p2, p3])
   refine pT 6 ?_
   (try simp only [p0, p1, p2, p3])
   refine pT 7 ?_
   (try simp only [p0, p1, p2, p3])
   refine pT 8 ?_
   (try simp only [p0, p1, p2, p3])
   have a0 := RS.r0
   have a1 := RS.r1
   have a2 := RS.r2
   have a3 := RS.r3
   have b0 := RS.f0
   have b1 := RS.f1
   have b2 := RS.f2
   have b3 := RS.f3
   refine pR1 10 (fun K hK => ?_)
   go_simp
   replace KX := KX.far4 (g := pS) nSKX (.bool sn) (.slice sA sz.length sk) (.bool sm) (.slice sB sd.length sl)
   replace KY := KY.far4 (g := pS) nSKY (.bool sn) (.slice sA sz.length sk) (.bool sm) (.slice sB sd.length sl)
   replace RR := (((RR.far (g := pS) nSRR 0 (.bool sn)).far (g := pS) nSRR 1 (.slice sA sz.length sk)).far (g := pS) nSRR 2 (.bool sm)).far (g := pS) nSRR 3 (.slice sB sd.length sl)
   replace Ds := Ds.put4 RS (.bool sn) (.slice sA sz.length sk) (.bool sm) (.slice sB sd.length sl)
   have KS := Box.laidQ RS (.bool sn) (.slice sA sz.length sk) (.bool sm) (.slice sB sd.length sl)
   replace BW := Below.putq BW (r := pS) gS (.bool sn) (.slice sA sz.length sk) (.bool sm) (.slice sB sd.length sl)
   clear RS LX LY Lu Lv a0 b0 a1 b1 a2 b2 a3 b3
   generalize ((((wc29.setCell ⟨pS, 0, none⟩ (.bool sn)).setCell ⟨pS, 1, none⟩ (.slice sA sz.length sk)).setCell ⟨pS, 2, none⟩ (.bool sm)).setCell ⟨pS, 3, none⟩ (.slice sB sd.length sl)) = ws at *
   refine hK.out _ _ (by exact KX.a4 KY.b4) (fun hHeld => ?_)
   clear hK
   (try simp only [p0, p1, p2, p3])
   refine pT 11 ?_
   (try simp only [p0, p1, p2, p3])
   refine wpAnyH_done (by kernel_rfl) (NoPanic.normal ?_) _
   go_wp2
   go_meet
   exact ⟨pS, sn, sA, sz, sk, sm, sB, sd, sl, er, rfl, rfl, BW, KS, RR, Ds⟩
 case rest =>
  obtain ⟨pS, sn, sA, sz, sk, sm, sB, sd, sl, er, rfl, rfl, BW, KS, RR, Ds⟩ := hcut
  rcases Ds with ⟨hnb, rfl, rfl, Ls⟩ | ⟨hbad, rfl⟩
  ·have KS_0 := KS.c 0 _ rfl
   have KS_1 := KS.c 1 _ rfl
   have KS_2 := KS.c 2 _ rfl
   have KS_3 := KS.c 3 _ rfl
   go_wp2_with fail
   clear KS_0 KS_1 KS_2 KS_3
   refine (ffit_any _ _ _ _ _ _ _ _ _ _ Ls (by decide)).mono ?_
   rintro e w9 hT
   obtain ⟨tn, tA, tz, tk, tm, tB, td, tl, er, rfl, Rt, hb⟩ := ToldQ.rk hnb hT
   clear hT
   replace RR := RR.on hb
   replace BW := BW.trans (hb.mono BW.size)
   clear hb
   have y0 := RR.r0
   have y1 := RR.r1
   have y2 := RR.r2
   have y3 := RR.r3
   have y4 := RR.f0
   have y5 := RR.f1
   have y6 := RR.f2
   have y7 := RR.f3
   have HL := Lib.hid (And.intro (Rt.put4 RR (.bool tn) (.slice tA tz.length tk) (.bool tm) (.slice tB td.length tl)) (Below.putq BW (r := w.heap.size + 1 + 1) (by omega) (.bool tn) (.slice tA tz.length tk) (.bool tm) (.slice tB td.length tl)))
   clear Ls Rt BW KS RR hnb
   go_wp2
   exact bodyPost_ret (v := .tuple #[frq tn tA tz.length tk tm tB td.length tl, .int .i64 er]) (by simp [results, Tryz.results75, go_sem, y0, y1, y2, y3]) rfl ⟨_, _, _, _, _, _, _, _, _, rfl, HL.out.1, HL.out.2⟩
  ·have y0 := RR.r0
   have y1 := RR.r1
   have y2 := RR.r2
   have y3 := RR.r3
   have y4 := RR.f0
   have y5 := RR.f1
   have y6 := RR.f2
   have y7 := RR.f3
   have HL := Lib.hid (Below.putq BW (r := w.heap.size + 1 + 1) (by omega) (.bool false) (.slice none 0 0) (.bool false) (.slice none 0 0))
   have HB := Lib.hid hbad
   clear BW KS RR hbad
   go_wp2
   exact bodyPost_ret (v := .tuple #[frq false none ([] : List Nat).length 0 false none ([] : List Nat).length 0, .int .i64 3]) (by simp [results, Tryz.results75, go_sem, y0, y1, y2, y3]) rfl ⟨_, _, _, _, _, _, _, _, _, rfl, .inr ⟨.inl ⟨HB.out, rfl⟩, Zq.mk'⟩, HL.out⟩
theorem freck_sub (q p : Rat) (n n' : Bool) (A B A' B' : Option Addr) (xs ds ys es : List Nat) (c d c' d' : Nat) (w : World) (h : Lf w q n A xs c B ds d) (k : Lf w p n' A' ys c' B' es d') :
    Calls Tryz.prog 75 #[frq n A xs.length c false B ds.length d, frq n' A' ys.length c' false B' es.length d', .func (.func 79) #[] #[]] w (ReckF w (False) (q - p)) :=
  freck_any _ (fun _ _ => by simp [go_sem]) (q - p) q p (False) (fun _ _ _ _ _ _ _ _ _ _ _ _ _ _ _ h k => fsub1_any q p _ _ _ _ _ _ _ _ _ _ _ _ _ _ 1024 _ h k (by decide)) n n' A B A' B' xs ds ys es c d c' d' w h k
set_option maxHeartbeats 8000000 in
set_option maxRecDepth 20000 in
theorem frac_sub (q p : Rat) (n n' : Bool) (A B A' B' : Option Addr) (xs ds ys es : List Nat) (c d c' d' : Nat) (w : World) (h : Lf w q n A xs c B ds d) (k : Lf w p n' A' ys c' B' es d') :
  Calls Tryz.prog 22 #[frq n A xs.length c false B ds.length d, frq n' A' ys.length c' false B' es.length d'] w (ReckF w (False) (q - p)) := by
 obtain ⟨V, hV, BW, hz, RR, ⟨c0, c1, c2, c3⟩, ⟨e0, e1, e2, e3⟩⟩ := box_two w n A xs.length c false B ds.length d n' A' ys.length c' false B' es.length d' 27 27 27
 have KX := Box.of4 (by omega) c0 c1 c2 c3
 have KY := Box.of4 (by omega) e0 e1 e2 e3
 have LX := h.on BW
 have LY := k.on BW
 clear h k c0 c1 c2 c3 e0 e1 e2 e3 hz
 have KX_0 := KX.c 0 _ rfl
 have KX_1 := KX.c 1 _ rfl
 have KX_2 := KX.c 2 _ rfl
 have KX_3 := KX.c 3 _ rfl
 have KY_0 := KY.c 0 _ rfl
 have KY_1 := KY.c 1 _ rfl
 have KY_2 := KY.c 2 _ rfl
 have KY_3 := KY.c 3 _ rfl
 go_enter Tryz.func22, Tryz.ntmps22
 go_wp2_with fail
 clear KX_0 KX_1 KX_2 KX_3 KY_0 KY_1 KY_2 KY_3
 rw [← hV]
 clear hV
 refine (freck_sub q p _ _ _ _ _ _ _ _ _ _ _ _ _ _ _ LX LY).mono ?_
 rintro _ w9 ⟨tn, tA, tz, tk, tm, tB, td, tl, er, rfl, Rt, hb⟩
 replace KX := KX.on hb
 replace KY := KY.on hb
 replace LX := LX.on hb
 replace LY := LY.on hb
 replace RR := RR.on hb
 replace BW := BW.trans (hb.mono BW.size)
 clear hb
 have y0 := RR.r0
 have y1 := RR.r1
 have y2 := RR.r2
 have y3 := RR.r3
 have y4 := RR.f0
 have y5 := RR.f1
 have y6 := RR.f2
 have y7 := RR.f3
 have HL := Lib.hid (And.intro (Rt.put4 RR (.bool tn) (.slice tA tz.length tk) (.bool tm) (.slice tB td.length tl)) (Below.putq BW (r := w.heap.size + 1 + 1) (by omega) (.bool tn) (.slice tA tz.length tk) (.bool tm) (.slice tB td.length tl)))
 clear LX LY Rt BW KX KY RR
 go_wp2
 exact bodyPost_ret (v := .tuple #[frq tn tA tz.length tk tm tB td.length tl, .int .i64 er]) (by simp [results, Tryz.results22, go_sem, y0, y1, y2, y3]) rfl ⟨_, _, _, _, _, _, _, _, _, rfl, HL.out.1, HL.out.2⟩
theorem freck_mul (q p : Rat) (n n' : Bool) (A B A' B' : Option Addr) (xs ds ys es : List Nat) (c d c' d' : Nat) (w : World) (h : Lf w q n A xs c B ds d) (k : Lf w p n' A' ys c' B' es d') :
    Calls Tryz.prog 75 #[frq n A xs.length c false B ds.length d, frq n' A' ys.length c' false B' es.length d', .func (.func 76) #[] #[]] w (ReckF w (False) (q * p)) :=
  freck_any _ (fun _ _ => by simp [go_sem]) (q * p) q p (False) (fun _ _ _ _ _ _ _ _ _ _ _ _ _ _ _ h k => fmul1_any q p _ _ _ _ _ _ _ _ _ _ _ _ _ _ 1024 _ h k (by decide)) n n' A B A' B' xs ds ys es c d c' d' w h k
set_option maxHeartbeats 8000000 in
set_option maxRecDepth 20000 in
theorem frac_mul (q p : Rat) (n n' : Bool) (A B A' B' : Option Addr) (xs ds ys es : List Nat) (c d c' d' : Nat) (w : World) (h : Lf w q n A xs c B ds d) (k : Lf w p n' A' ys c' B' es d') :
  Calls Tryz.prog 18 #[frq n A xs.length c false B ds.length d, frq n' A' ys.length c' false B' es.length d'] w (ReckF w (False) (q * p)) := by
 obtain ⟨V, hV, BW, hz, RR, ⟨c0, c1, c2, c3⟩, ⟨e0, e1, e2, e3⟩⟩ := box_two w n A xs.length c false B ds.length d n' A' ys.length c' false B' es.length d' 27 27 27
 have KX := Box.of4 (by omega) c0 c1 c2 c3
 have KY := Box.of4 (by omega) e0 e1 e2 e3
 have LX := h.on BW
 have LY := k.on BW
 clear h k c0 c1 c2 c3 e0 e1 e2 e3 hz
 have KX_0 := KX.c 0 _ rfl
 have KX_1 := KX.c 1 _ rfl
 have KX_2 := KX.c 2 _ rfl
 have KX_3 := KX.c 3 _ rfl
 have KY_0 := KY.c 0 _ rfl
 have KY_1 := KY.c 1 _ rfl
 have KY_2 := KY.c 2 _ rfl
 have KY_3 := KY.c 3 _ rfl
 go_enter Tryz.func18, Tryz.ntmps18
 go_wp2_with fail
 clear KX_0 KX_1 KX_2 KX_3 KY_0 KY_1 KY_2 KY_3
 rw [← hV]
 clear hV
 refine (freck_mul q p _ _ _ _ _ _ _ _ _ _ _ _ _ _ _ LX LY).mono ?_
 rintro _ w9 ⟨tn, tA, tz, tk, tm, tB, td, tl, er, rfl, Rt, hb⟩
 replace KX := KX.on hb
 replace KY := KY.on hb
 replace LX := LX.on hb
 replace LY := LY.on hb
 replace RR := RR.on hb
 replace BW := BW.trans (hb.mono BW.size)
 clear hb
 have y0 := RR.r0
 have y1 := RR.r1
 have y2 := RR.r2
 have y3 := RR.r3
 have y4 := RR.f0
 have y5 := RR.f1
 have y6 := RR.f2
 have y7 := RR.f3
 have HL := Lib.hid (And.intro (Rt.put4 RR (.bool tn) (.slice tA tz.length tk) (.bool tm) (.slice tB td.length tl)) (Below.putq BW (r := w.heap.size + 1 + 1) (by omega) (.bool tn) (.slice tA tz.length tk) (.bool tm) (.slice tB td.length tl)))
 clear LX LY Rt BW KX KY RR
 go_wp2
 exact bodyPost_ret (v := .tuple #[frq tn tA tz.length tk tm tB td.length tl, .int .i64 er]) (by simp [results, Tryz.results18, go_sem, y0, y1, y2, y3]) rfl ⟨_, _, _, _, _, _, _, _, _, rfl, HL.out.1, HL.out.2⟩
section
variable {W W' : World} {z : Rat} {bad : Prop} {n m n' m' : Bool} {A B A' B' : Option Addr} {xs ds ys es : List Nat} {c d c' d' : Nat} {er er' : Int}
theorem Rk.lf (h : Rk W bad z n A xs c m B ds d er) (he : er = 0) : m = false ∧ Lf W z n A xs c B ds d := by
  rcases h with ⟨_, _, _, h4, h5⟩ | ⟨⟨_, h3⟩ | ⟨_, _, h3⟩, _⟩
  · exact ⟨h4, h5⟩
  · omega
  · omega
theorem Rk.no (h : Rk W bad z n A xs c m B ds d er) (he : er ≠ 0) : Zq n A xs c m B ds d := by
  rcases h with ⟨_, _, h3, _⟩ | ⟨_, h⟩
  · exact absurd h3 he
  · exact h
theorem Rk.yes (h : Rk W bad z n A xs c m B ds d er) (hb : ¬ bad) (hf : FitsQ z) : er = 0 := by
  rcases h with ⟨_, _, h3, _⟩ | ⟨⟨h1, _⟩ | ⟨_, h2, _⟩, _⟩
  · exact h3
  · exact absurd h1 hb
  · exact absurd hf h2
theorem Rk.to {z' : Rat} (h : Rk W bad z n A xs c m B ds d er) (e : z = z') : Rk W bad z' n A xs c m B ds d er := e ▸ h
theorem Lf.fitsQ (h : Lf W z n A xs c B ds d) : FitsQ z := ⟨h.num.fits, h.den.fits⟩
end
end Go.Proofs.YtobbedcaeffbaaaGreatDoor
namespace Go.Proofs.YtobbedcaeffbaaaGreatDoor
open Go.RowKit Nb
/-- All words and limbs stay. -/
structure Kept (W W' : World) : Prop where
 size : W.heap.size ≤ W'.heap.size
 w32 : ∀ (p : Addr) (n : Int), p.block < W.heap.size → W.cell? p = some (.int .u32 n) → W'.cell? p = some (.int .u32 n)
 w64 : ∀ (p : Addr) (n : Int), p.block < W.heap.size → W.cell? p = some (.int .u64 n) → W'.cell? p = some (.int .u64 n)
theorem Kept.of {W W' : World} (h : Below W.heap.size W W') : Kept W W' :=
 ⟨h.size, fun _ _ hp hc => (h.cell hp).trans hc, fun _ _ hp hc => (h.cell hp).trans hc⟩
theorem Kept.trans {W W' W'' : World} (h : Kept W W') (k : Kept W' W'') : Kept W W'' :=
 ⟨Nat.le_trans h.size k.size, fun p n hp hc => k.w32 p n (Nat.lt_of_lt_of_le hp h.size) (h.w32 p n hp hc), fun p n hp hc => k.w64 p n (Nat.lt_of_lt_of_le hp h.size) (h.w64 p n hp hc)⟩
/-- No word. -/
def soft : Value → Bool
 | .int .u32 _ => false
 | .int .u64 _ => false
 | _ => true
theorem size_setCells (b : Nat) : ∀ (vs : List Value) (o : Nat) (w : World), (w.setCells b o vs).heap.size = w.heap.size
 | [], _, _ => rfl
 | v :: r, o, w => by rw [World.setCells, size_setCells b r]; simp
section
variable {W W' w : World} {p g o N : Nat} {us vs : List Value}
theorem Kept.over (K : Box W p us) (hu : us.all soft = true) (hl : o + vs.length ≤ us.length) : Kept W (W.setCells p o vs) := by
 have key : ∀ (q : Addr) (v : Value), W.cell? q = some v → soft v = false → (W.setCells p o vs).cell? q = some v := by
  intro q v hc hs
  rw [World.cell?_setCells_out, hc]
  intro h1 h2
  rcases Nat.lt_or_ge q.off o with h | h
  ·exact .inl h
  ·refine .inr ?_
   rcases Nat.lt_or_ge q.off (o + vs.length) with h3 | h3
   ·exfalso
    have h4 : q.off < us.length := by omega
    have h5 := K.c q.off _ (List.getElem?_eq_getElem h4)
    have h6 : q = ⟨p, q.off, none⟩ := by cases q; simp_all
    rw [h6, h5] at hc
    have h7 := List.all_eq_true.1 hu _ (List.getElem_mem h4)
    rw [Option.some.inj hc, hs] at h7
    cases h7
   ·exact h3
 exact ⟨by rw [size_setCells]; exact Nat.le_refl _, fun q n _ hc => key q _ hc rfl, fun q n _ hc => key q _ hc rfl⟩
theorem Box.over (K : Box W p us) (hl : vs.length = us.length) : Box (W.setCells p 0 vs) p vs := by
 refine ⟨by rw [size_setCells]; exact K.lt, fun i v e => ?_⟩
 obtain ⟨hi, rfl⟩ := List.getElem?_eq_some_iff.1 e
 have := World.cell?_setCells_in p vs 0 W (fun j hj => by
  rw [Nat.zero_add, K.c j _ (List.getElem?_eq_getElem (by omega))]; rfl) i hi
 rwa [Nat.zero_add] at this
theorem Box.away (K : Box W p us) (hne : p ≠ g) : Box (W.setCells g o vs) p us :=
 ⟨by rw [size_setCells]; exact K.lt, fun i v e => by rw [World.cell?_setCells_out _ _ _ _ _ (fun h => absurd h hne)]; exact K.c i v e⟩
theorem Fz.put (h : Fz W p) : Fz (W.setCells g o vs) p := ⟨by rw [size_setCells]; exact h.1, fun j => by rw [World.frozen?_setCells]; exact h.2 j⟩
theorem Below.put (hw : N ≤ g) : ∀ {vs : List Value} {o : Nat} {W : World}, Below N w W → Below N w (W.setCells g o vs)
 | [], _, _, h => h
 | v :: r, o, _W, h => Below.put hw (vs := r) (h.setCell (p := ⟨g, o, none⟩) hw v)
theorem Kept.overE {V : World} (e : V = W.setCells p o vs) (K : Box W p us) (hu : us.all soft = true) (hl : o + vs.length ≤ us.length) : Kept W V := e ▸ Kept.over K hu hl
theorem Box.overE {V : World} (K : Box W p us) (e : V = W.setCells p 0 vs) (hl : vs.length = us.length) : Box V p vs := e ▸ K.over hl
theorem Box.awayE {V : World} (K : Box W p us) (e : V = W.setCells g o vs) (hne : p ≠ g) : Box V p us := e ▸ K.away hne
theorem Fz.putE {V : World} (h : Fz W p) (e : V = W.setCells g o vs) : Fz V p := e ▸ h.put
theorem Below.putE {V : World} (h : Below N w W) (e : V = W.setCells g o vs) (hw : N ≤ g) : Below N w V := e ▸ Below.put hw h
theorem Box.drew (K : Box W p us) : Box W.drew p us := ⟨K.lt, K.c⟩
theorem Fz.drew (K : Fz W p) : Fz W.drew p := ⟨K.1, K.2⟩
end
section
variable {W W' : World} {X Z : Int} {q z : Rat} {C : Nat} {n m : Bool} {A B : Option Addr} {xs ds ls : List Nat} {c d : Nat} {er : Int} {bad : Prop}
theorem Sl.kp32 (h : Sl .u32 W W.heap.size A ls) (k : Kept W W') : Sl .u32 W' W'.heap.size A ls := fun hn => by
 obtain ⟨ad, e, hb, hc⟩ := h hn
 exact ⟨ad, e, Nat.lt_of_lt_of_le hb k.size, fun j hj => k.w32 _ _ (by rw [block_of_add]; exact hb) (hc j hj)⟩
theorem Sl.kp64 (h : Sl .u64 W W.heap.size A ls) (k : Kept W W') : Sl .u64 W' W'.heap.size A ls := fun hn => by
 obtain ⟨ad, e, hb, hc⟩ := h hn
 exact ⟨ad, e, Nat.lt_of_lt_of_le hb k.size, fun j hj => k.w64 _ _ (by rw [block_of_add]; exact hb) (hc j hj)⟩
theorem Bg.kp (h : Bg W n A ls c C) (k : Kept W W') : Bg W' n A ls c C := ⟨h.sl.kp64 k, h.dig, h.norm, h.sign, h.len, h.cap⟩
theorem Lm.kp (h : Lm W n A ls c) (k : Kept W W') : Lm W' n A ls c := ⟨h.sl.kp32 k, h.dig, h.ok⟩
theorem Nw.kp (h : Nw W Z C n A ls c) (k : Kept W W') : Nw W' Z C n A ls c := ⟨h.bg.kp k, h.v⟩
theorem Nl.kp (h : Nl W Z n A ls c) (k : Kept W W') : Nl W' Z n A ls c := ⟨h.lm.kp k, h.v⟩
theorem Lq.kp (h : Lq W q n A xs c B ds d C) (k : Kept W W') : Lq W' q n A xs c B ds d C := ⟨h.num.kp k, h.den.kp k, h.vn, h.vd⟩
theorem Lf.kp (h : Lf W q n A xs c B ds d) (k : Kept W W') : Lf W' q n A xs c B ds d := ⟨h.num.kp k, h.den.kp k⟩
theorem Rl.kp (h : Rl W A ls) (k : Kept W W') : Rl W' A ls := ⟨h.sl.kp32 k, h.dig, h.sz⟩
theorem Rq.kp (h : Rq W A xs B ds) (k : Kept W W') : Rq W' A xs B ds := ⟨h.x.kp k, h.y.kp k⟩
theorem Rk.kp (h : Rk W bad z n A xs c m B ds d er) (k : Kept W W') : Rk W' bad z n A xs c m B ds d er := by
 rcases h with ⟨h1, h2, h3, h4, h5⟩ | h
 ·exact .inl ⟨h1, h2, h3, h4, h5.kp k⟩
 ·exact .inr h
end
/-- A new block. -/
theorem alloc_new (W : World) (us : List Value) (t : TypeId) : ∃ V : World, V = W.alloc (.cells us.toArray t) ∧ Below W.heap.size W V ∧ Box V W.heap.size us ∧ Fz V W.heap.size ∧ V.heap.size = W.heap.size + 1 :=
 ⟨_, rfl, (Below.refl _ _).alloc (Nat.le_refl _) _, Box.new W us t, Fz.new W _ t, by go_size⟩
theorem Box.c1 {W : World} {p : Nat} {a0 : Value} (K : Box W p [a0]) : W.cell? ⟨p, 0, none⟩ = some a0 := K.c 0 _ rfl
theorem Fz.f1 {W : World} {p : Nat} (K : Fz W p) : W.frozen? ⟨p, 0, none⟩ = false := K.2 0
theorem Box.c2 {W : World} {p : Nat} {a0 a1 : Value} (K : Box W p [a0, a1]) : W.cell? ⟨p, 0, none⟩ = some a0 ∧ W.cell? ⟨p, 1, none⟩ = some a1 := ⟨K.c 0 _ rfl, K.c 1 _ rfl⟩
theorem Fz.f2 {W : World} {p : Nat} (K : Fz W p) : W.frozen? ⟨p, 0, none⟩ = false ∧ W.frozen? ⟨p, 1, none⟩ = false := ⟨K.2 0, K.2 1⟩
theorem Box.c4 {W : World} {p : Nat} {a0 a1 a2 a3 : Value} (K : Box W p [a0, a1, a2, a3]) : W.cell? ⟨p, 0, none⟩ = some a0 ∧ W.cell? ⟨p, 1, none⟩ = some a1 ∧ W.cell? ⟨p, 2, none⟩ = some a2 ∧ W.cell? ⟨p, 3, none⟩ = some a3 := ⟨K.c 0 _ rfl, K.c 1 _ rfl, K.c 2 _ rfl, K.c 3 _ rfl⟩
theorem Fz.f4 {W : World} {p : Nat} (K : Fz W p) : W.frozen? ⟨p, 0, none⟩ = false ∧ W.frozen? ⟨p, 1, none⟩ = false ∧ W.frozen? ⟨p, 2, none⟩ = false ∧ W.frozen? ⟨p, 3, none⟩ = false := ⟨K.2 0, K.2 1, K.2 2, K.2 3⟩
theorem Box.c8 {W : World} {p : Nat} {a0 a1 a2 a3 a4 a5 a6 a7 : Value} (K : Box W p [a0, a1, a2, a3, a4, a5, a6, a7]) : W.cell? ⟨p, 0, none⟩ = some a0 ∧ W.cell? ⟨p, 1, none⟩ = some a1 ∧ W.cell? ⟨p, 2, none⟩ = some a2 ∧ W.cell? ⟨p, 3, none⟩ = some a3 ∧ W.cell? ⟨p, 4, none⟩ = some a4 ∧ W.cell? ⟨p, 5, none⟩ = some a5 ∧ W.cell? ⟨p, 6, none⟩ = some a6 ∧ W.cell? ⟨p, 7, none⟩ = some a7 := ⟨K.c 0 _ rfl, K.c 1 _ rfl, K.c 2 _ rfl, K.c 3 _ rfl, K.c 4 _ rfl, K.c 5 _ rfl, K.c 6 _ rfl, K.c 7 _ rfl⟩
theorem Fz.f8 {W : World} {p : Nat} (K : Fz W p) : W.frozen? ⟨p, 0, none⟩ = false ∧ W.frozen? ⟨p, 1, none⟩ = false ∧ W.frozen? ⟨p, 2, none⟩ = false ∧ W.frozen? ⟨p, 3, none⟩ = false ∧ W.frozen? ⟨p, 4, none⟩ = false ∧ W.frozen? ⟨p, 5, none⟩ = false ∧ W.frozen? ⟨p, 6, none⟩ = false ∧ W.frozen? ⟨p, 7, none⟩ = false := ⟨K.2 0, K.2 1, K.2 2, K.2 3, K.2 4, K.2 5, K.2 6, K.2 7⟩
theorem Box.c16 {W : World} {p : Nat} {a0 a1 a2 a3 a4 a5 a6 a7 a8 a9 a10 a11 a12 a13 a14 a15 : Value} (K : Box W p [a0, a1, a2, a3, a4, a5, a6, a7, a8, a9, a10, a11, a12, a13, a14, a15]) : W.cell? ⟨p, 0, none⟩ = some a0 ∧ W.cell? ⟨p, 1, none⟩ = some a1 ∧ W.cell? ⟨p, 2, none⟩ = some a2 ∧ W.cell? ⟨p, 3, none⟩ = some a3 ∧ W.cell? ⟨p, 4, none⟩ = some a4 ∧ W.cell? ⟨p, 5, none⟩ = some a5 ∧ W.cell? ⟨p, 6, none⟩ = some a6 ∧ W.cell? ⟨p, 7, none⟩ = some a7 ∧ W.cell? ⟨p, 8, none⟩ = some a8 ∧ W.cell? ⟨p, 9, none⟩ = some a9 ∧ W.cell? ⟨p, 10, none⟩ = some a10 ∧ W.cell? ⟨p, 11, none⟩ = some a11 ∧ W.cell? ⟨p, 12, none⟩ = some a12 ∧ W.cell? ⟨p, 13, none⟩ = some a13 ∧ W.cell? ⟨p, 14, none⟩ = some a14 ∧ W.cell? ⟨p, 15, none⟩ = some a15 := ⟨K.c 0 _ rfl, K.c 1 _ rfl, K.c 2 _ rfl, K.c 3 _ rfl, K.c 4 _ rfl, K.c 5 _ rfl, K.c 6 _ rfl, K.c 7 _ rfl, K.c 8 _ rfl, K.c 9 _ rfl, K.c 10 _ rfl, K.c 11 _ rfl, K.c 12 _ rfl, K.c 13 _ rfl, K.c 14 _ rfl, K.c 15 _ rfl⟩
theorem Box.c24 {W : World} {p : Nat} {a0 a1 a2 a3 a4 a5 a6 a7 a8 a9 a10 a11 a12 a13 a14 a15 a16 a17 a18 a19 a20 a21 a22 a23 : Value} (K : Box W p [a0, a1, a2, a3, a4, a5, a6, a7, a8, a9, a10, a11, a12, a13, a14, a15, a16, a17, a18, a19, a20, a21, a22, a23]) : W.cell? ⟨p, 0, none⟩ = some a0 ∧ W.cell? ⟨p, 1, none⟩ = some a1 ∧ W.cell? ⟨p, 2, none⟩ = some a2 ∧ W.cell? ⟨p, 3, none⟩ = some a3 ∧ W.cell? ⟨p, 4, none⟩ = some a4 ∧ W.cell? ⟨p, 5, none⟩ = some a5 ∧ W.cell? ⟨p, 6, none⟩ = some a6 ∧ W.cell? ⟨p, 7, none⟩ = some a7 ∧ W.cell? ⟨p, 8, none⟩ = some a8 ∧ W.cell? ⟨p, 9, none⟩ = some a9 ∧ W.cell? ⟨p, 10, none⟩ = some a10 ∧ W.cell? ⟨p, 11, none⟩ = some a11 ∧ W.cell? ⟨p, 12, none⟩ = some a12 ∧ W.cell? ⟨p, 13, none⟩ = some a13 ∧ W.cell? ⟨p, 14, none⟩ = some a14 ∧ W.cell? ⟨p, 15, none⟩ = some a15 ∧ W.cell? ⟨p, 16, none⟩ = some a16 ∧ W.cell? ⟨p, 17, none⟩ = some a17 ∧ W.cell? ⟨p, 18, none⟩ = some a18 ∧ W.cell? ⟨p, 19, none⟩ = some a19 ∧ W.cell? ⟨p, 20, none⟩ = some a20 ∧ W.cell? ⟨p, 21, none⟩ = some a21 ∧ W.cell? ⟨p, 22, none⟩ = some a22 ∧ W.cell? ⟨p, 23, none⟩ = some a23 := ⟨K.c 0 _ rfl, K.c 1 _ rfl, K.c 2 _ rfl, K.c 3 _ rfl, K.c 4 _ rfl, K.c 5 _ rfl, K.c 6 _ rfl, K.c 7 _ rfl, K.c 8 _ rfl, K.c 9 _ rfl, K.c 10 _ rfl, K.c 11 _ rfl, K.c 12 _ rfl, K.c 13 _ rfl, K.c 14 _ rfl, K.c 15 _ rfl, K.c 16 _ rfl, K.c 17 _ rfl, K.c 18 _ rfl, K.c 19 _ rfl, K.c 20 _ rfl, K.c 21 _ rfl, K.c 22 _ rfl, K.c 23 _ rfl⟩
/-- The parts of a fraction's value. -/
structure Fv where
 n : Bool
 A : Option Addr
 xs : List Nat
 c : Nat
 m : Bool
 B : Option Addr
 ds : List Nat
 d : Nat
abbrev fv (f : Fv) : Value := .agg #[.bool f.n, .slice f.A f.xs.length f.c, .bool f.m, .slice f.B f.ds.length f.d]
/-- A fraction in words. -/
def Fq (W : World) (q : Rat) (f : Fv) (C : Nat) : Prop := f.m = false ∧ Lq W q f.n f.A f.xs f.c f.B f.ds f.d C
/-- A fraction in limbs. -/
def Ff (W : World) (q : Rat) (f : Fv) : Prop := f.m = false ∧ Lf W q f.n f.A f.xs f.c f.B f.ds f.d
/-- A fraction as it is handed in. -/
def Fx (W : World) (f : Fv) : Prop := Rq W f.A f.xs f.B f.ds
/-- May it be? -/
def okv (f : Fv) : Prop := Okf f.n f.xs f.m f.ds
noncomputable def chkv (f : Fv) : Int := chkF f.n f.xs f.m f.ds
/-- None. -/
def fv0 : Fv := ⟨false, none, [], 0, false, none, [], 0⟩
/-- What is answered: the fraction, or the refusal. -/
def Fr (W : World) (bad : Prop) (z : Rat) (f : Fv) (er : Int) : Prop := (¬ bad ∧ FitsQ z ∧ er = 0 ∧ Ff W z f) ∨ ((bad ∧ er = 3 ∨ ¬ bad ∧ ¬ FitsQ z ∧ er = 4) ∧ f = fv0)
def GQ (w : World) (q : Rat) (C : Nat) (e : Ending) (w' : World) : Prop := ∃ f : Fv, e = .returned (fv f) ∧ Fq w' q f C ∧ Below w.heap.size w w'
def GR (w : World) (bad : Prop) (z : Rat) (e : Ending) (w' : World) : Prop := ∃ (f : Fv) (er : Int), e = .returned (.tuple #[fv f, .int .i64 er]) ∧ Fr w' bad z f er ∧ Below w.heap.size w w'
section
variable {W W' : World} {q p z : Rat} {f g : Fv} {C C' : Nat} {er : Int} {bad : Prop}
theorem Fq.kp (h : Fq W q f C) (k : Kept W W') : Fq W' q f C := ⟨h.1, h.2.kp k⟩
theorem Ff.kp (h : Ff W q f) (k : Kept W W') : Ff W' q f := ⟨h.1, h.2.kp k⟩
theorem Fx.kp (h : Fx W f) (k : Kept W W') : Fx W' f := Rq.kp h k
theorem Fr.kp (h : Fr W bad z f er) (k : Kept W W') : Fr W' bad z f er := by
 rcases h with ⟨h1, h2, h3, h4⟩ | h
 ·exact .inl ⟨h1, h2, h3, h4.kp k⟩
 ·exact .inr h
theorem Fq.mono (h : Fq W q f C) (hC : C ≤ C') : Fq W q f C' := ⟨h.1, h.2.mono hC⟩
theorem Fq.to (h : Fq W q f C) (e : q = p) : Fq W p f C := e ▸ h
theorem Ff.to (h : Ff W q f) (e : q = p) : Ff W p f := e ▸ h
theorem Fr.to (h : Fr W bad q f er) (e : q = p) : Fr W bad p f er := e ▸ h
theorem Ff.fits (h : Ff W q f) : FitsQ q := h.2.fitsQ
theorem Fr.yes (h : Fr W bad z f er) (hb : ¬ bad) (hf : FitsQ z) : er = 0 ∧ Ff W z f := by
 rcases h with ⟨_, _, h, k⟩ | ⟨⟨h, _⟩ | ⟨_, h, _⟩, _⟩
 ·exact ⟨h, k⟩
 ·exact absurd h hb
 ·exact absurd hf h
theorem Fr.ff (h : Fr W bad z f er) (he : er = 0) : Ff W z f := by
 rcases h with ⟨_, _, _, h⟩ | ⟨⟨_, h⟩ | ⟨_, _, h⟩, _⟩
 ·exact h
 ·omega
 ·omega
theorem Ff.okv (h : Ff W q f) : okv f := by
 obtain ⟨hm, h⟩ := h
 have := h.okf
 show Okf f.n f.xs f.m f.ds
 rw [hm]
 exact this
theorem Ff.fx (h : Ff W q f) : Fx W f := h.2.rq
theorem okv.ff (h : okv f) (r : Fx W f) : ∃ q : Rat, Ff W q f := by
 obtain ⟨q, hq⟩ := Okf.lf h r
 exact ⟨q, h.pos, hq⟩
theorem chkv_ok (h : okv f) : chkv f = 0 := chkF_ok h
theorem chkv_bad (h : ¬ okv f) : chkv f = 1 := chkF_bad h
theorem GR.of {e : Ending} (h : ReckF W bad z e W') : GR W bad z e W' := by
 obtain ⟨n, A, xs, c, m, B, ds, d, er, rfl, ⟨h1, h2, h3, rfl, h4⟩ | ⟨h1, rfl, rfl, rfl, rfl, rfl, rfl, rfl, rfl⟩, hb⟩ := h
 ·exact ⟨⟨n, A, xs, c, false, B, ds, d⟩, er, rfl, .inl ⟨h1, h2, h3, rfl, h4⟩, hb⟩
 ·exact ⟨fv0, er, rfl, .inr ⟨h1, rfl⟩, hb⟩
theorem q_fit (h : Fq W q f C) (hC : C ≤ 1759218604390) : Calls Tryz.prog 63 #[fv f] W (GR W False q) := by
 obtain ⟨n, A, xs, c, m, B, ds, d⟩ := f
 obtain ⟨rfl, h⟩ := h
 refine (ffit_any q n A B xs ds c d C W h hC).mono ?_
 rintro _ _ ⟨n, A, xs, c, m, B, ds, d, er, rfl, ⟨h1, h2, rfl, h3⟩ | ⟨h1, h2, rfl, rfl, rfl, rfl, rfl, rfl, rfl, rfl⟩, hb⟩
 ·exact ⟨⟨n, A, xs, c, false, B, ds, d⟩, er, rfl, .inl ⟨not_false, h1, h2, rfl, h3⟩, hb⟩
 ·exact ⟨fv0, er, rfl, .inr ⟨.inr ⟨not_false, h1, h2⟩, rfl⟩, hb⟩
theorem r_sub (h : Ff W q f) (k : Ff W p g) : Calls Tryz.prog 22 #[fv f, fv g] W (GR W (False) (q - p)) := by
 obtain ⟨n, A, xs, c, m, B, ds, d⟩ := f
 obtain ⟨n', A', ys, c', m', B', es, d'⟩ := g
 obtain ⟨rfl, h⟩ := h
 obtain ⟨rfl, k⟩ := k
 exact (frac_sub q p n n' A B A' B' xs ds ys es c d c' d' W h k).mono (fun _ _ h => GR.of h)
theorem r_mul (h : Ff W q f) (k : Ff W p g) : Calls Tryz.prog 18 #[fv f, fv g] W (GR W (False) (q * p)) := by
 obtain ⟨n, A, xs, c, m, B, ds, d⟩ := f
 obtain ⟨n', A', ys, c', m', B', es, d'⟩ := g
 obtain ⟨rfl, h⟩ := h
 obtain ⟨rfl, k⟩ := k
 exact (frac_mul q p n n' A B A' B' xs ds ys es c d c' d' W h k).mono (fun _ _ h => GR.of h)
theorem r_sign (h : Ff W q f) : Calls Tryz.prog 21 #[fv f] W (fun e w' => e = .returned (.int .i64 (sgnQ q)) ∧ Below W.heap.size W w') := by
 obtain ⟨n, A, xs, c, m, B, ds, d⟩ := f
 obtain ⟨rfl, h⟩ := h
 exact frac_sign q n A B xs ds c d W h
theorem r_check (h : Fx W f) : Calls Tryz.prog 17 #[fv f] W (fun e w' => e = .returned (.int .i64 (chkv f)) ∧ Below W.heap.size W w') := by
 obtain ⟨n, A, xs, c, m, B, ds, d⟩ := f
 exact fcheck_any n m A B xs ds c d W h
end
end Go.Proofs.YtobbedcaeffbaaaGreatDoor
namespace Go.Proofs.YtobbedcaeffbaaaGreatDoor
open Go.RowKit Nb
theorem int_num (n : Int) : (n : Rat).num = n := rfl
theorem int_den (n : Int) : (n : Rat).den = 1 := rfl
theorem fits_int {n : Int} (h : n.natAbs < 2 ^ 100) : FitsQ (n : Rat) := ⟨by rw [int_num]; exact fits_low h, by rw [int_den]; exact fits_low (by decide)⟩
theorem lof_n {n : Int} {w : World} (h0 : -9223372036854775808 ≤ n) (h1 : n ≤ 9223372036854775807) : Calls Tryz.prog 62 #[.int .i64 n] w (GivesN w n 1) := by
 refine (large_of_any n w h0 h1).mono ?_
 rintro _ w1 ⟨g, rfl, hs, _, hb⟩
 refine ⟨_, _, _, _, rfl, ⟨⟨hs, ofL_dig h0 h1, ofL_norm n, fun e => ?_, by have := ofL_len n; omega, Nat.le_refl _⟩, ?_⟩, hb⟩
 ·have := ofL_val n
  rw [e] at this
  have h3 : n = 0 := by simp [val] at this; omega
  rw [h3]; rfl
 ·rw [ofL_val]
  unfold sv
  by_cases h : n < 0
  ·rw [decide_eq_true h, if_pos rfl]; omega
  ·rw [decide_eq_false h]; simp; omega
theorem q_ratio {X Y : Int} {n m : Bool} {A B : Option Addr} {xs ds : List Nat} {c d C : Nat} {w : World} (h : Nw w X C n A xs c) (k : Nw w Y C m B ds d) (hY : Y ≠ 0) (hC : C ≤ 1759218604390) :
  Calls Tryz.prog 60 #[big n A xs.length c, big m B ds.length d] w (GQ w (Rat.divInt X Y) (C + 1)) := by
 refine (ratio_any X Y n m A B xs ds c d C w h k hY hC).mono ?_
 rintro _ _ ⟨n, A, xs, c, B, ds, d, rfl, hL, hb⟩
 exact ⟨⟨n, A, xs, c, false, B, ds, d⟩, rfl, ⟨rfl, hL⟩, hb⟩
section
variable {k l : Nat} {a b : Int} {z y s t : Rat}
theorem bd_mul (ha : a.natAbs ≤ 2 ^ k) (hb : b.natAbs ≤ 2 ^ l) : (a * b).natAbs ≤ 2 ^ (k + l) := by
  rw [Int.natAbs_mul, Nat.pow_add]; exact Nat.mul_le_mul ha hb
theorem bd_add (ha : a.natAbs ≤ 2 ^ k) (hb : b.natAbs ≤ 2 ^ k) : (a + b).natAbs ≤ 2 ^ (k + 1) := by
  have := Int.natAbs_add_le a b
  rw [Nat.pow_succ]; omega
theorem bd_mono (ha : a.natAbs ≤ 2 ^ k) (h : k ≤ l) : a.natAbs ≤ 2 ^ l := Nat.le_trans ha (Nat.pow_le_pow_right (by decide) h)
/-- A fraction of whole numbers of k binary digits. -/
def Hq (k : Nat) (z : Rat) : Prop := ∃ (D a : Int), 0 < D ∧ z * (D : Rat) = (a : Rat) ∧ D.natAbs ≤ 2 ^ k ∧ a.natAbs ≤ 2 ^ k
/-- Two of them, by one denominator. -/
def Hg (k : Nat) (z y : Rat) : Prop := ∃ (D a b : Int), 0 < D ∧ z * (D : Rat) = (a : Rat) ∧ y * (D : Rat) = (b : Rat) ∧ D.natAbs ≤ 2 ^ k ∧ a.natAbs ≤ 2 ^ k ∧ b.natAbs ≤ 2 ^ k
theorem rat_whole (z : Rat) : z * ((z.den : Int) : Rat) = (z.num : Rat) := by
  have h : z = (z.num : Rat) / ((z.den : Int) : Rat) := by
    conv => lhs; rw [← Rat.num_divInt_den z, Rat.divInt_eq_div]
  have hd : ((z.den : Int) : Rat) ≠ 0 := fun e => z.den_nz (by
    have e2 : ((z.den : Int) : Rat) = ((0 : Int) : Rat) := e
    have := Rat.intCast_inj.1 e2
    omega)
  generalize ((z.den : Int) : Rat) = d at *
  generalize (z.num : Rat) = n at *
  subst h
  grind
theorem Hq.parts (h : Hq k z) : z.den ≤ 2 ^ k ∧ z.num.natAbs ≤ 2 ^ k := by
  obtain ⟨D, a, hD, he, bD, ba⟩ := h
  have h1 := rat_whole z
  have h2 : ((z.num * D : Int) : Rat) = ((a * (z.den : Int) : Int) : Rat) := by
    rw [Rat.intCast_mul, Rat.intCast_mul, ← h1, ← he]; grind
  have h3 := Rat.intCast_inj.1 h2
  have h4 : z.num.natAbs * D.natAbs = a.natAbs * z.den := by
    have := congrArg Int.natAbs h3
    rwa [Int.natAbs_mul, Int.natAbs_mul, Int.natAbs_natCast] at this
  have h5 : z.den ∣ D.natAbs := by
    refine Nat.Coprime.dvd_of_dvd_mul_left (k := z.den) (m := z.num.natAbs) z.reduced.symm ?_
    rw [h4]; exact Nat.dvd_mul_left _ _
  have hDp : 0 < D.natAbs := by omega
  refine ⟨Nat.le_trans (Nat.le_of_dvd hDp h5) bD, ?_⟩
  obtain ⟨m, hm⟩ := h5
  have hmp : 0 < m := Nat.pos_of_ne_zero fun e => by rw [e] at hm; omega
  have h6 : z.num.natAbs * m = a.natAbs := by
    have := h4
    rw [hm, show z.num.natAbs * (z.den * m) = (z.num.natAbs * m) * z.den by grind] at this
    exact Nat.eq_of_mul_eq_mul_right z.den_pos this
  refine Nat.le_trans ?_ ba
  rw [← h6]
  exact Nat.le_mul_of_pos_right _ hmp
theorem pow_32 (n : Nat) : W32 ^ n = 2 ^ (32 * n) := by rw [show W32 = 2 ^ 32 from rfl, ← Nat.pow_mul]
theorem pow_lt_w (n : Nat) (hk : k < 32 * n) : 2 ^ k < W32 ^ n := by rw [pow_32]; exact Nat.pow_lt_pow_right (by decide) hk
theorem Hq.fits (h : Hq k z) (hk : k < 65536) : FitsQ z := by
  obtain ⟨h1, h2⟩ := h.parts
  have h3 := pow_lt_w (k := k) 2048 (by omega)
  refine ⟨?_, ?_⟩
  · unfold Fits; exact Nat.lt_of_le_of_lt h2 h3
  · unfold Fits; rw [Int.natAbs_natCast]; exact Nat.lt_of_le_of_lt h1 h3
theorem Hg.re (h : Hg k z y) : Hq k z := by obtain ⟨D, a, b, h0, h1, h2, h3, h4, h5⟩ := h; exact ⟨D, a, h0, h1, h3, h4⟩
theorem Hg.add (h : Hg k z y) (g : Hg l s t) : Hg (k + l + 1) (z + s) (y + t) := by
  obtain ⟨D, a, b, h0, h1, h2, h3, h4, h5⟩ := h
  obtain ⟨E, c, d, g0, g1, g2, g3, g4, g5⟩ := g
  refine ⟨D * E, a * E + c * D, b * E + d * D, Int.mul_pos h0 g0, ?_, ?_, bd_mono (bd_mul h3 g3) (by omega), bd_add (bd_mul h4 g3) (by have := bd_mul g4 h3; rwa [Nat.add_comm] at this), bd_add (bd_mul h5 g3) (by have := bd_mul g5 h3; rwa [Nat.add_comm] at this)⟩
  · simp only [Rat.intCast_mul, Rat.intCast_add]; rw [← h1, ← g1]; grind
  · simp only [Rat.intCast_mul, Rat.intCast_add]; rw [← h2, ← g2]; grind
theorem Hg.neg (h : Hg k z y) : Hg k z (-y) := by
  obtain ⟨D, a, b, h0, h1, h2, h3, h4, h5⟩ := h
  refine ⟨D, a, -b, h0, h1, ?_, h3, h4, by rw [Int.natAbs_neg]; exact h5⟩
  rw [Rat.intCast_neg, ← h2]; grind
theorem Hg.norm (h : Hg k z y) : Hq (k + k + 1) (z * z + y * y) := by
  obtain ⟨D, a, b, h0, h1, h2, h3, h4, h5⟩ := h
  refine ⟨D * D, a * a + b * b, Int.mul_pos h0 h0, ?_, bd_mono (bd_mul h3 h3) (by omega), bd_add (bd_mul h4 h4) (bd_mul h5 h5)⟩
  simp only [Rat.intCast_mul, Rat.intCast_add]; rw [← h1, ← h2]; grind
theorem Hq.add (h : Hq k z) (g : Hq l s) : Hq (k + l + 1) (z + s) := by
  obtain ⟨D, a, h0, h1, h2, h3⟩ := h
  obtain ⟨E, c, g0, g1, g2, g3⟩ := g
  refine ⟨D * E, a * E + c * D, Int.mul_pos h0 g0, ?_, bd_mono (bd_mul h2 g2) (by omega), bd_add (bd_mul h3 g2) (by have := bd_mul g3 h2; rwa [Nat.add_comm] at this)⟩
  simp only [Rat.intCast_mul, Rat.intCast_add]; rw [← h1, ← g1]; grind
theorem Hq.one : Hq 0 1 := ⟨1, 1, by decide, by decide +kernel, by decide, by decide⟩
theorem Hg.mono (h : Hg k z y) (hk : k ≤ l) : Hg l z y := by
  obtain ⟨D, a, b, h0, h1, h2, h3, h4, h5⟩ := h
  exact ⟨D, a, b, h0, h1, h2, bd_mono h3 hk, bd_mono h4 hk, bd_mono h5 hk⟩
theorem Hq.mono (h : Hq k z) (hk : k ≤ l) : Hq l z := by
  obtain ⟨D, a, h0, h1, h3, h4⟩ := h
  exact ⟨D, a, h0, h1, bd_mono h3 hk, bd_mono h4 hk⟩
theorem Ff.hq {w : World} {q : Rat} {f : Fv} (h : Ff w q f) : Hq (32 * (f.xs.length + f.ds.length)) q := by
  have h1 := val_lt h.2.num.lm.dig
  have h2 := val_lt h.2.den.lm.dig
  rw [h.2.num_val, pow_32] at h1
  rw [h.2.den_val, pow_32] at h2
  refine ⟨(q.den : Int), q.num, by have := q.den_pos; omega, rat_whole q, ?_, bd_mono (Nat.le_of_lt h1) (by omega)⟩
  rw [Int.natAbs_natCast]
  exact Nat.le_trans (Nat.le_of_lt h2) (Nat.pow_le_pow_right (by decide) (by omega))
end
open Fl
/-- The exponent as FromFloat takes it: at least 1. -/
def fe (x : Nat) : Nat := max (mg x / 4503599627370496) 1
/-- The units that it counts. -/
def fu (x : Nat) : Nat := if mg x / 4503599627370496 = 0 then mg x % 4503599627370496 else mg x % 4503599627370496 + 4503599627370496
def fs (x : Nat) : Int := if ng x then -(fu x : Int) else fu x
theorem uval_fu (x : Nat) : uval (mg x) = fu x * 2 ^ (fe x - 1) := by
  unfold uval fu fe
  by_cases h : mg x < 4503599627370496
  · have h2 : mg x / 4503599627370496 = 0 := Nat.div_eq_of_lt h
    rw [if_pos h, if_pos h2, h2, Nat.mod_eq_of_lt h]; simp
  · have h2 : mg x / 4503599627370496 ≠ 0 := by omega
    rw [if_neg h, if_neg h2, Nat.max_eq_left (by omega), Nat.add_comm]
theorem sval_fs (x : Nat) : sval x = fs x * ((2 ^ (fe x - 1) : Nat) : Int) := by
  unfold sval fs
  rw [uval_fu]
  cases ng x
  · simp only [Bool.false_eq_true, if_false, Int.natCast_mul]
  · simp only [if_true, Int.natCast_mul, Int.neg_mul]
theorem fu_lt (x : Nat) : fu x < 9007199254740992 := by
  unfold fu
  have := Nat.mod_lt (mg x) (y := 4503599627370496) (by decide)
  split <;> omega
theorem fe_le {x : Nat} (h : mg x < 9218868437227405312) : 1 ≤ fe x ∧ fe x ≤ 2046 := by
  unfold fe
  have : mg x / 4503599627370496 ≤ 2046 := by omega
  omega
/-- A power of two that stays as it is. -/
def tw (k : Nat) : Nat := 2 ^ k
theorem tw_add (a b : Nat) : tw (a + b) = tw a * tw b := Nat.pow_add ..
theorem tw_le {a b : Nat} (h : a ≤ b) : tw a ≤ tw b := Nat.pow_le_pow_right (by decide) h
theorem two_pos (k : Nat) : 0 < (tw k : Int) := Int.natCast_pos.2 (Nat.pow_pos (by decide))
theorem two_ne (k : Nat) : ((tw k : Int) : Rat) ≠ 0 := by
  intro e
  have := two_pos k
  have h : (tw k : Int) = 0 := by exact_mod_cast e
  omega
/-- What it is worth. -/
def fl (x : Nat) : Rat := (sval x : Rat) / ((tw 1074 : Int) : Rat)
theorem fl_shift {x a b : Nat} (h : a + 1074 = fe x - 1 + b) : Rat.divInt (fs x * (tw a : Int)) (tw b : Int) = fl x := by
  have hp : (tw a : Int) * (tw 1074 : Int) = (tw (fe x - 1) : Int) * (tw b : Int) := by
    rw [← Int.natCast_mul, ← Int.natCast_mul, ← tw_add, ← tw_add, h]
  rw [Rat.divInt_eq_div]
  unfold fl
  rw [sval_fs, show 2 ^ (fe x - 1) = tw (fe x - 1) from rfl]
  have t0 := two_ne 1074
  have b0 := two_ne b
  generalize (tw a : Int) = A at *
  generalize (tw b : Int) = B at *
  generalize (tw (fe x - 1) : Int) = E at *
  generalize (tw 1074 : Int) = T at *
  generalize fs x = s at *
  have hq : (A : Rat) * (T : Rat) = (E : Rat) * (B : Rat) := by rw [← Rat.intCast_mul, ← Rat.intCast_mul, hp]
  rw [Rat.intCast_mul, Rat.intCast_mul]
  grind
theorem uval_le {x : Nat} (h : mg x < 9218868437227405312) : uval (mg x) ≤ tw 2098 := by
  rw [uval_fu, show 2098 = 53 + 2045 from rfl, tw_add]
  exact Nat.mul_le_mul (Nat.le_of_lt (fu_lt x)) (tw_le (by have := (fe_le h).2; omega))
theorem fl_hq {x k : Nat} (h : mg x < 9218868437227405312) (hk : 2098 ≤ k) : Hq k (fl x) := by
  refine ⟨(tw 1074 : Int), sval x, two_pos _, ?_, ?_, ?_⟩
  · unfold fl
    have t0 := two_ne 1074
    generalize ((tw 1074 : Int) : Rat) = T at *
    grind
  · rw [Int.natAbs_natCast]; exact tw_le (by omega)
  · have := Nat.le_trans (uval_le h) (tw_le hk)
    unfold sval
    cases ng x
    · simpa [tw] using this
    · simpa [tw] using this
theorem fl_fits {x : Nat} (h : mg x < 9218868437227405312) : FitsQ (fl x) := by
  obtain ⟨k, hk⟩ : ∃ k : Nat, k = 2098 := ⟨_, rfl⟩
  exact (fl_hq (k := k) h (by omega)).fits (by omega)
end Go.Proofs.YtobbedcaeffbaaaGreatDoor
namespace Go.Proofs.YtobbedcaeffbaaaGreatDoor
open Go.RowKit Nb
set_option linter.unusedSimpArgs false
theorem sv_shl (n : Bool) (v k : Nat) : sv n (v * 2 ^ k) = sv n v * 2 ^ k := by
  have h : ((v * 2 ^ k : Nat) : Int) = (v : Int) * 2 ^ k := by rw [Int.natCast_mul, Int.natCast_pow]; rfl
  cases n
  · exact h
  · show -((v * 2 ^ k : Nat) : Int) = -(v : Int) * 2 ^ k
    rw [h, Int.neg_mul]
set_option maxHeartbeats 4000000 in
set_option maxRecDepth 20000 in
theorem lshift_up (neg : Bool) (A : Option Addr) (xs : List Nat) (c n C : Nat) (w : World) (hx : Sl .u64 w w.heap.size A xs) (dx : Dig W64 xs) (hn : n ≤ 9223372036854775807)
    (hm : 0 < xs.length → (xs.length + n / 64 + 1) * 8 ≤ 140737488351232) (hC : 0 < xs.length → xs.length + n / 64 + 1 ≤ C) (hC2 : C ≤ 17592186043904) :
    Calls Tryz.prog 173 #[big neg A xs.length c, .int .i64 n] w (Gives w (sv neg (val W64 xs) * 2 ^ n) C) := by
  have hU : ∀ W : World, Sl .u64 W W.heap.size A xs → Calls Tryz.prog 247 #[.slice A xs.length c, .int .u64 n] W (Words W (val W64 xs * 2 ^ n) C) := fun W h => by
    rcases Nat.eq_zero_or_pos xs.length with h0 | h0
    · have e : xs = [] := List.eq_nil_of_length_eq_zero h0
      subst e
      simp only [val_nil, Nat.zero_mul]
      exact (shiftUp_nil n c A W).mono fun _ _ h => h.mono (Nat.zero_le _)
    · exact (shiftUp_pos A xs c n W h dx h0 (by simp only [W64]; omega) (hm h0)).mono fun _ _ h => h.mono (hC h0)
  have HU := Lib.hid hU
  have hlen : xs.length ≤ 17592186043904 := by
    rcases Nat.eq_zero_or_pos xs.length with h0 | h0
    · omega
    · have := hm h0; omega
  have hni : (0 : Int) ≤ (n : Int) := by omega
  have hni2 : (n : Int) ≤ 9223372036854775807 := by omega
  have hwr : IntKind.u64.wrap (n : Int) = (n : Int) := by rw [IntKind.wrap_u64]; omega
  clear hU hm hC
  have hb0 : Below w.heap.size w ((w.alloc (.cells #[.bool neg, .slice A xs.length c] 98)).alloc (.cells #[.bool false, .slice none 0 0] 98)) := by go_grown
  have hre := Rest.new (w.alloc (.cells #[.bool neg, .slice A xs.length c] 98))
  rw [World.size_alloc] at hre
  have c0 : ((w.alloc (.cells #[.bool neg, .slice A xs.length c] 98)).alloc (.cells #[.bool false, .slice none 0 0] 98)).cell? ⟨w.heap.size, 0, none⟩ = some (.bool neg) := by go_cell
  have c1 : ((w.alloc (.cells #[.bool neg, .slice A xs.length c] 98)).alloc (.cells #[.bool false, .slice none 0 0] 98)).cell? ⟨w.heap.size, 1, none⟩ = some (.slice A xs.length c) := by go_cell
  have hz : ((w.alloc (.cells #[.bool neg, .slice A xs.length c] 98)).alloc (.cells #[.bool false, .slice none 0 0] 98)).heap.size = w.heap.size + 1 + 1 := by go_size
  have hs := hx.below hb0
  go_enter Tryz.func173, Tryz.ntmps173
  go_wp2_with fail
  generalize ((w.alloc (.cells #[.bool neg, .slice A xs.length c] 98)).alloc (.cells #[.bool false, .slice none 0 0] 98)) = W at *
  have HZ := Lib.hid hz
  clear hz hx
  have hlt : w.heap.size < W.heap.size := by have := HZ.out; omega
  refine wp_region_noPanic ?_
  have B0 : Below W.heap.size W W.drew := (Below.refl _ _).drew
  refine wp_region_held_drew (S := (fun wx => wx.cell? ⟨w.heap.size, 0, none⟩ = some (.bool neg) ∧ wx.cell? ⟨w.heap.size, 1, none⟩ = some (.slice A xs.length c))) (by kernel_rfl) ⟨((B0).cell (p := ⟨w.heap.size, 0, none⟩) hlt).trans c0, ((B0).cell (p := ⟨w.heap.size, 1, none⟩) hlt).trans c1⟩ (fun hHeld => ?_)
  generalize W.drew = Vd at *
  refine wpAnyH_take (i := 0) (v := ?_) (by (simp only [List.getElem?_toArray, List.getElem?_cons_succ, List.getElem?_cons_zero]; rfl)) (by kernel_rfl) (by kernel_rfl) (by kernel_rfl) (fun _ _ _ h => h) (Or.inl ⟨by rfl, ?_⟩) (by assumption) ?_
  rotate_left
  · intro wt hSw
    (try dsimp only at hSw)
    go_simp
    (try with_reducible rfl)
  (try simp only [Act.put, List.setIfInBounds_toArray, List.set_cons_zero, List.set_cons_succ])
  refine wpAnyH_take (i := 1) (v := ?_) (by (simp only [List.getElem?_toArray, List.getElem?_cons_succ, List.getElem?_cons_zero]; rfl)) (by kernel_rfl) (by kernel_rfl) (by kernel_rfl) (fun _ _ _ h => h) (Or.inl ⟨by rfl, ?_⟩) (by assumption) ?_
  rotate_left
  · intro wt hSw
    (try dsimp only at hSw)
    go_simp
    (try with_reducible rfl)
  (try simp only [Act.put, List.setIfInBounds_toArray, List.set_cons_zero, List.set_cons_succ])
  refine wpAnyH_take (i := 2) (v := ?_) (by (simp only [List.getElem?_toArray, List.getElem?_cons_succ, List.getElem?_cons_zero]; rfl)) (by kernel_rfl) (by kernel_rfl) (by kernel_rfl) (fun _ _ _ h => h) (Or.inl ⟨by rfl, ?_⟩) (by assumption) ?_
  rotate_left
  · intro wt hSw
    (try dsimp only at hSw)
    go_simp
    (try with_reducible rfl)
  (try simp only [Act.put, List.setIfInBounds_toArray, List.set_cons_zero, List.set_cons_succ])
  refine wpAnyH_take (i := 3) (v := ?_) (by (simp only [List.getElem?_toArray, List.getElem?_cons_succ, List.getElem?_cons_zero]; rfl)) (by kernel_rfl) (by kernel_rfl) (by kernel_rfl) (fun _ _ _ h => h) (Or.inl ⟨by rfl, ?_⟩) (by assumption) ?_
  rotate_left
  · intro wt hSw
    (try dsimp only at hSw)
    go_simp
    (try with_reducible rfl)
  (try simp only [Act.put, List.setIfInBounds_toArray, List.set_cons_zero, List.set_cons_succ])
  refine wpAnyH_take (i := 4) (v := ?_) (by (simp only [List.getElem?_toArray, List.getElem?_cons_succ, List.getElem?_cons_zero]; rfl)) (by kernel_rfl) (by kernel_rfl) (by kernel_rfl) (fun _ _ _ h => h) (Or.inl ⟨by rfl, ?_⟩) (by assumption) ?_
  rotate_left
  · intro wt hSw
    (try dsimp only at hSw)
    go_simp
    (try with_reducible rfl)
  (try simp only [Act.put, List.setIfInBounds_toArray, List.set_cons_zero, List.set_cons_succ])
  refine wpAnyH_take (i := 5) (v := ?_) (by (simp only [List.getElem?_toArray, List.getElem?_cons_succ, List.getElem?_cons_zero]; rfl)) (by kernel_rfl) (by kernel_rfl) (by kernel_rfl) (fun _ _ _ h => h) (Or.inl ⟨by rfl, ?_⟩) (by assumption) ?_
  rotate_left
  · intro wt hSw
    (try dsimp only at hSw)
    go_simp
    (try with_reducible rfl)
  (try simp only [Act.put, List.setIfInBounds_toArray, List.set_cons_zero, List.set_cons_succ])
  refine wpAnyH_ready (rs := [6]) (by kernel_rfl) (by simp) (AllReadyH.cons (by (simp only [List.getElem?_toArray, List.getElem?_cons_succ, List.getElem?_cons_zero]; rfl)) (fun K hK => ?_) AllReadyH.nil)
  go_simp
  (go_at_call 247; (with_reducible refine (HU.out Vd ((hs.below (B0.mono hb0.size)).more (Nat.le_trans hb0.size B0.size))).mono ?_))
  rintro e wa ⟨V, zs, k, rfl, hs1, hd1, hn1, hv1, hk1, hk2, hb⟩
  (try go_wp2_with fail)
  have B1 := B0.trans (hb.mono B0.size)
  refine hK.out _ _ ⟨((B1).cell (p := ⟨w.heap.size, 0, none⟩) hlt).trans c0, ((B1).cell (p := ⟨w.heap.size, 1, none⟩) hlt).trans c1⟩ (fun hHeld => ?_)
  clear hK
  (try simp only [Act.put, List.setIfInBounds_toArray, List.set_cons_zero, List.set_cons_succ])
  refine wpAnyH_ready (rs := [7]) (by kernel_rfl) (by simp) (AllReadyH.cons (by (simp only [List.getElem?_toArray, List.getElem?_cons_succ, List.getElem?_cons_zero]; rfl)) (fun K hK => ?_) AllReadyH.nil)
  go_simp
  (go_at_call 174; (with_reducible refine (made_any _ V zs.length k wa (by unfold maxLen; omega)).mono ?_))
  rintro e wb ⟨rfl, hb2⟩
  (try go_wp2_with fail)
  have B2 := B1.trans (hb2.mono B1.size)
  refine hK.out _ _ ⟨((B2).cell (p := ⟨w.heap.size, 0, none⟩) hlt).trans c0, ((B2).cell (p := ⟨w.heap.size, 1, none⟩) hlt).trans c1⟩ (fun hHeld => ?_)
  clear hK
  (try simp only [Act.put, List.setIfInBounds_toArray, List.set_cons_zero, List.set_cons_succ])
  have hr2 := hre.on B2
  have hw2 := hb0.trans (B2.mono hb0.size)
  have g0 := hr2.r0
  have g1 := hr2.r1
  have g2 := hr2.f0
  have g3 := hr2.f1
  have hB : Bg wb (neg && decide (0 < zs.length)) V zs k C := ⟨(hs1.below hb2).more hb2.size, hd1, hn1, sign_made, hk1, hk2⟩
  have hL := hr2.laid hw2 (by omega) hB
  refine wpAnyH_ready (rs := [8]) (by kernel_rfl) (by simp) (AllReadyH.cons (by (simp only [List.getElem?_toArray, List.getElem?_cons_succ, List.getElem?_cons_zero]; rfl)) (fun K hK => ?_) AllReadyH.nil)
  go_simp
  refine hK.out _ _ ⟨(by rw [World.cell?_setCell_other _ _ _ _ (by simp), World.cell?_setCell_other _ _ _ _ (by simp)]; exact ((B2).cell (p := ⟨w.heap.size, 0, none⟩) hlt).trans c0), (by rw [World.cell?_setCell_other _ _ _ _ (by simp), World.cell?_setCell_other _ _ _ _ (by simp)]; exact ((B2).cell (p := ⟨w.heap.size, 1, none⟩) hlt).trans c1)⟩ (fun hHeld => ?_)
  clear hK
  (try simp only [Act.put, List.setIfInBounds_toArray, List.set_cons_zero, List.set_cons_succ])
  refine wpAnyH_done (by kernel_rfl) (NoPanic.normal ?_) _
  go_wp2
  refine bodyPost_ret (v := big (neg && decide (0 < zs.length)) V zs.length k) (by simp [results, Tryz.results173, go_sem, g0, g1]) rfl ⟨_, V, zs, k, rfl, hL.1, ?_, hL.2⟩
  rw [sv_made, hv1, sv_shl]
end Go.Proofs.YtobbedcaeffbaaaGreatDoor
namespace Go.Proofs.YtobbedcaeffbaaaGreatDoor
open Go.RowKit Nb
theorem l_shift {X : Int} {n : Bool} {A : Option Addr} {xs : List Nat} {c C k : Nat} {w : World} (h : Nw w X C n A xs c) (hC : C ≤ 1000000) (hk : k ≤ 131072) :
    Calls Tryz.prog 173 #[big n A xs.length c, .int .i64 k] w (GivesN w (X * (tw k : Int)) (C + 2049)) := by
  have hl := h.bg.len
  have hc := h.bg.cap
  refine (lshift_up n A xs c k (C + 2049) w h.bg.sl h.bg.dig (by omega) (fun _ => by omega) (fun _ => by omega) (by omega)).mono ?_
  rintro _ w1 ⟨m, V, zs, d, rfl, hb, hv, hw⟩
  refine ⟨m, V, zs, d, rfl, ⟨hb, ?_⟩, hw⟩
  rw [hv, h.v]
  show X * 2 ^ k = X * ((2 ^ k : Nat) : Int)
  rw [Int.natCast_pow]; rfl
end Go.Proofs.YtobbedcaeffbaaaGreatDoor
namespace Go.Proofs.YtobbedcaeffbaaaGreatDoor
open Go.RowKit Nb
set_option maxHeartbeats 8000000 in
set_option maxRecDepth 20000 in
theorem bal_any {X Y k : Int} {n m : Bool} {A B : Option Addr} {xs ys : List Nat} {c d C a b : Nat} {w : World} (NX : Nw w X C n A xs c) (NY : Nw w Y C m B ys d) (ha : max k 0 = (a : Int)) (hb : max (-k) 0 = (b : Int)) (hk : IntKind.i64.wrap (-k) = -k) (hal : a ≤ 131072) (hbl : b ≤ 131072 ∧ C ≤ 1000000 ∧ True) :
    Calls Tryz.prog 61 #[big n A xs.length c, big m B ys.length d, .int .i64 k] w (fun e w' => ∃ (n1 : Bool) (A1 : Option Addr) (z1 : List Nat) (k1 : Nat) (n2 : Bool) (A2 : Option Addr) (z2 : List Nat) (k2 : Nat), e = .returned (.tuple #[big n1 A1 z1.length k1, big n2 A2 z2.length k2]) ∧ Nw w' (X * (tw a : Int)) (C + 2049) n1 A1 z1 k1 ∧ Nw w' (Y * (tw b : Int)) (C + 2049) n2 A2 z2 k2 ∧ Below w.heap.size w w') := by
  have HA := Lib.hid ha
  have HB := Lib.hid hb
  have HK := Lib.hid hk
  have HL := Lib.hid (And.intro hal hbl)
  clear ha hb hk hal hbl
  have BW : Below w.heap.size w w := Below.refl _ _
  obtain ⟨V2, e3, hb4, K5, -, z1⟩ := alloc_new w [.bool n, .slice A xs.length c] 98
  replace NX := NX.kp (Kept.of hb4)
  replace NY := NY.kp (Kept.of hb4)
  replace BW := BW.trans (hb4.mono BW.size)
  clear hb4
  obtain ⟨V7, e8, hb9, K10, -, z6⟩ := alloc_new V2 [.bool m, .slice B ys.length d] 98
  rw [z1] at K10 z6
  replace K5 := K5.on hb9
  replace NX := NX.kp (Kept.of hb9)
  replace NY := NY.kp (Kept.of hb9)
  replace BW := BW.trans (hb9.mono BW.size)
  clear hb9
  obtain ⟨V12, e13, hb14, K15, Z16, z11⟩ := alloc_new V7 [.bool false, .slice none 0 0] 98
  rw [z6] at K15 Z16 z11
  have n17 : w.heap.size ≠ w.heap.size + 1 + 1 := Nat.ne_of_lt (z6 ▸ K5.lt)
  have n18 : w.heap.size + 1 ≠ w.heap.size + 1 + 1 := Nat.ne_of_lt (z6 ▸ K10.lt)
  have g19 : w.heap.size ≤ w.heap.size + 1 + 1 := z6 ▸ BW.size
  replace K5 := K5.on hb14
  replace K10 := K10.on hb14
  replace NX := NX.kp (Kept.of hb14)
  replace NY := NY.kp (Kept.of hb14)
  replace BW := BW.trans (hb14.mono BW.size)
  clear hb14
  obtain ⟨V20, e21, hb22, K23, Z24, -⟩ := alloc_new V12 [.bool false, .slice none 0 0] 98
  rw [z11] at K23 Z24
  have n25 : w.heap.size ≠ w.heap.size + 1 + 1 + 1 := Nat.ne_of_lt (z11 ▸ K5.lt)
  have n26 : w.heap.size + 1 ≠ w.heap.size + 1 + 1 + 1 := Nat.ne_of_lt (z11 ▸ K10.lt)
  have n27 : w.heap.size + 1 + 1 ≠ w.heap.size + 1 + 1 + 1 := Nat.ne_of_lt (z11 ▸ K15.lt)
  have g28 : w.heap.size ≤ w.heap.size + 1 + 1 + 1 := z11 ▸ BW.size
  replace K5 := K5.on hb22
  replace K10 := K10.on hb22
  replace K15 := K15.on hb22
  replace Z16 := Z16.on hb22
  replace NX := NX.kp (Kept.of hb22)
  replace NY := NY.kp (Kept.of hb22)
  replace BW := BW.trans (hb22.mono BW.size)
  clear hb22
  clear z1 z6 z11
  go_enter Tryz.func61, Tryz.ntmps61
  go_wp2_with fail
  rw [← e3, ← e8, ← e13, ← e21]
  clear e3 e8 e13 e21
  refine wp_region_noPanic ?_
  have hb : Below V20.heap.size V20 V20.drew := (Below.refl _ _).drew
  replace K5 := K5.on hb
  replace K10 := K10.on hb
  replace K15 := K15.on hb
  replace K23 := K23.on hb
  replace Z16 := Z16.on hb
  replace Z24 := Z24.on hb
  replace NX := NX.kp (Kept.of hb)
  replace NY := NY.kp (Kept.of hb)
  replace BW := BW.trans (hb.mono BW.size)
  clear hb
  refine wp_region_held_drew (S := (fun wx => Cs wx (w.heap.size) 0 [.bool n, .slice A xs.length c] ∧ Cs wx (w.heap.size + 1) 0 [.bool m, .slice B ys.length d])) (by kernel_rfl) (by exact ⟨K5.cs, K10.cs⟩) (fun hHeld => ?_)
  generalize V20.drew = Vd29 at *
  refine pT 0 ?_
  (try simp only [p0, p1, p2, p3])
  refine pT 1 ?_
  (try simp only [p0, p1, p2, p3])
  refine pT 2 ?_
  (try simp only [p0, p1, p2, p3])
  refine pT 4 ?_
  (try simp only [p0, p1, p2, p3])
  refine pT 5 ?_
  (try simp only [p0, p1, p2, p3])
  refine pT 6 ?_
  (try simp only [p0, p1, p2, p3])
  refine pT 7 ?_
  (try simp only [p0, p1, p2, p3])
  refine pR1 3 (fun K hK => ?_)
  go_simp
  rw [HA.out]
  (go_at_call 173; with_reducible refine (l_shift NX HL.out.2.2.1 HL.out.1).mono ?_)
  rintro _ w30 ⟨n1, A1, z1, k1, rfl, N1, hb⟩
  (try go_wp2_with fail)
  replace K5 := K5.on hb
  replace K10 := K10.on hb
  replace K15 := K15.on hb
  replace K23 := K23.on hb
  replace Z16 := Z16.on hb
  replace Z24 := Z24.on hb
  replace NY := NY.kp (Kept.of hb)
  replace BW := BW.trans (hb.mono BW.size)
  clear hb
  refine hK.out _ _ (by exact ⟨K5.cs, K10.cs⟩) (fun hHeld => ?_)
  clear hK
  (try simp only [p0, p1, p2, p3])
  refine pR1 8 (fun K hK => ?_)
  go_simp
  rw [HK.out, HB.out]
  (go_at_call 173; with_reducible refine (l_shift NY HL.out.2.2.1 HL.out.2.1).mono ?_)
  rintro _ w31 ⟨n2, A2, z2, k2, rfl, N2, hb⟩
  (try go_wp2_with fail)
  replace K5 := K5.on hb
  replace K10 := K10.on hb
  replace K15 := K15.on hb
  replace K23 := K23.on hb
  replace Z16 := Z16.on hb
  replace Z24 := Z24.on hb
  replace N1 := N1.kp (Kept.of hb)
  replace BW := BW.trans (hb.mono BW.size)
  clear hb
  refine hK.out _ _ (by exact ⟨K5.cs, K10.cs⟩) (fun hHeld => ?_)
  clear hK
  (try simp only [p0, p1, p2, p3])
  refine pR1 9 (fun K hK => ?_)
  obtain ⟨c32, c33⟩ := K15.c2
  obtain ⟨c34, c35⟩ := Z16.f2
  go_simp
  clear c32 c33 c34 c35
  obtain ⟨V36, hk38⟩ : ∃ V36, V36 = w31.setCells (w.heap.size + 1 + 1) 0 [.bool n1, .slice A1 z1.length k1] := ⟨_, rfl⟩
  have e37 := hk38
  simp only [World.setCells, Nat.zero_add] at e37
  have hk39 := Kept.overE hk38 K15 rfl (by simp)
  replace K5 := K5.awayE hk38 n17
  replace K10 := K10.awayE hk38 n18
  replace K15 := K15.overE hk38 rfl
  replace K23 := K23.awayE hk38 n27.symm
  replace Z24 := Z24.putE hk38
  replace N1 := N1.kp hk39
  replace N2 := N2.kp hk39
  replace BW := Below.putE BW hk38 g19
  clear hk38 hk39
  rw [← e37]
  clear e37
  refine hK.out _ _ (by exact ⟨K5.cs, K10.cs⟩) (fun hHeld => ?_)
  clear hK
  (try simp only [p0, p1, p2, p3])
  refine pR1 10 (fun K hK => ?_)
  obtain ⟨c40, c41⟩ := K23.c2
  obtain ⟨c42, c43⟩ := Z24.f2
  go_simp
  clear c40 c41 c42 c43
  obtain ⟨V44, hk46⟩ : ∃ V44, V44 = V36.setCells (w.heap.size + 1 + 1 + 1) 0 [.bool n2, .slice A2 z2.length k2] := ⟨_, rfl⟩
  have e45 := hk46
  simp only [World.setCells, Nat.zero_add] at e45
  have hk47 := Kept.overE hk46 K23 rfl (by simp)
  replace K5 := K5.awayE hk46 n25
  replace K10 := K10.awayE hk46 n26
  replace K15 := K15.awayE hk46 n27
  replace K23 := K23.overE hk46 rfl
  replace N1 := N1.kp hk47
  replace N2 := N2.kp hk47
  replace BW := Below.putE BW hk46 g28
  clear hk46 hk47
  rw [← e45]
  clear e45
  refine hK.out _ _ (by exact ⟨K5.cs, K10.cs⟩) (fun hHeld => ?_)
  clear hK
  (try simp only [p0, p1, p2, p3])
  refine wpAnyH_done (by kernel_rfl) (NoPanic.normal ?_) _
  go_wp2
  obtain ⟨c48, c49⟩ := K15.c2
  obtain ⟨c50, c51⟩ := K23.c2
  exact bodyPost_ret (v := .tuple #[big n1 A1 z1.length k1, big n2 A2 z2.length k2]) (by simp [results, Tryz.results61, go_sem, c48, c49, c50, c51]) rfl ⟨n1, A1, z1, k1, n2, A2, z2, k2, rfl, N1, N2, BW⟩
end Go.Proofs.YtobbedcaeffbaaaGreatDoor
namespace Go.Proofs.YtobbedcaeffbaaaGreatDoor
open Go.RowKit Nb
open Fl
theorem w64_in (n : Int) (h : -9223372036854775808 ≤ n ∧ n ≤ 9223372036854775807) : wrap64 n = n := by unfold wrap64; omega
theorem i64_in (n : Int) (h1 : -9223372036854775808 ≤ n) (h2 : n ≤ 9223372036854775807) : IntKind.i64.wrap n = n := by rw [IntKind.wrap_i64]; omega
theorem and_exp {x : Nat} (h : x < 18446744073709551616) : bits .and .u64 ((x : Int) / 4503599627370496) 2047 = ((mg x / 4503599627370496 : Nat) : Int) := by
  have h1 := u64_and_nat (x / 4503599627370496) 2047 (by omega) (by omega)
  rw [show (((x / 4503599627370496 : Nat)) : Int) = (x : Int) / 4503599627370496 from rfl, show ((2047 : Nat) : Int) = 2047 from rfl] at h1
  rw [h1, show 2047 = 2 ^ 11 - 1 from rfl, Nat.and_two_pow_sub_one_eq_mod]
  unfold mg
  congr 1
  show x / 4503599627370496 % 2048 = x % 9223372036854775808 / 4503599627370496
  omega
theorem mod_units (x : Nat) : (x : Int) % 4503599627370496 = ((mg x % 4503599627370496 : Nat) : Int) := by
  unfold mg; omega
theorem sign_bit {x : Nat} (h : x < 18446744073709551616) : ((x : Int) / 9223372036854775808 != 0) = ng x := by
  unfold ng
  rcases Nat.lt_or_ge x 9223372036854775808 with g | g
  · have h1 : (x : Int) / 9223372036854775808 = 0 := by omega
    have h2 : x / 9223372036854775808 % 2 = 0 := by omega
    rw [h1, h2]; rfl
  · have h1 : (x : Int) / 9223372036854775808 = 1 := by omega
    have h2 : x / 9223372036854775808 % 2 = 1 := by omega
    rw [h1, h2]; rfl
set_option maxHeartbeats 8000000 in
set_option maxRecDepth 20000 in
theorem from_no {x : Nat} {w : World} (h : x < 18446744073709551616) (hf : 9218868437227405312 ≤ mg x) :
    Calls Tryz.prog 9 #[.float .f64 x] w (fun e w' => e = .returned (.tuple #[fv fv0, .int .i64 6]) ∧ Below w.heap.size w w') := by
  have hfb := run_bits
  have f1 := and_exp h
  have f5 := mod_units x
  have hr : mg x % 4503599627370496 < 4503599627370496 := Nat.mod_lt _ (by decide)
  have hm : mg x < 9223372036854775808 := Nat.mod_lt _ (by decide)
  have he : mg x / 4503599627370496 = 2047 := by omega
  obtain ⟨n, hn⟩ : ∃ n : Int, ((mg x / 4503599627370496 : Nat) : Int) = n := ⟨_, rfl⟩
  rw [hn] at f1
  have f2 : wrap64 n = n := w64_in n (by omega)
  have f3 : (n == 2047) = true := by simp; omega
  obtain ⟨b, hb⟩ : ∃ b : Int, (x : Int) = b := ⟨_, rfl⟩
  rw [hb] at f1 f5
  have hb0 : 0 ≤ b := by omega
  have hb1 : b < 18446744073709551616 := by omega
  obtain ⟨u, hu⟩ : ∃ u : Int, ((mg x % 4503599627370496 : Nat) : Int) = u := ⟨_, rfl⟩
  rw [hu] at f5
  have f6 : wrap64 u = u := w64_in u (by omega)
  clear hr hm he hu hf h hn
  have BW : Below w.heap.size w w := Below.refl _ _
  obtain ⟨V1, e2, hb3, K4, Z5, -⟩ := alloc_new w [.bool false, .slice none 0 0, .bool false, .slice none 0 0] 27
  have g6 : w.heap.size ≤ w.heap.size := BW.size
  replace BW := BW.trans (hb3.mono BW.size)
  clear hb3
  go_enter Tryz.func9, Tryz.ntmps9
  go_wp2_with fail
  rw [← e2]
  clear e2
  obtain ⟨c7, c8, c9, c10⟩ := K4.c4
  exact bodyPost_ret (v := .tuple #[.agg #[.bool false, .slice none 0 0, .bool false, .slice none 0 0], .int .i64 6]) (by simp [results, Tryz.results9, go_sem, c7, c8, c9, c10]) rfl ⟨rfl, BW⟩
set_option maxHeartbeats 8000000 in
set_option maxRecDepth 20000 in
theorem from_fl {x : Nat} {w : World} (h : x < 18446744073709551616) (hf : mg x < 9218868437227405312) :
    Calls Tryz.prog 9 #[.float .f64 x] w (fun e w' => ∃ f : Fv, e = .returned (.tuple #[fv f, .int .i64 0]) ∧ Ff w' (fl x) f ∧ Below w.heap.size w w') := by
  have hfb := run_bits
  have f1 := and_exp h
  have f5 := mod_units x
  have f8 := sign_bit h
  have hE := fe_le hf
  have hl : mg x / 4503599627370496 ≤ 2046 := by omega
  have hr : mg x % 4503599627370496 < 4503599627370496 := Nat.mod_lt _ (by decide)
  obtain ⟨b, hb⟩ : ∃ b : Int, (x : Int) = b := ⟨_, rfl⟩
  rw [hb] at f1 f5 f8
  have hb0 : 0 ≤ b := by omega
  have hb1 : b < 18446744073709551616 := by omega
  by_cases hz : mg x / 4503599627370496 = 0
  · cases hg : ng x
    · rw [hg] at f8
      obtain ⟨n, hn⟩ : ∃ n : Int, ((mg x / 4503599627370496 : Nat) : Int) = n := ⟨_, rfl⟩
      rw [hn] at f1
      have f2 : wrap64 n = n := w64_in n (by omega)
      have f3 : (n == 2047) = false := by simp; omega
      have f4 : (n == 0) = true := by simp; omega
      have HE : Hid (fe x = 1) := Lib.hid (by unfold fe; rw [hz]; rfl)
      have HU : Hid (fu x = mg x % 4503599627370496) := Lib.hid (by unfold fu; rw [if_pos hz])
      obtain ⟨m, hm⟩ : ∃ m : Nat, mg x % 4503599627370496 = m := ⟨_, rfl⟩
      rw [hm] at f5 HU hr
      obtain ⟨u, hu⟩ : ∃ u : Int, ((m : Nat) : Int) = u := ⟨_, rfl⟩
      rw [hu] at f5
      have f6 : wrap64 u = u := w64_in u (by omega)
      have hu0 : 0 ≤ u := by omega
      have hu1 : u < 4503599627370496 := by omega
      have HS : Hid (u = fs x ∧ -9223372036854775808 ≤ u ∧ u ≤ 9223372036854775807) := Lib.hid (by have := HU.out; unfold fs; rw [hg]; refine ⟨?_, by omega, by omega⟩; simp; omega)
      have HA : Hid (max (-1074 : Int) 0 = ((0 : Nat) : Int) ∧ max (-(-1074 : Int)) 0 = ((1074 : Nat) : Int) ∧ IntKind.i64.wrap (-(-1074)) = -(-1074) ∧ (0 : Nat) ≤ 131072 ∧ 1074 ≤ 131072 ∧ 0 + 1074 = fe x - 1 + 1074) := Lib.hid ⟨by decide, by decide, i64_in _ (by decide) (by decide), by decide, by decide, by rw [HE.out]⟩
      have HF := Lib.hid (fl_fits hf)
      clear hz hn hm hu hr hE hl hf h hg HE HU
      have BW : Below w.heap.size w w := Below.refl _ _
      obtain ⟨V1, e2, hb3, K4, Z5, -⟩ := alloc_new w [.bool false, .slice none 0 0, .bool false, .slice none 0 0] 27
      have g6 : w.heap.size ≤ w.heap.size := BW.size
      replace BW := BW.trans (hb3.mono BW.size)
      clear hb3
      go_enter Tryz.func9, Tryz.ntmps9
      go_wp2_with fail
      rw [← e2]
      clear e2
      clear hu0 hu1
      refine (lof_n (n := u) HS.out.2.1 HS.out.2.2).mono ?_
      rintro _ w7 ⟨n1, A1, z1, k1, rfl, N1, hb⟩
      replace K4 := K4.on hb
      replace Z5 := Z5.on hb
      replace BW := BW.trans (hb.mono BW.size)
      clear hb
      go_wp2_with fail
      refine (lof_n (n := 1) (by decide) (by decide)).mono ?_
      rintro _ w8 ⟨n2, A2, z2, k2, rfl, N2, hb⟩
      replace K4 := K4.on hb
      replace Z5 := Z5.on hb
      replace N1 := N1.kp (Kept.of hb)
      replace BW := BW.trans (hb.mono BW.size)
      clear hb
      go_wp2_with fail
      refine (bal_any (k := (-1074)) N1 N2 HA.out.1 HA.out.2.1 HA.out.2.2.1 HA.out.2.2.2.1 ⟨HA.out.2.2.2.2.1, by decide, trivial⟩).mono ?_
      rintro _ w9 ⟨n3, A3, z3, k3, n4, A4, z4, k4, rfl, N3, N4, hb⟩
      replace K4 := K4.on hb
      replace Z5 := Z5.on hb
      replace N1 := N1.kp (Kept.of hb)
      replace N2 := N2.kp (Kept.of hb)
      replace BW := BW.trans (hb.mono BW.size)
      clear hb
      clear N1 N2
      go_wp2_with fail
      refine (q_ratio N3 N4 (by rw [Int.one_mul]; exact Int.ne_of_gt (two_pos _)) (by decide)).mono ?_
      rintro _ w10 ⟨o, rfl, Fo, hb⟩
      replace K4 := K4.on hb
      replace Z5 := Z5.on hb
      replace N3 := N3.kp (Kept.of hb)
      replace N4 := N4.kp (Kept.of hb)
      replace BW := BW.trans (hb.mono BW.size)
      clear hb
      replace Fo := Fo.to (p := fl x) (by rw [Int.one_mul, HS.out.1]; exact fl_shift HA.out.2.2.2.2.2)
      clear N3 N4
      go_wp2_with fail
      refine (q_fit Fo (by decide)).mono ?_
      rintro _ w11 ⟨f, er, rfl, R, hb⟩
      replace K4 := K4.on hb
      replace Z5 := Z5.on hb
      replace Fo := Fo.kp (Kept.of hb)
      replace BW := BW.trans (hb.mono BW.size)
      clear hb
      obtain ⟨rfl, L⟩ := R.yes not_false HF.out
      clear R Fo
      obtain ⟨c12, c13, c14, c15⟩ := K4.c4
      obtain ⟨c16, c17, c18, c19⟩ := Z5.f4
      obtain ⟨V20, hk22⟩ : ∃ V20, V20 = w11.setCells (w.heap.size) 0 [.bool f.n, .slice f.A f.xs.length f.c, .bool f.m, .slice f.B f.ds.length f.d] := ⟨_, rfl⟩
      have e21 := hk22
      simp only [World.setCells, Nat.zero_add, Nat.reduceAdd] at e21
      have hk23 := Kept.overE hk22 K4 rfl (by simp)
      replace K4 := K4.overE hk22 rfl
      replace L := L.kp hk23
      replace BW := Below.putE BW hk22 g6
      clear hk22 hk23
      go_wp2_with fail
      clear c12 c13 c14 c15 c16 c17 c18 c19
      rw [← e21]
      clear e21
      obtain ⟨c24, c25, c26, c27⟩ := K4.c4
      exact bodyPost_ret (v := .tuple #[fv f, .int .i64 0]) (by simp [results, Tryz.results9, go_sem, c24, c25, c26, c27]) rfl ⟨f, rfl, L, BW⟩
    · rw [hg] at f8
      obtain ⟨n, hn⟩ : ∃ n : Int, ((mg x / 4503599627370496 : Nat) : Int) = n := ⟨_, rfl⟩
      rw [hn] at f1
      have f2 : wrap64 n = n := w64_in n (by omega)
      have f3 : (n == 2047) = false := by simp; omega
      have f4 : (n == 0) = true := by simp; omega
      have HE : Hid (fe x = 1) := Lib.hid (by unfold fe; rw [hz]; rfl)
      have HU : Hid (fu x = mg x % 4503599627370496) := Lib.hid (by unfold fu; rw [if_pos hz])
      obtain ⟨m, hm⟩ : ∃ m : Nat, mg x % 4503599627370496 = m := ⟨_, rfl⟩
      rw [hm] at f5 HU hr
      obtain ⟨u, hu⟩ : ∃ u : Int, ((m : Nat) : Int) = u := ⟨_, rfl⟩
      rw [hu] at f5
      have f6 : wrap64 u = u := w64_in u (by omega)
      have hu0 : 0 ≤ u := by omega
      have hu1 : u < 4503599627370496 := by omega
      obtain ⟨s, hs⟩ : ∃ s : Int, -u = s := ⟨_, rfl⟩
      have HM := Lib.hid hs
      have HS : Hid (s = fs x ∧ -9223372036854775808 ≤ s ∧ s ≤ 9223372036854775807) := Lib.hid (by have := HU.out; unfold fs; rw [hg]; refine ⟨?_, by omega, by omega⟩; simp; omega)
      have HA : Hid (max (-1074 : Int) 0 = ((0 : Nat) : Int) ∧ max (-(-1074 : Int)) 0 = ((1074 : Nat) : Int) ∧ IntKind.i64.wrap (-(-1074)) = -(-1074) ∧ (0 : Nat) ≤ 131072 ∧ 1074 ≤ 131072 ∧ 0 + 1074 = fe x - 1 + 1074) := Lib.hid ⟨by decide, by decide, i64_in _ (by decide) (by decide), by decide, by decide, by rw [HE.out]⟩
      have HF := Lib.hid (fl_fits hf)
      clear hz hn hm hu hr hE hl hf h hg HE HU hs
      have BW : Below w.heap.size w w := Below.refl _ _
      obtain ⟨V1, e2, hb3, K4, Z5, -⟩ := alloc_new w [.bool false, .slice none 0 0, .bool false, .slice none 0 0] 27
      have g6 : w.heap.size ≤ w.heap.size := BW.size
      replace BW := BW.trans (hb3.mono BW.size)
      clear hb3
      go_enter Tryz.func9, Tryz.ntmps9
      go_wp2_with fail
      rw [← e2]
      clear e2
      rw [HM.out]
      clear hu0 hu1
      refine (lof_n (n := s) HS.out.2.1 HS.out.2.2).mono ?_
      rintro _ w7 ⟨n1, A1, z1, k1, rfl, N1, hb⟩
      replace K4 := K4.on hb
      replace Z5 := Z5.on hb
      replace BW := BW.trans (hb.mono BW.size)
      clear hb
      go_wp2_with fail
      refine (lof_n (n := 1) (by decide) (by decide)).mono ?_
      rintro _ w8 ⟨n2, A2, z2, k2, rfl, N2, hb⟩
      replace K4 := K4.on hb
      replace Z5 := Z5.on hb
      replace N1 := N1.kp (Kept.of hb)
      replace BW := BW.trans (hb.mono BW.size)
      clear hb
      go_wp2_with fail
      refine (bal_any (k := (-1074)) N1 N2 HA.out.1 HA.out.2.1 HA.out.2.2.1 HA.out.2.2.2.1 ⟨HA.out.2.2.2.2.1, by decide, trivial⟩).mono ?_
      rintro _ w9 ⟨n3, A3, z3, k3, n4, A4, z4, k4, rfl, N3, N4, hb⟩
      replace K4 := K4.on hb
      replace Z5 := Z5.on hb
      replace N1 := N1.kp (Kept.of hb)
      replace N2 := N2.kp (Kept.of hb)
      replace BW := BW.trans (hb.mono BW.size)
      clear hb
      clear N1 N2
      go_wp2_with fail
      refine (q_ratio N3 N4 (by rw [Int.one_mul]; exact Int.ne_of_gt (two_pos _)) (by decide)).mono ?_
      rintro _ w10 ⟨o, rfl, Fo, hb⟩
      replace K4 := K4.on hb
      replace Z5 := Z5.on hb
      replace N3 := N3.kp (Kept.of hb)
      replace N4 := N4.kp (Kept.of hb)
      replace BW := BW.trans (hb.mono BW.size)
      clear hb
      replace Fo := Fo.to (p := fl x) (by rw [Int.one_mul, HS.out.1]; exact fl_shift HA.out.2.2.2.2.2)
      clear N3 N4
      go_wp2_with fail
      refine (q_fit Fo (by decide)).mono ?_
      rintro _ w11 ⟨f, er, rfl, R, hb⟩
      replace K4 := K4.on hb
      replace Z5 := Z5.on hb
      replace Fo := Fo.kp (Kept.of hb)
      replace BW := BW.trans (hb.mono BW.size)
      clear hb
      obtain ⟨rfl, L⟩ := R.yes not_false HF.out
      clear R Fo
      obtain ⟨c12, c13, c14, c15⟩ := K4.c4
      obtain ⟨c16, c17, c18, c19⟩ := Z5.f4
      obtain ⟨V20, hk22⟩ : ∃ V20, V20 = w11.setCells (w.heap.size) 0 [.bool f.n, .slice f.A f.xs.length f.c, .bool f.m, .slice f.B f.ds.length f.d] := ⟨_, rfl⟩
      have e21 := hk22
      simp only [World.setCells, Nat.zero_add, Nat.reduceAdd] at e21
      have hk23 := Kept.overE hk22 K4 rfl (by simp)
      replace K4 := K4.overE hk22 rfl
      replace L := L.kp hk23
      replace BW := Below.putE BW hk22 g6
      clear hk22 hk23
      go_wp2_with fail
      clear c12 c13 c14 c15 c16 c17 c18 c19
      rw [← e21]
      clear e21
      obtain ⟨c24, c25, c26, c27⟩ := K4.c4
      exact bodyPost_ret (v := .tuple #[fv f, .int .i64 0]) (by simp [results, Tryz.results9, go_sem, c24, c25, c26, c27]) rfl ⟨f, rfl, L, BW⟩
  · cases hg : ng x
    · rw [hg] at f8
      have HE : Hid ((fe x : Int) = ((mg x / 4503599627370496 : Nat) : Int)) := Lib.hid (by unfold fe; omega)
      have HU : Hid (fu x = mg x % 4503599627370496 + 4503599627370496) := Lib.hid (by unfold fu; rw [if_neg hz])
      obtain ⟨n, hn⟩ : ∃ n : Int, ((mg x / 4503599627370496 : Nat) : Int) = n := ⟨_, rfl⟩
      have hn2 : 1 ≤ n ∧ n ≤ 2046 := by omega
      rw [hn] at f1 HE
      have f2 : wrap64 n = n := w64_in n (by omega)
      have f3 : (n == 2047) = false := by simp; omega
      have f4 : (n == 0) = false := by simp; omega
      obtain ⟨m, hm⟩ : ∃ m : Nat, mg x % 4503599627370496 = m := ⟨_, rfl⟩
      rw [hm] at f5 HU hr
      obtain ⟨v, hv⟩ : ∃ v : Int, ((m : Nat) : Int) = v := ⟨_, rfl⟩
      rw [hv] at f5
      have f6 : wrap64 v = v := w64_in v (by omega)
      obtain ⟨u, hu⟩ : ∃ u : Int, v + 4503599627370496 = u := ⟨_, rfl⟩
      have HV := Lib.hid hu
      have hv0 : 0 ≤ v := by omega
      have hv1 : v < 4503599627370496 := by omega
      have hn3 : 1 ≤ n := hn2.1
      have hn4 : n ≤ 2046 := hn2.2
      obtain ⟨k, hk⟩ : ∃ k : Int, n - 1 + -1074 = k := ⟨_, rfl⟩
      have HN := Lib.hid hk
      have HS : Hid (u = fs x ∧ -9223372036854775808 ≤ u ∧ u ≤ 9223372036854775807) := Lib.hid (by have := HU.out; unfold fs; rw [hg]; refine ⟨?_, by omega, by omega⟩; simp; omega)
      obtain ⟨a, ha⟩ : ∃ a : Nat, k.toNat = a := ⟨_, rfl⟩
      obtain ⟨c, hc⟩ : ∃ c : Nat, (-k).toNat = c := ⟨_, rfl⟩
      have HA : Hid (max k 0 = (a : Int) ∧ max (-k) 0 = (c : Int) ∧ IntKind.i64.wrap (-k) = -k ∧ a ≤ 131072 ∧ c ≤ 131072 ∧ a + 1074 = fe x - 1 + c) := Lib.hid ⟨by omega, by omega, i64_in _ (by omega) (by omega), by omega, by omega, by have := HE.out; omega⟩
      have HF := Lib.hid (fl_fits hf)
      clear hz hn hn2 hm hv hu hk ha hc hr hE hl hf h hg HE HU
      have BW : Below w.heap.size w w := Below.refl _ _
      obtain ⟨V1, e2, hb3, K4, Z5, -⟩ := alloc_new w [.bool false, .slice none 0 0, .bool false, .slice none 0 0] 27
      have g6 : w.heap.size ≤ w.heap.size := BW.size
      replace BW := BW.trans (hb3.mono BW.size)
      clear hb3
      go_enter Tryz.func9, Tryz.ntmps9
      go_wp2_with fail
      rw [← e2]
      clear e2
      rw [HV.out]
      clear hv0 hv1
      refine (lof_n (n := u) HS.out.2.1 HS.out.2.2).mono ?_
      rintro _ w7 ⟨n1, A1, z1, k1, rfl, N1, hb⟩
      replace K4 := K4.on hb
      replace Z5 := Z5.on hb
      replace BW := BW.trans (hb.mono BW.size)
      clear hb
      go_wp2_with fail
      refine (lof_n (n := 1) (by decide) (by decide)).mono ?_
      rintro _ w8 ⟨n2, A2, z2, k2, rfl, N2, hb⟩
      replace K4 := K4.on hb
      replace Z5 := Z5.on hb
      replace N1 := N1.kp (Kept.of hb)
      replace BW := BW.trans (hb.mono BW.size)
      clear hb
      go_wp2_with fail
      rw [HN.out]
      refine (bal_any (k := k) N1 N2 HA.out.1 HA.out.2.1 HA.out.2.2.1 HA.out.2.2.2.1 ⟨HA.out.2.2.2.2.1, by decide, trivial⟩).mono ?_
      rintro _ w9 ⟨n3, A3, z3, k3, n4, A4, z4, k4, rfl, N3, N4, hb⟩
      replace K4 := K4.on hb
      replace Z5 := Z5.on hb
      replace N1 := N1.kp (Kept.of hb)
      replace N2 := N2.kp (Kept.of hb)
      replace BW := BW.trans (hb.mono BW.size)
      clear hb
      clear N1 N2
      go_wp2_with fail
      refine (q_ratio N3 N4 (by rw [Int.one_mul]; exact Int.ne_of_gt (two_pos _)) (by decide)).mono ?_
      rintro _ w10 ⟨o, rfl, Fo, hb⟩
      replace K4 := K4.on hb
      replace Z5 := Z5.on hb
      replace N3 := N3.kp (Kept.of hb)
      replace N4 := N4.kp (Kept.of hb)
      replace BW := BW.trans (hb.mono BW.size)
      clear hb
      replace Fo := Fo.to (p := fl x) (by rw [Int.one_mul, HS.out.1]; exact fl_shift HA.out.2.2.2.2.2)
      clear N3 N4
      go_wp2_with fail
      refine (q_fit Fo (by decide)).mono ?_
      rintro _ w11 ⟨f, er, rfl, R, hb⟩
      replace K4 := K4.on hb
      replace Z5 := Z5.on hb
      replace Fo := Fo.kp (Kept.of hb)
      replace BW := BW.trans (hb.mono BW.size)
      clear hb
      obtain ⟨rfl, L⟩ := R.yes not_false HF.out
      clear R Fo
      obtain ⟨c12, c13, c14, c15⟩ := K4.c4
      obtain ⟨c16, c17, c18, c19⟩ := Z5.f4
      obtain ⟨V20, hk22⟩ : ∃ V20, V20 = w11.setCells (w.heap.size) 0 [.bool f.n, .slice f.A f.xs.length f.c, .bool f.m, .slice f.B f.ds.length f.d] := ⟨_, rfl⟩
      have e21 := hk22
      simp only [World.setCells, Nat.zero_add, Nat.reduceAdd] at e21
      have hk23 := Kept.overE hk22 K4 rfl (by simp)
      replace K4 := K4.overE hk22 rfl
      replace L := L.kp hk23
      replace BW := Below.putE BW hk22 g6
      clear hk22 hk23
      go_wp2_with fail
      clear c12 c13 c14 c15 c16 c17 c18 c19
      rw [← e21]
      clear e21
      obtain ⟨c24, c25, c26, c27⟩ := K4.c4
      exact bodyPost_ret (v := .tuple #[fv f, .int .i64 0]) (by simp [results, Tryz.results9, go_sem, c24, c25, c26, c27]) rfl ⟨f, rfl, L, BW⟩
    · rw [hg] at f8
      have HE : Hid ((fe x : Int) = ((mg x / 4503599627370496 : Nat) : Int)) := Lib.hid (by unfold fe; omega)
      have HU : Hid (fu x = mg x % 4503599627370496 + 4503599627370496) := Lib.hid (by unfold fu; rw [if_neg hz])
      obtain ⟨n, hn⟩ : ∃ n : Int, ((mg x / 4503599627370496 : Nat) : Int) = n := ⟨_, rfl⟩
      have hn2 : 1 ≤ n ∧ n ≤ 2046 := by omega
      rw [hn] at f1 HE
      have f2 : wrap64 n = n := w64_in n (by omega)
      have f3 : (n == 2047) = false := by simp; omega
      have f4 : (n == 0) = false := by simp; omega
      obtain ⟨m, hm⟩ : ∃ m : Nat, mg x % 4503599627370496 = m := ⟨_, rfl⟩
      rw [hm] at f5 HU hr
      obtain ⟨v, hv⟩ : ∃ v : Int, ((m : Nat) : Int) = v := ⟨_, rfl⟩
      rw [hv] at f5
      have f6 : wrap64 v = v := w64_in v (by omega)
      obtain ⟨u, hu⟩ : ∃ u : Int, v + 4503599627370496 = u := ⟨_, rfl⟩
      have HV := Lib.hid hu
      have hv0 : 0 ≤ v := by omega
      have hv1 : v < 4503599627370496 := by omega
      have hn3 : 1 ≤ n := hn2.1
      have hn4 : n ≤ 2046 := hn2.2
      obtain ⟨k, hk⟩ : ∃ k : Int, n - 1 + -1074 = k := ⟨_, rfl⟩
      have HN := Lib.hid hk
      obtain ⟨s, hs⟩ : ∃ s : Int, -u = s := ⟨_, rfl⟩
      have HM := Lib.hid hs
      have HS : Hid (s = fs x ∧ -9223372036854775808 ≤ s ∧ s ≤ 9223372036854775807) := Lib.hid (by have := HU.out; unfold fs; rw [hg]; refine ⟨?_, by omega, by omega⟩; simp; omega)
      obtain ⟨a, ha⟩ : ∃ a : Nat, k.toNat = a := ⟨_, rfl⟩
      obtain ⟨c, hc⟩ : ∃ c : Nat, (-k).toNat = c := ⟨_, rfl⟩
      have HA : Hid (max k 0 = (a : Int) ∧ max (-k) 0 = (c : Int) ∧ IntKind.i64.wrap (-k) = -k ∧ a ≤ 131072 ∧ c ≤ 131072 ∧ a + 1074 = fe x - 1 + c) := Lib.hid ⟨by omega, by omega, i64_in _ (by omega) (by omega), by omega, by omega, by have := HE.out; omega⟩
      have HF := Lib.hid (fl_fits hf)
      clear hz hn hn2 hm hv hu hk ha hc hr hE hl hf h hg HE HU hs
      have BW : Below w.heap.size w w := Below.refl _ _
      obtain ⟨V1, e2, hb3, K4, Z5, -⟩ := alloc_new w [.bool false, .slice none 0 0, .bool false, .slice none 0 0] 27
      have g6 : w.heap.size ≤ w.heap.size := BW.size
      replace BW := BW.trans (hb3.mono BW.size)
      clear hb3
      go_enter Tryz.func9, Tryz.ntmps9
      go_wp2_with fail
      rw [← e2]
      clear e2
      rw [HV.out, HM.out]
      clear hv0 hv1
      refine (lof_n (n := s) HS.out.2.1 HS.out.2.2).mono ?_
      rintro _ w7 ⟨n1, A1, z1, k1, rfl, N1, hb⟩
      replace K4 := K4.on hb
      replace Z5 := Z5.on hb
      replace BW := BW.trans (hb.mono BW.size)
      clear hb
      go_wp2_with fail
      refine (lof_n (n := 1) (by decide) (by decide)).mono ?_
      rintro _ w8 ⟨n2, A2, z2, k2, rfl, N2, hb⟩
      replace K4 := K4.on hb
      replace Z5 := Z5.on hb
      replace N1 := N1.kp (Kept.of hb)
      replace BW := BW.trans (hb.mono BW.size)
      clear hb
      go_wp2_with fail
      rw [HN.out]
      refine (bal_any (k := k) N1 N2 HA.out.1 HA.out.2.1 HA.out.2.2.1 HA.out.2.2.2.1 ⟨HA.out.2.2.2.2.1, by decide, trivial⟩).mono ?_
      rintro _ w9 ⟨n3, A3, z3, k3, n4, A4, z4, k4, rfl, N3, N4, hb⟩
      replace K4 := K4.on hb
      replace Z5 := Z5.on hb
      replace N1 := N1.kp (Kept.of hb)
      replace N2 := N2.kp (Kept.of hb)
      replace BW := BW.trans (hb.mono BW.size)
      clear hb
      clear N1 N2
      go_wp2_with fail
      refine (q_ratio N3 N4 (by rw [Int.one_mul]; exact Int.ne_of_gt (two_pos _)) (by decide)).mono ?_
      rintro _ w10 ⟨o, rfl, Fo, hb⟩
      replace K4 := K4.on hb
      replace Z5 := Z5.on hb
      replace N3 := N3.kp (Kept.of hb)
      replace N4 := N4.kp (Kept.of hb)
      replace BW := BW.trans (hb.mono BW.size)
      clear hb
      replace Fo := Fo.to (p := fl x) (by rw [Int.one_mul, HS.out.1]; exact fl_shift HA.out.2.2.2.2.2)
      clear N3 N4
      go_wp2_with fail
      refine (q_fit Fo (by decide)).mono ?_
      rintro _ w11 ⟨f, er, rfl, R, hb⟩
      replace K4 := K4.on hb
      replace Z5 := Z5.on hb
      replace Fo := Fo.kp (Kept.of hb)
      replace BW := BW.trans (hb.mono BW.size)
      clear hb
      obtain ⟨rfl, L⟩ := R.yes not_false HF.out
      clear R Fo
      obtain ⟨c12, c13, c14, c15⟩ := K4.c4
      obtain ⟨c16, c17, c18, c19⟩ := Z5.f4
      obtain ⟨V20, hk22⟩ : ∃ V20, V20 = w11.setCells (w.heap.size) 0 [.bool f.n, .slice f.A f.xs.length f.c, .bool f.m, .slice f.B f.ds.length f.d] := ⟨_, rfl⟩
      have e21 := hk22
      simp only [World.setCells, Nat.zero_add, Nat.reduceAdd] at e21
      have hk23 := Kept.overE hk22 K4 rfl (by simp)
      replace K4 := K4.overE hk22 rfl
      replace L := L.kp hk23
      replace BW := Below.putE BW hk22 g6
      clear hk22 hk23
      go_wp2_with fail
      clear c12 c13 c14 c15 c16 c17 c18 c19
      rw [← e21]
      clear e21
      obtain ⟨c24, c25, c26, c27⟩ := K4.c4
      exact bodyPost_ret (v := .tuple #[fv f, .int .i64 0]) (by simp [results, Tryz.results9, go_sem, c24, c25, c26, c27]) rfl ⟨f, rfl, L, BW⟩
end Go.Proofs.YtobbedcaeffbaaaGreatDoor
