/-
  The costs, frac.Make and Of; what frac.Add, Sub, Mul, Quo return of two fractions that may be. Conditions: as each theorem states.
-/
import Derived.Test.YtjamfkafgfpobaaGreatFqe
import Derived.Deep.RegionHeld3
import Derived.Deep.DeepCutAuto
import Derived.BigRegion
import Derived.Test.YtjamfkafgfpobaaGreatFq7
import Derived.Test.YtjamfkafgfpobaaGreatFre
import Derived.Test.YtjamfkafgfpobaaGreatSame
namespace Go.Proofs.YtjamfkafgfpobaaGreat
open Go.RowKit Nb
end Go.Proofs.YtjamfkafgfpobaaGreat
/-! ### Frg -/
namespace Go.Proofs.YtjamfkafgfpobaaGreat
open Go.RowKit Nb
theorem Rk.ofTold {W : World} {z : Rat} {bad : Prop} {n m : Bool} {A B : Option Addr} {xs ds : List Nat} {c d : Nat} {er : Int} (hb : ¬ bad) (h : (FitsQ z ∧ er = 0 ∧ m = false ∧ Lf W z n A xs c B ds d) ∨ (¬ FitsQ z ∧ er = 4 ∧ n = false ∧ A = none ∧ xs = [] ∧ c = 0 ∧ m = false ∧ B = none ∧ ds = [] ∧ d = 0)) : Rk W bad z n A xs c m B ds d er := by
 rcases h with ⟨a, b, e1, f⟩ | ⟨a, b, e1⟩
 ·exact .inl ⟨hb, a, b, e1, f⟩
 ·exact .inr ⟨.inr ⟨hb, a, b⟩, e1⟩
set_option maxHeartbeats 8000000 in
set_option maxRecDepth 20000 in
theorem frac_make (X Y : Int) (n m : Bool) (A B : Option Addr) (xs ds : List Nat) (c d : Nat) (w : World) (h : Nl w X n A xs c) (k : Nl w Y m B ds d) :
  Calls Tryz.prog 95 #[big n A xs.length c, big m B ds.length d] w (ReckF w (Y = 0) (Rat.divInt X Y)) := by
 obtain ⟨V, hV, BW, hz, RR, KX, KY, FX, FY⟩ := box_ints w n A xs.length c m B ds.length d 27 27 29
 have Xn := h.on BW
 have Yn := k.on BW
 clear h k hz FX FY
 have KX_0 := KX.c 0 _ rfl
 have KX_1 := KX.c 1 _ rfl
 have KY_0 := KY.c 0 _ rfl
 have KY_1 := KY.c 1 _ rfl
 go_enter Tryz.func95, Tryz.ntmps95
 go_wp2_with fail
 clear KX_0 KX_1 KY_0 KY_1
 rw [← hV]
 clear hV
 refine (check_u n A xs c V Xn.lm.sl Xn.lm.sz).mono ?_
 rw [chkV_ok Xn.lm.ok]
 rintro _ w1 ⟨rfl, hb⟩
 replace KX := KX.on hb
 replace KY := KY.on hb
 replace Xn := Xn.on hb
 replace Yn := Yn.on hb
 replace RR := RR.on hb
 replace BW := BW.trans (hb.mono BW.size)
 clear hb
 have KX_0 := KX.c 0 _ rfl
 have KX_1 := KX.c 1 _ rfl
 have KY_0 := KY.c 0 _ rfl
 have KY_1 := KY.c 1 _ rfl
 go_wp2_with fail
 clear KX_0 KX_1 KY_0 KY_1
 refine (check_u m B ds d w1 Yn.lm.sl Yn.lm.sz).mono ?_
 rw [chkV_ok Yn.lm.ok]
 rintro _ w2 ⟨rfl, hb⟩
 replace KX := KX.on hb
 replace KY := KY.on hb
 replace Xn := Xn.on hb
 replace Yn := Yn.on hb
 replace RR := RR.on hb
 replace BW := BW.trans (hb.mono BW.size)
 clear hb
 have KX_0 := KX.c 0 _ rfl
 have KX_1 := KX.c 1 _ rfl
 have KY_0 := KY.c 0 _ rfl
 have KY_1 := KY.c 1 _ rfl
 go_wp2_with fail
 clear KX_0 KX_1 KY_0 KY_1
 refine (wsign_u m B ds d w2 Yn.lm.sl Yn.lm.dig Yn.lm.sz).mono ?_
 rw [sgnV_nl Yn]
 rintro _ w3 ⟨rfl, hb⟩
 replace KX := KX.on hb
 replace KY := KY.on hb
 replace Xn := Xn.on hb
 replace Yn := Yn.on hb
 replace RR := RR.on hb
 replace BW := BW.trans (hb.mono BW.size)
 clear hb
 by_cases hY : Y = 0
 ·have hs : Y.sign = 0 := by rw [hY]; rfl
  rw [hs]
  clear hs
  have KX_0 := KX.c 0 _ rfl
  have KX_1 := KX.c 1 _ rfl
  have KY_0 := KY.c 0 _ rfl
  have KY_1 := KY.c 1 _ rfl
  have y0 := RR.r0
  have y1 := RR.r1
  have y2 := RR.r2
  have y3 := RR.r3
  have y4 := RR.f0
  have y5 := RR.f1
  have y6 := RR.f2
  have y7 := RR.f3
  have HL := Lib.hid (Below.putq BW (r := w.heap.size + 1 + 1) (by omega) (.bool false) (.slice none 0 0) (.bool false) (.slice none 0 0))
  have HB := Lib.hid hY
  clear Xn Yn BW KX KY RR hY
  go_wp2
  exact bodyPost_ret (v := .tuple #[frq false none ([] : List Nat).length 0 false none ([] : List Nat).length 0, .int .i64 3]) (by simp [results, Tryz.results95, go_sem, y0, y1, y2, y3]) rfl ⟨_, _, _, _, _, _, _, _, _, rfl, .inr ⟨.inl ⟨HB.out, rfl⟩, Zq.mk'⟩, HL.out⟩
 ·have hs : Y.sign ≠ 0 := fun e => hY (Int.sign_eq_zero_iff_zero.1 e)
  generalize Y.sign = sg at *
  have KX_0 := KX.c 0 _ rfl
  have KX_1 := KX.c 1 _ rfl
  have KY_0 := KY.c 0 _ rfl
  have KY_1 := KY.c 1 _ rfl
  go_wp2_with fail
  clear hs
  clear KX_0 KX_1 KY_0 KY_1
  refine wp_region_noPanic ?_
  have hb : Below w3.heap.size w3 w3.drew := (Below.refl _ _).drew
  replace KX := KX.on hb
  replace KY := KY.on hb
  replace Xn := Xn.on hb
  replace Yn := Yn.on hb
  replace RR := RR.on hb
  replace BW := BW.trans (hb.mono BW.size)
  clear hb
  refine wp_region_held_drew (S := (fun wx => wx.cell? ⟨w.heap.size, 0, none⟩ = some (.bool n) ∧ wx.cell? ⟨w.heap.size, 1, none⟩ = some (.slice A xs.length c) ∧ wx.cell? ⟨w.heap.size + 1, 0, none⟩ = some (.bool m) ∧ wx.cell? ⟨w.heap.size + 1, 1, none⟩ = some (.slice B ds.length d))) (by kernel_rfl) (by exact KX.a2 KY.b2) (fun hHeld => ?_)
  generalize w3.drew = Vd at *
  refine pT 0 ?_
  (try simp only [p0, p1, p2, p3])
  refine pT 2 ?_
  (try simp only [p0, p1, p2, p3])
  refine pR1 1 (fun K hK => ?_)
  go_simp
  (go_at_call 90; with_reducible refine (from_n Xn).mono ?_)
  rintro _ wc0 ⟨un, uA, uz, uk, rfl, Nu, hb⟩
  (try go_wp2_with fail)
  replace KX := KX.on hb
  replace KY := KY.on hb
  replace Yn := Yn.on hb
  replace RR := RR.on hb
  replace BW := BW.trans (hb.mono BW.size)
  clear hb
  refine hK.out _ _ (by exact KX.a2 KY.b2) (fun hHeld => ?_)
  clear hK
  (try simp only [p0, p1, p2, p3])
  refine pR1 3 (fun K hK => ?_)
  go_simp
  (go_at_call 90; with_reducible refine (from_n Yn).mono ?_)
  rintro _ wc1 ⟨vn, vA, vz, vk, rfl, Nv, hb⟩
  (try go_wp2_with fail)
  replace KX := KX.on hb
  replace KY := KY.on hb
  replace Nu := Nu.on hb
  replace RR := RR.on hb
  replace BW := BW.trans (hb.mono BW.size)
  clear hb
  refine hK.out _ _ (by exact KX.a2 KY.b2) (fun hHeld => ?_)
  clear hK
  (try simp only [p0, p1, p2, p3])
  refine pR1 4 (fun K hK => ?_)
  go_simp
  (go_at_call 122; with_reducible refine (ratio_any X Y _ _ _ _ _ _ _ _ 1024 _ Nu Nv hY (by decide)).mono ?_)
  rintro _ wc2 ⟨sn, sA, sz, sk, sB, sd, sl, rfl, Ls, hb⟩
  (try go_wp2_with fail)
  replace KX := KX.on hb
  replace KY := KY.on hb
  replace RR := RR.on hb
  replace BW := BW.trans (hb.mono BW.size)
  clear hb
  refine hK.out _ _ (by exact KX.a2 KY.b2) (fun hHeld => ?_)
  clear hK
  (try simp only [p0, p1, p2, p3])
  refine pR1 5 (fun K hK => ?_)
  go_simp
  (go_at_call 80; with_reducible refine (ffit_any _ _ _ _ _ _ _ _ _ _ Ls (by decide)).mono ?_)
  rintro _ wc3 ⟨tn, tA, tz, tk, tm, tB, td, tl, er, rfl, Ht, hb⟩
  (try go_wp2_with fail)
  have Rt := Rk.ofTold (bad := Y = 0) hY Ht
  clear Ht
  replace KX := KX.on hb
  replace KY := KY.on hb
  replace RR := RR.on hb
  replace BW := BW.trans (hb.mono BW.size)
  clear hb
  refine hK.out _ _ (by exact KX.a2 KY.b2) (fun hHeld => ?_)
  clear hK
  (try simp only [p0, p1, p2, p3])
  refine pT 6 ?_
  (try simp only [p0, p1, p2, p3])
  refine pT 7 ?_
  (try simp only [p0, p1, p2, p3])
  have y0 := RR.r0
  have y1 := RR.r1
  have y2 := RR.r2
  have y3 := RR.r3
  have y4 := RR.f0
  have y5 := RR.f1
  have y6 := RR.f2
  have y7 := RR.f3
  refine pR1 8 (fun K hK => ?_)
  go_simp
  replace KX := KX.far4 (g := w.heap.size + 1 + 1) (by omega) (.bool tn) (.slice tA tz.length tk) (.bool tm) (.slice tB td.length tl)
  replace KY := KY.far4 (g := w.heap.size + 1 + 1) (by omega) (.bool tn) (.slice tA tz.length tk) (.bool tm) (.slice tB td.length tl)
  replace Rt := Rt.put4 RR (.bool tn) (.slice tA tz.length tk) (.bool tm) (.slice tB td.length tl)
  replace BW := Below.putq BW (r := w.heap.size + 1 + 1) (by omega) (.bool tn) (.slice tA tz.length tk) (.bool tm) (.slice tB td.length tl)
  have KR := Box.laidQ RR (.bool tn) (.slice tA tz.length tk) (.bool tm) (.slice tB td.length tl)
  clear RR y0 y1 y2 y3 y4 y5 y6 y7
  generalize ((((wc3.setCell ⟨w.heap.size + 1 + 1, 0, none⟩ (.bool tn)).setCell ⟨w.heap.size + 1 + 1, 1, none⟩ (.slice tA tz.length tk)).setCell ⟨w.heap.size + 1 + 1, 2, none⟩ (.bool tm)).setCell ⟨w.heap.size + 1 + 1, 3, none⟩ (.slice tB td.length tl)) = ws at *
  refine hK.out _ _ (by exact KX.a2 KY.b2) (fun hHeld => ?_)
  clear hK
  (try simp only [p0, p1, p2, p3])
  refine pT 9 ?_
  (try simp only [p0, p1, p2, p3])
  refine wpAnyH_done (by kernel_rfl) (NoPanic.normal ?_) _
  have y0 := KR.c 0 _ rfl
  have y1 := KR.c 1 _ rfl
  have y2 := KR.c 2 _ rfl
  have y3 := KR.c 3 _ rfl
  go_wp2
  exact bodyPost_ret (v := .tuple #[frq tn tA tz.length tk tm tB td.length tl, .int .i64 er]) (by simp [results, Tryz.results95, go_sem, y0, y1, y2, y3]) rfl ⟨_, _, _, _, _, _, _, _, _, rfl, Rt, BW⟩
theorem of_nl (n : Int) (w : World) (h0 : -9223372036854775808 ≤ n) (h1 : n ≤ 9223372036854775807) :
  Calls Tryz.prog 84 #[.int .i64 n] w (GivesL32 w n) := by
 refine (of_fix n (decide (n < 0)) w h0 h1 rfl).mono ?_
 rintro e w' ⟨A, c, xs, rfl, hl, hv, _, hb⟩
 exact ⟨_, A, xs, c, rfl, ⟨hl, hv⟩, hb⟩
set_option maxHeartbeats 8000000 in
set_option maxRecDepth 20000 in
theorem frac_of (X Y : Int) (w : World) (h0 : -9223372036854775808 ≤ X) (h1 : X ≤ 9223372036854775807) (k0 : -9223372036854775808 ≤ Y) (k1 : Y ≤ 9223372036854775807) :
  Calls Tryz.prog 58 #[.int .i64 X, .int .i64 Y] w (ReckF w (Y = 0) (Rat.divInt X Y)) := by
 have H1 := Lib.hid (fun W => of_nl X W h0 h1)
 have H2 := Lib.hid (fun W => of_nl Y W k0 k1)
 clear h0 h1 k0 k1
 have RR := RestQ.new w 29
 have BW : Below w.heap.size w (w.alloc (.cells #[.bool false, .slice none 0 0, .bool false, .slice none 0 0] 29)) := by go_grown
 go_enter Tryz.func58, Tryz.ntmps58
 go_wp2_with fail
 generalize (w.alloc (.cells #[.bool false, .slice none 0 0, .bool false, .slice none 0 0] 29)) = V at *
 refine (H1.out V).mono ?_
 rintro _ w1 ⟨un, uA, uz, uk, rfl, Nu, hb⟩
 replace RR := RR.on hb
 replace BW := BW.trans (hb.mono BW.size)
 clear hb
 go_wp2_with fail
 refine (H2.out w1).mono ?_
 rintro _ w2 ⟨vn, vA, vz, vk, rfl, Nv, hb⟩
 replace Nu := Nu.on hb
 replace RR := RR.on hb
 replace BW := BW.trans (hb.mono BW.size)
 clear hb
 go_wp2_with fail
 refine (frac_make X Y _ _ _ _ _ _ _ _ w2 Nu Nv).mono ?_
 rintro _ w9 ⟨tn, tA, tz, tk, tm, tB, td, tl, er, rfl, Rt, hb⟩
 replace RR := RR.on hb
 replace BW := BW.trans (hb.mono BW.size)
 clear hb
 have y0 := RR.r0
 have y1 := RR.r1
 have y2 := RR.r2
 have y3 := RR.r3
 have y4 := RR.f0
 have y5 := RR.f1
 have y6 := RR.f2
 have y7 := RR.f3
 have HL := Lib.hid (And.intro (Rt.put4 RR (.bool tn) (.slice tA tz.length tk) (.bool tm) (.slice tB td.length tl)) (Below.putq BW (r := w.heap.size) (by omega) (.bool tn) (.slice tA tz.length tk) (.bool tm) (.slice tB td.length tl)))
 clear Nu Nv Rt BW RR H1 H2
 go_wp2
 exact bodyPost_ret (v := .tuple #[frq tn tA tz.length tk tm tB td.length tl, .int .i64 er]) (by simp [results, Tryz.results58, go_sem, y0, y1, y2, y3]) rfl ⟨_, _, _, _, _, _, _, _, _, rfl, HL.out.1, HL.out.2⟩
end Go.Proofs.YtjamfkafgfpobaaGreat
/-! ### Frh -/
namespace Go.Proofs.YtjamfkafgfpobaaGreat
open Go.RowKit Nb
theorem fits_of' {Z : Int} (hz : Z.natAbs < 2 ^ 100) (k : Nat) (hk : 4 ≤ k) : Z.natAbs < W32 ^ k := by
 have h4 : (2 : Nat) ^ 100 ≤ W32 ^ 4 := by decide
 exact Nat.lt_of_lt_of_le (Nat.lt_of_lt_of_le hz h4) (Nat.pow_le_pow_right (by decide) hk)
theorem fits_low {Z : Int} (hz : Z.natAbs < 2 ^ 100) : Fits Z := fits_of' hz 2048 (by omega)
end Go.Proofs.YtjamfkafgfpobaaGreat
namespace Go.Proofs.YtjamfkafgfpobaaGreat
open Go.RowKit Nb
section
variable {W W' : World} {z : Rat} {bad : Prop} {n m n' m' : Bool} {A B A' B' : Option Addr} {xs ds ys es : List Nat} {c d c' d' : Nat} {er er' : Int}
theorem Rk.lf (h : Rk W bad z n A xs c m B ds d er) (he : er = 0) : m = false ∧ Lf W z n A xs c B ds d := by
  rcases h with ⟨_, _, _, h4, h5⟩ | ⟨⟨_, h3⟩ | ⟨_, _, h3⟩, _⟩
  · exact ⟨h4, h5⟩
  · omega
  · omega
theorem Rk.yes (h : Rk W bad z n A xs c m B ds d er) (hb : ¬ bad) (hf : FitsQ z) : er = 0 := by
  rcases h with ⟨_, _, h3, _⟩ | ⟨⟨h1, _⟩ | ⟨_, h2, _⟩, _⟩
  · exact h3
  · exact absurd h1 hb
  · exact absurd hf h2
theorem Rk.to {z' : Rat} (h : Rk W bad z n A xs c m B ds d er) (e : z = z') : Rk W bad z' n A xs c m B ds d er := e ▸ h
theorem Lf.fitsQ (h : Lf W z n A xs c B ds d) : FitsQ z := ⟨h.num.fits, h.den.fits⟩
end
end Go.Proofs.YtjamfkafgfpobaaGreat
