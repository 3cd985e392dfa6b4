/-
  Facts on floats and what the library answers of them, taken up again. No conditions.
-/
import Derived.Test.YtplgheabhekedaaGreatXta
namespace Go.Proofs.YtplgheabhekedaaGreat
open Go.RowKit Nb
theorem sgn_zeroL {W : World} {q : Rat} {n : Bool} {A B : Option Addr} {xs ds : List Nat} {c d C : Nat} (h : Lq W q n A xs c B ds d C) : sgn n xs = 0 ↔ q.num = 0 := by
 have hv := h.vn
 unfold sgn
 cases n with
 | true =>
  have h1 := bg_pos h.num rfl
  have hv2 : -((val W64 xs : Nat) : Int) = q.num := hv
  simp only [if_true]
  constructor
  ·intro h; omega
  ·intro h; omega
 | false =>
  have hz := norm_zero (B := W64) (by decide) h.num.norm
  simp only [Bool.false_eq_true, if_false]
  rw [show sv false (val W64 xs) = ((val W64 xs : Nat) : Int) from rfl] at hv
  by_cases hl : xs.length = 0
  ·rw [if_pos hl]
   have : xs = [] := List.length_eq_zero_iff.1 hl
   have := hz.2 this
   constructor
   ·intro _; omega
   ·intro _; rfl
  ·rw [if_neg hl]
   constructor
   ·intro h; omega
   ·intro h; exfalso; apply hl; rw [hz.1 (by omega)]; rfl
end Go.Proofs.YtplgheabhekedaaGreat
namespace Go.Proofs.YtplgheabhekedaaGreat
open Go.RowKit Nb
set_option maxHeartbeats 1000000 in
theorem fsign_any (q : Rat) (n : Bool) (A B : Option Addr) (xs ds : List Nat) (c d C : Nat) (w : World) (h : Lq w q n A xs c B ds d C) (hC : C ≤ 17592186043904) :
    Calls Tryz.prog 98 #[frq n A xs.length c false B ds.length d] w fun e w' => e = .returned (.int .i64 (sgn n xs)) ∧ Below w.heap.size w w' := by
  have l1 : xs.length ≤ C := by have := h.num.len; have := h.num.cap; omega
  have l2 : ds.length ≤ C := by have := h.den.len; have := h.den.cap; omega
  have l5 : xs.length * 8 ≤ 140737488351232 := by omega
  have hb0 : Below w.heap.size w (w.alloc (.cells #[.bool n, .slice A xs.length c, .bool false, .slice B ds.length d] 88)) := by go_grown
  have c0 : (w.alloc (.cells #[.bool n, .slice A xs.length c, .bool false, .slice B ds.length d] 88)).cell? ⟨w.heap.size, 0, none⟩ = some (.bool n) := by go_cell
  have c1 : (w.alloc (.cells #[.bool n, .slice A xs.length c, .bool false, .slice B ds.length d] 88)).cell? ⟨w.heap.size, 1, none⟩ = some (.slice A xs.length c) := by go_cell
  go_enter Tryz.func98, Tryz.ntmps98
  go_wp2_with fail
  refine (sign_any n A xs c _ l5).mono ?_
  rintro e w1 ⟨rfl, hb⟩
  go_wp2
  go_ret
  exact ⟨rfl, hb0.trans (hb.mono hb0.size)⟩
end Go.Proofs.YtplgheabhekedaaGreat
namespace Go.Proofs.YtplgheabhekedaaGreat
open Go.RowKit Nb
set_option maxHeartbeats 8000000 in
set_option maxRecDepth 20000 in
theorem fquo1_any (q p : Rat) (n n' : Bool) (A B A' B' : Option Addr) (xs ds ys es : List Nat) (c d c' d' C : Nat) (w : World) (h : Lq w q n A xs c B ds d C) (k : Lq w p n' A' ys c' B' es d' C) (hC : C ≤ 1759218604390) :
  Calls Tryz.prog 97 #[frq n A xs.length c false B ds.length d, frq n' A' ys.length c' false B' es.length d'] w (DidQ w (q / p) (2 * C + 4) (p.num = 0)) := by
 obtain ⟨V, hV, BW, hz, RR, ⟨c0, c1, c2, c3⟩, ⟨e0, e1, e2, e3⟩⟩ := box_two w n A xs.length c false B ds.length d n' A' ys.length c' false B' es.length d' 88 88 88
 have KX := Box.of4 (by omega) c0 c1 c2 c3
 have KY := Box.of4 (by omega) e0 e1 e2 e3
 have LX := h.on BW
 have LY := k.on BW
 have HC := Lib.hid hC
 clear h k hC c0 c1 c2 c3 e0 e1 e2 e3 hz
 have KX_0 := KX.c 0 _ rfl
 have KX_1 := KX.c 1 _ rfl
 have KX_2 := KX.c 2 _ rfl
 have KX_3 := KX.c 3 _ rfl
 have KY_0 := KY.c 0 _ rfl
 have KY_1 := KY.c 1 _ rfl
 have KY_2 := KY.c 2 _ rfl
 have KY_3 := KY.c 3 _ rfl
 go_enter Tryz.func97, Tryz.ntmps97
 go_wp2_with fail
 clear KX_0 KX_1 KX_2 KX_3 KY_0 KY_1 KY_2 KY_3
 rw [← hV]
 clear hV
 refine (fsign_any p _ _ _ _ _ _ _ C _ LY (by have := HC.out; omega)).mono ?_
 rintro _ w1 ⟨rfl, hb⟩
 replace KX := KX.on hb
 replace KY := KY.on hb
 replace LX := LX.on hb
 replace LY := LY.on hb
 replace RR := RR.on hb
 replace BW := BW.trans (hb.mono BW.size)
 clear hb
 have hsg : sgn n' ys = 0 ↔ p.num = 0 := sgn_zeroL LY
 by_cases hz0 : p.num = 0
 ·rw [hsg.2 hz0]
  clear hsg
  have KX_0 := KX.c 0 _ rfl
  have KX_1 := KX.c 1 _ rfl
  have KX_2 := KX.c 2 _ rfl
  have KX_3 := KX.c 3 _ rfl
  have KY_0 := KY.c 0 _ rfl
  have KY_1 := KY.c 1 _ rfl
  have KY_2 := KY.c 2 _ rfl
  have KY_3 := KY.c 3 _ rfl
  have y0 := RR.r0
  have y1 := RR.r1
  have y2 := RR.r2
  have y3 := RR.r3
  have y4 := RR.f0
  have y5 := RR.f1
  have y6 := RR.f2
  have y7 := RR.f3
  have HL := Lib.hid (Below.putq BW (r := w.heap.size + 1 + 1) (by omega) (.bool false) (.slice none 0 0) (.bool false) (.slice none 0 0))
  have HB := Lib.hid hz0
  clear LX LY BW KX KY RR hz0
  go_wp2
  exact bodyPost_ret (v := .tuple #[frq false none ([] : List Nat).length 0 false none ([] : List Nat).length 0, .int .i64 3]) (by simp [results, Tryz.results97, go_sem, y0, y1, y2, y3]) rfl ⟨_, _, _, _, _, _, _, _, _, rfl, .inr ⟨HB.out, rfl⟩, HL.out⟩
 ·have hs2 : sgn n' ys ≠ 0 := fun e => hz0 (hsg.1 e)
  clear hsg
  generalize sgn n' ys = sg at *
  have KX_0 := KX.c 0 _ rfl
  have KX_1 := KX.c 1 _ rfl
  have KX_2 := KX.c 2 _ rfl
  have KX_3 := KX.c 3 _ rfl
  have KY_0 := KY.c 0 _ rfl
  have KY_1 := KY.c 1 _ rfl
  have KY_2 := KY.c 2 _ rfl
  have KY_3 := KY.c 3 _ rfl
  go_wp2_with fail
  clear hs2
  clear KX_0 KX_1 KX_2 KX_3 KY_0 KY_1 KY_2 KY_3
  refine (fquo_any q p _ _ _ _ _ _ _ _ _ _ _ _ _ _ C _ LX LY hz0 HC.out).mono ?_
  rintro _ w5 ⟨sn, sA, sz, sk, sB, sd, sl, rfl, Ls, hb⟩
  replace Ls := Ls.mono (C' := 2 * C + 4) (by omega)
  replace KX := KX.on hb
  replace KY := KY.on hb
  replace LX := LX.on hb
  replace LY := LY.on hb
  replace RR := RR.on hb
  replace BW := BW.trans (hb.mono BW.size)
  clear hb
  have y0 := RR.r0
  have y1 := RR.r1
  have y2 := RR.r2
  have y3 := RR.r3
  have y4 := RR.f0
  have y5 := RR.f1
  have y6 := RR.f2
  have y7 := RR.f3
  have HL := Lib.hid (And.intro (Ls.put4 RR (.bool sn) (.slice sA sz.length sk) (.bool false) (.slice sB sd.length sl)) (Below.putq BW (r := w.heap.size + 1 + 1) (by omega) (.bool sn) (.slice sA sz.length sk) (.bool false) (.slice sB sd.length sl)))
  clear LX LY Ls BW KX KY RR
  go_wp2
  exact bodyPost_ret (v := .tuple #[frq sn sA sz.length sk false sB sd.length sl, .int .i64 0]) (by simp [results, Tryz.results97, go_sem, y0, y1, y2, y3]) rfl ⟨_, _, _, _, _, _, _, _, _, rfl, .inl ⟨hz0, rfl, rfl, HL.out.1⟩, HL.out.2⟩
end Go.Proofs.YtplgheabhekedaaGreat
namespace Go.Proofs.YtplgheabhekedaaGreat
open Go.RowKit Nb
theorem freck_quo (q p : Rat) (n n' : Bool) (A B A' B' : Option Addr) (xs ds ys es : List Nat) (c d c' d' : Nat) (w : World) (h : Lf w q n A xs c B ds d) (k : Lf w p n' A' ys c' B' es d') :
    Calls Tryz.prog 75 #[frq n A xs.length c false B ds.length d, frq n' A' ys.length c' false B' es.length d', .func (.func 97) #[] #[]] w (ReckF w (p.num = 0) (q / p)) :=
  freck_any _ (fun _ _ => by simp [go_sem]) (q / p) q p (p.num = 0) (fun _ _ _ _ _ _ _ _ _ _ _ _ _ _ _ h k => fquo1_any q p _ _ _ _ _ _ _ _ _ _ _ _ _ _ 1024 _ h k (by decide)) n n' A B A' B' xs ds ys es c d c' d' w h k
end Go.Proofs.YtplgheabhekedaaGreat
namespace Go.Proofs.YtplgheabhekedaaGreat
open Go.RowKit Nb
set_option maxHeartbeats 8000000 in
set_option maxRecDepth 20000 in
theorem frac_quo (q p : Rat) (n n' : Bool) (A B A' B' : Option Addr) (xs ds ys es : List Nat) (c d c' d' : Nat) (w : World) (h : Lf w q n A xs c B ds d) (k : Lf w p n' A' ys c' B' es d') :
  Calls Tryz.prog 42 #[frq n A xs.length c false B ds.length d, frq n' A' ys.length c' false B' es.length d'] w (ReckF w (p.num = 0) (q / p)) := by
 obtain ⟨V, hV, BW, hz, RR, ⟨c0, c1, c2, c3⟩, ⟨e0, e1, e2, e3⟩⟩ := box_two w n A xs.length c false B ds.length d n' A' ys.length c' false B' es.length d' 29 29 29
 have KX := Box.of4 (by omega) c0 c1 c2 c3
 have KY := Box.of4 (by omega) e0 e1 e2 e3
 have LX := h.on BW
 have LY := k.on BW
 clear h k c0 c1 c2 c3 e0 e1 e2 e3 hz
 have KX_0 := KX.c 0 _ rfl
 have KX_1 := KX.c 1 _ rfl
 have KX_2 := KX.c 2 _ rfl
 have KX_3 := KX.c 3 _ rfl
 have KY_0 := KY.c 0 _ rfl
 have KY_1 := KY.c 1 _ rfl
 have KY_2 := KY.c 2 _ rfl
 have KY_3 := KY.c 3 _ rfl
 go_enter Tryz.func42, Tryz.ntmps42
 go_wp2_with fail
 clear KX_0 KX_1 KX_2 KX_3 KY_0 KY_1 KY_2 KY_3
 rw [← hV]
 clear hV
 refine (freck_quo q p _ _ _ _ _ _ _ _ _ _ _ _ _ _ _ LX LY).mono ?_
 rintro _ w9 ⟨tn, tA, tz, tk, tm, tB, td, tl, er, rfl, Rt, hb⟩
 replace KX := KX.on hb
 replace KY := KY.on hb
 replace LX := LX.on hb
 replace LY := LY.on hb
 replace RR := RR.on hb
 replace BW := BW.trans (hb.mono BW.size)
 clear hb
 have y0 := RR.r0
 have y1 := RR.r1
 have y2 := RR.r2
 have y3 := RR.r3
 have y4 := RR.f0
 have y5 := RR.f1
 have y6 := RR.f2
 have y7 := RR.f3
 have HL := Lib.hid (And.intro (Rt.put4 RR (.bool tn) (.slice tA tz.length tk) (.bool tm) (.slice tB td.length tl)) (Below.putq BW (r := w.heap.size + 1 + 1) (by omega) (.bool tn) (.slice tA tz.length tk) (.bool tm) (.slice tB td.length tl)))
 clear LX LY Rt BW KX KY RR
 go_wp2
 exact bodyPost_ret (v := .tuple #[frq tn tA tz.length tk tm tB td.length tl, .int .i64 er]) (by simp [results, Tryz.results42, go_sem, y0, y1, y2, y3]) rfl ⟨_, _, _, _, _, _, _, _, _, rfl, HL.out.1, HL.out.2⟩
end Go.Proofs.YtplgheabhekedaaGreat
namespace Go.Proofs.YtplgheabhekedaaGreat
open Go.RowKit Nb
section
variable {W W' : World} {q p z : Rat} {f g : Fv} {C C' : Nat} {er : Int} {bad : Prop}
theorem r_quo (h : Ff W q f) (k : Ff W p g) : Calls Tryz.prog 42 #[fv f, fv g] W (GR W (p.num = 0) (q / p)) := by
 obtain ⟨n, A, xs, c, m, B, ds, d⟩ := f
 obtain ⟨n', A', ys, c', m', B', es, d'⟩ := g
 obtain ⟨rfl, h⟩ := h
 obtain ⟨rfl, k⟩ := k
 exact (frac_quo q p n n' A B A' B' xs ds ys es c d c' d' W h k).mono (fun _ _ h => GR.of h)
end
end Go.Proofs.YtplgheabhekedaaGreat
