/-
  Facts on floats and what the library answers of them, taken up again. No conditions.
-/
import Derived.Test.YtjamfkafgfpobaaGreatRf
import Derived.Test.YtjamfkafgfpobaaGreatRlb
namespace Go.Proofs.YtjamfkafgfpobaaGreat
open Rat
/-- The sign. -/
def sgnQ (x : Rat) : Int := x.num.sign
end Go.Proofs.YtjamfkafgfpobaaGreat
namespace Go.Proofs.YtjamfkafgfpobaaGreat
open Rat
/-- Its numbers have no more limbs than may be. -/
theorem rat_turned (y : Rat) (hy : y.num ≠ 0) : (y⁻¹).num = (if y.num < 0 then -(y.den : Int) else y.den) ∧ ((y⁻¹).den : Int) = if y.num < 0 then -y.num else y.num := by
  rw [Rat.num_inv, Rat.den_inv, if_neg hy]
  by_cases h : y.num < 0
  · rw [if_pos h, if_pos h, Int.sign_eq_neg_one_of_neg h]; omega
  · rw [if_neg h, if_neg h, Int.sign_eq_one_of_pos (by omega)]; omega
end Go.Proofs.YtjamfkafgfpobaaGreat
namespace Go.Proofs.YtjamfkafgfpobaaGreat
open Go.RowKit Nb
/-! ### Steps of drawn regions in short -/
section
variable {W W' : World} {p g : Nat} {vs : List Value}
theorem Box.over4 {a b c d : Value} (h : Box W p [a, b, c, d]) (f : Fz W p) (u0 u1 u2 u3 : Value) : Box ((((W.setCell ⟨p, 0, none⟩ u0).setCell ⟨p, 1, none⟩ u1).setCell ⟨p, 2, none⟩ u2).setCell ⟨p, 3, none⟩ u3) p [u0, u1, u2, u3] := by
  have a0 := h.c 0 _ rfl
  have a1 := h.c 1 _ rfl
  have a2 := h.c 2 _ rfl
  have a3 := h.c 3 _ rfl
  have f0 := f.2 0
  have f1 := f.2 1
  have f2 := f.2 2
  have f3 := f.2 3
  exact Box.of4 (by simpa using h.lt) (by go_cell) (by go_cell) (by go_cell) (by go_cell)
end
end Go.Proofs.YtjamfkafgfpobaaGreat
namespace Go.Proofs.YtjamfkafgfpobaaGreat
open Go.RowKit Nb
/-! ### Steps of drawn regions in short -/
section
variable {W W' : World} {X Y Z : Int} {C D C' p : Nat} {n m b b' : Bool} {A B U U' : Option Addr} {xs ys ls : List Nat} {c d l l' k k' : Nat} {q : Rat}
theorem Sl.over4 {i : IntKind} {N : Nat} (h : Sl i W N A ls) (K : Box W p [.bool b, .slice U l k, .bool b', .slice U' l' k']) (u0 u1 u2 u3 : Value) : Sl i ((((W.setCell ⟨p, 0, none⟩ u0).setCell ⟨p, 1, none⟩ u1).setCell ⟨p, 2, none⟩ u2).setCell ⟨p, 3, none⟩ u3) N A ls := by
  have h1 := h.keepAt (K.c 0 _ rfl) (by intro _ e; cases e) u0
  have h2 := h1.keepAt (p := ⟨p, 1, none⟩) (v := .slice U l k) (by rw [World.cell?_setCell_other _ _ _ _ (by simp)]; exact K.c 1 _ rfl) (by intro _ e; cases e) u1
  have h3 := h2.keepAt (p := ⟨p, 2, none⟩) (v := .bool b') (by rw [World.cell?_setCell_other _ _ _ _ (by simp), World.cell?_setCell_other _ _ _ _ (by simp)]; exact K.c 2 _ rfl) (by intro _ e; cases e) u2
  exact h3.keepAt (p := ⟨p, 3, none⟩) (v := .slice U' l' k') (by rw [World.cell?_setCell_other _ _ _ _ (by simp), World.cell?_setCell_other _ _ _ _ (by simp), World.cell?_setCell_other _ _ _ _ (by simp)]; exact K.c 3 _ rfl) (by intro _ e; cases e) u3
end
end Go.Proofs.YtjamfkafgfpobaaGreat
namespace Go.Proofs.YtjamfkafgfpobaaGreat
open Go.RowKit Nb
/-! ### Steps of drawn regions in short -/
section
variable {W W' : World} {X Y Z : Int} {C D C' p : Nat} {n m b b' : Bool} {A B U U' : Option Addr} {xs ys ls : List Nat} {c d l l' k k' : Nat} {q : Rat}
theorem Nw.over4 (h : Nw W Z C n A ls c) (K : Box W p [.bool b, .slice U l k, .bool b', .slice U' l' k']) (u0 u1 u2 u3 : Value) : Nw ((((W.setCell ⟨p, 0, none⟩ u0).setCell ⟨p, 1, none⟩ u1).setCell ⟨p, 2, none⟩ u2).setCell ⟨p, 3, none⟩ u3) Z C n A ls c :=
  ⟨⟨by have := h.bg.sl.over4 K u0 u1 u2 u3; simpa using this, h.bg.dig, h.bg.norm, h.bg.sign, h.bg.len, h.bg.cap, h.bg.room⟩, h.v⟩
end
end Go.Proofs.YtjamfkafgfpobaaGreat
namespace Go.Proofs.YtjamfkafgfpobaaGreat
open Go.RowKit Nb
set_option maxHeartbeats 8000000 in
set_option maxRecDepth 20000 in
theorem fquo_any (q p : Rat) (n n' : Bool) (A B A' B' : Option Addr) (xs ds ys es : List Nat) (c d c' d' C : Nat) (w : World) (h : Lq w q n A xs c B ds d C) (k : Lq w p n' A' ys c' B' es d' C) (hp : p.num ≠ 0) (hC : C ≤ 1759218604390) :
  Calls Tryz.prog 101 #[frq n A xs.length c false B ds.length d, frq n' A' ys.length c' false B' es.length d'] w (GivesQ w (q / p) (2 * C + 2)) := by
 obtain ⟨V, hV, BW, hz, RR, ⟨c0, c1, c2, c3⟩, ⟨e0, e1, e2, e3⟩⟩ := box_two w n A xs.length c false B ds.length d n' A' ys.length c' false B' es.length d' 74 74 74
 have KX := Box.of4 (by omega) c0 c1 c2 c3
 have KY := Box.of4 (by omega) e0 e1 e2 e3
 have LX := h.on BW
 have Yn := k.x.on BW
 have Yd := k.y.on BW
 have HC := Lib.hid hC
 obtain ⟨t1, t2⟩ := rat_turned p hp
 clear h k hC c0 c1 c2 c3 e0 e1 e2 e3
 cases n' with
 | false =>
  have gv : ¬ p.num < 0 := by have := Yn.v; rw [← this]; show ¬ ((val W64 ys : Nat) : Int) < 0; omega
  rw [if_neg gv] at t1 t2
  clear gv hp
  have KT := Box.new V [.bool false, .slice B' es.length d', .bool false, .slice A' ys.length c'] 74
  have FT := Fz.new V #[.bool false, .slice B' es.length d', .bool false, .slice A' ys.length c'] 74
  have hb : Below V.heap.size V (V.alloc (.cells #[.bool false, .slice B' es.length d', .bool false, .slice A' ys.length c'] 74)) := by go_grown
  replace KX := KX.on hb
  replace KY := KY.on hb
  replace LX := LX.on hb
  replace Yn := Yn.on hb
  replace Yd := Yd.on hb
  replace RR := RR.on hb
  replace BW := BW.trans (hb.mono BW.size)
  clear hb
  rw [hz] at KT FT
  clear hz
  go_enter Tryz.func101, Tryz.ntmps101
  go_wp2_with fail
  rw [← hV]
  clear hV
  generalize (V.alloc (.cells #[.bool false, .slice B' es.length d', .bool false, .slice A' ys.length c'] 74)) = VT at *
  have LT := (Lq.mk' (q := p⁻¹) (Yd.eq t1.symm) (Yn.eq t2.symm)).2
  refine (fmul_any q p⁻¹ _ _ _ _ _ _ _ _ _ _ _ _ _ _ C _ LX LT HC.out).mono ?_
  rintro _ w5 ⟨sn, sA, sz, sk, sB, sd, sl, rfl, Ls, hb⟩
  rw [← Rat.div_def] at Ls
  replace RR := RR.on hb
  replace BW := BW.trans (hb.mono BW.size)
  clear hb
  have y0 := RR.r0
  have y1 := RR.r1
  have y2 := RR.r2
  have y3 := RR.r3
  have y4 := RR.f0
  have y5 := RR.f1
  have y6 := RR.f2
  have y7 := RR.f3
  have HL := Lib.hid (And.intro (Ls.put4 RR (.bool sn) (.slice sA sz.length sk) (.bool false) (.slice sB sd.length sl)) (Below.putq BW (r := w.heap.size + 1 + 1) (by omega) (.bool sn) (.slice sA sz.length sk) (.bool false) (.slice sB sd.length sl)))
  clear LX LT Ls BW KX KY KT RR
  go_wp2
  exact bodyPost_ret (v := frq sn sA sz.length sk false sB sd.length sl) (by simp [results, Tryz.results101, go_sem, y0, y1, y2, y3]) rfl ⟨_, _, _, _, _, _, _, rfl, HL.out.1, HL.out.2⟩
 | true =>
  have gv : p.num < 0 := by have h1 := bg_pos Yn.bg rfl; have h2 := Yn.v; rw [← h2]; show -((val W64 ys : Nat) : Int) < 0; omega
  rw [if_pos gv] at t1 t2
  clear gv hp
  have KT := Box.new V [.bool false, .slice B' es.length d', .bool true, .slice A' ys.length c'] 74
  have FT := Fz.new V #[.bool false, .slice B' es.length d', .bool true, .slice A' ys.length c'] 74
  have hb : Below V.heap.size V (V.alloc (.cells #[.bool false, .slice B' es.length d', .bool true, .slice A' ys.length c'] 74)) := by go_grown
  replace KX := KX.on hb
  replace KY := KY.on hb
  replace LX := LX.on hb
  replace Yn := Yn.on hb
  replace Yd := Yd.on hb
  replace RR := RR.on hb
  replace BW := BW.trans (hb.mono BW.size)
  clear hb
  rw [hz] at KT FT
  clear hz
  go_enter Tryz.func101, Tryz.ntmps101
  go_wp2_with fail
  rw [← hV]
  clear hV
  generalize (V.alloc (.cells #[.bool false, .slice B' es.length d', .bool true, .slice A' ys.length c'] 74)) = VT at *
  refine wp_region_noPanic ?_
  have hb : Below VT.heap.size VT VT.drew := (Below.refl _ _).drew
  replace KX := KX.on hb
  replace KY := KY.on hb
  replace LX := LX.on hb
  replace Yn := Yn.on hb
  replace Yd := Yd.on hb
  replace FT := FT.on hb
  replace KT := KT.on hb
  replace RR := RR.on hb
  replace BW := BW.trans (hb.mono BW.size)
  clear hb
  refine wp_region_held_drew (S := (fun wx => wx.cell? ⟨w.heap.size, 0, none⟩ = some (.bool n) ∧ wx.cell? ⟨w.heap.size, 1, none⟩ = some (.slice A xs.length c) ∧ wx.cell? ⟨w.heap.size, 2, none⟩ = some (.bool false) ∧ wx.cell? ⟨w.heap.size, 3, none⟩ = some (.slice B ds.length d) ∧ wx.cell? ⟨w.heap.size + 1, 0, none⟩ = some (.bool true) ∧ wx.cell? ⟨w.heap.size + 1, 1, none⟩ = some (.slice A' ys.length c') ∧ wx.cell? ⟨w.heap.size + 1, 2, none⟩ = some (.bool false) ∧ wx.cell? ⟨w.heap.size + 1, 3, none⟩ = some (.slice B' es.length d'))) (by kernel_rfl) (by exact KX.a4 KY.b4) (fun hHeld => ?_)
  generalize VT.drew = Vd at *
  refine pT 0 ?_
  (try simp only [p0, p1, p2, p3])
  refine pT 1 ?_
  (try simp only [p0, p1, p2, p3])
  refine pT 3 ?_
  (try simp only [p0, p1, p2, p3])
  refine pT 4 ?_
  (try simp only [p0, p1, p2, p3])
  refine pR1 2 (fun K hK => ?_)
  go_simp
  (go_at_call 117; with_reducible refine (neg_n Yd (by have := HC.out; omega)).mono ?_)
  rintro _ wc0 ⟨un, uA, uz, uk, rfl, Nu, hb⟩
  (try go_wp2_with fail)
  replace KX := KX.on hb
  replace KY := KY.on hb
  replace LX := LX.on hb
  replace Yn := Yn.on hb
  replace Yd := Yd.on hb
  replace FT := FT.on hb
  replace KT := KT.on hb
  replace RR := RR.on hb
  replace BW := BW.trans (hb.mono BW.size)
  clear hb
  refine hK.out _ _ (by exact KX.a4 KY.b4) (fun hHeld => ?_)
  clear hK
  (try simp only [p0, p1, p2, p3])
  refine pR1 5 (fun K hK => ?_)
  go_simp
  (go_at_call 117; with_reducible refine (neg_n Yn (by have := HC.out; omega)).mono ?_)
  rintro _ wc1 ⟨vn, vA, vz, vk, rfl, Nv, hb⟩
  (try go_wp2_with fail)
  replace KX := KX.on hb
  replace KY := KY.on hb
  replace LX := LX.on hb
  replace Yn := Yn.on hb
  replace Yd := Yd.on hb
  replace FT := FT.on hb
  replace KT := KT.on hb
  replace Nu := Nu.on hb
  replace RR := RR.on hb
  replace BW := BW.trans (hb.mono BW.size)
  clear hb
  refine hK.out _ _ (by exact KX.a4 KY.b4) (fun hHeld => ?_)
  clear hK
  (try simp only [p0, p1, p2, p3])
  refine pT 6 ?_
  (try simp only [p0, p1, p2, p3])
  replace Nu := Nu.eq t1.symm
  replace Nv := Nv.eq t2.symm
  obtain ⟨rfl, HQ⟩ := Lq.mk' (q := p⁻¹) Nu Nv
  clear HQ Yn Yd
  have a0 := KT.c 0 _ rfl
  have a1 := KT.c 1 _ rfl
  have a2 := KT.c 2 _ rfl
  have a3 := KT.c 3 _ rfl
  have b0 := FT.2 0
  have b1 := FT.2 1
  have b2 := FT.2 2
  have b3 := FT.2 3
  refine pR1 7 (fun K hK => ?_)
  go_simp
  replace Nu := Nu.over4 KT (.bool un) (.slice uA uz.length uk) (.bool false) (.slice vA vz.length vk)
  replace Nv := Nv.over4 KT (.bool un) (.slice uA uz.length uk) (.bool false) (.slice vA vz.length vk)
  replace LX : Lq _ _ _ _ _ _ _ _ _ _ := (Lq.mk' (LX.x.over4 KT (.bool un) (.slice uA uz.length uk) (.bool false) (.slice vA vz.length vk)) (LX.y.over4 KT (.bool un) (.slice uA uz.length uk) (.bool false) (.slice vA vz.length vk))).2
  replace KX := KX.far4 (g := w.heap.size + 1 + 1 + 1) (by omega) (.bool un) (.slice uA uz.length uk) (.bool false) (.slice vA vz.length vk)
  replace KY := KY.far4 (g := w.heap.size + 1 + 1 + 1) (by omega) (.bool un) (.slice uA uz.length uk) (.bool false) (.slice vA vz.length vk)
  replace RR := (((RR.far (g := w.heap.size + 1 + 1 + 1) (by omega) 0 (.bool un)).far (g := w.heap.size + 1 + 1 + 1) (by omega) 1 (.slice uA uz.length uk)).far (g := w.heap.size + 1 + 1 + 1) (by omega) 2 (.bool false)).far (g := w.heap.size + 1 + 1 + 1) (by omega) 3 (.slice vA vz.length vk)
  replace KT := KT.over4 FT (.bool un) (.slice uA uz.length uk) (.bool false) (.slice vA vz.length vk)
  replace BW := Below.putq BW (r := w.heap.size + 1 + 1 + 1) (by omega) (.bool un) (.slice uA uz.length uk) (.bool false) (.slice vA vz.length vk)
  clear a0 a1 a2 a3 b0 b1 b2 b3 FT
  generalize ((((wc1.setCell ⟨w.heap.size + 1 + 1 + 1, 0, none⟩ (.bool un)).setCell ⟨w.heap.size + 1 + 1 + 1, 1, none⟩ (.slice uA uz.length uk)).setCell ⟨w.heap.size + 1 + 1 + 1, 2, none⟩ (.bool false)).setCell ⟨w.heap.size + 1 + 1 + 1, 3, none⟩ (.slice vA vz.length vk)) = ws at *
  refine hK.out _ _ (by exact KX.a4 KY.b4) (fun hHeld => ?_)
  clear hK
  (try simp only [p0, p1, p2, p3])
  refine wpAnyH_done (by kernel_rfl) (NoPanic.normal ?_) _
  have LT := (Lq.mk' (q := p⁻¹) Nu Nv).2
  clear Nu Nv
  have KX_0 := KX.c 0 _ rfl
  have KX_1 := KX.c 1 _ rfl
  have KX_2 := KX.c 2 _ rfl
  have KX_3 := KX.c 3 _ rfl
  have KY_0 := KY.c 0 _ rfl
  have KY_1 := KY.c 1 _ rfl
  have KY_2 := KY.c 2 _ rfl
  have KY_3 := KY.c 3 _ rfl
  have KT_0 := KT.c 0 _ rfl
  have KT_1 := KT.c 1 _ rfl
  have KT_2 := KT.c 2 _ rfl
  have KT_3 := KT.c 3 _ rfl
  go_wp2_with fail
  clear KX_0 KX_1 KX_2 KX_3 KY_0 KY_1 KY_2 KY_3 KT_0 KT_1 KT_2 KT_3
  refine (fmul_any q p⁻¹ _ _ _ _ _ _ _ _ _ _ _ _ _ _ C _ LX LT HC.out).mono ?_
  rintro _ w5 ⟨sn, sA, sz, sk, sB, sd, sl, rfl, Ls, hb⟩
  rw [← Rat.div_def] at Ls
  replace RR := RR.on hb
  replace BW := BW.trans (hb.mono BW.size)
  clear hb
  have y0 := RR.r0
  have y1 := RR.r1
  have y2 := RR.r2
  have y3 := RR.r3
  have y4 := RR.f0
  have y5 := RR.f1
  have y6 := RR.f2
  have y7 := RR.f3
  have HL := Lib.hid (And.intro (Ls.put4 RR (.bool sn) (.slice sA sz.length sk) (.bool false) (.slice sB sd.length sl)) (Below.putq BW (r := w.heap.size + 1 + 1) (by omega) (.bool sn) (.slice sA sz.length sk) (.bool false) (.slice sB sd.length sl)))
  clear LX LT Ls BW KX KY KT RR
  go_wp2
  exact bodyPost_ret (v := frq sn sA sz.length sk false sB sd.length sl) (by simp [results, Tryz.results101, go_sem, y0, y1, y2, y3]) rfl ⟨_, _, _, _, _, _, _, rfl, HL.out.1, HL.out.2⟩
end Go.Proofs.YtjamfkafgfpobaaGreat
namespace Go.Proofs.YtjamfkafgfpobaaGreat
open Go.RowKit Nb
section
variable {W W' : World} {q p z : Rat} {f g : Fv} {C C' : Nat} {er : Int} {bad : Prop}
theorem fv0_not : ¬ okv fv0 := fun h => absurd h.ne (by decide)
end
end Go.Proofs.YtjamfkafgfpobaaGreat
namespace Go.Proofs.YtjamfkafgfpobaaGreat
open Go.RowKit Nb
section
variable {W W' : World} {q p z : Rat} {f g : Fv} {C C' : Nat} {er : Int} {bad : Prop}
theorem chkv_bad (h : ¬ okv f) : chkv f = 1 := chkF_bad h
end
end Go.Proofs.YtjamfkafgfpobaaGreat
namespace Go.Proofs.YtjamfkafgfpobaaGreat
open Go.RowKit Nb
section
variable {W W' : World} {q p z : Rat} {f g : Fv} {C C' : Nat} {er : Int} {bad : Prop}
theorem q_quo (h : Fq W q f C) (k : Fq W p g C) (hp : p.num ≠ 0) (hC : C ≤ 1759218604390) : Calls Tryz.prog 101 #[fv f, fv g] W (GQ W (q / p) (2 * C + 2)) := by
 obtain ⟨n, A, xs, c, m, B, ds, d⟩ := f
 obtain ⟨n', A', ys, c', m', B', es, d'⟩ := g
 obtain ⟨rfl, h⟩ := h
 obtain ⟨rfl, k⟩ := k
 refine (fquo_any q p n n' A B A' B' xs ds ys es c d c' d' C W h k hp hC).mono ?_
 rintro _ _ ⟨n, A, xs, c, B, ds, d, rfl, hL, hb⟩
 exact ⟨⟨n, A, xs, c, false, B, ds, d⟩, rfl, ⟨rfl, hL⟩, hb⟩
end
end Go.Proofs.YtjamfkafgfpobaaGreat
namespace Go.Proofs.YtjamfkafgfpobaaGreat
open Go.RowKit Nb
theorem lof_n {n : Int} {w : World} (h0 : -9223372036854775808 ≤ n) (h1 : n ≤ 9223372036854775807) : Calls Tryz.prog 115 #[.int .i64 n] w (GivesN w n 1) := by
 refine (large_of_any n w h0 h1).mono ?_
 rintro _ w1 ⟨g, rfl, hs, _, hb⟩
 refine ⟨_, _, _, _, rfl, ⟨⟨hs, ofL_dig h0 h1, ofL_norm n, fun e => ?_, by have := ofL_len n; omega, by have := ofL_len n; omega, by unfold maxLen; omega⟩, ?_⟩, hb⟩
 ·have := ofL_val n
  rw [e] at this
  have h3 : n = 0 := by simp [val] at this; omega
  rw [h3]; rfl
 ·rw [ofL_val]
  unfold sv
  by_cases h : n < 0
  ·rw [decide_eq_true h, if_pos rfl]; omega
  ·rw [decide_eq_false h]; simp; omega
end Go.Proofs.YtjamfkafgfpobaaGreat
namespace Go.Proofs.YtjamfkafgfpobaaGreat
open Go.RowKit Nb
theorem q_ratio {X Y : Int} {n m : Bool} {A B : Option Addr} {xs ds : List Nat} {c d C : Nat} {w : World} (h : Nw w X C n A xs c) (k : Nw w Y C m B ds d) (hY : Y ≠ 0) (hC : C ≤ 1759218604390) :
  Calls Tryz.prog 122 #[big n A xs.length c, big m B ds.length d] w (GQ w (Rat.divInt X Y) (C + 1)) := by
 refine (ratio_any X Y n m A B xs ds c d C w h k hY hC).mono ?_
 rintro _ _ ⟨n, A, xs, c, B, ds, d, rfl, hL, hb⟩
 exact ⟨⟨n, A, xs, c, false, B, ds, d⟩, rfl, ⟨rfl, hL⟩, hb⟩
end Go.Proofs.YtjamfkafgfpobaaGreat
namespace Go.Proofs.YtjamfkafgfpobaaGreat
open Go.RowKit Nb
section
variable {k l : Nat} {a b : Int} {z y s t : Rat}
theorem Hg.norm (h : Hg k z y) : Hq (k + k + 1) (z * z + y * y) := by
  obtain ⟨D, a, b, h0, h1, h2, h3, h4, h5⟩ := h
  refine ⟨D * D, a * a + b * b, Int.mul_pos h0 h0, ?_, bd_mono (bd_mul h3 h3) (by omega), bd_add (bd_mul h4 h4) (bd_mul h5 h5)⟩
  simp only [Rat.intCast_mul, Rat.intCast_add]; rw [← h1, ← h2]; grind
end
end Go.Proofs.YtjamfkafgfpobaaGreat
namespace Go.Proofs.YtjamfkafgfpobaaGreat
open Go.RowKit Nb
section
variable {m n o : Mq} {r s : Yq}
theorem Mq.mul_assoc : (m.mul n).mul o = m.mul (n.mul o) := by
 apply Mq.ext4 <;> simp only [Mq.mul] <;> grind
end
end Go.Proofs.YtjamfkafgfpobaaGreat
namespace Go.Proofs.YtjamfkafgfpobaaGreat
open Go.RowKit Nb
section
variable {m n o : Mq} {r s : Yq}
theorem Mq.mul_one : m.mul Mq.one = m := by
 apply Mq.ext4 <;> simp only [Mq.mul, Mq.one] <;> grind
end
end Go.Proofs.YtjamfkafgfpobaaGreat
namespace Go.Proofs.YtjamfkafgfpobaaGreat
open Go.RowKit Nb
section
variable {m n o : Mq} {r s : Yq}
theorem Mq.one_mul : Mq.one.mul m = m := by
 apply Mq.ext4 <;> simp only [Mq.mul, Mq.one] <;> grind
end
end Go.Proofs.YtjamfkafgfpobaaGreat
namespace Go.Proofs.YtjamfkafgfpobaaGreat
open Go.RowKit Nb
section
variable {m n o : Mq} {r s : Yq}
end
end Go.Proofs.YtjamfkafgfpobaaGreat
namespace Go.Proofs.YtjamfkafgfpobaaGreat
open Go.RowKit Nb
section
variable {m n o : Mq} {r s : Yq}
end
end Go.Proofs.YtjamfkafgfpobaaGreat
namespace Go.Proofs.YtjamfkafgfpobaaGreat
open Go.RowKit Nb
section
variable {W : World} {p : Nat} {us vs : List Value}
theorem wpList_stM {ops : Array Oper} {rest : List Oper} {o : Oper} {a : Act} {Q : Exit → Act → World → Prop} {x y : Operand} (hgd : o.guard = none) (ho : o.op = .store 31 x y) (hx : a.eval x = .pointer (some ⟨p, 0, none⟩)) (hy : a.eval y = .agg vs.toArray) (B : Box W p us) (Z : Fz W p) (hl : us.length = 16) (hv : vs.length = 16) (h1 : vs.all (·.oneCell') = true)
  (h : wpList Tryz.prog ops Q rest (a.put o.dst undef) (W.setCells p 0 vs)) : wpList Tryz.prog ops Q (o :: rest) a W :=
 wpList_plain hgd fun _ hK => wp_stM ho hx hy B Z hl hv h1 (hK _ _ h)
end
end Go.Proofs.YtjamfkafgfpobaaGreat
namespace Go.Proofs.YtjamfkafgfpobaaGreat
open Go.RowKit Nb
end Go.Proofs.YtjamfkafgfpobaaGreat
namespace Go.Proofs.YtjamfkafgfpobaaGreat
open Go.RowKit Nb
theorem MayM.at {W w : World} {m : Mv} (X : Xm w m) (h : MayM W m) : MayM w m := by
 obtain ⟨q, h1, h2⟩ := h
 obtain ⟨p, k⟩ := h1.okm.fm X
 exact ⟨p, k, by rw [k.uniq h1]; exact h2⟩
end Go.Proofs.YtjamfkafgfpobaaGreat
