/-
  What the opposite, the sign, the order, the lengths of fractions in words, FromFrac, Frac, Sub, Fit return. Conditions: that they are fractions, and no longer than memory.
-/
import Derived.Test.YtmcnhgakaodafaaFqe
import Derived.Deep.RegionHeld3
import Derived.Test.YtmcnhgakaodafaaFq3
import Derived.Deep.DeepCutAuto
import Derived.BigRegion
/-! ### Fq2 -/
namespace Go.Proofs.Ytmcnhgakaodafaa
open Go.RowKit Nb
set_option maxHeartbeats 4000000 in
set_option maxRecDepth 20000 in
theorem fcmp_any (q p : Rat) (n n' : Bool) (A B A' B' : Option Addr) (xs ds ys es : List Nat) (c d c' d' C : Nat) (w : World) (h : Lq w q n A xs c B ds d C) (k : Lq w p n' A' ys c' B' es d' C) (hC : C ≤ 1759218604390) :
    Calls Try.prog 22 #[frq n A xs.length c false B ds.length d, frq n' A' ys.length c' false B' es.length d'] w fun e w' => e = .returned (.int .i64 (cmpI (q.num * p.den) (p.num * q.den))) ∧ Below w.heap.size w w' := by
  have l1 : xs.length ≤ C := by have := h.num.len; have := h.num.cap; omega
  have l2 : ds.length ≤ C := by have := h.den.len; have := h.den.cap; omega
  have l3 : ys.length ≤ C := by have := k.num.len; have := k.num.cap; omega
  have l4 : es.length ≤ C := by have := k.den.len; have := k.den.cap; omega
  obtain ⟨V, hV⟩ : ∃ V, V = ((w.alloc (.cells #[.bool n, .slice A xs.length c, .bool false, .slice B ds.length d] 53)).alloc (.cells #[.bool n', .slice A' ys.length c', .bool false, .slice B' es.length d'] 53)) := ⟨_, rfl⟩
  have hB : Below w.heap.size w V := by rw [hV]; go_grown
  have hz : V.heap.size = w.heap.size + 1 + 1 := by rw [hV]; go_size
  have c0 : V.cell? ⟨w.heap.size, 0, none⟩ = some (.bool n) := by rw [hV]; go_cell
  have c1 : V.cell? ⟨w.heap.size, 1, none⟩ = some (.slice A xs.length c) := by rw [hV]; go_cell
  have c2 : V.cell? ⟨w.heap.size, 2, none⟩ = some (.bool false) := by rw [hV]; go_cell
  have c3 : V.cell? ⟨w.heap.size, 3, none⟩ = some (.slice B ds.length d) := by rw [hV]; go_cell
  have e0 : V.cell? ⟨w.heap.size + 1, 0, none⟩ = some (.bool n') := by rw [hV]; go_cell
  have e1 : V.cell? ⟨w.heap.size + 1, 1, none⟩ = some (.slice A' ys.length c') := by rw [hV]; go_cell
  have e2 : V.cell? ⟨w.heap.size + 1, 2, none⟩ = some (.bool false) := by rw [hV]; go_cell
  have e3 : V.cell? ⟨w.heap.size + 1, 3, none⟩ = some (.slice B' es.length d') := by rw [hV]; go_cell
  have hne : w.heap.size ≠ w.heap.size + 1 + 1 ∧ w.heap.size + 1 ≠ w.heap.size + 1 + 1 := by omega
  have HS := Lib.hid (fun (W : World) (hb : Bex (w.heap.size + 1 + 1) V W) => (⟨hb, hb.at (by omega) (by omega) c0, hb.at (by omega) (by omega) c1, hb.at (by omega) (by omega) c2, hb.at (by omega) (by omega) c3, hb.at (by omega) (by omega) e0, hb.at (by omega) (by omega) e1, hb.at (by omega) (by omega) e2, hb.at (by omega) (by omega) e3⟩ :
    Bex (w.heap.size + 1 + 1) V W ∧ W.cell? ⟨w.heap.size, 0, none⟩ = some (.bool n) ∧ W.cell? ⟨w.heap.size, 1, none⟩ = some (.slice A xs.length c) ∧ W.cell? ⟨w.heap.size, 2, none⟩ = some (.bool false) ∧ W.cell? ⟨w.heap.size, 3, none⟩ = some (.slice B ds.length d) ∧ W.cell? ⟨w.heap.size + 1, 0, none⟩ = some (.bool n') ∧ W.cell? ⟨w.heap.size + 1, 1, none⟩ = some (.slice A' ys.length c') ∧ W.cell? ⟨w.heap.size + 1, 2, none⟩ = some (.bool false) ∧ W.cell? ⟨w.heap.size + 1, 3, none⟩ = some (.slice B' es.length d')))
  have HD := Lib.hid hB
  have HC := Lib.hid (fun (W : World) (m1 m2 : Bool) (V1 V2 : Option Addr) (z1 z2 : List Nat) (k1 k2 : Nat) (b1 : Bg W m1 V1 z1 k1 (xs.length + es.length)) (b2 : Bg W m2 V2 z2 k2 (ys.length + ds.length)) (v1 : sv m1 (val W64 z1) = q.num * p.den) (v2 : sv m2 (val W64 z2) = p.num * q.den) => (by
    have := lcmp_any m1 m2 V1 V2 z1 z2 k1 k2 W b1.sl b2.sl b1.dig b2.dig b1.norm b2.norm (by have := b1.len; have := b1.cap; omega) (by have := b2.len; have := b2.cap; omega) (bg_pos b1) (bg_pos b2)
    rw [v1, v2] at this
    exact this : Calls Try.prog 38 #[big m1 V1 z1.length k1, big m2 V2 z2.length k2] W fun e w' => e = .returned (.int .i64 (cmpI (q.num * p.den) (p.num * q.den))) ∧ Below W.heap.size W w'))
  have l5 : (xs.length + es.length) * 8 ≤ 140737488351232 := by omega
  have l6 : (ys.length + ds.length) * 8 ≤ 140737488351232 := by omega
  have H1 := Lib.hid (fun (W : World) (hW : Below V.heap.size V W) => (by
    have b1 := h.num.below (HD.out.trans (hW.mono HD.out.size))
    have b2 := k.den.below (HD.out.trans (hW.mono HD.out.size))
    have := lmul_any n false A B' xs es c d' W b1.sl b2.sl b1.dig b2.dig l5
    rw [h.vn, k.svd] at this
    exact this : Calls Try.prog 34 #[big n A xs.length c, big false B' es.length d'] W (Gives W (q.num * p.den) (xs.length + es.length))))
  have H2 := Lib.hid (fun (W : World) (hW : Below V.heap.size V W) => (by
    have b1 := k.num.below (HD.out.trans (hW.mono HD.out.size))
    have b2 := h.den.below (HD.out.trans (hW.mono HD.out.size))
    have := lmul_any n' false A' B ys ds c' d W b1.sl b2.sl b1.dig b2.dig l6
    rw [k.vn, h.svd] at this
    exact this : Calls Try.prog 34 #[big n' A' ys.length c', big false B ds.length d] W (Gives W (p.num * q.den) (ys.length + ds.length))))
  clear hz hne hB h k l1 l2 l3 l4 l5 l6 hC c0 c1 c2 c3 e0 e1 e2 e3
  go_enter Try.func22, Try.ntmps22
  go_wp2_with fail
  rw [← hV]
  clear hV
  go_region_held3 (fun W => Bex (w.heap.size + 1 + 1) V W ∧ W.cell? ⟨w.heap.size, 0, none⟩ = some (.bool n) ∧ W.cell? ⟨w.heap.size, 1, none⟩ = some (.slice A xs.length c) ∧ W.cell? ⟨w.heap.size, 2, none⟩ = some (.bool false) ∧ W.cell? ⟨w.heap.size, 3, none⟩ = some (.slice B ds.length d) ∧ W.cell? ⟨w.heap.size + 1, 0, none⟩ = some (.bool n') ∧ W.cell? ⟨w.heap.size + 1, 1, none⟩ = some (.slice A' ys.length c') ∧ W.cell? ⟨w.heap.size + 1, 2, none⟩ = some (.bool false) ∧ W.cell? ⟨w.heap.size + 1, 3, none⟩ = some (.slice B' es.length d'))
    (first | exact HS.out _ (Bex.of (Below.refl _ _)) | exact HS.out _ (Bex.of ((Below.refl _ _).drew)) | exact HS.out _ (Bex.of (by assumption)) | exact HS.out _ (Bex.of (Below.drew (by assumption))) | exact HS.out _ (Bex.putq (Bex.of (by assumption)) _ _ _ _))
    (first
      | (go_at_call 38; (with_reducible refine (HC.out _ _ _ _ _ _ _ _ _ hM1 hM2 hv1 hv2).mono ?_); rintro e w4 ⟨rfl, hb⟩
         have hk := keep_n (Nat.le_refl _) hk2 hb)
      | (go_at_call 34; (with_reducible refine (H2.out _ ?hx).mono ?_); (case hx => assumption); rintro e w3 ⟨m2, V2, z2, k2, rfl, hM2, hv2, hb⟩
         have hM1 := hM.below hb
         have hk2 := keep_n (Nat.le_refl _) hk hb)
      | (go_at_call 34; (with_reducible refine (H1.out _ ?hx).mono ?_); (case hx => first | assumption | exact (Below.refl _ _).drew | exact Below.refl _ _); rintro e w2 ⟨m1, V1, z1, k1, rfl, hM, hv1, hb⟩
         have hk := keep_n (Nat.le_refl _) (by first | assumption | exact (Below.refl _ _).drew | exact Below.refl _ _) hb))
  go_wp2
  go_ret
  exact ⟨rfl, HD.out.trans (hk.mono HD.out.size)⟩
end Go.Proofs.Ytmcnhgakaodafaa
/-! ### Fq5 -/
namespace Go.Proofs.Ytmcnhgakaodafaa
open Go.RowKit Nb
set_option maxHeartbeats 8000000 in
set_option maxRecDepth 20000 in
theorem ffrom_any (q : Rat) (n : Bool) (A B : Option Addr) (xs ds : List Nat) (c d : Nat) (w : World) (h : Lf w q n A xs c B ds d) :
    Calls Try.prog 21 #[frq n A xs.length c false B ds.length d] w (GivesQ w q 1024) := by
  obtain ⟨V, hV, BW, hz, RR, c0, c1, c2, c3⟩ := box_one w n A xs.length c false B ds.length d 37 53
  have KX := Box.of4 (by omega) c0 c1 c2 c3
  have Xn := h.num.on BW
  have Xd := h.den.on BW
  clear h c0 c1 c2 c3 hz
  have KX_0 := KX.c 0 _ rfl
  have KX_1 := KX.c 1 _ rfl
  have KX_2 := KX.c 2 _ rfl
  have KX_3 := KX.c 3 _ rfl
  go_enter Try.func21, Try.ntmps21
  go_wp2_with fail
  clear KX_0 KX_1 KX_2 KX_3
  rw [← hV]
  clear hV
  refine wp_region_noPanic ?_
  have hb : Below V.heap.size V V.drew := (Below.refl _ _).drew
  replace KX := KX.on hb
  replace Xn := Xn.on hb
  replace Xd := Xd.on hb
  replace RR := RR.on hb
  replace BW := BW.trans (hb.mono BW.size)
  clear hb
  refine wp_region_held_drew (S := (fun wx => wx.cell? ⟨w.heap.size, 0, none⟩ = some (.bool n) ∧ wx.cell? ⟨w.heap.size, 1, none⟩ = some (.slice A xs.length c) ∧ wx.cell? ⟨w.heap.size, 2, none⟩ = some (.bool false) ∧ wx.cell? ⟨w.heap.size, 3, none⟩ = some (.slice B ds.length d))) (by kernel_rfl) (by exact KX.b4) (fun hHeld => ?_)
  generalize V.drew = Vd at *
  refine pT 0 ?_
  (try simp only [p0, p1, p2, p3])
  refine pT 1 ?_
  (try simp only [p0, p1, p2, p3])
  refine pT 3 ?_
  (try simp only [p0, p1, p2, p3])
  refine pT 4 ?_
  (try simp only [p0, p1, p2, p3])
  refine pR1 2 (fun K hK => ?_)
  go_simp
  (go_at_call 37; with_reducible refine (from_n Xn).mono ?_)
  rintro _ wc0 ⟨un, uA, uz, uk, rfl, Nu, hb⟩
  (try go_wp2_with fail)
  replace KX := KX.on hb
  replace Xn := Xn.on hb
  replace Xd := Xd.on hb
  replace RR := RR.on hb
  replace BW := BW.trans (hb.mono BW.size)
  clear hb
  refine hK.out _ _ (by exact KX.b4) (fun hHeld => ?_)
  clear hK
  (try simp only [p0, p1, p2, p3])
  refine pR1 5 (fun K hK => ?_)
  go_simp
  (go_at_call 37; with_reducible refine (from_n Xd).mono ?_)
  rintro _ wc1 ⟨vn, vA, vz, vk, rfl, Nv, hb⟩
  (try go_wp2_with fail)
  replace KX := KX.on hb
  replace Xn := Xn.on hb
  replace Xd := Xd.on hb
  replace Nu := Nu.on hb
  replace RR := RR.on hb
  replace BW := BW.trans (hb.mono BW.size)
  clear hb
  refine hK.out _ _ (by exact KX.b4) (fun hHeld => ?_)
  clear hK
  (try simp only [p0, p1, p2, p3])
  refine pT 6 ?_
  (try simp only [p0, p1, p2, p3])
  obtain ⟨rfl, HQ⟩ := Lq.mk' Nu Nv
  clear HQ
  have y0 := RR.r0
  have y1 := RR.r1
  have y2 := RR.r2
  have y3 := RR.r3
  have y4 := RR.f0
  have y5 := RR.f1
  have y6 := RR.f2
  have y7 := RR.f3
  refine pR1 7 (fun K hK => ?_)
  go_simp
  replace KX := KX.far4 (g := w.heap.size + 1) (by first | omega | exact nXRR.symm) (.bool un) (.slice uA uz.length uk) (.bool false) (.slice vA vz.length vk)
  replace Xn := Xn.put4 RR (.bool un) (.slice uA uz.length uk) (.bool false) (.slice vA vz.length vk)
  replace Xd := Xd.put4 RR (.bool un) (.slice uA uz.length uk) (.bool false) (.slice vA vz.length vk)
  replace Nu := Nu.put4 RR (.bool un) (.slice uA uz.length uk) (.bool false) (.slice vA vz.length vk)
  replace Nv := Nv.put4 RR (.bool un) (.slice uA uz.length uk) (.bool false) (.slice vA vz.length vk)
  replace BW := Below.putq BW (r := w.heap.size + 1) (by omega) (.bool un) (.slice uA uz.length uk) (.bool false) (.slice vA vz.length vk)
  have KR := Box.laidQ RR (.bool un) (.slice uA uz.length uk) (.bool false) (.slice vA vz.length vk)
  clear RR y0 y1 y2 y3 y4 y5 y6 y7
  generalize ((((wc1.setCell ⟨w.heap.size + 1, 0, none⟩ (.bool un)).setCell ⟨w.heap.size + 1, 1, none⟩ (.slice uA uz.length uk)).setCell ⟨w.heap.size + 1, 2, none⟩ (.bool false)).setCell ⟨w.heap.size + 1, 3, none⟩ (.slice vA vz.length vk)) = wsR at *
  refine hK.out _ _ (by exact KX.b4) (fun hHeld => ?_)
  clear hK
  (try simp only [p0, p1, p2, p3])
  have y0 := KR.c 0 _ rfl
  have y1 := KR.c 1 _ rfl
  have y2 := KR.c 2 _ rfl
  have y3 := KR.c 3 _ rfl
  refine wpAnyH_done (by kernel_rfl) (NoPanic.normal ?_) _
  go_wp2
  exact bodyPost_ret (v := frq un uA uz.length uk false vA vz.length vk) (by simp [results, Try.results21, go_sem, y0, y1, y2, y3]) rfl ⟨_, _, _, _, _, _, _, rfl, (Lq.mk' Nu Nv).2, BW⟩
set_option maxHeartbeats 8000000 in
set_option maxRecDepth 20000 in
theorem ffrac_any (q : Rat) (n : Bool) (A B : Option Addr) (xs ds : List Nat) (c d C : Nat) (w : World) (h : Lq w q n A xs c B ds d C) (hF : FitsQ q) (hC : C ≤ 1759218604390) :
    Calls Try.prog 44 #[frq n A xs.length c false B ds.length d] w (GivesF w q) := by
  obtain ⟨V, hV, BW, hz, RR, c0, c1, c2, c3⟩ := box_one w n A xs.length c false B ds.length d 53 37
  have KX := Box.of4 (by omega) c0 c1 c2 c3
  have Xn := h.x.on BW
  have Xd := h.y.on BW
  have HF := Lib.hid (show Fits q.num ∧ Fits (q.den : Int) from hF)
  have HC := Lib.hid hC
  clear h c0 c1 c2 c3 hz hF hC
  have KX_0 := KX.c 0 _ rfl
  have KX_1 := KX.c 1 _ rfl
  have KX_2 := KX.c 2 _ rfl
  have KX_3 := KX.c 3 _ rfl
  go_enter Try.func44, Try.ntmps44
  go_wp2_with fail
  clear KX_0 KX_1 KX_2 KX_3
  rw [← hV]
  clear hV
  refine wp_region_noPanic ?_
  have hb : Below V.heap.size V V.drew := (Below.refl _ _).drew
  replace KX := KX.on hb
  replace Xn := Xn.on hb
  replace Xd := Xd.on hb
  replace RR := RR.on hb
  replace BW := BW.trans (hb.mono BW.size)
  clear hb
  refine wp_region_held_drew (S := (fun wx => wx.cell? ⟨w.heap.size, 0, none⟩ = some (.bool n) ∧ wx.cell? ⟨w.heap.size, 1, none⟩ = some (.slice A xs.length c) ∧ wx.cell? ⟨w.heap.size, 2, none⟩ = some (.bool false) ∧ wx.cell? ⟨w.heap.size, 3, none⟩ = some (.slice B ds.length d))) (by kernel_rfl) (by exact KX.b4) (fun hHeld => ?_)
  generalize V.drew = Vd at *
  refine pT 0 ?_
  (try simp only [p0, p1, p2, p3])
  refine pT 1 ?_
  (try simp only [p0, p1, p2, p3])
  refine pT 3 ?_
  (try simp only [p0, p1, p2, p3])
  refine pT 4 ?_
  (try simp only [p0, p1, p2, p3])
  refine pR1 2 (fun K hK => ?_)
  go_simp
  (go_at_call 61; with_reducible refine (int_n Xn HF.out.1 (by have := HC.out; omega)).mono ?_)
  rintro _ wc0 ⟨un, uA, uz, uk, rfl, Nu, hb⟩
  (try go_wp2_with fail)
  replace KX := KX.on hb
  replace Xn := Xn.on hb
  replace Xd := Xd.on hb
  replace RR := RR.on hb
  replace BW := BW.trans (hb.mono BW.size)
  clear hb
  refine hK.out _ _ (by exact KX.b4) (fun hHeld => ?_)
  clear hK
  (try simp only [p0, p1, p2, p3])
  refine pR1 5 (fun K hK => ?_)
  go_simp
  (go_at_call 61; with_reducible refine (int_n Xd HF.out.2 (by have := HC.out; omega)).mono ?_)
  rintro _ wc1 ⟨vn, vA, vz, vk, rfl, Nv, hb⟩
  (try go_wp2_with fail)
  replace KX := KX.on hb
  replace Xn := Xn.on hb
  replace Xd := Xd.on hb
  replace Nu := Nu.on hb
  replace RR := RR.on hb
  replace BW := BW.trans (hb.mono BW.size)
  clear hb
  refine hK.out _ _ (by exact KX.b4) (fun hHeld => ?_)
  clear hK
  (try simp only [p0, p1, p2, p3])
  refine pT 6 ?_
  (try simp only [p0, p1, p2, p3])
  obtain ⟨rfl, HQ⟩ := Lf.mk' Nu Nv
  clear HQ
  have y0 := RR.r0
  have y1 := RR.r1
  have y2 := RR.r2
  have y3 := RR.r3
  have y4 := RR.f0
  have y5 := RR.f1
  have y6 := RR.f2
  have y7 := RR.f3
  refine pR1 7 (fun K hK => ?_)
  go_simp
  replace KX := KX.far4 (g := w.heap.size + 1) (by first | omega | exact nXRR.symm) (.bool un) (.slice uA uz.length uk) (.bool false) (.slice vA vz.length vk)
  replace Xn := Xn.put4 RR (.bool un) (.slice uA uz.length uk) (.bool false) (.slice vA vz.length vk)
  replace Xd := Xd.put4 RR (.bool un) (.slice uA uz.length uk) (.bool false) (.slice vA vz.length vk)
  replace Nu := Nu.put4 RR (.bool un) (.slice uA uz.length uk) (.bool false) (.slice vA vz.length vk)
  replace Nv := Nv.put4 RR (.bool un) (.slice uA uz.length uk) (.bool false) (.slice vA vz.length vk)
  replace BW := Below.putq BW (r := w.heap.size + 1) (by omega) (.bool un) (.slice uA uz.length uk) (.bool false) (.slice vA vz.length vk)
  have KR := Box.laidQ RR (.bool un) (.slice uA uz.length uk) (.bool false) (.slice vA vz.length vk)
  clear RR y0 y1 y2 y3 y4 y5 y6 y7
  generalize ((((wc1.setCell ⟨w.heap.size + 1, 0, none⟩ (.bool un)).setCell ⟨w.heap.size + 1, 1, none⟩ (.slice uA uz.length uk)).setCell ⟨w.heap.size + 1, 2, none⟩ (.bool false)).setCell ⟨w.heap.size + 1, 3, none⟩ (.slice vA vz.length vk)) = wsR at *
  refine hK.out _ _ (by exact KX.b4) (fun hHeld => ?_)
  clear hK
  (try simp only [p0, p1, p2, p3])
  have y0 := KR.c 0 _ rfl
  have y1 := KR.c 1 _ rfl
  have y2 := KR.c 2 _ rfl
  have y3 := KR.c 3 _ rfl
  refine wpAnyH_done (by kernel_rfl) (NoPanic.normal ?_) _
  go_wp2
  exact bodyPost_ret (v := frq un uA uz.length uk false vA vz.length vk) (by simp [results, Try.results44, go_sem, y0, y1, y2, y3]) rfl ⟨_, _, _, _, _, _, _, rfl, (Lf.mk' Nu Nv).2, BW⟩
end Go.Proofs.Ytmcnhgakaodafaa
/-! ### Fq6 -/
namespace Go.Proofs.Ytmcnhgakaodafaa
open Go.RowKit Nb
set_option maxHeartbeats 8000000 in
set_option maxRecDepth 20000 in
theorem flimbs_any (q : Rat) (n : Bool) (A B : Option Addr) (xs ds : List Nat) (c d C : Nat) (w : World) (h : Lq w q n A xs c B ds d C) (hC : C ≤ 1759218604390) :
    Calls Try.prog 43 #[frq n A xs.length c false B ds.length d] w (fun e w' => (∃ k : Nat, e = .returned (.int .i64 k) ∧ (k ≤ 2048 ↔ FitsQ q) ∧ k ≤ 2 * C + 1) ∧ Below w.heap.size w w') := by
  obtain ⟨V, hV⟩ : ∃ V, V = (w.alloc (.cells #[.bool n, .slice A xs.length c, .bool false, .slice B ds.length d] 53)) := ⟨_, rfl⟩
  have BW : Below w.heap.size w V := by rw [hV]; go_grown
  have KX : Box V w.heap.size [.bool n, .slice A xs.length c, .bool false, .slice B ds.length d] := by rw [hV]; exact Box.new w _ _
  have Xn := h.x.on BW
  have Xd := h.y.on BW
  have HC := Lib.hid hC
  clear h hC
  have KX_0 := KX.c 0 _ rfl
  have KX_1 := KX.c 1 _ rfl
  have KX_2 := KX.c 2 _ rfl
  have KX_3 := KX.c 3 _ rfl
  go_enter Try.func43, Try.ntmps43
  go_wp2_with fail
  clear KX_0 KX_1 KX_2 KX_3
  rw [← hV]
  clear hV
  refine wp_region_noPanic ?_
  have hb : Below V.heap.size V V.drew := (Below.refl _ _).drew
  replace KX := KX.on hb
  replace Xn := Xn.on hb
  replace Xd := Xd.on hb
  replace BW := BW.trans (hb.mono BW.size)
  clear hb
  refine wp_region_held_drew (S := (fun wx => wx.cell? ⟨w.heap.size, 0, none⟩ = some (.bool n) ∧ wx.cell? ⟨w.heap.size, 1, none⟩ = some (.slice A xs.length c) ∧ wx.cell? ⟨w.heap.size, 2, none⟩ = some (.bool false) ∧ wx.cell? ⟨w.heap.size, 3, none⟩ = some (.slice B ds.length d))) (by kernel_rfl) (by exact KX.b4) (fun hHeld => ?_)
  generalize V.drew = Vd at *
  refine pT 0 ?_
  (try simp only [p0, p1, p2, p3])
  refine pT 1 ?_
  (try simp only [p0, p1, p2, p3])
  refine pT 3 ?_
  (try simp only [p0, p1, p2, p3])
  refine pT 4 ?_
  (try simp only [p0, p1, p2, p3])
  refine pR1 2 (fun K hK => ?_)
  go_simp
  (go_at_call 60; with_reducible refine (limbs_n Xn (by have := HC.out; omega)).mono ?_)
  rintro _ wc0 ⟨⟨k1, rfl, hk1, hl1⟩, hb⟩
  (try go_wp2_with fail)
  replace KX := KX.on hb
  replace Xd := Xd.on hb
  replace BW := BW.trans (hb.mono BW.size)
  clear hb
  refine hK.out _ _ (by exact KX.b4) (fun hHeld => ?_)
  clear hK
  (try simp only [p0, p1, p2, p3])
  refine pR1 5 (fun K hK => ?_)
  go_simp
  (go_at_call 60; with_reducible refine (limbs_n Xd (by have := HC.out; omega)).mono ?_)
  rintro _ wc1 ⟨⟨k2, rfl, hk2, hl2⟩, hb⟩
  (try go_wp2_with fail)
  replace KX := KX.on hb
  replace BW := BW.trans (hb.mono BW.size)
  clear hb
  refine hK.out _ _ (by exact KX.b4) (fun hHeld => ?_)
  clear hK
  (try simp only [p0, p1, p2, p3])
  have hm : max (k1 : Int) (k2 : Int) = ((max k1 k2 : Nat) : Int) := by omega
  refine pR1 6 (fun K hK => ?_)
  go_simp
  refine hK.out _ _ (by exact KX.b4) (fun hHeld => ?_)
  clear hK
  (try simp only [p0, p1, p2, p3])
  refine pT 7 ?_
  (try simp only [p0, p1, p2, p3])
  refine wpAnyH_done (by kernel_rfl) (NoPanic.normal ?_) _
  go_wp2
  go_ret
  exact ⟨⟨max k1 k2, rfl, by unfold FitsQ; rw [← hk1, ← hk2]; omega, by omega⟩, BW⟩
set_option maxHeartbeats 8000000 in
set_option maxRecDepth 20000 in
theorem ffit_any (q : Rat) (n : Bool) (A B : Option Addr) (xs ds : List Nat) (c d C : Nat) (w : World) (h : Lq w q n A xs c B ds d C) (hC : C ≤ 1759218604390) :
    Calls Try.prog 27 #[frq n A xs.length c false B ds.length d] w (ToldQ w q) := by
  obtain ⟨V, hV, BW, hz, RR, c0, c1, c2, c3⟩ := box_one w n A xs.length c false B ds.length d 53 37
  have KX := Box.of4 (by omega) c0 c1 c2 c3
  have LX := h.on BW
  have HC := Lib.hid hC
  clear h hC c0 c1 c2 c3 hz
  have KX_0 := KX.c 0 _ rfl
  have KX_1 := KX.c 1 _ rfl
  have KX_2 := KX.c 2 _ rfl
  have KX_3 := KX.c 3 _ rfl
  go_enter Try.func27, Try.ntmps27
  go_wp2_with fail
  clear KX_0 KX_1 KX_2 KX_3
  rw [← hV]
  clear hV
  refine (flimbs_any q _ _ _ _ _ _ _ C _ LX HC.out).mono ?_
  rintro _ w1 ⟨⟨k, rfl, hk, hkl⟩, hb⟩
  replace KX := KX.on hb
  replace LX := LX.on hb
  replace RR := RR.on hb
  replace BW := BW.trans (hb.mono BW.size)
  clear hb
  have hk3 : (k : Int) ≤ 9223372036854775807 := by have := HC.out; omega
  clear hkl
  by_cases hF : FitsQ q
  · have hk2 : ¬ (2048 : Int) < (k : Int) := by have := hk.2 hF; omega
    clear hk
    have KX_0 := KX.c 0 _ rfl
    have KX_1 := KX.c 1 _ rfl
    have KX_2 := KX.c 2 _ rfl
    have KX_3 := KX.c 3 _ rfl
    go_wp2_with fail
    clear KX_0 KX_1 KX_2 KX_3
    refine (ffrac_any q _ _ _ _ _ _ _ C _ LX hF HC.out).mono ?_
    rintro _ w2 ⟨un, uA, uz, uk, uB, ud, ul, rfl, Lu, hb⟩
    replace KX := KX.on hb
    replace LX := LX.on hb
    replace RR := RR.on hb
    replace BW := BW.trans (hb.mono BW.size)
    clear hb
    have y0 := RR.r0
    have y1 := RR.r1
    have y2 := RR.r2
    have y3 := RR.r3
    have y4 := RR.f0
    have y5 := RR.f1
    have y6 := RR.f2
    have y7 := RR.f3
    have HL := Lib.hid (And.intro (Lu.put4 RR (.bool un) (.slice uA uz.length uk) (.bool false) (.slice uB ud.length ul)) (Below.putq BW (r := w.heap.size + 1) (by omega) (.bool un) (.slice uA uz.length uk) (.bool false) (.slice uB ud.length ul)))
    have HF := Lib.hid hF
    clear LX Lu BW KX hF RR
    go_wp2
    exact bodyPost_ret (v := .tuple #[frq un uA uz.length uk false uB ud.length ul, .int .i64 0]) (by simp [results, Try.results27, go_sem, y0, y1, y2, y3]) rfl ⟨_, _, _, _, _, _, _, _, _, rfl, .inl ⟨HF.out, rfl, rfl, HL.out.1⟩, HL.out.2⟩
  · have hk2 : (2048 : Int) < (k : Int) := by have : ¬ k ≤ 2048 := fun h => hF (hk.1 h); omega
    clear hk
    have KX_0 := KX.c 0 _ rfl
    have KX_1 := KX.c 1 _ rfl
    have KX_2 := KX.c 2 _ rfl
    have KX_3 := KX.c 3 _ rfl
    have y0 := RR.r0
    have y1 := RR.r1
    have y2 := RR.r2
    have y3 := RR.r3
    have y4 := RR.f0
    have y5 := RR.f1
    have y6 := RR.f2
    have y7 := RR.f3
    have HL := Lib.hid (Below.putq BW (r := w.heap.size + 1) (by omega) (.bool false) (.slice none 0 0) (.bool false) (.slice none 0 0))
    have HF := Lib.hid hF
    clear LX BW KX hF RR
    go_wp2
    exact bodyPost_ret (v := .tuple #[frq false none ([] : List Nat).length 0 false none ([] : List Nat).length 0, .int .i64 4]) (by simp [results, Try.results27, go_sem, y0, y1, y2, y3]) rfl ⟨_, _, _, _, _, _, _, _, _, rfl, .inr ⟨HF.out, rfl, rfl, rfl, rfl, rfl, rfl, rfl, rfl, rfl⟩, HL.out⟩
end Go.Proofs.Ytmcnhgakaodafaa
