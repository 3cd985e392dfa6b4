/-
  What the opposite, the sign, the order, the lengths of fractions in words, FromFrac, Frac, Sub, Fit return. Conditions: that they are fractions, and no longer than memory.
-/
import Derived.Test.YtjilhplonaomoaaGreatDoorFqe
import Derived.Deep.RegionHeld3
import Derived.Test.YtjilhplonaomoaaGreatDoorFq3
import Derived.Deep.DeepCutAuto
import Derived.BigRegion
/-! ### Fq2 -/
namespace Go.Proofs.YtjilhplonaomoaaGreatDoor
open Go.RowKit Nb

set_option maxHeartbeats 4000000 in
theorem fneg_any (q : Rat) (n : Bool) (A B : Option Addr) (xs ds : List Nat) (c d C : Nat) (w : World) (h : Lq w q n A xs c B ds d C) (hC : C ≤ 17592186043904) :
    Calls Tryz.prog 88 #[frq n A xs.length c false B ds.length d] w (GivesQ w (-q) C) := by
  obtain ⟨V, hV, hB, hz, hr, c0, c1, c2, c3⟩ := box_one w n A xs.length c false B ds.length d 66 66
  have l1 : xs.length ≤ C := by have := h.num.len; have := h.num.cap; omega
  have l2 : ds.length ≤ C := by have := h.den.len; have := h.den.cap; omega
  have l5 : xs.length * 8 ≤ 140737488351232 := by omega
  have HS := Lib.hid (fun (W : World) (hb : Bex (w.heap.size + 1) V W) => (⟨hb, hb.at (by omega) (by omega) c0, hb.at (by omega) (by omega) c1, hb.at (by omega) (by omega) c2, hb.at (by omega) (by omega) c3⟩ :
    Bex (w.heap.size + 1) V W ∧ W.cell? ⟨w.heap.size, 0, none⟩ = some (.bool n) ∧ W.cell? ⟨w.heap.size, 1, none⟩ = some (.slice A xs.length c) ∧ W.cell? ⟨w.heap.size, 2, none⟩ = some (.bool false) ∧ W.cell? ⟨w.heap.size, 3, none⟩ = some (.slice B ds.length d)))
  have HD := Lib.hid hB
  have HZ := Lib.hid hz
  clear hB hz c0 c1 c2 c3
  go_enter Tryz.func88, Tryz.ntmps88
  go_wp2_with fail
  rw [← hV]
  clear hV
  go_region_held3 (fun W => Bex (w.heap.size + 1) V W ∧ W.cell? ⟨w.heap.size, 0, none⟩ = some (.bool n) ∧ W.cell? ⟨w.heap.size, 1, none⟩ = some (.slice A xs.length c) ∧ W.cell? ⟨w.heap.size, 2, none⟩ = some (.bool false) ∧ W.cell? ⟨w.heap.size, 3, none⟩ = some (.slice B ds.length d))
    (first | exact HS.out _ (Bex.of (Below.refl _ _)) | exact HS.out _ (Bex.of ((Below.refl _ _).drew)) | exact HS.out _ (Bex.of (by assumption)) | exact HS.out _ (Bex.of (Below.drew (by assumption))) | exact HS.out _ (Bex.putq (Bex.of (by assumption)) _ _ _ _))
    (first
      | (go_at_call 89; refine (lneg_any n A xs c C _ (h.num.below (HD.out.trans (Below.mono (by first | assumption | exact (Below.refl _ _).drew | exact Below.refl _ _) HD.out.size))) l5).mono ?_; rintro e w2 ⟨rfl, hM, hb⟩
         have hk := keep_n (Nat.le_refl _) (by first | assumption | exact (Below.refl _ _).drew | exact Below.refl _ _) hb
         have hre := RestQ.on (by first | exact hr | exact RestQ.drew hr) hb
         have g0 := hre.r0
         have g1 := hre.r1
         have g2 := hre.r2
         have g3 := hre.r3
         have g4 := hre.f0
         have g5 := hre.f1
         have g6 := hre.f2
         have g7 := hre.f3))
  have hbw := HD.out.trans (hk.mono HD.out.size)
  have hL : Lq w2 (-q) (!n && decide (0 < xs.length)) A xs c B ds d C := ⟨hM, h.den.below hbw, by rw [sv_neg, h.vn]; rfl, h.vd⟩
  have HL := Lib.hid (And.intro (hL.putq hre (.bool (!n && decide (0 < xs.length))) (.slice A xs.length c) (.bool false) (.slice B ds.length d)) (Below.putq hbw (r := w.heap.size + 1) (by omega) (.bool (!n && decide (0 < xs.length))) (.slice A xs.length c) (.bool false) (.slice B ds.length d)))
  clear hL hbw hre hM
  go_wp2
  exact bodyPost_ret (v := frq (!n && decide (0 < xs.length)) A xs.length c false B ds.length d) (by simp [results, Tryz.results88, go_sem, g0, g1, g2, g3]) rfl ⟨_, A, xs, c, B, ds, d, rfl, HL.out.1, HL.out.2⟩

set_option maxHeartbeats 1000000 in
theorem fsign_any (q : Rat) (n : Bool) (A B : Option Addr) (xs ds : List Nat) (c d C : Nat) (w : World) (h : Lq w q n A xs c B ds d C) (hC : C ≤ 17592186043904) :
    Calls Tryz.prog 48 #[frq n A xs.length c false B ds.length d] w fun e w' => e = .returned (.int .i64 (sgn n xs)) ∧ Below w.heap.size w w' := by
  have l1 : xs.length ≤ C := by have := h.num.len; have := h.num.cap; omega
  have l2 : ds.length ≤ C := by have := h.den.len; have := h.den.cap; omega
  have l5 : xs.length * 8 ≤ 140737488351232 := by omega
  have hb0 : Below w.heap.size w (w.alloc (.cells #[.bool n, .slice A xs.length c, .bool false, .slice B ds.length d] 66)) := by go_grown
  have c0 : (w.alloc (.cells #[.bool n, .slice A xs.length c, .bool false, .slice B ds.length d] 66)).cell? ⟨w.heap.size, 0, none⟩ = some (.bool n) := by go_cell
  have c1 : (w.alloc (.cells #[.bool n, .slice A xs.length c, .bool false, .slice B ds.length d] 66)).cell? ⟨w.heap.size, 1, none⟩ = some (.slice A xs.length c) := by go_cell
  go_enter Tryz.func48, Tryz.ntmps48
  go_wp2_with fail
  refine (sign_any n A xs c _ l5).mono ?_
  rintro e w1 ⟨rfl, hb⟩
  go_wp2
  go_ret
  exact ⟨rfl, hb0.trans (hb.mono hb0.size)⟩

set_option maxHeartbeats 4000000 in
set_option maxRecDepth 20000 in
theorem fcmp_any (q p : Rat) (n n' : Bool) (A B A' B' : Option Addr) (xs ds ys es : List Nat) (c d c' d' C : Nat) (w : World) (h : Lq w q n A xs c B ds d C) (k : Lq w p n' A' ys c' B' es d' C) (hC : C ≤ 1759218604390) :
    Calls Tryz.prog 52 #[frq n A xs.length c false B ds.length d, frq n' A' ys.length c' false B' es.length d'] w fun e w' => e = .returned (.int .i64 (cmpI (q.num * p.den) (p.num * q.den))) ∧ Below w.heap.size w w' := by
  have l1 : xs.length ≤ C := by have := h.num.len; have := h.num.cap; omega
  have l2 : ds.length ≤ C := by have := h.den.len; have := h.den.cap; omega
  have l3 : ys.length ≤ C := by have := k.num.len; have := k.num.cap; omega
  have l4 : es.length ≤ C := by have := k.den.len; have := k.den.cap; omega
  obtain ⟨V, hV⟩ : ∃ V, V = ((w.alloc (.cells #[.bool n, .slice A xs.length c, .bool false, .slice B ds.length d] 66)).alloc (.cells #[.bool n', .slice A' ys.length c', .bool false, .slice B' es.length d'] 66)) := ⟨_, rfl⟩
  have hB : Below w.heap.size w V := by rw [hV]; go_grown
  have hz : V.heap.size = w.heap.size + 1 + 1 := by rw [hV]; go_size
  have c0 : V.cell? ⟨w.heap.size, 0, none⟩ = some (.bool n) := by rw [hV]; go_cell
  have c1 : V.cell? ⟨w.heap.size, 1, none⟩ = some (.slice A xs.length c) := by rw [hV]; go_cell
  have c2 : V.cell? ⟨w.heap.size, 2, none⟩ = some (.bool false) := by rw [hV]; go_cell
  have c3 : V.cell? ⟨w.heap.size, 3, none⟩ = some (.slice B ds.length d) := by rw [hV]; go_cell
  have e0 : V.cell? ⟨w.heap.size + 1, 0, none⟩ = some (.bool n') := by rw [hV]; go_cell
  have e1 : V.cell? ⟨w.heap.size + 1, 1, none⟩ = some (.slice A' ys.length c') := by rw [hV]; go_cell
  have e2 : V.cell? ⟨w.heap.size + 1, 2, none⟩ = some (.bool false) := by rw [hV]; go_cell
  have e3 : V.cell? ⟨w.heap.size + 1, 3, none⟩ = some (.slice B' es.length d') := by rw [hV]; go_cell
  have hne : w.heap.size ≠ w.heap.size + 1 + 1 ∧ w.heap.size + 1 ≠ w.heap.size + 1 + 1 := by omega
  have HS := Lib.hid (fun (W : World) (hb : Bex (w.heap.size + 1 + 1) V W) => (⟨hb, hb.at (by omega) (by omega) c0, hb.at (by omega) (by omega) c1, hb.at (by omega) (by omega) c2, hb.at (by omega) (by omega) c3, hb.at (by omega) (by omega) e0, hb.at (by omega) (by omega) e1, hb.at (by omega) (by omega) e2, hb.at (by omega) (by omega) e3⟩ :
    Bex (w.heap.size + 1 + 1) V W ∧ W.cell? ⟨w.heap.size, 0, none⟩ = some (.bool n) ∧ W.cell? ⟨w.heap.size, 1, none⟩ = some (.slice A xs.length c) ∧ W.cell? ⟨w.heap.size, 2, none⟩ = some (.bool false) ∧ W.cell? ⟨w.heap.size, 3, none⟩ = some (.slice B ds.length d) ∧ W.cell? ⟨w.heap.size + 1, 0, none⟩ = some (.bool n') ∧ W.cell? ⟨w.heap.size + 1, 1, none⟩ = some (.slice A' ys.length c') ∧ W.cell? ⟨w.heap.size + 1, 2, none⟩ = some (.bool false) ∧ W.cell? ⟨w.heap.size + 1, 3, none⟩ = some (.slice B' es.length d')))
  have HD := Lib.hid hB
  have HC := Lib.hid (fun (W : World) (m1 m2 : Bool) (V1 V2 : Option Addr) (z1 z2 : List Nat) (k1 k2 : Nat) (b1 : Bg W m1 V1 z1 k1 (xs.length + es.length)) (b2 : Bg W m2 V2 z2 k2 (ys.length + ds.length)) (v1 : sv m1 (val W64 z1) = q.num * p.den) (v2 : sv m2 (val W64 z2) = p.num * q.den) => (by
    have := lcmp_any m1 m2 V1 V2 z1 z2 k1 k2 W b1.sl b2.sl b1.dig b2.dig b1.norm b2.norm (by have := b1.len; have := b1.cap; omega) (by have := b2.len; have := b2.cap; omega) (bg_pos b1) (bg_pos b2)
    rw [v1, v2] at this
    exact this : Calls Tryz.prog 82 #[big m1 V1 z1.length k1, big m2 V2 z2.length k2] W fun e w' => e = .returned (.int .i64 (cmpI (q.num * p.den) (p.num * q.den))) ∧ Below W.heap.size W w'))
  have l5 : (xs.length + es.length) * 8 ≤ 140737488351232 := by omega
  have l6 : (ys.length + ds.length) * 8 ≤ 140737488351232 := by omega
  have H1 := Lib.hid (fun (W : World) (hW : Below V.heap.size V W) => (by
    have b1 := h.num.below (HD.out.trans (hW.mono HD.out.size))
    have b2 := k.den.below (HD.out.trans (hW.mono HD.out.size))
    have := lmul_any n false A B' xs es c d' W b1.sl b2.sl b1.dig b2.dig l5
    rw [h.vn, k.svd] at this
    exact this : Calls Tryz.prog 86 #[big n A xs.length c, big false B' es.length d'] W (Gives W (q.num * p.den) (xs.length + es.length))))
  have H2 := Lib.hid (fun (W : World) (hW : Below V.heap.size V W) => (by
    have b1 := k.num.below (HD.out.trans (hW.mono HD.out.size))
    have b2 := h.den.below (HD.out.trans (hW.mono HD.out.size))
    have := lmul_any n' false A' B ys ds c' d W b1.sl b2.sl b1.dig b2.dig l6
    rw [k.vn, h.svd] at this
    exact this : Calls Tryz.prog 86 #[big n' A' ys.length c', big false B ds.length d] W (Gives W (p.num * q.den) (ys.length + ds.length))))
  clear hz hne hB h k l1 l2 l3 l4 l5 l6 hC c0 c1 c2 c3 e0 e1 e2 e3
  go_enter Tryz.func52, Tryz.ntmps52
  go_wp2_with fail
  rw [← hV]
  clear hV
  go_region_held3 (fun W => Bex (w.heap.size + 1 + 1) V W ∧ W.cell? ⟨w.heap.size, 0, none⟩ = some (.bool n) ∧ W.cell? ⟨w.heap.size, 1, none⟩ = some (.slice A xs.length c) ∧ W.cell? ⟨w.heap.size, 2, none⟩ = some (.bool false) ∧ W.cell? ⟨w.heap.size, 3, none⟩ = some (.slice B ds.length d) ∧ W.cell? ⟨w.heap.size + 1, 0, none⟩ = some (.bool n') ∧ W.cell? ⟨w.heap.size + 1, 1, none⟩ = some (.slice A' ys.length c') ∧ W.cell? ⟨w.heap.size + 1, 2, none⟩ = some (.bool false) ∧ W.cell? ⟨w.heap.size + 1, 3, none⟩ = some (.slice B' es.length d'))
    (first | exact HS.out _ (Bex.of (Below.refl _ _)) | exact HS.out _ (Bex.of ((Below.refl _ _).drew)) | exact HS.out _ (Bex.of (by assumption)) | exact HS.out _ (Bex.of (Below.drew (by assumption))) | exact HS.out _ (Bex.putq (Bex.of (by assumption)) _ _ _ _))
    (first
      | (go_at_call 82; (with_reducible refine (HC.out _ _ _ _ _ _ _ _ _ hM1 hM2 hv1 hv2).mono ?_); rintro e w4 ⟨rfl, hb⟩
         have hk := keep_n (Nat.le_refl _) hk2 hb)
      | (go_at_call 86; (with_reducible refine (H2.out _ ?hx).mono ?_); (case hx => assumption); rintro e w3 ⟨m2, V2, z2, k2, rfl, hM2, hv2, hb⟩
         have hM1 := hM.below hb
         have hk2 := keep_n (Nat.le_refl _) hk hb)
      | (go_at_call 86; (with_reducible refine (H1.out _ ?hx).mono ?_); (case hx => first | assumption | exact (Below.refl _ _).drew | exact Below.refl _ _); rintro e w2 ⟨m1, V1, z1, k1, rfl, hM, hv1, hb⟩
         have hk := keep_n (Nat.le_refl _) (by first | assumption | exact (Below.refl _ _).drew | exact Below.refl _ _) hb))
  go_wp2
  go_ret
  exact ⟨rfl, HD.out.trans (hk.mono HD.out.size)⟩
end Go.Proofs.YtjilhplonaomoaaGreatDoor

/-! ### Fq5 -/
namespace Go.Proofs.YtjilhplonaomoaaGreatDoor
open Go.RowKit Nb

set_option maxHeartbeats 8000000 in
set_option maxRecDepth 20000 in
theorem ffrom_any (q : Rat) (n : Bool) (A B : Option Addr) (xs ds : List Nat) (c d : Nat) (w : World) (h : Lf w q n A xs c B ds d) :
    Calls Tryz.prog 51 #[frq n A xs.length c false B ds.length d] w (GivesQ w q 1024) := by
  obtain ⟨V, hV, BW, hz, RR, c0, c1, c2, c3⟩ := box_one w n A xs.length c false B ds.length d 26 66
  have KX := Box.of4 (by omega) c0 c1 c2 c3
  have Xn := h.num.on BW
  have Xd := h.den.on BW
  clear h c0 c1 c2 c3 hz
  have KX_0 := KX.c 0 _ rfl
  have KX_1 := KX.c 1 _ rfl
  have KX_2 := KX.c 2 _ rfl
  have KX_3 := KX.c 3 _ rfl
  go_enter Tryz.func51, Tryz.ntmps51
  go_wp2_with fail
  clear KX_0 KX_1 KX_2 KX_3
  rw [← hV]
  clear hV
  refine wp_region_noPanic ?_
  have hb : Below V.heap.size V V.drew := (Below.refl _ _).drew
  replace KX := KX.on hb
  replace Xn := Xn.on hb
  replace Xd := Xd.on hb
  replace RR := RR.on hb
  replace BW := BW.trans (hb.mono BW.size)
  clear hb
  refine wp_region_held_drew (S := (fun wx => wx.cell? ⟨w.heap.size, 0, none⟩ = some (.bool n) ∧ wx.cell? ⟨w.heap.size, 1, none⟩ = some (.slice A xs.length c) ∧ wx.cell? ⟨w.heap.size, 2, none⟩ = some (.bool false) ∧ wx.cell? ⟨w.heap.size, 3, none⟩ = some (.slice B ds.length d))) (by kernel_rfl) (by exact ⟨KX.c 0 _ rfl, KX.c 1 _ rfl, KX.c 2 _ rfl, KX.c 3 _ rfl⟩) (fun hHeld => ?_)
  generalize V.drew = Vd at *
  refine wpAnyH_take (i := 0) (v := ?_) (by (simp only [List.getElem?_toArray, List.getElem?_cons_zero]; rfl)) (by kernel_rfl) (by kernel_rfl) (by kernel_rfl) (fun _ _ _ h => h) (Or.inl ⟨by rfl, ?_⟩) (by assumption) ?_
  rotate_left
  · intro wt hSw
    (try dsimp only at hSw)
    go_simp
    (try with_reducible rfl)
  (try simp only [Act.put, List.setIfInBounds_toArray, List.set_cons_zero, List.set_cons_succ])
  refine wpAnyH_take (i := 1) (v := ?_) (by (simp only [List.getElem?_toArray, List.getElem?_cons_succ, List.getElem?_cons_zero]; rfl)) (by kernel_rfl) (by kernel_rfl) (by kernel_rfl) (fun _ _ _ h => h) (Or.inl ⟨by rfl, ?_⟩) (by assumption) ?_
  rotate_left
  · intro wt hSw
    (try dsimp only at hSw)
    go_simp
    (try with_reducible rfl)
  (try simp only [Act.put, List.setIfInBounds_toArray, List.set_cons_zero, List.set_cons_succ])
  refine wpAnyH_take (i := 3) (v := ?_) (by (simp only [List.getElem?_toArray, List.getElem?_cons_succ, List.getElem?_cons_zero]; rfl)) (by kernel_rfl) (by kernel_rfl) (by kernel_rfl) (fun _ _ _ h => h) (Or.inl ⟨by rfl, ?_⟩) (by assumption) ?_
  rotate_left
  · intro wt hSw
    (try dsimp only at hSw)
    go_simp
    (try with_reducible rfl)
  (try simp only [Act.put, List.setIfInBounds_toArray, List.set_cons_zero, List.set_cons_succ])
  refine wpAnyH_take (i := 4) (v := ?_) (by (simp only [List.getElem?_toArray, List.getElem?_cons_succ, List.getElem?_cons_zero]; rfl)) (by kernel_rfl) (by kernel_rfl) (by kernel_rfl) (fun _ _ _ h => h) (Or.inl ⟨by rfl, ?_⟩) (by assumption) ?_
  rotate_left
  · intro wt hSw
    (try dsimp only at hSw)
    go_simp
    (try with_reducible rfl)
  (try simp only [Act.put, List.setIfInBounds_toArray, List.set_cons_zero, List.set_cons_succ])
  refine wpAnyH_ready (rs := [2]) (by kernel_rfl) (by simp) (AllReadyH.cons (by (simp only [List.getElem?_toArray, List.getElem?_cons_succ, List.getElem?_cons_zero]; rfl)) (fun K hK => ?_) AllReadyH.nil)
  go_simp
  (go_at_call 77; with_reducible refine (from_n Xn).mono ?_)
  rintro _ wc0 ⟨un, uA, uz, uk, rfl, Nu, hb⟩
  (try go_wp2_with fail)
  replace KX := KX.on hb
  replace Xn := Xn.on hb
  replace Xd := Xd.on hb
  replace RR := RR.on hb
  replace BW := BW.trans (hb.mono BW.size)
  clear hb
  refine hK.out _ _ (by exact ⟨KX.c 0 _ rfl, KX.c 1 _ rfl, KX.c 2 _ rfl, KX.c 3 _ rfl⟩) (fun hHeld => ?_)
  clear hK
  (try simp only [Act.put, List.setIfInBounds_toArray, List.set_cons_zero, List.set_cons_succ])
  refine wpAnyH_ready (rs := [5]) (by kernel_rfl) (by simp) (AllReadyH.cons (by (simp only [List.getElem?_toArray, List.getElem?_cons_succ, List.getElem?_cons_zero]; rfl)) (fun K hK => ?_) AllReadyH.nil)
  go_simp
  (go_at_call 77; with_reducible refine (from_n Xd).mono ?_)
  rintro _ wc1 ⟨vn, vA, vz, vk, rfl, Nv, hb⟩
  (try go_wp2_with fail)
  replace KX := KX.on hb
  replace Xn := Xn.on hb
  replace Xd := Xd.on hb
  replace Nu := Nu.on hb
  replace RR := RR.on hb
  replace BW := BW.trans (hb.mono BW.size)
  clear hb
  refine hK.out _ _ (by exact ⟨KX.c 0 _ rfl, KX.c 1 _ rfl, KX.c 2 _ rfl, KX.c 3 _ rfl⟩) (fun hHeld => ?_)
  clear hK
  (try simp only [Act.put, List.setIfInBounds_toArray, List.set_cons_zero, List.set_cons_succ])
  refine wpAnyH_take (i := 6) (v := ?_) (by (simp only [List.getElem?_toArray, List.getElem?_cons_succ, List.getElem?_cons_zero]; rfl)) (by kernel_rfl) (by kernel_rfl) (by kernel_rfl) (fun _ _ _ h => h) (Or.inl ⟨by rfl, ?_⟩) (by assumption) ?_
  rotate_left
  · intro wt hSw
    (try dsimp only at hSw)
    go_simp
    (try with_reducible rfl)
  (try simp only [Act.put, List.setIfInBounds_toArray, List.set_cons_zero, List.set_cons_succ])
  obtain ⟨rfl, HQ⟩ := Lq.mk' Nu Nv
  clear HQ
  have y0 := RR.r0
  have y1 := RR.r1
  have y2 := RR.r2
  have y3 := RR.r3
  have y4 := RR.f0
  have y5 := RR.f1
  have y6 := RR.f2
  have y7 := RR.f3
  refine wpAnyH_ready (rs := [7]) (by kernel_rfl) (by simp) (AllReadyH.cons (by (simp only [List.getElem?_toArray, List.getElem?_cons_succ, List.getElem?_cons_zero]; rfl)) (fun K hK => ?_) AllReadyH.nil)
  go_simp
  replace KX := KX.far4 (g := w.heap.size + 1) (by first | omega | exact nXRR.symm) (.bool un) (.slice uA uz.length uk) (.bool false) (.slice vA vz.length vk)
  replace Xn := Xn.put4 RR (.bool un) (.slice uA uz.length uk) (.bool false) (.slice vA vz.length vk)
  replace Xd := Xd.put4 RR (.bool un) (.slice uA uz.length uk) (.bool false) (.slice vA vz.length vk)
  replace Nu := Nu.put4 RR (.bool un) (.slice uA uz.length uk) (.bool false) (.slice vA vz.length vk)
  replace Nv := Nv.put4 RR (.bool un) (.slice uA uz.length uk) (.bool false) (.slice vA vz.length vk)
  replace BW := Below.putq BW (r := w.heap.size + 1) (by omega) (.bool un) (.slice uA uz.length uk) (.bool false) (.slice vA vz.length vk)
  have KR := Box.laidQ RR (.bool un) (.slice uA uz.length uk) (.bool false) (.slice vA vz.length vk)
  clear RR y0 y1 y2 y3 y4 y5 y6 y7
  generalize ((((wc1.setCell ⟨w.heap.size + 1, 0, none⟩ (.bool un)).setCell ⟨w.heap.size + 1, 1, none⟩ (.slice uA uz.length uk)).setCell ⟨w.heap.size + 1, 2, none⟩ (.bool false)).setCell ⟨w.heap.size + 1, 3, none⟩ (.slice vA vz.length vk)) = wsR at *
  refine hK.out _ _ (by exact ⟨KX.c 0 _ rfl, KX.c 1 _ rfl, KX.c 2 _ rfl, KX.c 3 _ rfl⟩) (fun hHeld => ?_)
  clear hK
  (try simp only [Act.put, List.setIfInBounds_toArray, List.set_cons_zero, List.set_cons_succ])
  have y0 := KR.c 0 _ rfl
  have y1 := KR.c 1 _ rfl
  have y2 := KR.c 2 _ rfl
  have y3 := KR.c 3 _ rfl
  refine wpAnyH_done (by kernel_rfl) (NoPanic.normal ?_) _
  go_wp2
  exact bodyPost_ret (v := frq un uA uz.length uk false vA vz.length vk) (by simp [results, Tryz.results51, go_sem, y0, y1, y2, y3]) rfl ⟨_, _, _, _, _, _, _, rfl, (Lq.mk' Nu Nv).2, BW⟩

set_option maxHeartbeats 8000000 in
set_option maxRecDepth 20000 in
theorem ffrac_any (q : Rat) (n : Bool) (A B : Option Addr) (xs ds : List Nat) (c d C : Nat) (w : World) (h : Lq w q n A xs c B ds d C) (hF : FitsQ q) (hC : C ≤ 1759218604390) :
    Calls Tryz.prog 97 #[frq n A xs.length c false B ds.length d] w (GivesF w q) := by
  obtain ⟨V, hV, BW, hz, RR, c0, c1, c2, c3⟩ := box_one w n A xs.length c false B ds.length d 66 26
  have KX := Box.of4 (by omega) c0 c1 c2 c3
  have Xn := h.x.on BW
  have Xd := h.y.on BW
  have HF := Lib.hid (show Fits q.num ∧ Fits (q.den : Int) from hF)
  have HC := Lib.hid hC
  clear h c0 c1 c2 c3 hz hF hC
  have KX_0 := KX.c 0 _ rfl
  have KX_1 := KX.c 1 _ rfl
  have KX_2 := KX.c 2 _ rfl
  have KX_3 := KX.c 3 _ rfl
  go_enter Tryz.func97, Tryz.ntmps97
  go_wp2_with fail
  clear KX_0 KX_1 KX_2 KX_3
  rw [← hV]
  clear hV
  refine wp_region_noPanic ?_
  have hb : Below V.heap.size V V.drew := (Below.refl _ _).drew
  replace KX := KX.on hb
  replace Xn := Xn.on hb
  replace Xd := Xd.on hb
  replace RR := RR.on hb
  replace BW := BW.trans (hb.mono BW.size)
  clear hb
  refine wp_region_held_drew (S := (fun wx => wx.cell? ⟨w.heap.size, 0, none⟩ = some (.bool n) ∧ wx.cell? ⟨w.heap.size, 1, none⟩ = some (.slice A xs.length c) ∧ wx.cell? ⟨w.heap.size, 2, none⟩ = some (.bool false) ∧ wx.cell? ⟨w.heap.size, 3, none⟩ = some (.slice B ds.length d))) (by kernel_rfl) (by exact ⟨KX.c 0 _ rfl, KX.c 1 _ rfl, KX.c 2 _ rfl, KX.c 3 _ rfl⟩) (fun hHeld => ?_)
  generalize V.drew = Vd at *
  refine wpAnyH_take (i := 0) (v := ?_) (by (simp only [List.getElem?_toArray, List.getElem?_cons_zero]; rfl)) (by kernel_rfl) (by kernel_rfl) (by kernel_rfl) (fun _ _ _ h => h) (Or.inl ⟨by rfl, ?_⟩) (by assumption) ?_
  rotate_left
  · intro wt hSw
    (try dsimp only at hSw)
    go_simp
    (try with_reducible rfl)
  (try simp only [Act.put, List.setIfInBounds_toArray, List.set_cons_zero, List.set_cons_succ])
  refine wpAnyH_take (i := 1) (v := ?_) (by (simp only [List.getElem?_toArray, List.getElem?_cons_succ, List.getElem?_cons_zero]; rfl)) (by kernel_rfl) (by kernel_rfl) (by kernel_rfl) (fun _ _ _ h => h) (Or.inl ⟨by rfl, ?_⟩) (by assumption) ?_
  rotate_left
  · intro wt hSw
    (try dsimp only at hSw)
    go_simp
    (try with_reducible rfl)
  (try simp only [Act.put, List.setIfInBounds_toArray, List.set_cons_zero, List.set_cons_succ])
  refine wpAnyH_take (i := 3) (v := ?_) (by (simp only [List.getElem?_toArray, List.getElem?_cons_succ, List.getElem?_cons_zero]; rfl)) (by kernel_rfl) (by kernel_rfl) (by kernel_rfl) (fun _ _ _ h => h) (Or.inl ⟨by rfl, ?_⟩) (by assumption) ?_
  rotate_left
  · intro wt hSw
    (try dsimp only at hSw)
    go_simp
    (try with_reducible rfl)
  (try simp only [Act.put, List.setIfInBounds_toArray, List.set_cons_zero, List.set_cons_succ])
  refine wpAnyH_take (i := 4) (v := ?_) (by (simp only [List.getElem?_toArray, List.getElem?_cons_succ, List.getElem?_cons_zero]; rfl)) (by kernel_rfl) (by kernel_rfl) (by kernel_rfl) (fun _ _ _ h => h) (Or.inl ⟨by rfl, ?_⟩) (by assumption) ?_
  rotate_left
  · intro wt hSw
    (try dsimp only at hSw)
    go_simp
    (try with_reducible rfl)
  (try simp only [Act.put, List.setIfInBounds_toArray, List.set_cons_zero, List.set_cons_succ])
  refine wpAnyH_ready (rs := [2]) (by kernel_rfl) (by simp) (AllReadyH.cons (by (simp only [List.getElem?_toArray, List.getElem?_cons_succ, List.getElem?_cons_zero]; rfl)) (fun K hK => ?_) AllReadyH.nil)
  go_simp
  (go_at_call 83; with_reducible refine (int_n Xn HF.out.1 (by have := HC.out; omega)).mono ?_)
  rintro _ wc0 ⟨un, uA, uz, uk, rfl, Nu, hb⟩
  (try go_wp2_with fail)
  replace KX := KX.on hb
  replace Xn := Xn.on hb
  replace Xd := Xd.on hb
  replace RR := RR.on hb
  replace BW := BW.trans (hb.mono BW.size)
  clear hb
  refine hK.out _ _ (by exact ⟨KX.c 0 _ rfl, KX.c 1 _ rfl, KX.c 2 _ rfl, KX.c 3 _ rfl⟩) (fun hHeld => ?_)
  clear hK
  (try simp only [Act.put, List.setIfInBounds_toArray, List.set_cons_zero, List.set_cons_succ])
  refine wpAnyH_ready (rs := [5]) (by kernel_rfl) (by simp) (AllReadyH.cons (by (simp only [List.getElem?_toArray, List.getElem?_cons_succ, List.getElem?_cons_zero]; rfl)) (fun K hK => ?_) AllReadyH.nil)
  go_simp
  (go_at_call 83; with_reducible refine (int_n Xd HF.out.2 (by have := HC.out; omega)).mono ?_)
  rintro _ wc1 ⟨vn, vA, vz, vk, rfl, Nv, hb⟩
  (try go_wp2_with fail)
  replace KX := KX.on hb
  replace Xn := Xn.on hb
  replace Xd := Xd.on hb
  replace Nu := Nu.on hb
  replace RR := RR.on hb
  replace BW := BW.trans (hb.mono BW.size)
  clear hb
  refine hK.out _ _ (by exact ⟨KX.c 0 _ rfl, KX.c 1 _ rfl, KX.c 2 _ rfl, KX.c 3 _ rfl⟩) (fun hHeld => ?_)
  clear hK
  (try simp only [Act.put, List.setIfInBounds_toArray, List.set_cons_zero, List.set_cons_succ])
  refine wpAnyH_take (i := 6) (v := ?_) (by (simp only [List.getElem?_toArray, List.getElem?_cons_succ, List.getElem?_cons_zero]; rfl)) (by kernel_rfl) (by kernel_rfl) (by kernel_rfl) (fun _ _ _ h => h) (Or.inl ⟨by rfl, ?_⟩) (by assumption) ?_
  rotate_left
  · intro wt hSw
    (try dsimp only at hSw)
    go_simp
    (try with_reducible rfl)
  (try simp only [Act.put, List.setIfInBounds_toArray, List.set_cons_zero, List.set_cons_succ])
  obtain ⟨rfl, HQ⟩ := Lf.mk' Nu Nv
  clear HQ
  have y0 := RR.r0
  have y1 := RR.r1
  have y2 := RR.r2
  have y3 := RR.r3
  have y4 := RR.f0
  have y5 := RR.f1
  have y6 := RR.f2
  have y7 := RR.f3
  refine wpAnyH_ready (rs := [7]) (by kernel_rfl) (by simp) (AllReadyH.cons (by (simp only [List.getElem?_toArray, List.getElem?_cons_succ, List.getElem?_cons_zero]; rfl)) (fun K hK => ?_) AllReadyH.nil)
  go_simp
  replace KX := KX.far4 (g := w.heap.size + 1) (by first | omega | exact nXRR.symm) (.bool un) (.slice uA uz.length uk) (.bool false) (.slice vA vz.length vk)
  replace Xn := Xn.put4 RR (.bool un) (.slice uA uz.length uk) (.bool false) (.slice vA vz.length vk)
  replace Xd := Xd.put4 RR (.bool un) (.slice uA uz.length uk) (.bool false) (.slice vA vz.length vk)
  replace Nu := Nu.put4 RR (.bool un) (.slice uA uz.length uk) (.bool false) (.slice vA vz.length vk)
  replace Nv := Nv.put4 RR (.bool un) (.slice uA uz.length uk) (.bool false) (.slice vA vz.length vk)
  replace BW := Below.putq BW (r := w.heap.size + 1) (by omega) (.bool un) (.slice uA uz.length uk) (.bool false) (.slice vA vz.length vk)
  have KR := Box.laidQ RR (.bool un) (.slice uA uz.length uk) (.bool false) (.slice vA vz.length vk)
  clear RR y0 y1 y2 y3 y4 y5 y6 y7
  generalize ((((wc1.setCell ⟨w.heap.size + 1, 0, none⟩ (.bool un)).setCell ⟨w.heap.size + 1, 1, none⟩ (.slice uA uz.length uk)).setCell ⟨w.heap.size + 1, 2, none⟩ (.bool false)).setCell ⟨w.heap.size + 1, 3, none⟩ (.slice vA vz.length vk)) = wsR at *
  refine hK.out _ _ (by exact ⟨KX.c 0 _ rfl, KX.c 1 _ rfl, KX.c 2 _ rfl, KX.c 3 _ rfl⟩) (fun hHeld => ?_)
  clear hK
  (try simp only [Act.put, List.setIfInBounds_toArray, List.set_cons_zero, List.set_cons_succ])
  have y0 := KR.c 0 _ rfl
  have y1 := KR.c 1 _ rfl
  have y2 := KR.c 2 _ rfl
  have y3 := KR.c 3 _ rfl
  refine wpAnyH_done (by kernel_rfl) (NoPanic.normal ?_) _
  go_wp2
  exact bodyPost_ret (v := frq un uA uz.length uk false vA vz.length vk) (by simp [results, Tryz.results97, go_sem, y0, y1, y2, y3]) rfl ⟨_, _, _, _, _, _, _, rfl, (Lf.mk' Nu Nv).2, BW⟩

set_option maxHeartbeats 8000000 in
set_option maxRecDepth 20000 in
theorem fsub_any (q p : Rat) (n n' : Bool) (A B A' B' : Option Addr) (xs ds ys es : List Nat) (c d c' d' C : Nat) (w : World) (h : Lq w q n A xs c B ds d C) (k : Lq w p n' A' ys c' B' es d' C) (hC : C ≤ 1759218604390) :
    Calls Tryz.prog 46 #[frq n A xs.length c false B ds.length d, frq n' A' ys.length c' false B' es.length d'] w (GivesQ w (q - p) (2 * C + 4)) := by
  obtain ⟨V, hV, BW, hz, RR, ⟨c0, c1, c2, c3⟩, ⟨e0, e1, e2, e3⟩⟩ := box_two w n A xs.length c false B ds.length d n' A' ys.length c' false B' es.length d' 66 66 66
  have KX := Box.of4 (by omega) c0 c1 c2 c3
  have KY := Box.of4 (by omega) e0 e1 e2 e3
  have LX := h.on BW
  have LY := k.on BW
  have HC := Lib.hid hC
  clear h k hC c0 c1 c2 c3 e0 e1 e2 e3 hz
  have KX_0 := KX.c 0 _ rfl
  have KX_1 := KX.c 1 _ rfl
  have KX_2 := KX.c 2 _ rfl
  have KX_3 := KX.c 3 _ rfl
  have KY_0 := KY.c 0 _ rfl
  have KY_1 := KY.c 1 _ rfl
  have KY_2 := KY.c 2 _ rfl
  have KY_3 := KY.c 3 _ rfl
  go_enter Tryz.func46, Tryz.ntmps46
  go_wp2_with fail
  clear KX_0 KX_1 KX_2 KX_3 KY_0 KY_1 KY_2 KY_3
  rw [← hV]
  clear hV
  refine wp_region_noPanic ?_
  have hb : Below V.heap.size V V.drew := (Below.refl _ _).drew
  replace KX := KX.on hb
  replace KY := KY.on hb
  replace LX := LX.on hb
  replace LY := LY.on hb
  replace RR := RR.on hb
  replace BW := BW.trans (hb.mono BW.size)
  clear hb
  refine wp_region_held_drew (S := (fun wx => wx.cell? ⟨w.heap.size, 0, none⟩ = some (.bool n) ∧ wx.cell? ⟨w.heap.size, 1, none⟩ = some (.slice A xs.length c) ∧ wx.cell? ⟨w.heap.size, 2, none⟩ = some (.bool false) ∧ wx.cell? ⟨w.heap.size, 3, none⟩ = some (.slice B ds.length d) ∧ wx.cell? ⟨w.heap.size + 1, 0, none⟩ = some (.bool n') ∧ wx.cell? ⟨w.heap.size + 1, 1, none⟩ = some (.slice A' ys.length c') ∧ wx.cell? ⟨w.heap.size + 1, 2, none⟩ = some (.bool false) ∧ wx.cell? ⟨w.heap.size + 1, 3, none⟩ = some (.slice B' es.length d'))) (by kernel_rfl) (by exact ⟨KX.c 0 _ rfl, KX.c 1 _ rfl, KX.c 2 _ rfl, KX.c 3 _ rfl, KY.c 0 _ rfl, KY.c 1 _ rfl, KY.c 2 _ rfl, KY.c 3 _ rfl⟩) (fun hHeld => ?_)
  generalize V.drew = Vd at *
  refine wpAnyH_take (i := 0) (v := ?_) (by (simp only [List.getElem?_toArray, List.getElem?_cons_zero]; rfl)) (by kernel_rfl) (by kernel_rfl) (by kernel_rfl) (fun _ _ _ h => h) (Or.inl ⟨by rfl, ?_⟩) (by assumption) ?_
  rotate_left
  · intro wt hSw
    (try dsimp only at hSw)
    go_simp
    (try with_reducible rfl)
  (try simp only [Act.put, List.setIfInBounds_toArray, List.set_cons_zero, List.set_cons_succ])
  refine wpAnyH_take (i := 1) (v := ?_) (by (simp only [List.getElem?_toArray, List.getElem?_cons_succ, List.getElem?_cons_zero]; rfl)) (by kernel_rfl) (by kernel_rfl) (by kernel_rfl) (fun _ _ _ h => h) (Or.inl ⟨by rfl, ?_⟩) (by assumption) ?_
  rotate_left
  · intro wt hSw
    (try dsimp only at hSw)
    go_simp
    (try with_reducible rfl)
  (try simp only [Act.put, List.setIfInBounds_toArray, List.set_cons_zero, List.set_cons_succ])
  refine wpAnyH_ready (rs := [2]) (by kernel_rfl) (by simp) (AllReadyH.cons (by (simp only [List.getElem?_toArray, List.getElem?_cons_succ, List.getElem?_cons_zero]; rfl)) (fun K hK => ?_) AllReadyH.nil)
  go_simp
  (go_at_call 88; with_reducible refine (fneg_any p _ _ _ _ _ _ _ C _ LY (by have := HC.out; omega)).mono ?_)
  rintro _ wc0 ⟨un, uA, uz, uk, uB, ud, ul, rfl, Lu, hb⟩
  (try go_wp2_with fail)
  replace KX := KX.on hb
  replace KY := KY.on hb
  replace LX := LX.on hb
  replace LY := LY.on hb
  replace RR := RR.on hb
  replace BW := BW.trans (hb.mono BW.size)
  clear hb
  refine hK.out _ _ (by exact ⟨KX.c 0 _ rfl, KX.c 1 _ rfl, KX.c 2 _ rfl, KX.c 3 _ rfl, KY.c 0 _ rfl, KY.c 1 _ rfl, KY.c 2 _ rfl, KY.c 3 _ rfl⟩) (fun hHeld => ?_)
  clear hK
  (try simp only [Act.put, List.setIfInBounds_toArray, List.set_cons_zero, List.set_cons_succ])
  refine wpAnyH_ready (rs := [3]) (by kernel_rfl) (by simp) (AllReadyH.cons (by (simp only [List.getElem?_toArray, List.getElem?_cons_succ, List.getElem?_cons_zero]; rfl)) (fun K hK => ?_) AllReadyH.nil)
  go_simp
  (go_at_call 42; with_reducible refine (fadd_any q (-p) _ _ _ _ _ _ _ _ _ _ _ _ _ _ C _ LX Lu HC.out).mono ?_)
  rintro _ wc1 ⟨sn, sA, sz, sk, sB, sd, sl, rfl, Ls, hb⟩
  (try go_wp2_with fail)
  replace KX := KX.on hb
  replace KY := KY.on hb
  replace LX := LX.on hb
  replace LY := LY.on hb
  replace Lu := Lu.on hb
  replace RR := RR.on hb
  replace BW := BW.trans (hb.mono BW.size)
  clear hb
  refine hK.out _ _ (by exact ⟨KX.c 0 _ rfl, KX.c 1 _ rfl, KX.c 2 _ rfl, KX.c 3 _ rfl, KY.c 0 _ rfl, KY.c 1 _ rfl, KY.c 2 _ rfl, KY.c 3 _ rfl⟩) (fun hHeld => ?_)
  clear hK
  (try simp only [Act.put, List.setIfInBounds_toArray, List.set_cons_zero, List.set_cons_succ])
  rw [← Rat.sub_eq_add_neg] at Ls
  have y0 := RR.r0
  have y1 := RR.r1
  have y2 := RR.r2
  have y3 := RR.r3
  have y4 := RR.f0
  have y5 := RR.f1
  have y6 := RR.f2
  have y7 := RR.f3
  refine wpAnyH_ready (rs := [4]) (by kernel_rfl) (by simp) (AllReadyH.cons (by (simp only [List.getElem?_toArray, List.getElem?_cons_succ, List.getElem?_cons_zero]; rfl)) (fun K hK => ?_) AllReadyH.nil)
  go_simp
  replace KX := KX.far4 (g := w.heap.size + 1 + 1) (by first | omega | exact nXRR.symm) (.bool sn) (.slice sA sz.length sk) (.bool false) (.slice sB sd.length sl)
  replace KY := KY.far4 (g := w.heap.size + 1 + 1) (by first | omega | exact nYRR.symm) (.bool sn) (.slice sA sz.length sk) (.bool false) (.slice sB sd.length sl)
  replace Ls := Ls.put4 RR (.bool sn) (.slice sA sz.length sk) (.bool false) (.slice sB sd.length sl)
  replace BW := Below.putq BW (r := w.heap.size + 1 + 1) (by omega) (.bool sn) (.slice sA sz.length sk) (.bool false) (.slice sB sd.length sl)
  have KR := Box.laidQ RR (.bool sn) (.slice sA sz.length sk) (.bool false) (.slice sB sd.length sl)
  clear RR y0 y1 y2 y3 y4 y5 y6 y7
  generalize ((((wc1.setCell ⟨w.heap.size + 1 + 1, 0, none⟩ (.bool sn)).setCell ⟨w.heap.size + 1 + 1, 1, none⟩ (.slice sA sz.length sk)).setCell ⟨w.heap.size + 1 + 1, 2, none⟩ (.bool false)).setCell ⟨w.heap.size + 1 + 1, 3, none⟩ (.slice sB sd.length sl)) = wsR at *
  refine hK.out _ _ (by exact ⟨KX.c 0 _ rfl, KX.c 1 _ rfl, KX.c 2 _ rfl, KX.c 3 _ rfl, KY.c 0 _ rfl, KY.c 1 _ rfl, KY.c 2 _ rfl, KY.c 3 _ rfl⟩) (fun hHeld => ?_)
  clear hK
  (try simp only [Act.put, List.setIfInBounds_toArray, List.set_cons_zero, List.set_cons_succ])
  have y0 := KR.c 0 _ rfl
  have y1 := KR.c 1 _ rfl
  have y2 := KR.c 2 _ rfl
  have y3 := KR.c 3 _ rfl
  refine wpAnyH_done (by kernel_rfl) (NoPanic.normal ?_) _
  go_wp2
  exact bodyPost_ret (v := frq sn sA sz.length sk false sB sd.length sl) (by simp [results, Tryz.results46, go_sem, y0, y1, y2, y3]) rfl ⟨_, _, _, _, _, _, _, rfl, Ls, BW⟩
end Go.Proofs.YtjilhplonaomoaaGreatDoor

/-! ### Fq6 -/
namespace Go.Proofs.YtjilhplonaomoaaGreatDoor
open Go.RowKit Nb

set_option maxHeartbeats 8000000 in
set_option maxRecDepth 20000 in
theorem flimbs_any (q : Rat) (n : Bool) (A B : Option Addr) (xs ds : List Nat) (c d C : Nat) (w : World) (h : Lq w q n A xs c B ds d C) (hC : C ≤ 1759218604390) :
    Calls Tryz.prog 96 #[frq n A xs.length c false B ds.length d] w (fun e w' => (∃ k : Nat, e = .returned (.int .i64 k) ∧ (k ≤ 2048 ↔ FitsQ q) ∧ k ≤ 2 * C + 1) ∧ Below w.heap.size w w') := by
  obtain ⟨V, hV⟩ : ∃ V, V = (w.alloc (.cells #[.bool n, .slice A xs.length c, .bool false, .slice B ds.length d] 66)) := ⟨_, rfl⟩
  have BW : Below w.heap.size w V := by rw [hV]; go_grown
  have KX : Box V w.heap.size [.bool n, .slice A xs.length c, .bool false, .slice B ds.length d] := by rw [hV]; exact Box.new w _ _
  have Xn := h.x.on BW
  have Xd := h.y.on BW
  have HC := Lib.hid hC
  clear h hC
  have KX_0 := KX.c 0 _ rfl
  have KX_1 := KX.c 1 _ rfl
  have KX_2 := KX.c 2 _ rfl
  have KX_3 := KX.c 3 _ rfl
  go_enter Tryz.func96, Tryz.ntmps96
  go_wp2_with fail
  clear KX_0 KX_1 KX_2 KX_3
  rw [← hV]
  clear hV
  refine wp_region_noPanic ?_
  have hb : Below V.heap.size V V.drew := (Below.refl _ _).drew
  replace KX := KX.on hb
  replace Xn := Xn.on hb
  replace Xd := Xd.on hb
  replace BW := BW.trans (hb.mono BW.size)
  clear hb
  refine wp_region_held_drew (S := (fun wx => wx.cell? ⟨w.heap.size, 0, none⟩ = some (.bool n) ∧ wx.cell? ⟨w.heap.size, 1, none⟩ = some (.slice A xs.length c) ∧ wx.cell? ⟨w.heap.size, 2, none⟩ = some (.bool false) ∧ wx.cell? ⟨w.heap.size, 3, none⟩ = some (.slice B ds.length d))) (by kernel_rfl) (by exact ⟨KX.c 0 _ rfl, KX.c 1 _ rfl, KX.c 2 _ rfl, KX.c 3 _ rfl⟩) (fun hHeld => ?_)
  generalize V.drew = Vd at *
  refine wpAnyH_take (i := 0) (v := ?_) (by (simp only [List.getElem?_toArray, List.getElem?_cons_zero]; rfl)) (by kernel_rfl) (by kernel_rfl) (by kernel_rfl) (fun _ _ _ h => h) (Or.inl ⟨by rfl, ?_⟩) (by assumption) ?_
  rotate_left
  · intro wt hSw
    (try dsimp only at hSw)
    go_simp
    (try with_reducible rfl)
  (try simp only [Act.put, List.setIfInBounds_toArray, List.set_cons_zero, List.set_cons_succ])
  refine wpAnyH_take (i := 1) (v := ?_) (by (simp only [List.getElem?_toArray, List.getElem?_cons_succ, List.getElem?_cons_zero]; rfl)) (by kernel_rfl) (by kernel_rfl) (by kernel_rfl) (fun _ _ _ h => h) (Or.inl ⟨by rfl, ?_⟩) (by assumption) ?_
  rotate_left
  · intro wt hSw
    (try dsimp only at hSw)
    go_simp
    (try with_reducible rfl)
  (try simp only [Act.put, List.setIfInBounds_toArray, List.set_cons_zero, List.set_cons_succ])
  refine wpAnyH_take (i := 3) (v := ?_) (by (simp only [List.getElem?_toArray, List.getElem?_cons_succ, List.getElem?_cons_zero]; rfl)) (by kernel_rfl) (by kernel_rfl) (by kernel_rfl) (fun _ _ _ h => h) (Or.inl ⟨by rfl, ?_⟩) (by assumption) ?_
  rotate_left
  · intro wt hSw
    (try dsimp only at hSw)
    go_simp
    (try with_reducible rfl)
  (try simp only [Act.put, List.setIfInBounds_toArray, List.set_cons_zero, List.set_cons_succ])
  refine wpAnyH_take (i := 4) (v := ?_) (by (simp only [List.getElem?_toArray, List.getElem?_cons_succ, List.getElem?_cons_zero]; rfl)) (by kernel_rfl) (by kernel_rfl) (by kernel_rfl) (fun _ _ _ h => h) (Or.inl ⟨by rfl, ?_⟩) (by assumption) ?_
  rotate_left
  · intro wt hSw
    (try dsimp only at hSw)
    go_simp
    (try with_reducible rfl)
  (try simp only [Act.put, List.setIfInBounds_toArray, List.set_cons_zero, List.set_cons_succ])
  refine wpAnyH_ready (rs := [2]) (by kernel_rfl) (by simp) (AllReadyH.cons (by (simp only [List.getElem?_toArray, List.getElem?_cons_succ, List.getElem?_cons_zero]; rfl)) (fun K hK => ?_) AllReadyH.nil)
  go_simp
  (go_at_call 103; with_reducible refine (limbs_n Xn (by have := HC.out; omega)).mono ?_)
  rintro _ wc0 ⟨⟨k1, rfl, hk1, hl1⟩, hb⟩
  (try go_wp2_with fail)
  replace KX := KX.on hb
  replace Xn := Xn.on hb
  replace Xd := Xd.on hb
  replace BW := BW.trans (hb.mono BW.size)
  clear hb
  refine hK.out _ _ (by exact ⟨KX.c 0 _ rfl, KX.c 1 _ rfl, KX.c 2 _ rfl, KX.c 3 _ rfl⟩) (fun hHeld => ?_)
  clear hK
  (try simp only [Act.put, List.setIfInBounds_toArray, List.set_cons_zero, List.set_cons_succ])
  refine wpAnyH_ready (rs := [5]) (by kernel_rfl) (by simp) (AllReadyH.cons (by (simp only [List.getElem?_toArray, List.getElem?_cons_succ, List.getElem?_cons_zero]; rfl)) (fun K hK => ?_) AllReadyH.nil)
  go_simp
  (go_at_call 103; with_reducible refine (limbs_n Xd (by have := HC.out; omega)).mono ?_)
  rintro _ wc1 ⟨⟨k2, rfl, hk2, hl2⟩, hb⟩
  (try go_wp2_with fail)
  replace KX := KX.on hb
  replace Xn := Xn.on hb
  replace Xd := Xd.on hb
  replace BW := BW.trans (hb.mono BW.size)
  clear hb
  refine hK.out _ _ (by exact ⟨KX.c 0 _ rfl, KX.c 1 _ rfl, KX.c 2 _ rfl, KX.c 3 _ rfl⟩) (fun hHeld => ?_)
  clear hK
  (try simp only [Act.put, List.setIfInBounds_toArray, List.set_cons_zero, List.set_cons_succ])
  have hm : max (k1 : Int) (k2 : Int) = ((max k1 k2 : Nat) : Int) := by omega
  refine wpAnyH_ready (rs := [6]) (by kernel_rfl) (by simp) (AllReadyH.cons (by (simp only [List.getElem?_toArray, List.getElem?_cons_succ, List.getElem?_cons_zero]; rfl)) (fun K hK => ?_) AllReadyH.nil)
  go_simp
  refine hK.out _ _ (by exact ⟨KX.c 0 _ rfl, KX.c 1 _ rfl, KX.c 2 _ rfl, KX.c 3 _ rfl⟩) (fun hHeld => ?_)
  clear hK
  (try simp only [Act.put, List.setIfInBounds_toArray, List.set_cons_zero, List.set_cons_succ])
  refine wpAnyH_take (i := 7) (v := ?_) (by (simp only [List.getElem?_toArray, List.getElem?_cons_succ, List.getElem?_cons_zero]; rfl)) (by kernel_rfl) (by kernel_rfl) (by kernel_rfl) (fun _ _ _ h => h) (Or.inl ⟨by rfl, ?_⟩) (by assumption) ?_
  rotate_left
  · intro wt hSw
    (try dsimp only at hSw)
    go_simp
    (try with_reducible rfl)
  (try simp only [Act.put, List.setIfInBounds_toArray, List.set_cons_zero, List.set_cons_succ])
  refine wpAnyH_done (by kernel_rfl) (NoPanic.normal ?_) _
  go_wp2
  go_ret
  exact ⟨⟨max k1 k2, rfl, by unfold FitsQ; rw [← hk1, ← hk2]; omega, by omega⟩, BW⟩

set_option maxHeartbeats 8000000 in
set_option maxRecDepth 20000 in
theorem ffit_any (q : Rat) (n : Bool) (A B : Option Addr) (xs ds : List Nat) (c d C : Nat) (w : World) (h : Lq w q n A xs c B ds d C) (hC : C ≤ 1759218604390) :
    Calls Tryz.prog 69 #[frq n A xs.length c false B ds.length d] w (ToldQ w q) := by
  obtain ⟨V, hV, BW, hz, RR, c0, c1, c2, c3⟩ := box_one w n A xs.length c false B ds.length d 66 26
  have KX := Box.of4 (by omega) c0 c1 c2 c3
  have LX := h.on BW
  have HC := Lib.hid hC
  clear h hC c0 c1 c2 c3 hz
  have KX_0 := KX.c 0 _ rfl
  have KX_1 := KX.c 1 _ rfl
  have KX_2 := KX.c 2 _ rfl
  have KX_3 := KX.c 3 _ rfl
  go_enter Tryz.func69, Tryz.ntmps69
  go_wp2_with fail
  clear KX_0 KX_1 KX_2 KX_3
  rw [← hV]
  clear hV
  refine (flimbs_any q _ _ _ _ _ _ _ C _ LX HC.out).mono ?_
  rintro _ w1 ⟨⟨k, rfl, hk, hkl⟩, hb⟩
  replace KX := KX.on hb
  replace LX := LX.on hb
  replace RR := RR.on hb
  replace BW := BW.trans (hb.mono BW.size)
  clear hb
  have hk3 : (k : Int) ≤ 9223372036854775807 := by have := HC.out; omega
  clear hkl
  by_cases hF : FitsQ q
  · have hk2 : ¬ (2048 : Int) < (k : Int) := by have := hk.2 hF; omega
    clear hk
    have KX_0 := KX.c 0 _ rfl
    have KX_1 := KX.c 1 _ rfl
    have KX_2 := KX.c 2 _ rfl
    have KX_3 := KX.c 3 _ rfl
    go_wp2_with fail
    clear KX_0 KX_1 KX_2 KX_3
    refine (ffrac_any q _ _ _ _ _ _ _ C _ LX hF HC.out).mono ?_
    rintro _ w2 ⟨un, uA, uz, uk, uB, ud, ul, rfl, Lu, hb⟩
    replace KX := KX.on hb
    replace LX := LX.on hb
    replace RR := RR.on hb
    replace BW := BW.trans (hb.mono BW.size)
    clear hb
    have y0 := RR.r0
    have y1 := RR.r1
    have y2 := RR.r2
    have y3 := RR.r3
    have y4 := RR.f0
    have y5 := RR.f1
    have y6 := RR.f2
    have y7 := RR.f3
    have HL := Lib.hid (And.intro (Lu.put4 RR (.bool un) (.slice uA uz.length uk) (.bool false) (.slice uB ud.length ul)) (Below.putq BW (r := w.heap.size + 1) (by omega) (.bool un) (.slice uA uz.length uk) (.bool false) (.slice uB ud.length ul)))
    have HF := Lib.hid hF
    clear LX Lu BW KX hF RR
    go_wp2
    exact bodyPost_ret (v := .tuple #[frq un uA uz.length uk false uB ud.length ul, .int .i64 0]) (by simp [results, Tryz.results69, go_sem, y0, y1, y2, y3]) rfl ⟨_, _, _, _, _, _, _, _, _, rfl, .inl ⟨HF.out, rfl, rfl, HL.out.1⟩, HL.out.2⟩
  · have hk2 : (2048 : Int) < (k : Int) := by have : ¬ k ≤ 2048 := fun h => hF (hk.1 h); omega
    clear hk
    have KX_0 := KX.c 0 _ rfl
    have KX_1 := KX.c 1 _ rfl
    have KX_2 := KX.c 2 _ rfl
    have KX_3 := KX.c 3 _ rfl
    have y0 := RR.r0
    have y1 := RR.r1
    have y2 := RR.r2
    have y3 := RR.r3
    have y4 := RR.f0
    have y5 := RR.f1
    have y6 := RR.f2
    have y7 := RR.f3
    have HL := Lib.hid (Below.putq BW (r := w.heap.size + 1) (by omega) (.bool false) (.slice none 0 0) (.bool false) (.slice none 0 0))
    have HF := Lib.hid hF
    clear LX BW KX hF RR
    go_wp2
    exact bodyPost_ret (v := .tuple #[frq false none ([] : List Nat).length 0 false none ([] : List Nat).length 0, .int .i64 4]) (by simp [results, Tryz.results69, go_sem, y0, y1, y2, y3]) rfl ⟨_, _, _, _, _, _, _, _, _, rfl, .inr ⟨HF.out, rfl, rfl, rfl, rfl, rfl, rfl, rfl, rfl, rfl⟩, HL.out⟩
end Go.Proofs.YtjilhplonaomoaaGreatDoor
