/-
  What the statement about the order of fractions returns: yes. Conditions: that they are fractions, and no longer than memory.
-/
import Derived.Test.YtjilhplonaomoaaGreatDoorFrh
import Derived.Test.YtjilhplonaomoaaGreatDoorFre
import Derived.Test.YtjilhplonaomoaaGreatDoorFrSub
import Derived.Deep.RegionHeld3
import Derived.Deep.DeepCutAuto
import Derived.BigRegion
namespace Go.Proofs.YtjilhplonaomoaaGreatDoor
open Go.RowKit Nb

theorem box_triple (w : World) (us vs ts : List Value) (s t u : TypeId) : ∃ V : World, V = ((w.alloc (.cells us.toArray s)).alloc (.cells vs.toArray t)).alloc (.cells ts.toArray u) ∧ Below w.heap.size w V ∧ V.heap.size = w.heap.size + 1 + 1 + 1 ∧ Box V w.heap.size us ∧ Box V (w.heap.size + 1) vs ∧ Box V (w.heap.size + 1 + 1) ts := by
  obtain ⟨V, hV, hb, hz, h1, h2⟩ := box_pair w us vs s t
  have b3 : Below V.heap.size V (V.alloc (.cells ts.toArray u)) := by go_grown
  have h3 := Box.new V ts u
  rw [hz] at h3
  exact ⟨V.alloc (.cells ts.toArray u), by rw [hV], hb.trans (b3.mono hb.size), by rw [← hz]; go_size, h1.on b3, h2.on b3, h3⟩
set_option maxHeartbeats 8000000 in
set_option maxRecDepth 20000 in
theorem fracorder_walk (n1 m1 : Bool) (A1 B1 : Option Addr) (x1 d1 : List Nat) (c1 l1 : Nat) (n2 m2 : Bool) (A2 B2 : Option Addr) (x2 d2 : List Nat) (c2 l2 : Nat) (n3 m3 : Bool) (A3 B3 : Option Addr) (x3 d3 : List Nat) (c3 l3 : Nat) (w : World) (h1 : Rq w A1 x1 B1 d1) (h2 : Rq w A2 x2 B2 d2) (h3 : Rq w A3 x3 B3 d3) (htab : Tab w) :
    Calls Tryz.prog 4 #[frq n1 A1 x1.length c1 m1 B1 d1.length l1, frq n2 A2 x2.length c2 m2 B2 d2.length l2, frq n3 A3 x3.length c3 m3 B3 d3.length l3] w (fun e w' => e = .returned (.bool true) ∧ Below w.heap.size w w') := by
  obtain ⟨V, hV, BW, hz, KX, KY, KZ⟩ := box_triple w [.bool n1, .slice A1 x1.length c1, .bool m1, .slice B1 d1.length l1] [.bool n2, .slice A2 x2.length c2, .bool m2, .slice B2 d2.length l2] [.bool n3, .slice A3 x3.length c3, .bool m3, .slice B3 d3.length l3] 26 26 26
  have R1 := h1.on BW
  have R2 := h2.on BW
  have R3 := h3.on BW
  have HT := Lib.hid htab
  clear h1 h2 h3 htab hz
  have KX_0 := KX.c 0 _ rfl
  have KX_1 := KX.c 1 _ rfl
  have KX_2 := KX.c 2 _ rfl
  have KX_3 := KX.c 3 _ rfl
  have KY_0 := KY.c 0 _ rfl
  have KY_1 := KY.c 1 _ rfl
  have KY_2 := KY.c 2 _ rfl
  have KY_3 := KY.c 3 _ rfl
  have KZ_0 := KZ.c 0 _ rfl
  have KZ_1 := KZ.c 1 _ rfl
  have KZ_2 := KZ.c 2 _ rfl
  have KZ_3 := KZ.c 3 _ rfl
  go_enter Tryz.func4, Tryz.ntmps4
  go_wp2_with fail
  clear KX_0 KX_1 KX_2 KX_3 KY_0 KY_1 KY_2 KY_3 KZ_0 KZ_1 KZ_2 KZ_3
  rw [← hV]
  clear hV
  go_cut [32] (fun s wx => ∃ r : Bool, s = .bool r ∧ (r = false → Okf n1 x1 m1 d1 ∧ Okf n2 x2 m2 d2 ∧ Okf n3 x3 m3 d3) ∧ Below w.heap.size w wx ∧ Box wx (w.heap.size) [.bool n1, .slice A1 x1.length c1, .bool m1, .slice B1 d1.length l1] ∧ Box wx (w.heap.size + 1) [.bool n2, .slice A2 x2.length c2, .bool m2, .slice B2 d2.length l2] ∧ Box wx (w.heap.size + 1 + 1) [.bool n3, .slice A3 x3.length c3, .bool m3, .slice B3 d3.length l3] ∧ Rq wx A1 x1 B1 d1 ∧ Rq wx A2 x2 B2 d2 ∧ Rq wx A3 x3 B3 d3)
  case first =>
    refine wp_region_noPanic ?_
    have hb : Below V.heap.size V V.drew := (Below.refl _ _).drew
    replace KX := KX.on hb
    replace KY := KY.on hb
    replace KZ := KZ.on hb
    replace R1 := R1.on hb
    replace R2 := R2.on hb
    replace R3 := R3.on hb
    replace BW := BW.trans (hb.mono BW.size)
    clear hb
    refine wp_region_held_drew (S := (fun wx => wx.cell? ⟨w.heap.size, 0, none⟩ = some (.bool n1) ∧ wx.cell? ⟨w.heap.size, 1, none⟩ = some (.slice A1 x1.length c1) ∧ wx.cell? ⟨w.heap.size, 2, none⟩ = some (.bool m1) ∧ wx.cell? ⟨w.heap.size, 3, none⟩ = some (.slice B1 d1.length l1) ∧ wx.cell? ⟨w.heap.size + 1, 0, none⟩ = some (.bool n2) ∧ wx.cell? ⟨w.heap.size + 1, 1, none⟩ = some (.slice A2 x2.length c2) ∧ wx.cell? ⟨w.heap.size + 1, 2, none⟩ = some (.bool m2) ∧ wx.cell? ⟨w.heap.size + 1, 3, none⟩ = some (.slice B2 d2.length l2) ∧ wx.cell? ⟨w.heap.size + 1 + 1, 0, none⟩ = some (.bool n3) ∧ wx.cell? ⟨w.heap.size + 1 + 1, 1, none⟩ = some (.slice A3 x3.length c3) ∧ wx.cell? ⟨w.heap.size + 1 + 1, 2, none⟩ = some (.bool m3) ∧ wx.cell? ⟨w.heap.size + 1 + 1, 3, none⟩ = some (.slice B3 d3.length l3))) (by kernel_rfl) (by exact ⟨KX.c 0 _ rfl, KX.c 1 _ rfl, KX.c 2 _ rfl, KX.c 3 _ rfl, KY.c 0 _ rfl, KY.c 1 _ rfl, KY.c 2 _ rfl, KY.c 3 _ rfl, KZ.c 0 _ rfl, KZ.c 1 _ rfl, KZ.c 2 _ rfl, KZ.c 3 _ rfl⟩) (fun hHeld => ?_)
    generalize V.drew = Vd at *
    refine wpAnyH_take (i := 0) (v := ?_) (by (simp only [List.getElem?_toArray, List.getElem?_cons_zero]; rfl)) (by kernel_rfl) (by kernel_rfl) (by kernel_rfl) (fun _ _ _ h => h) (Or.inl ⟨by rfl, ?_⟩) (by assumption) ?_
    rotate_left
    · intro wt hSw
      (try dsimp only at hSw)
      go_simp
      (try with_reducible rfl)
    (try simp only [Act.put, List.setIfInBounds_toArray, List.set_cons_zero, List.set_cons_succ])
    refine wpAnyH_take (i := 2) (v := ?_) (by (simp only [List.getElem?_toArray, List.getElem?_cons_succ, List.getElem?_cons_zero]; rfl)) (by kernel_rfl) (by kernel_rfl) (by kernel_rfl) (fun _ _ _ h => h) (Or.inl ⟨by rfl, ?_⟩) (by assumption) ?_
    rotate_left
    · intro wt hSw
      (try dsimp only at hSw)
      go_simp
      (try with_reducible rfl)
    (try simp only [Act.put, List.setIfInBounds_toArray, List.set_cons_zero, List.set_cons_succ])
    refine wpAnyH_take (i := 4) (v := ?_) (by (simp only [List.getElem?_toArray, List.getElem?_cons_succ, List.getElem?_cons_zero]; rfl)) (by kernel_rfl) (by kernel_rfl) (by kernel_rfl) (fun _ _ _ h => h) (Or.inl ⟨by rfl, ?_⟩) (by assumption) ?_
    rotate_left
    · intro wt hSw
      (try dsimp only at hSw)
      go_simp
      (try with_reducible rfl)
    (try simp only [Act.put, List.setIfInBounds_toArray, List.set_cons_zero, List.set_cons_succ])
    refine wpAnyH_ready (rs := [1]) (by kernel_rfl) (by simp) (AllReadyH.cons (by (simp only [List.getElem?_toArray, List.getElem?_cons_succ, List.getElem?_cons_zero]; rfl)) (fun K hK => ?_) AllReadyH.nil)
    go_simp
    (go_at_call 9; with_reducible refine (fcost_any _ _ _ _ _ _ _ _ _).mono ?_)
    rintro _ wk0 ⟨⟨k0, rfl⟩, hb⟩
    (try go_wp2_with fail)
    replace KX := KX.on hb
    replace KY := KY.on hb
    replace KZ := KZ.on hb
    replace R1 := R1.on hb
    replace R2 := R2.on hb
    replace R3 := R3.on hb
    replace BW := BW.trans (hb.mono BW.size)
    clear hb
    refine hK.out _ _ (by exact ⟨KX.c 0 _ rfl, KX.c 1 _ rfl, KX.c 2 _ rfl, KX.c 3 _ rfl, KY.c 0 _ rfl, KY.c 1 _ rfl, KY.c 2 _ rfl, KY.c 3 _ rfl, KZ.c 0 _ rfl, KZ.c 1 _ rfl, KZ.c 2 _ rfl, KZ.c 3 _ rfl⟩) (fun hHeld => ?_)
    clear hK
    (try simp only [Act.put, List.setIfInBounds_toArray, List.set_cons_zero, List.set_cons_succ])
    refine wpAnyH_ready (rs := [3]) (by kernel_rfl) (by simp) (AllReadyH.cons (by (simp only [List.getElem?_toArray, List.getElem?_cons_succ, List.getElem?_cons_zero]; rfl)) (fun K hK => ?_) AllReadyH.nil)
    go_simp
    (go_at_call 9; with_reducible refine (fcost_any _ _ _ _ _ _ _ _ _).mono ?_)
    rintro _ wk1 ⟨⟨k1, rfl⟩, hb⟩
    (try go_wp2_with fail)
    replace KX := KX.on hb
    replace KY := KY.on hb
    replace KZ := KZ.on hb
    replace R1 := R1.on hb
    replace R2 := R2.on hb
    replace R3 := R3.on hb
    replace BW := BW.trans (hb.mono BW.size)
    clear hb
    refine hK.out _ _ (by exact ⟨KX.c 0 _ rfl, KX.c 1 _ rfl, KX.c 2 _ rfl, KX.c 3 _ rfl, KY.c 0 _ rfl, KY.c 1 _ rfl, KY.c 2 _ rfl, KY.c 3 _ rfl, KZ.c 0 _ rfl, KZ.c 1 _ rfl, KZ.c 2 _ rfl, KZ.c 3 _ rfl⟩) (fun hHeld => ?_)
    clear hK
    (try simp only [Act.put, List.setIfInBounds_toArray, List.set_cons_zero, List.set_cons_succ])
    refine wpAnyH_ready (rs := [5]) (by kernel_rfl) (by simp) (AllReadyH.cons (by (simp only [List.getElem?_toArray, List.getElem?_cons_succ, List.getElem?_cons_zero]; rfl)) (fun K hK => ?_) AllReadyH.nil)
    go_simp
    (go_at_call 9; with_reducible refine (fcost_any _ _ _ _ _ _ _ _ _).mono ?_)
    rintro _ wk2 ⟨⟨k2, rfl⟩, hb⟩
    (try go_wp2_with fail)
    replace KX := KX.on hb
    replace KY := KY.on hb
    replace KZ := KZ.on hb
    replace R1 := R1.on hb
    replace R2 := R2.on hb
    replace R3 := R3.on hb
    replace BW := BW.trans (hb.mono BW.size)
    clear hb
    refine hK.out _ _ (by exact ⟨KX.c 0 _ rfl, KX.c 1 _ rfl, KX.c 2 _ rfl, KX.c 3 _ rfl, KY.c 0 _ rfl, KY.c 1 _ rfl, KY.c 2 _ rfl, KY.c 3 _ rfl, KZ.c 0 _ rfl, KZ.c 1 _ rfl, KZ.c 2 _ rfl, KZ.c 3 _ rfl⟩) (fun hHeld => ?_)
    clear hK
    (try simp only [Act.put, List.setIfInBounds_toArray, List.set_cons_zero, List.set_cons_succ])
    refine wpAnyH_ready (rs := [6]) (by kernel_rfl) (by simp) (AllReadyH.cons (by (simp only [List.getElem?_toArray, List.getElem?_cons_succ, List.getElem?_cons_zero]; rfl)) (fun K hK => ?_) AllReadyH.nil)
    go_simp
    have hb : Below wk2.heap.size wk2 (wk2.alloc (.cells #[.int .i64 k0, .int .i64 k1, .int .i64 k2] 3)) := Below.alloc (Below.refl _ _) (Nat.le_refl _) _
    have KB := Box.new wk2 [.int .i64 k0, .int .i64 k1, .int .i64 k2] 3
    replace KX := KX.on hb
    replace KY := KY.on hb
    replace KZ := KZ.on hb
    replace R1 := R1.on hb
    replace R2 := R2.on hb
    replace R3 := R3.on hb
    replace BW := BW.trans (hb.mono BW.size)
    clear hb
    generalize (wk2.alloc (.cells #[.int .i64 k0, .int .i64 k1, .int .i64 k2] 3)) = wb at *
    generalize wk2.heap.size = pB at *
    refine hK.out _ _ (by exact ⟨KX.c 0 _ rfl, KX.c 1 _ rfl, KX.c 2 _ rfl, KX.c 3 _ rfl, KY.c 0 _ rfl, KY.c 1 _ rfl, KY.c 2 _ rfl, KY.c 3 _ rfl, KZ.c 0 _ rfl, KZ.c 1 _ rfl, KZ.c 2 _ rfl, KZ.c 3 _ rfl⟩) (fun hHeld => ?_)
    clear hK
    (try simp only [Act.put, List.setIfInBounds_toArray, List.set_cons_zero, List.set_cons_succ])
    refine wpAnyH_ready (rs := [7]) (by kernel_rfl) (by simp) (AllReadyH.cons (by (simp only [List.getElem?_toArray, List.getElem?_cons_succ, List.getElem?_cons_zero]; rfl)) (fun K hK => ?_) AllReadyH.nil)
    go_simp
    (go_at_call 8; with_reducible refine (beyond_three _ _ _ _ _ _ (KB.c 0 _ rfl) (KB.c 1 _ rfl) (KB.c 2 _ rfl)).mono ?_)
    rintro _ wy ⟨⟨b, rfl⟩, hb⟩
    (try go_wp2_with fail)
    replace KX := KX.on hb
    replace KY := KY.on hb
    replace KZ := KZ.on hb
    replace R1 := R1.on hb
    replace R2 := R2.on hb
    replace R3 := R3.on hb
    replace BW := BW.trans (hb.mono BW.size)
    clear hb
    refine hK.out _ _ (by exact ⟨KX.c 0 _ rfl, KX.c 1 _ rfl, KX.c 2 _ rfl, KX.c 3 _ rfl, KY.c 0 _ rfl, KY.c 1 _ rfl, KY.c 2 _ rfl, KY.c 3 _ rfl, KZ.c 0 _ rfl, KZ.c 1 _ rfl, KZ.c 2 _ rfl, KZ.c 3 _ rfl⟩) (fun hHeld => ?_)
    clear hK
    (try simp only [Act.put, List.setIfInBounds_toArray, List.set_cons_zero, List.set_cons_succ])
    clear KB
    refine wpAnyH_take (i := 8) (v := ?_) (by (simp only [List.getElem?_toArray, List.getElem?_cons_succ, List.getElem?_cons_zero]; rfl)) (by kernel_rfl) (by kernel_rfl) (by kernel_rfl) (fun _ _ _ h => h) (Or.inl ⟨by rfl, ?_⟩) (by assumption) ?_
    rotate_left
    · intro wt hSw
      (try dsimp only at hSw)
      go_simp
      (try with_reducible rfl)
    (try simp only [Act.put, List.setIfInBounds_toArray, List.set_cons_zero, List.set_cons_succ])
    cases b with
    | true =>
      refine wpAnyH_take (i := 9) (v := undef) (by (simp only [List.getElem?_toArray, List.getElem?_cons_succ, List.getElem?_cons_zero]; rfl)) (by kernel_rfl) (by kernel_rfl) (by kernel_rfl) (fun _ _ _ h => h) (Or.inr ⟨by rfl, rfl⟩) (by assumption) ?_
      (try simp only [Act.put, List.setIfInBounds_toArray, List.set_cons_zero, List.set_cons_succ])
      refine wpAnyH_take (i := 10) (v := undef) (by (simp only [List.getElem?_toArray, List.getElem?_cons_succ, List.getElem?_cons_zero]; rfl)) (by kernel_rfl) (by kernel_rfl) (by kernel_rfl) (fun _ _ _ h => h) (Or.inr ⟨by rfl, rfl⟩) (by assumption) ?_
      (try simp only [Act.put, List.setIfInBounds_toArray, List.set_cons_zero, List.set_cons_succ])
      refine wpAnyH_take (i := 11) (v := undef) (by (simp only [List.getElem?_toArray, List.getElem?_cons_succ, List.getElem?_cons_zero]; rfl)) (by kernel_rfl) (by kernel_rfl) (by kernel_rfl) (fun _ _ _ h => h) (Or.inr ⟨by rfl, rfl⟩) (by assumption) ?_
      (try simp only [Act.put, List.setIfInBounds_toArray, List.set_cons_zero, List.set_cons_succ])
      refine wpAnyH_take (i := 12) (v := ?_) (by (simp only [List.getElem?_toArray, List.getElem?_cons_succ, List.getElem?_cons_zero]; rfl)) (by kernel_rfl) (by kernel_rfl) (by kernel_rfl) (fun _ _ _ h => h) (Or.inl ⟨by rfl, ?_⟩) (by assumption) ?_
      rotate_left
      · intro wt hSw
        (try dsimp only at hSw)
        go_simp
        (try with_reducible rfl)
      (try simp only [Act.put, List.setIfInBounds_toArray, List.set_cons_zero, List.set_cons_succ])
      refine wpAnyH_take (i := 13) (v := ?_) (by (simp only [List.getElem?_toArray, List.getElem?_cons_succ, List.getElem?_cons_zero]; rfl)) (by kernel_rfl) (by kernel_rfl) (by kernel_rfl) (fun _ _ _ h => h) (Or.inl ⟨by rfl, ?_⟩) (by assumption) ?_
      rotate_left
      · intro wt hSw
        (try dsimp only at hSw)
        go_simp
        (try with_reducible rfl)
      (try simp only [Act.put, List.setIfInBounds_toArray, List.set_cons_zero, List.set_cons_succ])
      refine wpAnyH_take (i := 14) (v := undef) (by (simp only [List.getElem?_toArray, List.getElem?_cons_succ, List.getElem?_cons_zero]; rfl)) (by kernel_rfl) (by kernel_rfl) (by kernel_rfl) (fun _ _ _ h => h) (Or.inr ⟨by rfl, rfl⟩) (by assumption) ?_
      (try simp only [Act.put, List.setIfInBounds_toArray, List.set_cons_zero, List.set_cons_succ])
      refine wpAnyH_take (i := 15) (v := undef) (by (simp only [List.getElem?_toArray, List.getElem?_cons_succ, List.getElem?_cons_zero]; rfl)) (by kernel_rfl) (by kernel_rfl) (by kernel_rfl) (fun _ _ _ h => h) (Or.inr ⟨by rfl, rfl⟩) (by assumption) ?_
      (try simp only [Act.put, List.setIfInBounds_toArray, List.set_cons_zero, List.set_cons_succ])
      refine wpAnyH_take (i := 16) (v := undef) (by (simp only [List.getElem?_toArray, List.getElem?_cons_succ, List.getElem?_cons_zero]; rfl)) (by kernel_rfl) (by kernel_rfl) (by kernel_rfl) (fun _ _ _ h => h) (Or.inr ⟨by rfl, rfl⟩) (by assumption) ?_
      (try simp only [Act.put, List.setIfInBounds_toArray, List.set_cons_zero, List.set_cons_succ])
      refine wpAnyH_take (i := 17) (v := ?_) (by (simp only [List.getElem?_toArray, List.getElem?_cons_succ, List.getElem?_cons_zero]; rfl)) (by kernel_rfl) (by kernel_rfl) (by kernel_rfl) (fun _ _ _ h => h) (Or.inl ⟨by rfl, ?_⟩) (by assumption) ?_
      rotate_left
      · intro wt hSw
        (try dsimp only at hSw)
        go_simp
        (try with_reducible rfl)
      (try simp only [Act.put, List.setIfInBounds_toArray, List.set_cons_zero, List.set_cons_succ])
      refine wpAnyH_take (i := 18) (v := ?_) (by (simp only [List.getElem?_toArray, List.getElem?_cons_succ, List.getElem?_cons_zero]; rfl)) (by kernel_rfl) (by kernel_rfl) (by kernel_rfl) (fun _ _ _ h => h) (Or.inl ⟨by rfl, ?_⟩) (by assumption) ?_
      rotate_left
      · intro wt hSw
        (try dsimp only at hSw)
        go_simp
        (try with_reducible rfl)
      (try simp only [Act.put, List.setIfInBounds_toArray, List.set_cons_zero, List.set_cons_succ])
      refine wpAnyH_take (i := 19) (v := undef) (by (simp only [List.getElem?_toArray, List.getElem?_cons_succ, List.getElem?_cons_zero]; rfl)) (by kernel_rfl) (by kernel_rfl) (by kernel_rfl) (fun _ _ _ h => h) (Or.inr ⟨by rfl, rfl⟩) (by assumption) ?_
      (try simp only [Act.put, List.setIfInBounds_toArray, List.set_cons_zero, List.set_cons_succ])
      refine wpAnyH_take (i := 20) (v := undef) (by (simp only [List.getElem?_toArray, List.getElem?_cons_succ, List.getElem?_cons_zero]; rfl)) (by kernel_rfl) (by kernel_rfl) (by kernel_rfl) (fun _ _ _ h => h) (Or.inr ⟨by rfl, rfl⟩) (by assumption) ?_
      (try simp only [Act.put, List.setIfInBounds_toArray, List.set_cons_zero, List.set_cons_succ])
      refine wpAnyH_take (i := 21) (v := undef) (by (simp only [List.getElem?_toArray, List.getElem?_cons_succ, List.getElem?_cons_zero]; rfl)) (by kernel_rfl) (by kernel_rfl) (by kernel_rfl) (fun _ _ _ h => h) (Or.inr ⟨by rfl, rfl⟩) (by assumption) ?_
      (try simp only [Act.put, List.setIfInBounds_toArray, List.set_cons_zero, List.set_cons_succ])
      refine wpAnyH_take (i := 22) (v := ?_) (by (simp only [List.getElem?_toArray, List.getElem?_cons_succ, List.getElem?_cons_zero]; rfl)) (by kernel_rfl) (by kernel_rfl) (by kernel_rfl) (fun _ _ _ h => h) (Or.inl ⟨by rfl, ?_⟩) (by assumption) ?_
      rotate_left
      · intro wt hSw
        (try dsimp only at hSw)
        go_simp
        (try with_reducible rfl)
      (try simp only [Act.put, List.setIfInBounds_toArray, List.set_cons_zero, List.set_cons_succ])
      refine wpAnyH_done (by kernel_rfl) (NoPanic.normal ?_) _
      go_wp2
      go_meet
      exact ⟨true, rfl, (fun h => by cases h), BW, KX, KY, KZ, R1, R2, R3⟩
    | false =>
      refine wpAnyH_take (i := 9) (v := ?_) (by (simp only [List.getElem?_toArray, List.getElem?_cons_succ, List.getElem?_cons_zero]; rfl)) (by kernel_rfl) (by kernel_rfl) (by kernel_rfl) (fun _ _ _ h => h) (Or.inl ⟨by rfl, ?_⟩) (by assumption) ?_
      rotate_left
      · intro wt hSw
        (try dsimp only at hSw)
        go_simp
        (try with_reducible rfl)
      (try simp only [Act.put, List.setIfInBounds_toArray, List.set_cons_zero, List.set_cons_succ])
      refine wpAnyH_ready (rs := [10]) (by kernel_rfl) (by simp) (AllReadyH.cons (by (simp only [List.getElem?_toArray, List.getElem?_cons_succ, List.getElem?_cons_zero]; rfl)) (fun K hK => ?_) AllReadyH.nil)
      go_simp
      (go_at_call 10; with_reducible refine (fcheck_any n1 m1 A1 B1 x1 d1 c1 l1 _ R1).mono ?_)
      rintro _ wv1 ⟨rfl, hb⟩
      (try go_wp2_with fail)
      replace KX := KX.on hb
      replace KY := KY.on hb
      replace KZ := KZ.on hb
      replace R1 := R1.on hb
      replace R2 := R2.on hb
      replace R3 := R3.on hb
      replace BW := BW.trans (hb.mono BW.size)
      clear hb
      refine hK.out _ _ (by exact ⟨KX.c 0 _ rfl, KX.c 1 _ rfl, KX.c 2 _ rfl, KX.c 3 _ rfl, KY.c 0 _ rfl, KY.c 1 _ rfl, KY.c 2 _ rfl, KY.c 3 _ rfl, KZ.c 0 _ rfl, KZ.c 1 _ rfl, KZ.c 2 _ rfl, KZ.c 3 _ rfl⟩) (fun hHeld => ?_)
      clear hK
      (try simp only [Act.put, List.setIfInBounds_toArray, List.set_cons_zero, List.set_cons_succ])
      by_cases o1 : Okf n1 x1 m1 d1
      · rw [chkF_ok o1]
        refine wpAnyH_take (i := 11) (v := ?_) (by (simp only [List.getElem?_toArray, List.getElem?_cons_succ, List.getElem?_cons_zero]; rfl)) (by kernel_rfl) (by kernel_rfl) (by kernel_rfl) (fun _ _ _ h => h) (Or.inl ⟨by rfl, ?_⟩) (by assumption) ?_
        rotate_left
        · intro wt hSw
          (try dsimp only at hSw)
          go_simp
          (try with_reducible rfl)
        (try simp only [Act.put, List.setIfInBounds_toArray, List.set_cons_zero, List.set_cons_succ])
        refine wpAnyH_take (i := 12) (v := ?_) (by (simp only [List.getElem?_toArray, List.getElem?_cons_succ, List.getElem?_cons_zero]; rfl)) (by kernel_rfl) (by kernel_rfl) (by kernel_rfl) (fun _ _ _ h => h) (Or.inl ⟨by rfl, ?_⟩) (by assumption) ?_
        rotate_left
        · intro wt hSw
          (try dsimp only at hSw)
          go_simp
          (try with_reducible rfl)
        (try simp only [Act.put, List.setIfInBounds_toArray, List.set_cons_zero, List.set_cons_succ])
        refine wpAnyH_take (i := 13) (v := ?_) (by (simp only [List.getElem?_toArray, List.getElem?_cons_succ, List.getElem?_cons_zero]; rfl)) (by kernel_rfl) (by kernel_rfl) (by kernel_rfl) (fun _ _ _ h => h) (Or.inl ⟨by rfl, ?_⟩) (by assumption) ?_
        rotate_left
        · intro wt hSw
          (try dsimp only at hSw)
          go_simp
          (try with_reducible rfl)
        (try simp only [Act.put, List.setIfInBounds_toArray, List.set_cons_zero, List.set_cons_succ])
        refine wpAnyH_take (i := 14) (v := ?_) (by (simp only [List.getElem?_toArray, List.getElem?_cons_succ, List.getElem?_cons_zero]; rfl)) (by kernel_rfl) (by kernel_rfl) (by kernel_rfl) (fun _ _ _ h => h) (Or.inl ⟨by rfl, ?_⟩) (by assumption) ?_
        rotate_left
        · intro wt hSw
          (try dsimp only at hSw)
          go_simp
          (try with_reducible rfl)
        (try simp only [Act.put, List.setIfInBounds_toArray, List.set_cons_zero, List.set_cons_succ])
        refine wpAnyH_ready (rs := [15]) (by kernel_rfl) (by simp) (AllReadyH.cons (by (simp only [List.getElem?_toArray, List.getElem?_cons_succ, List.getElem?_cons_zero]; rfl)) (fun K hK => ?_) AllReadyH.nil)
        go_simp
        (go_at_call 10; with_reducible refine (fcheck_any n2 m2 A2 B2 x2 d2 c2 l2 _ R2).mono ?_)
        rintro _ wv2 ⟨rfl, hb⟩
        (try go_wp2_with fail)
        replace KX := KX.on hb
        replace KY := KY.on hb
        replace KZ := KZ.on hb
        replace R1 := R1.on hb
        replace R2 := R2.on hb
        replace R3 := R3.on hb
        replace BW := BW.trans (hb.mono BW.size)
        clear hb
        refine hK.out _ _ (by exact ⟨KX.c 0 _ rfl, KX.c 1 _ rfl, KX.c 2 _ rfl, KX.c 3 _ rfl, KY.c 0 _ rfl, KY.c 1 _ rfl, KY.c 2 _ rfl, KY.c 3 _ rfl, KZ.c 0 _ rfl, KZ.c 1 _ rfl, KZ.c 2 _ rfl, KZ.c 3 _ rfl⟩) (fun hHeld => ?_)
        clear hK
        (try simp only [Act.put, List.setIfInBounds_toArray, List.set_cons_zero, List.set_cons_succ])
        by_cases o2 : Okf n2 x2 m2 d2
        · rw [chkF_ok o2]
          refine wpAnyH_take (i := 16) (v := ?_) (by (simp only [List.getElem?_toArray, List.getElem?_cons_succ, List.getElem?_cons_zero]; rfl)) (by kernel_rfl) (by kernel_rfl) (by kernel_rfl) (fun _ _ _ h => h) (Or.inl ⟨by rfl, ?_⟩) (by assumption) ?_
          rotate_left
          · intro wt hSw
            (try dsimp only at hSw)
            go_simp
            (try with_reducible rfl)
          (try simp only [Act.put, List.setIfInBounds_toArray, List.set_cons_zero, List.set_cons_succ])
          refine wpAnyH_take (i := 17) (v := ?_) (by (simp only [List.getElem?_toArray, List.getElem?_cons_succ, List.getElem?_cons_zero]; rfl)) (by kernel_rfl) (by kernel_rfl) (by kernel_rfl) (fun _ _ _ h => h) (Or.inl ⟨by rfl, ?_⟩) (by assumption) ?_
          rotate_left
          · intro wt hSw
            (try dsimp only at hSw)
            go_simp
            (try with_reducible rfl)
          (try simp only [Act.put, List.setIfInBounds_toArray, List.set_cons_zero, List.set_cons_succ])
          refine wpAnyH_take (i := 18) (v := ?_) (by (simp only [List.getElem?_toArray, List.getElem?_cons_succ, List.getElem?_cons_zero]; rfl)) (by kernel_rfl) (by kernel_rfl) (by kernel_rfl) (fun _ _ _ h => h) (Or.inl ⟨by rfl, ?_⟩) (by assumption) ?_
          rotate_left
          · intro wt hSw
            (try dsimp only at hSw)
            go_simp
            (try with_reducible rfl)
          (try simp only [Act.put, List.setIfInBounds_toArray, List.set_cons_zero, List.set_cons_succ])
          refine wpAnyH_take (i := 19) (v := ?_) (by (simp only [List.getElem?_toArray, List.getElem?_cons_succ, List.getElem?_cons_zero]; rfl)) (by kernel_rfl) (by kernel_rfl) (by kernel_rfl) (fun _ _ _ h => h) (Or.inl ⟨by rfl, ?_⟩) (by assumption) ?_
          rotate_left
          · intro wt hSw
            (try dsimp only at hSw)
            go_simp
            (try with_reducible rfl)
          (try simp only [Act.put, List.setIfInBounds_toArray, List.set_cons_zero, List.set_cons_succ])
          refine wpAnyH_ready (rs := [20]) (by kernel_rfl) (by simp) (AllReadyH.cons (by (simp only [List.getElem?_toArray, List.getElem?_cons_succ, List.getElem?_cons_zero]; rfl)) (fun K hK => ?_) AllReadyH.nil)
          go_simp
          (go_at_call 10; with_reducible refine (fcheck_any n3 m3 A3 B3 x3 d3 c3 l3 _ R3).mono ?_)
          rintro _ wv3 ⟨rfl, hb⟩
          (try go_wp2_with fail)
          replace KX := KX.on hb
          replace KY := KY.on hb
          replace KZ := KZ.on hb
          replace R1 := R1.on hb
          replace R2 := R2.on hb
          replace R3 := R3.on hb
          replace BW := BW.trans (hb.mono BW.size)
          clear hb
          refine hK.out _ _ (by exact ⟨KX.c 0 _ rfl, KX.c 1 _ rfl, KX.c 2 _ rfl, KX.c 3 _ rfl, KY.c 0 _ rfl, KY.c 1 _ rfl, KY.c 2 _ rfl, KY.c 3 _ rfl, KZ.c 0 _ rfl, KZ.c 1 _ rfl, KZ.c 2 _ rfl, KZ.c 3 _ rfl⟩) (fun hHeld => ?_)
          clear hK
          (try simp only [Act.put, List.setIfInBounds_toArray, List.set_cons_zero, List.set_cons_succ])
          by_cases o3 : Okf n3 x3 m3 d3
          · rw [chkF_ok o3]
            refine wpAnyH_take (i := 21) (v := ?_) (by (simp only [List.getElem?_toArray, List.getElem?_cons_succ, List.getElem?_cons_zero]; rfl)) (by kernel_rfl) (by kernel_rfl) (by kernel_rfl) (fun _ _ _ h => h) (Or.inl ⟨by rfl, ?_⟩) (by assumption) ?_
            rotate_left
            · intro wt hSw
              (try dsimp only at hSw)
              go_simp
              (try with_reducible rfl)
            (try simp only [Act.put, List.setIfInBounds_toArray, List.set_cons_zero, List.set_cons_succ])
            refine wpAnyH_take (i := 22) (v := ?_) (by (simp only [List.getElem?_toArray, List.getElem?_cons_succ, List.getElem?_cons_zero]; rfl)) (by kernel_rfl) (by kernel_rfl) (by kernel_rfl) (fun _ _ _ h => h) (Or.inl ⟨by rfl, ?_⟩) (by assumption) ?_
            rotate_left
            · intro wt hSw
              (try dsimp only at hSw)
              go_simp
              (try with_reducible rfl)
            (try simp only [Act.put, List.setIfInBounds_toArray, List.set_cons_zero, List.set_cons_succ])
            refine wpAnyH_done (by kernel_rfl) (NoPanic.normal ?_) _
            go_wp2
            go_meet
            exact ⟨false, rfl, (fun _ => ⟨o1, o2, o3⟩), BW, KX, KY, KZ, R1, R2, R3⟩
          · rw [chkF_bad o3]
            refine wpAnyH_take (i := 21) (v := ?_) (by (simp only [List.getElem?_toArray, List.getElem?_cons_succ, List.getElem?_cons_zero]; rfl)) (by kernel_rfl) (by kernel_rfl) (by kernel_rfl) (fun _ _ _ h => h) (Or.inl ⟨by rfl, ?_⟩) (by assumption) ?_
            rotate_left
            · intro wt hSw
              (try dsimp only at hSw)
              go_simp
              (try with_reducible rfl)
            (try simp only [Act.put, List.setIfInBounds_toArray, List.set_cons_zero, List.set_cons_succ])
            refine wpAnyH_take (i := 22) (v := ?_) (by (simp only [List.getElem?_toArray, List.getElem?_cons_succ, List.getElem?_cons_zero]; rfl)) (by kernel_rfl) (by kernel_rfl) (by kernel_rfl) (fun _ _ _ h => h) (Or.inl ⟨by rfl, ?_⟩) (by assumption) ?_
            rotate_left
            · intro wt hSw
              (try dsimp only at hSw)
              go_simp
              (try with_reducible rfl)
            (try simp only [Act.put, List.setIfInBounds_toArray, List.set_cons_zero, List.set_cons_succ])
            refine wpAnyH_done (by kernel_rfl) (NoPanic.normal ?_) _
            go_wp2
            go_meet
            exact ⟨true, rfl, (fun h => by cases h), BW, KX, KY, KZ, R1, R2, R3⟩
        · rw [chkF_bad o2]
          refine wpAnyH_take (i := 16) (v := ?_) (by (simp only [List.getElem?_toArray, List.getElem?_cons_succ, List.getElem?_cons_zero]; rfl)) (by kernel_rfl) (by kernel_rfl) (by kernel_rfl) (fun _ _ _ h => h) (Or.inl ⟨by rfl, ?_⟩) (by assumption) ?_
          rotate_left
          · intro wt hSw
            (try dsimp only at hSw)
            go_simp
            (try with_reducible rfl)
          (try simp only [Act.put, List.setIfInBounds_toArray, List.set_cons_zero, List.set_cons_succ])
          refine wpAnyH_take (i := 17) (v := ?_) (by (simp only [List.getElem?_toArray, List.getElem?_cons_succ, List.getElem?_cons_zero]; rfl)) (by kernel_rfl) (by kernel_rfl) (by kernel_rfl) (fun _ _ _ h => h) (Or.inl ⟨by rfl, ?_⟩) (by assumption) ?_
          rotate_left
          · intro wt hSw
            (try dsimp only at hSw)
            go_simp
            (try with_reducible rfl)
          (try simp only [Act.put, List.setIfInBounds_toArray, List.set_cons_zero, List.set_cons_succ])
          refine wpAnyH_take (i := 18) (v := ?_) (by (simp only [List.getElem?_toArray, List.getElem?_cons_succ, List.getElem?_cons_zero]; rfl)) (by kernel_rfl) (by kernel_rfl) (by kernel_rfl) (fun _ _ _ h => h) (Or.inl ⟨by rfl, ?_⟩) (by assumption) ?_
          rotate_left
          · intro wt hSw
            (try dsimp only at hSw)
            go_simp
            (try with_reducible rfl)
          (try simp only [Act.put, List.setIfInBounds_toArray, List.set_cons_zero, List.set_cons_succ])
          refine wpAnyH_take (i := 19) (v := undef) (by (simp only [List.getElem?_toArray, List.getElem?_cons_succ, List.getElem?_cons_zero]; rfl)) (by kernel_rfl) (by kernel_rfl) (by kernel_rfl) (fun _ _ _ h => h) (Or.inr ⟨by rfl, rfl⟩) (by assumption) ?_
          (try simp only [Act.put, List.setIfInBounds_toArray, List.set_cons_zero, List.set_cons_succ])
          refine wpAnyH_take (i := 20) (v := undef) (by (simp only [List.getElem?_toArray, List.getElem?_cons_succ, List.getElem?_cons_zero]; rfl)) (by kernel_rfl) (by kernel_rfl) (by kernel_rfl) (fun _ _ _ h => h) (Or.inr ⟨by rfl, rfl⟩) (by assumption) ?_
          (try simp only [Act.put, List.setIfInBounds_toArray, List.set_cons_zero, List.set_cons_succ])
          refine wpAnyH_take (i := 21) (v := undef) (by (simp only [List.getElem?_toArray, List.getElem?_cons_succ, List.getElem?_cons_zero]; rfl)) (by kernel_rfl) (by kernel_rfl) (by kernel_rfl) (fun _ _ _ h => h) (Or.inr ⟨by rfl, rfl⟩) (by assumption) ?_
          (try simp only [Act.put, List.setIfInBounds_toArray, List.set_cons_zero, List.set_cons_succ])
          refine wpAnyH_take (i := 22) (v := ?_) (by (simp only [List.getElem?_toArray, List.getElem?_cons_succ, List.getElem?_cons_zero]; rfl)) (by kernel_rfl) (by kernel_rfl) (by kernel_rfl) (fun _ _ _ h => h) (Or.inl ⟨by rfl, ?_⟩) (by assumption) ?_
          rotate_left
          · intro wt hSw
            (try dsimp only at hSw)
            go_simp
            (try with_reducible rfl)
          (try simp only [Act.put, List.setIfInBounds_toArray, List.set_cons_zero, List.set_cons_succ])
          refine wpAnyH_done (by kernel_rfl) (NoPanic.normal ?_) _
          go_wp2
          go_meet
          exact ⟨true, rfl, (fun h => by cases h), BW, KX, KY, KZ, R1, R2, R3⟩
      · rw [chkF_bad o1]
        refine wpAnyH_take (i := 11) (v := ?_) (by (simp only [List.getElem?_toArray, List.getElem?_cons_succ, List.getElem?_cons_zero]; rfl)) (by kernel_rfl) (by kernel_rfl) (by kernel_rfl) (fun _ _ _ h => h) (Or.inl ⟨by rfl, ?_⟩) (by assumption) ?_
        rotate_left
        · intro wt hSw
          (try dsimp only at hSw)
          go_simp
          (try with_reducible rfl)
        (try simp only [Act.put, List.setIfInBounds_toArray, List.set_cons_zero, List.set_cons_succ])
        refine wpAnyH_take (i := 12) (v := ?_) (by (simp only [List.getElem?_toArray, List.getElem?_cons_succ, List.getElem?_cons_zero]; rfl)) (by kernel_rfl) (by kernel_rfl) (by kernel_rfl) (fun _ _ _ h => h) (Or.inl ⟨by rfl, ?_⟩) (by assumption) ?_
        rotate_left
        · intro wt hSw
          (try dsimp only at hSw)
          go_simp
          (try with_reducible rfl)
        (try simp only [Act.put, List.setIfInBounds_toArray, List.set_cons_zero, List.set_cons_succ])
        refine wpAnyH_take (i := 13) (v := ?_) (by (simp only [List.getElem?_toArray, List.getElem?_cons_succ, List.getElem?_cons_zero]; rfl)) (by kernel_rfl) (by kernel_rfl) (by kernel_rfl) (fun _ _ _ h => h) (Or.inl ⟨by rfl, ?_⟩) (by assumption) ?_
        rotate_left
        · intro wt hSw
          (try dsimp only at hSw)
          go_simp
          (try with_reducible rfl)
        (try simp only [Act.put, List.setIfInBounds_toArray, List.set_cons_zero, List.set_cons_succ])
        refine wpAnyH_take (i := 14) (v := undef) (by (simp only [List.getElem?_toArray, List.getElem?_cons_succ, List.getElem?_cons_zero]; rfl)) (by kernel_rfl) (by kernel_rfl) (by kernel_rfl) (fun _ _ _ h => h) (Or.inr ⟨by rfl, rfl⟩) (by assumption) ?_
        (try simp only [Act.put, List.setIfInBounds_toArray, List.set_cons_zero, List.set_cons_succ])
        refine wpAnyH_take (i := 15) (v := undef) (by (simp only [List.getElem?_toArray, List.getElem?_cons_succ, List.getElem?_cons_zero]; rfl)) (by kernel_rfl) (by kernel_rfl) (by kernel_rfl) (fun _ _ _ h => h) (Or.inr ⟨by rfl, rfl⟩) (by assumption) ?_
        (try simp only [Act.put, List.setIfInBounds_toArray, List.set_cons_zero, List.set_cons_succ])
        refine wpAnyH_take (i := 16) (v := undef) (by (simp only [List.getElem?_toArray, List.getElem?_cons_succ, List.getElem?_cons_zero]; rfl)) (by kernel_rfl) (by kernel_rfl) (by kernel_rfl) (fun _ _ _ h => h) (Or.inr ⟨by rfl, rfl⟩) (by assumption) ?_
        (try simp only [Act.put, List.setIfInBounds_toArray, List.set_cons_zero, List.set_cons_succ])
        refine wpAnyH_take (i := 17) (v := ?_) (by (simp only [List.getElem?_toArray, List.getElem?_cons_succ, List.getElem?_cons_zero]; rfl)) (by kernel_rfl) (by kernel_rfl) (by kernel_rfl) (fun _ _ _ h => h) (Or.inl ⟨by rfl, ?_⟩) (by assumption) ?_
        rotate_left
        · intro wt hSw
          (try dsimp only at hSw)
          go_simp
          (try with_reducible rfl)
        (try simp only [Act.put, List.setIfInBounds_toArray, List.set_cons_zero, List.set_cons_succ])
        refine wpAnyH_take (i := 18) (v := ?_) (by (simp only [List.getElem?_toArray, List.getElem?_cons_succ, List.getElem?_cons_zero]; rfl)) (by kernel_rfl) (by kernel_rfl) (by kernel_rfl) (fun _ _ _ h => h) (Or.inl ⟨by rfl, ?_⟩) (by assumption) ?_
        rotate_left
        · intro wt hSw
          (try dsimp only at hSw)
          go_simp
          (try with_reducible rfl)
        (try simp only [Act.put, List.setIfInBounds_toArray, List.set_cons_zero, List.set_cons_succ])
        refine wpAnyH_take (i := 19) (v := undef) (by (simp only [List.getElem?_toArray, List.getElem?_cons_succ, List.getElem?_cons_zero]; rfl)) (by kernel_rfl) (by kernel_rfl) (by kernel_rfl) (fun _ _ _ h => h) (Or.inr ⟨by rfl, rfl⟩) (by assumption) ?_
        (try simp only [Act.put, List.setIfInBounds_toArray, List.set_cons_zero, List.set_cons_succ])
        refine wpAnyH_take (i := 20) (v := undef) (by (simp only [List.getElem?_toArray, List.getElem?_cons_succ, List.getElem?_cons_zero]; rfl)) (by kernel_rfl) (by kernel_rfl) (by kernel_rfl) (fun _ _ _ h => h) (Or.inr ⟨by rfl, rfl⟩) (by assumption) ?_
        (try simp only [Act.put, List.setIfInBounds_toArray, List.set_cons_zero, List.set_cons_succ])
        refine wpAnyH_take (i := 21) (v := undef) (by (simp only [List.getElem?_toArray, List.getElem?_cons_succ, List.getElem?_cons_zero]; rfl)) (by kernel_rfl) (by kernel_rfl) (by kernel_rfl) (fun _ _ _ h => h) (Or.inr ⟨by rfl, rfl⟩) (by assumption) ?_
        (try simp only [Act.put, List.setIfInBounds_toArray, List.set_cons_zero, List.set_cons_succ])
        refine wpAnyH_take (i := 22) (v := ?_) (by (simp only [List.getElem?_toArray, List.getElem?_cons_succ, List.getElem?_cons_zero]; rfl)) (by kernel_rfl) (by kernel_rfl) (by kernel_rfl) (fun _ _ _ h => h) (Or.inl ⟨by rfl, ?_⟩) (by assumption) ?_
        rotate_left
        · intro wt hSw
          (try dsimp only at hSw)
          go_simp
          (try with_reducible rfl)
        (try simp only [Act.put, List.setIfInBounds_toArray, List.set_cons_zero, List.set_cons_succ])
        refine wpAnyH_done (by kernel_rfl) (NoPanic.normal ?_) _
        go_wp2
        go_meet
        exact ⟨true, rfl, (fun h => by cases h), BW, KX, KY, KZ, R1, R2, R3⟩
  case rest =>
    obtain ⟨r, rfl, hr, BW, KX, KY, KZ, R1, R2, R3⟩ := hcut
    cases r with
    | true =>
      have KX_0 := KX.c 0 _ rfl
      have KX_1 := KX.c 1 _ rfl
      have KX_2 := KX.c 2 _ rfl
      have KX_3 := KX.c 3 _ rfl
      have KY_0 := KY.c 0 _ rfl
      have KY_1 := KY.c 1 _ rfl
      have KY_2 := KY.c 2 _ rfl
      have KY_3 := KY.c 3 _ rfl
      have KZ_0 := KZ.c 0 _ rfl
      have KZ_1 := KZ.c 1 _ rfl
      have KZ_2 := KZ.c 2 _ rfl
      have KZ_3 := KZ.c 3 _ rfl
      go_wp2_with fail
      clear KX_0 KX_1 KX_2 KX_3 KY_0 KY_1 KY_2 KY_3 KZ_0 KZ_1 KZ_2 KZ_3
      refine (lives_any _ (tab_below HT.out BW)).mono ?_
      rintro _ wl ⟨rfl, hb⟩
      replace BW := BW.trans (hb.mono BW.size)
      go_wp2
      go_ret
      exact ⟨rfl, BW⟩
    | false =>
      obtain ⟨o1, o2, o3⟩ := hr rfl
      obtain rfl := o1.pos
      obtain rfl := o2.pos
      obtain rfl := o3.pos
      obtain ⟨q, L1⟩ := o1.lf (c := c1) (d := l1) R1
      obtain ⟨p, L2⟩ := o2.lf (c := c2) (d := l2) R2
      obtain ⟨s, L3⟩ := o3.lf (c := c3) (d := l3) R3
      clear hr o1 o2 o3 R1 R2 R3
      have C12 := Lib.hid (fun W (h : Lf W q n1 A1 x1 c1 B1 d1 l1) (k : Lf W p n2 A2 x2 c2 B2 d2 l2) => frac_cmp q p _ _ _ _ _ _ _ _ _ _ _ _ _ _ W h k)
      have C21 := Lib.hid (fun W (h : Lf W q n1 A1 x1 c1 B1 d1 l1) (k : Lf W p n2 A2 x2 c2 B2 d2 l2) => frac_cmp p q _ _ _ _ _ _ _ _ _ _ _ _ _ _ W k h)
      have CS := Lib.hid (fun W (h : Lf W q n1 A1 x1 c1 B1 d1 l1) (k : Lf W p n2 A2 x2 c2 B2 d2 l2) => same_frac q p _ _ _ _ _ _ _ _ _ _ _ _ _ _ W h k)
      have hsub : sgnQ (q - p) = cmpQ q p := sgnQ_sub q p
      have hswap := cmpQ_swap q p
      have hzero := cmpQ_zero q p
      have htr : cmpQ q p ≤ 0 → cmpQ p s ≤ 0 → cmpQ q s ≤ 0 := fun a b => (cmpQ_le q s).2 (Rat.le_trans ((cmpQ_le q p).1 a) ((cmpQ_le p s).1 b))
      have h3 : cmpQ q p = -1 ∨ cmpQ q p = 0 ∨ cmpQ q p = 1 := by unfold cmpQ; split <;> (try split) <;> simp
      have HTR := Lib.hid htr
      have HSUB := Lib.hid hsub
      clear htr hsub
      rcases h3 with hc | hc | hc
      · have e2 : cmpQ p q = 1 := by omega
        have e3 : decide (q = p) = false := by simp; intro e; rw [hzero.2 e] at hc; omega
        have D12 := C12.out
        have D21 := C21.out
        have DS := CS.out
        rw [hc] at D12 HTR HSUB
        rw [e2] at D21
        rw [e3] at DS
        clear C12 C21 CS hswap hzero e2 e3 hc
        have E12 := Lib.hid D12
        have E21 := Lib.hid D21
        have ES := Lib.hid DS
        clear D12 D21 DS
        have KX_0 := KX.c 0 _ rfl
        have KX_1 := KX.c 1 _ rfl
        have KX_2 := KX.c 2 _ rfl
        have KX_3 := KX.c 3 _ rfl
        have KY_0 := KY.c 0 _ rfl
        have KY_1 := KY.c 1 _ rfl
        have KY_2 := KY.c 2 _ rfl
        have KY_3 := KY.c 3 _ rfl
        have KZ_0 := KZ.c 0 _ rfl
        have KZ_1 := KZ.c 1 _ rfl
        have KZ_2 := KZ.c 2 _ rfl
        have KZ_3 := KZ.c 3 _ rfl
        go_wp2_with fail
        clear KX_0 KX_1 KX_2 KX_3 KY_0 KY_1 KY_2 KY_3 KZ_0 KZ_1 KZ_2 KZ_3
        refine (E12.out _ L1 L2).mono ?_
        rintro _ w3 ⟨rfl, hb⟩
        replace KX := KX.on hb
        replace KY := KY.on hb
        replace KZ := KZ.on hb
        replace L1 := L1.on hb
        replace L2 := L2.on hb
        replace L3 := L3.on hb
        replace BW := BW.trans (hb.mono BW.size)
        clear hb
        have KX_0 := KX.c 0 _ rfl
        have KX_1 := KX.c 1 _ rfl
        have KX_2 := KX.c 2 _ rfl
        have KX_3 := KX.c 3 _ rfl
        have KY_0 := KY.c 0 _ rfl
        have KY_1 := KY.c 1 _ rfl
        have KY_2 := KY.c 2 _ rfl
        have KY_3 := KY.c 3 _ rfl
        have KZ_0 := KZ.c 0 _ rfl
        have KZ_1 := KZ.c 1 _ rfl
        have KZ_2 := KZ.c 2 _ rfl
        have KZ_3 := KZ.c 3 _ rfl
        go_wp2_with fail
        clear KX_0 KX_1 KX_2 KX_3 KY_0 KY_1 KY_2 KY_3 KZ_0 KZ_1 KZ_2 KZ_3
        refine (frac_sub q p _ _ _ _ _ _ _ _ _ _ _ _ _ _ w3 L1 L2).mono ?_
        rintro _ w4 ⟨tn, tA, tz, tk, tm, tB, td, tl, er, rfl, Rt, hb⟩
        replace KX := KX.on hb
        replace KY := KY.on hb
        replace KZ := KZ.on hb
        replace L1 := L1.on hb
        replace L2 := L2.on hb
        replace L3 := L3.on hb
        replace BW := BW.trans (hb.mono BW.size)
        clear hb
        have hb : Below w4.heap.size w4 (w4.alloc (.cells #[.bool tn, .slice tA tz.length tk, .bool tm, .slice tB td.length tl] 26)) := by go_grown
        have KD := Box.new w4 [.bool tn, .slice tA tz.length tk, .bool tm, .slice tB td.length tl] 26
        replace KX := KX.on hb
        replace KY := KY.on hb
        replace KZ := KZ.on hb
        replace L1 := L1.on hb
        replace L2 := L2.on hb
        replace L3 := L3.on hb
        replace Rt := Rt.on hb
        replace BW := BW.trans (hb.mono BW.size)
        clear hb
        have KX_0 := KX.c 0 _ rfl
        have KX_1 := KX.c 1 _ rfl
        have KX_2 := KX.c 2 _ rfl
        have KX_3 := KX.c 3 _ rfl
        have KY_0 := KY.c 0 _ rfl
        have KY_1 := KY.c 1 _ rfl
        have KY_2 := KY.c 2 _ rfl
        have KY_3 := KY.c 3 _ rfl
        have KZ_0 := KZ.c 0 _ rfl
        have KZ_1 := KZ.c 1 _ rfl
        have KZ_2 := KZ.c 2 _ rfl
        have KZ_3 := KZ.c 3 _ rfl
        have KD_0 := KD.c 0 _ rfl
        have KD_1 := KD.c 1 _ rfl
        have KD_2 := KD.c 2 _ rfl
        have KD_3 := KD.c 3 _ rfl
        go_wp2_with fail
        clear KX_0 KX_1 KX_2 KX_3 KY_0 KY_1 KY_2 KY_3 KZ_0 KZ_1 KZ_2 KZ_3 KD_0 KD_1 KD_2 KD_3
        generalize (w4.alloc (.cells #[.bool tn, .slice tA tz.length tk, .bool tm, .slice tB td.length tl] 26)) = VD at *
        generalize w4.heap.size = pD at *
        refine (E21.out _ L1 L2).mono ?_
        rintro _ w5 ⟨rfl, hb⟩
        replace KX := KX.on hb
        replace KY := KY.on hb
        replace KZ := KZ.on hb
        replace KD := KD.on hb
        replace L1 := L1.on hb
        replace L2 := L2.on hb
        replace L3 := L3.on hb
        replace Rt := Rt.on hb
        replace BW := BW.trans (hb.mono BW.size)
        clear hb
        by_cases he : er = 0
        · subst he
          obtain ⟨rfl, LD⟩ : tm = false ∧ Lf w5 (q - p) tn tA tz tk tB td tl := by
            rcases Rt with ⟨_, _, _, a, b⟩ | ⟨⟨h, _⟩ | ⟨_, _, h⟩, _⟩
            · exact ⟨a, b⟩
            · exact h.elim
            · cases h
          clear Rt
          have KX_0 := KX.c 0 _ rfl
          have KX_1 := KX.c 1 _ rfl
          have KX_2 := KX.c 2 _ rfl
          have KX_3 := KX.c 3 _ rfl
          have KY_0 := KY.c 0 _ rfl
          have KY_1 := KY.c 1 _ rfl
          have KY_2 := KY.c 2 _ rfl
          have KY_3 := KY.c 3 _ rfl
          have KZ_0 := KZ.c 0 _ rfl
          have KZ_1 := KZ.c 1 _ rfl
          have KZ_2 := KZ.c 2 _ rfl
          have KZ_3 := KZ.c 3 _ rfl
          have KD_0 := KD.c 0 _ rfl
          have KD_1 := KD.c 1 _ rfl
          have KD_2 := KD.c 2 _ rfl
          have KD_3 := KD.c 3 _ rfl
          go_wp2_with fail
          clear KX_0 KX_1 KX_2 KX_3 KY_0 KY_1 KY_2 KY_3 KZ_0 KZ_1 KZ_2 KZ_3 KD_0 KD_1 KD_2 KD_3
          refine (frac_sign (q - p) _ _ _ _ _ _ _ w5 LD).mono ?_
          rw [HSUB.out]
          rintro _ w6 ⟨rfl, hb⟩
          replace KX := KX.on hb
          replace KY := KY.on hb
          replace KZ := KZ.on hb
          replace KD := KD.on hb
          replace L1 := L1.on hb
          replace L2 := L2.on hb
          replace L3 := L3.on hb
          replace LD := LD.on hb
          replace BW := BW.trans (hb.mono BW.size)
          clear hb
          have KX_0 := KX.c 0 _ rfl
          have KX_1 := KX.c 1 _ rfl
          have KX_2 := KX.c 2 _ rfl
          have KX_3 := KX.c 3 _ rfl
          have KY_0 := KY.c 0 _ rfl
          have KY_1 := KY.c 1 _ rfl
          have KY_2 := KY.c 2 _ rfl
          have KY_3 := KY.c 3 _ rfl
          have KZ_0 := KZ.c 0 _ rfl
          have KZ_1 := KZ.c 1 _ rfl
          have KZ_2 := KZ.c 2 _ rfl
          have KZ_3 := KZ.c 3 _ rfl
          have KD_0 := KD.c 0 _ rfl
          have KD_1 := KD.c 1 _ rfl
          have KD_2 := KD.c 2 _ rfl
          have KD_3 := KD.c 3 _ rfl
          go_wp2_with fail
          clear KX_0 KX_1 KX_2 KX_3 KY_0 KY_1 KY_2 KY_3 KZ_0 KZ_1 KZ_2 KZ_3 KD_0 KD_1 KD_2 KD_3
          refine (ES.out _ L1 L2).mono ?_
          rintro _ w7 ⟨rfl, hb⟩
          replace KX := KX.on hb
          replace KY := KY.on hb
          replace KZ := KZ.on hb
          replace KD := KD.on hb
          replace L1 := L1.on hb
          replace L2 := L2.on hb
          replace L3 := L3.on hb
          replace LD := LD.on hb
          replace BW := BW.trans (hb.mono BW.size)
          clear hb
          obtain ⟨b, hbv⟩ : ∃ b, cmpQ p s = b := ⟨_, rfl⟩
          have D23 := frac_cmp p s _ _ _ _ _ _ _ _ _ _ _ _ _ _ w7 L2 L3
          rw [hbv] at D23 HTR
          clear hbv
          have KX_0 := KX.c 0 _ rfl
          have KX_1 := KX.c 1 _ rfl
          have KX_2 := KX.c 2 _ rfl
          have KX_3 := KX.c 3 _ rfl
          have KY_0 := KY.c 0 _ rfl
          have KY_1 := KY.c 1 _ rfl
          have KY_2 := KY.c 2 _ rfl
          have KY_3 := KY.c 3 _ rfl
          have KZ_0 := KZ.c 0 _ rfl
          have KZ_1 := KZ.c 1 _ rfl
          have KZ_2 := KZ.c 2 _ rfl
          have KZ_3 := KZ.c 3 _ rfl
          have KD_0 := KD.c 0 _ rfl
          have KD_1 := KD.c 1 _ rfl
          have KD_2 := KD.c 2 _ rfl
          have KD_3 := KD.c 3 _ rfl
          go_wp2_with fail
          clear KX_0 KX_1 KX_2 KX_3 KY_0 KY_1 KY_2 KY_3 KZ_0 KZ_1 KZ_2 KZ_3 KD_0 KD_1 KD_2 KD_3
          refine D23.mono ?_
          rintro _ w8 ⟨rfl, hb⟩
          replace KX := KX.on hb
          replace KY := KY.on hb
          replace KZ := KZ.on hb
          replace KD := KD.on hb
          replace L1 := L1.on hb
          replace L2 := L2.on hb
          replace L3 := L3.on hb
          replace LD := LD.on hb
          replace BW := BW.trans (hb.mono BW.size)
          clear hb
          by_cases hb0 : 0 < b
          · have KX_0 := KX.c 0 _ rfl
            have KX_1 := KX.c 1 _ rfl
            have KX_2 := KX.c 2 _ rfl
            have KX_3 := KX.c 3 _ rfl
            have KY_0 := KY.c 0 _ rfl
            have KY_1 := KY.c 1 _ rfl
            have KY_2 := KY.c 2 _ rfl
            have KY_3 := KY.c 3 _ rfl
            have KZ_0 := KZ.c 0 _ rfl
            have KZ_1 := KZ.c 1 _ rfl
            have KZ_2 := KZ.c 2 _ rfl
            have KZ_3 := KZ.c 3 _ rfl
            have KD_0 := KD.c 0 _ rfl
            have KD_1 := KD.c 1 _ rfl
            have KD_2 := KD.c 2 _ rfl
            have KD_3 := KD.c 3 _ rfl
            go_wp2_with fail
            clear KX_0 KX_1 KX_2 KX_3 KY_0 KY_1 KY_2 KY_3 KZ_0 KZ_1 KZ_2 KZ_3 KD_0 KD_1 KD_2 KD_3
            refine (lives_any _ (tab_below HT.out BW)).mono ?_
            rintro _ wl ⟨rfl, hb⟩
            replace BW := BW.trans (hb.mono BW.size)
            go_wp2
            go_ret
            exact ⟨rfl, BW⟩
          · obtain ⟨g, hgv⟩ : ∃ g, cmpQ q s = g := ⟨_, rfl⟩
            have D13 := frac_cmp q s _ _ _ _ _ _ _ _ _ _ _ _ _ _ w8 L1 L3
            rw [hgv] at D13 HTR
            clear hgv
            have hg0 : g ≤ 0 := HTR.out (by decide) (by omega)
            have KX_0 := KX.c 0 _ rfl
            have KX_1 := KX.c 1 _ rfl
            have KX_2 := KX.c 2 _ rfl
            have KX_3 := KX.c 3 _ rfl
            have KY_0 := KY.c 0 _ rfl
            have KY_1 := KY.c 1 _ rfl
            have KY_2 := KY.c 2 _ rfl
            have KY_3 := KY.c 3 _ rfl
            have KZ_0 := KZ.c 0 _ rfl
            have KZ_1 := KZ.c 1 _ rfl
            have KZ_2 := KZ.c 2 _ rfl
            have KZ_3 := KZ.c 3 _ rfl
            have KD_0 := KD.c 0 _ rfl
            have KD_1 := KD.c 1 _ rfl
            have KD_2 := KD.c 2 _ rfl
            have KD_3 := KD.c 3 _ rfl
            go_wp2_with fail
            clear KX_0 KX_1 KX_2 KX_3 KY_0 KY_1 KY_2 KY_3 KZ_0 KZ_1 KZ_2 KZ_3 KD_0 KD_1 KD_2 KD_3
            refine D13.mono ?_
            rintro _ w10 ⟨rfl, hb⟩
            replace KX := KX.on hb
            replace KY := KY.on hb
            replace KZ := KZ.on hb
            replace KD := KD.on hb
            replace L1 := L1.on hb
            replace L2 := L2.on hb
            replace L3 := L3.on hb
            replace LD := LD.on hb
            replace BW := BW.trans (hb.mono BW.size)
            clear hb
            have KX_0 := KX.c 0 _ rfl
            have KX_1 := KX.c 1 _ rfl
            have KX_2 := KX.c 2 _ rfl
            have KX_3 := KX.c 3 _ rfl
            have KY_0 := KY.c 0 _ rfl
            have KY_1 := KY.c 1 _ rfl
            have KY_2 := KY.c 2 _ rfl
            have KY_3 := KY.c 3 _ rfl
            have KZ_0 := KZ.c 0 _ rfl
            have KZ_1 := KZ.c 1 _ rfl
            have KZ_2 := KZ.c 2 _ rfl
            have KZ_3 := KZ.c 3 _ rfl
            have KD_0 := KD.c 0 _ rfl
            have KD_1 := KD.c 1 _ rfl
            have KD_2 := KD.c 2 _ rfl
            have KD_3 := KD.c 3 _ rfl
            go_wp2_with fail
            clear KX_0 KX_1 KX_2 KX_3 KY_0 KY_1 KY_2 KY_3 KZ_0 KZ_1 KZ_2 KZ_3 KD_0 KD_1 KD_2 KD_3
            refine (lives_any _ (tab_below HT.out BW)).mono ?_
            rintro _ wl ⟨rfl, hb⟩
            replace BW := BW.trans (hb.mono BW.size)
            go_wp2
            go_ret
            exact ⟨rfl, BW⟩
        · clear Rt
          have KX_0 := KX.c 0 _ rfl
          have KX_1 := KX.c 1 _ rfl
          have KX_2 := KX.c 2 _ rfl
          have KX_3 := KX.c 3 _ rfl
          have KY_0 := KY.c 0 _ rfl
          have KY_1 := KY.c 1 _ rfl
          have KY_2 := KY.c 2 _ rfl
          have KY_3 := KY.c 3 _ rfl
          have KZ_0 := KZ.c 0 _ rfl
          have KZ_1 := KZ.c 1 _ rfl
          have KZ_2 := KZ.c 2 _ rfl
          have KZ_3 := KZ.c 3 _ rfl
          have KD_0 := KD.c 0 _ rfl
          have KD_1 := KD.c 1 _ rfl
          have KD_2 := KD.c 2 _ rfl
          have KD_3 := KD.c 3 _ rfl
          go_wp2_with fail
          clear KX_0 KX_1 KX_2 KX_3 KY_0 KY_1 KY_2 KY_3 KZ_0 KZ_1 KZ_2 KZ_3 KD_0 KD_1 KD_2 KD_3
          refine (ES.out _ L1 L2).mono ?_
          rintro _ w7 ⟨rfl, hb⟩
          replace KX := KX.on hb
          replace KY := KY.on hb
          replace KZ := KZ.on hb
          replace KD := KD.on hb
          replace L1 := L1.on hb
          replace L2 := L2.on hb
          replace L3 := L3.on hb
          replace BW := BW.trans (hb.mono BW.size)
          clear hb
          obtain ⟨b, hbv⟩ : ∃ b, cmpQ p s = b := ⟨_, rfl⟩
          have D23 := frac_cmp p s _ _ _ _ _ _ _ _ _ _ _ _ _ _ w7 L2 L3
          rw [hbv] at D23 HTR
          clear hbv
          have KX_0 := KX.c 0 _ rfl
          have KX_1 := KX.c 1 _ rfl
          have KX_2 := KX.c 2 _ rfl
          have KX_3 := KX.c 3 _ rfl
          have KY_0 := KY.c 0 _ rfl
          have KY_1 := KY.c 1 _ rfl
          have KY_2 := KY.c 2 _ rfl
          have KY_3 := KY.c 3 _ rfl
          have KZ_0 := KZ.c 0 _ rfl
          have KZ_1 := KZ.c 1 _ rfl
          have KZ_2 := KZ.c 2 _ rfl
          have KZ_3 := KZ.c 3 _ rfl
          have KD_0 := KD.c 0 _ rfl
          have KD_1 := KD.c 1 _ rfl
          have KD_2 := KD.c 2 _ rfl
          have KD_3 := KD.c 3 _ rfl
          go_wp2_with fail
          clear KX_0 KX_1 KX_2 KX_3 KY_0 KY_1 KY_2 KY_3 KZ_0 KZ_1 KZ_2 KZ_3 KD_0 KD_1 KD_2 KD_3
          refine D23.mono ?_
          rintro _ w8 ⟨rfl, hb⟩
          replace KX := KX.on hb
          replace KY := KY.on hb
          replace KZ := KZ.on hb
          replace KD := KD.on hb
          replace L1 := L1.on hb
          replace L2 := L2.on hb
          replace L3 := L3.on hb
          replace BW := BW.trans (hb.mono BW.size)
          clear hb
          by_cases hb0 : 0 < b
          · have KX_0 := KX.c 0 _ rfl
            have KX_1 := KX.c 1 _ rfl
            have KX_2 := KX.c 2 _ rfl
            have KX_3 := KX.c 3 _ rfl
            have KY_0 := KY.c 0 _ rfl
            have KY_1 := KY.c 1 _ rfl
            have KY_2 := KY.c 2 _ rfl
            have KY_3 := KY.c 3 _ rfl
            have KZ_0 := KZ.c 0 _ rfl
            have KZ_1 := KZ.c 1 _ rfl
            have KZ_2 := KZ.c 2 _ rfl
            have KZ_3 := KZ.c 3 _ rfl
            have KD_0 := KD.c 0 _ rfl
            have KD_1 := KD.c 1 _ rfl
            have KD_2 := KD.c 2 _ rfl
            have KD_3 := KD.c 3 _ rfl
            go_wp2_with fail
            clear KX_0 KX_1 KX_2 KX_3 KY_0 KY_1 KY_2 KY_3 KZ_0 KZ_1 KZ_2 KZ_3 KD_0 KD_1 KD_2 KD_3
            refine (lives_any _ (tab_below HT.out BW)).mono ?_
            rintro _ wl ⟨rfl, hb⟩
            replace BW := BW.trans (hb.mono BW.size)
            go_wp2
            go_ret
            exact ⟨rfl, BW⟩
          · obtain ⟨g, hgv⟩ : ∃ g, cmpQ q s = g := ⟨_, rfl⟩
            have D13 := frac_cmp q s _ _ _ _ _ _ _ _ _ _ _ _ _ _ w8 L1 L3
            rw [hgv] at D13 HTR
            clear hgv
            have hg0 : g ≤ 0 := HTR.out (by decide) (by omega)
            have KX_0 := KX.c 0 _ rfl
            have KX_1 := KX.c 1 _ rfl
            have KX_2 := KX.c 2 _ rfl
            have KX_3 := KX.c 3 _ rfl
            have KY_0 := KY.c 0 _ rfl
            have KY_1 := KY.c 1 _ rfl
            have KY_2 := KY.c 2 _ rfl
            have KY_3 := KY.c 3 _ rfl
            have KZ_0 := KZ.c 0 _ rfl
            have KZ_1 := KZ.c 1 _ rfl
            have KZ_2 := KZ.c 2 _ rfl
            have KZ_3 := KZ.c 3 _ rfl
            have KD_0 := KD.c 0 _ rfl
            have KD_1 := KD.c 1 _ rfl
            have KD_2 := KD.c 2 _ rfl
            have KD_3 := KD.c 3 _ rfl
            go_wp2_with fail
            clear KX_0 KX_1 KX_2 KX_3 KY_0 KY_1 KY_2 KY_3 KZ_0 KZ_1 KZ_2 KZ_3 KD_0 KD_1 KD_2 KD_3
            refine D13.mono ?_
            rintro _ w10 ⟨rfl, hb⟩
            replace KX := KX.on hb
            replace KY := KY.on hb
            replace KZ := KZ.on hb
            replace KD := KD.on hb
            replace L1 := L1.on hb
            replace L2 := L2.on hb
            replace L3 := L3.on hb
            replace BW := BW.trans (hb.mono BW.size)
            clear hb
            have KX_0 := KX.c 0 _ rfl
            have KX_1 := KX.c 1 _ rfl
            have KX_2 := KX.c 2 _ rfl
            have KX_3 := KX.c 3 _ rfl
            have KY_0 := KY.c 0 _ rfl
            have KY_1 := KY.c 1 _ rfl
            have KY_2 := KY.c 2 _ rfl
            have KY_3 := KY.c 3 _ rfl
            have KZ_0 := KZ.c 0 _ rfl
            have KZ_1 := KZ.c 1 _ rfl
            have KZ_2 := KZ.c 2 _ rfl
            have KZ_3 := KZ.c 3 _ rfl
            have KD_0 := KD.c 0 _ rfl
            have KD_1 := KD.c 1 _ rfl
            have KD_2 := KD.c 2 _ rfl
            have KD_3 := KD.c 3 _ rfl
            go_wp2_with fail
            clear KX_0 KX_1 KX_2 KX_3 KY_0 KY_1 KY_2 KY_3 KZ_0 KZ_1 KZ_2 KZ_3 KD_0 KD_1 KD_2 KD_3
            refine (lives_any _ (tab_below HT.out BW)).mono ?_
            rintro _ wl ⟨rfl, hb⟩
            replace BW := BW.trans (hb.mono BW.size)
            go_wp2
            go_ret
            exact ⟨rfl, BW⟩
      · have e2 : cmpQ p q = 0 := by omega
        have e3 : decide (q = p) = true := by simp [hzero.1 hc]
        have D12 := C12.out
        have D21 := C21.out
        have DS := CS.out
        rw [hc] at D12 HTR HSUB
        rw [e2] at D21
        rw [e3] at DS
        clear C12 C21 CS hswap hzero e2 e3 hc
        have E12 := Lib.hid D12
        have E21 := Lib.hid D21
        have ES := Lib.hid DS
        clear D12 D21 DS
        have KX_0 := KX.c 0 _ rfl
        have KX_1 := KX.c 1 _ rfl
        have KX_2 := KX.c 2 _ rfl
        have KX_3 := KX.c 3 _ rfl
        have KY_0 := KY.c 0 _ rfl
        have KY_1 := KY.c 1 _ rfl
        have KY_2 := KY.c 2 _ rfl
        have KY_3 := KY.c 3 _ rfl
        have KZ_0 := KZ.c 0 _ rfl
        have KZ_1 := KZ.c 1 _ rfl
        have KZ_2 := KZ.c 2 _ rfl
        have KZ_3 := KZ.c 3 _ rfl
        go_wp2_with fail
        clear KX_0 KX_1 KX_2 KX_3 KY_0 KY_1 KY_2 KY_3 KZ_0 KZ_1 KZ_2 KZ_3
        refine (E12.out _ L1 L2).mono ?_
        rintro _ w3 ⟨rfl, hb⟩
        replace KX := KX.on hb
        replace KY := KY.on hb
        replace KZ := KZ.on hb
        replace L1 := L1.on hb
        replace L2 := L2.on hb
        replace L3 := L3.on hb
        replace BW := BW.trans (hb.mono BW.size)
        clear hb
        have KX_0 := KX.c 0 _ rfl
        have KX_1 := KX.c 1 _ rfl
        have KX_2 := KX.c 2 _ rfl
        have KX_3 := KX.c 3 _ rfl
        have KY_0 := KY.c 0 _ rfl
        have KY_1 := KY.c 1 _ rfl
        have KY_2 := KY.c 2 _ rfl
        have KY_3 := KY.c 3 _ rfl
        have KZ_0 := KZ.c 0 _ rfl
        have KZ_1 := KZ.c 1 _ rfl
        have KZ_2 := KZ.c 2 _ rfl
        have KZ_3 := KZ.c 3 _ rfl
        go_wp2_with fail
        clear KX_0 KX_1 KX_2 KX_3 KY_0 KY_1 KY_2 KY_3 KZ_0 KZ_1 KZ_2 KZ_3
        refine (frac_sub q p _ _ _ _ _ _ _ _ _ _ _ _ _ _ w3 L1 L2).mono ?_
        rintro _ w4 ⟨tn, tA, tz, tk, tm, tB, td, tl, er, rfl, Rt, hb⟩
        replace KX := KX.on hb
        replace KY := KY.on hb
        replace KZ := KZ.on hb
        replace L1 := L1.on hb
        replace L2 := L2.on hb
        replace L3 := L3.on hb
        replace BW := BW.trans (hb.mono BW.size)
        clear hb
        have hb : Below w4.heap.size w4 (w4.alloc (.cells #[.bool tn, .slice tA tz.length tk, .bool tm, .slice tB td.length tl] 26)) := by go_grown
        have KD := Box.new w4 [.bool tn, .slice tA tz.length tk, .bool tm, .slice tB td.length tl] 26
        replace KX := KX.on hb
        replace KY := KY.on hb
        replace KZ := KZ.on hb
        replace L1 := L1.on hb
        replace L2 := L2.on hb
        replace L3 := L3.on hb
        replace Rt := Rt.on hb
        replace BW := BW.trans (hb.mono BW.size)
        clear hb
        have KX_0 := KX.c 0 _ rfl
        have KX_1 := KX.c 1 _ rfl
        have KX_2 := KX.c 2 _ rfl
        have KX_3 := KX.c 3 _ rfl
        have KY_0 := KY.c 0 _ rfl
        have KY_1 := KY.c 1 _ rfl
        have KY_2 := KY.c 2 _ rfl
        have KY_3 := KY.c 3 _ rfl
        have KZ_0 := KZ.c 0 _ rfl
        have KZ_1 := KZ.c 1 _ rfl
        have KZ_2 := KZ.c 2 _ rfl
        have KZ_3 := KZ.c 3 _ rfl
        have KD_0 := KD.c 0 _ rfl
        have KD_1 := KD.c 1 _ rfl
        have KD_2 := KD.c 2 _ rfl
        have KD_3 := KD.c 3 _ rfl
        go_wp2_with fail
        clear KX_0 KX_1 KX_2 KX_3 KY_0 KY_1 KY_2 KY_3 KZ_0 KZ_1 KZ_2 KZ_3 KD_0 KD_1 KD_2 KD_3
        generalize (w4.alloc (.cells #[.bool tn, .slice tA tz.length tk, .bool tm, .slice tB td.length tl] 26)) = VD at *
        generalize w4.heap.size = pD at *
        refine (E21.out _ L1 L2).mono ?_
        rintro _ w5 ⟨rfl, hb⟩
        replace KX := KX.on hb
        replace KY := KY.on hb
        replace KZ := KZ.on hb
        replace KD := KD.on hb
        replace L1 := L1.on hb
        replace L2 := L2.on hb
        replace L3 := L3.on hb
        replace Rt := Rt.on hb
        replace BW := BW.trans (hb.mono BW.size)
        clear hb
        by_cases he : er = 0
        · subst he
          obtain ⟨rfl, LD⟩ : tm = false ∧ Lf w5 (q - p) tn tA tz tk tB td tl := by
            rcases Rt with ⟨_, _, _, a, b⟩ | ⟨⟨h, _⟩ | ⟨_, _, h⟩, _⟩
            · exact ⟨a, b⟩
            · exact h.elim
            · cases h
          clear Rt
          have KX_0 := KX.c 0 _ rfl
          have KX_1 := KX.c 1 _ rfl
          have KX_2 := KX.c 2 _ rfl
          have KX_3 := KX.c 3 _ rfl
          have KY_0 := KY.c 0 _ rfl
          have KY_1 := KY.c 1 _ rfl
          have KY_2 := KY.c 2 _ rfl
          have KY_3 := KY.c 3 _ rfl
          have KZ_0 := KZ.c 0 _ rfl
          have KZ_1 := KZ.c 1 _ rfl
          have KZ_2 := KZ.c 2 _ rfl
          have KZ_3 := KZ.c 3 _ rfl
          have KD_0 := KD.c 0 _ rfl
          have KD_1 := KD.c 1 _ rfl
          have KD_2 := KD.c 2 _ rfl
          have KD_3 := KD.c 3 _ rfl
          go_wp2_with fail
          clear KX_0 KX_1 KX_2 KX_3 KY_0 KY_1 KY_2 KY_3 KZ_0 KZ_1 KZ_2 KZ_3 KD_0 KD_1 KD_2 KD_3
          refine (frac_sign (q - p) _ _ _ _ _ _ _ w5 LD).mono ?_
          rw [HSUB.out]
          rintro _ w6 ⟨rfl, hb⟩
          replace KX := KX.on hb
          replace KY := KY.on hb
          replace KZ := KZ.on hb
          replace KD := KD.on hb
          replace L1 := L1.on hb
          replace L2 := L2.on hb
          replace L3 := L3.on hb
          replace LD := LD.on hb
          replace BW := BW.trans (hb.mono BW.size)
          clear hb
          have KX_0 := KX.c 0 _ rfl
          have KX_1 := KX.c 1 _ rfl
          have KX_2 := KX.c 2 _ rfl
          have KX_3 := KX.c 3 _ rfl
          have KY_0 := KY.c 0 _ rfl
          have KY_1 := KY.c 1 _ rfl
          have KY_2 := KY.c 2 _ rfl
          have KY_3 := KY.c 3 _ rfl
          have KZ_0 := KZ.c 0 _ rfl
          have KZ_1 := KZ.c 1 _ rfl
          have KZ_2 := KZ.c 2 _ rfl
          have KZ_3 := KZ.c 3 _ rfl
          have KD_0 := KD.c 0 _ rfl
          have KD_1 := KD.c 1 _ rfl
          have KD_2 := KD.c 2 _ rfl
          have KD_3 := KD.c 3 _ rfl
          go_wp2_with fail
          clear KX_0 KX_1 KX_2 KX_3 KY_0 KY_1 KY_2 KY_3 KZ_0 KZ_1 KZ_2 KZ_3 KD_0 KD_1 KD_2 KD_3
          refine (ES.out _ L1 L2).mono ?_
          rintro _ w7 ⟨rfl, hb⟩
          replace KX := KX.on hb
          replace KY := KY.on hb
          replace KZ := KZ.on hb
          replace KD := KD.on hb
          replace L1 := L1.on hb
          replace L2 := L2.on hb
          replace L3 := L3.on hb
          replace LD := LD.on hb
          replace BW := BW.trans (hb.mono BW.size)
          clear hb
          obtain ⟨b, hbv⟩ : ∃ b, cmpQ p s = b := ⟨_, rfl⟩
          have D23 := frac_cmp p s _ _ _ _ _ _ _ _ _ _ _ _ _ _ w7 L2 L3
          rw [hbv] at D23 HTR
          clear hbv
          have KX_0 := KX.c 0 _ rfl
          have KX_1 := KX.c 1 _ rfl
          have KX_2 := KX.c 2 _ rfl
          have KX_3 := KX.c 3 _ rfl
          have KY_0 := KY.c 0 _ rfl
          have KY_1 := KY.c 1 _ rfl
          have KY_2 := KY.c 2 _ rfl
          have KY_3 := KY.c 3 _ rfl
          have KZ_0 := KZ.c 0 _ rfl
          have KZ_1 := KZ.c 1 _ rfl
          have KZ_2 := KZ.c 2 _ rfl
          have KZ_3 := KZ.c 3 _ rfl
          have KD_0 := KD.c 0 _ rfl
          have KD_1 := KD.c 1 _ rfl
          have KD_2 := KD.c 2 _ rfl
          have KD_3 := KD.c 3 _ rfl
          go_wp2_with fail
          clear KX_0 KX_1 KX_2 KX_3 KY_0 KY_1 KY_2 KY_3 KZ_0 KZ_1 KZ_2 KZ_3 KD_0 KD_1 KD_2 KD_3
          refine D23.mono ?_
          rintro _ w8 ⟨rfl, hb⟩
          replace KX := KX.on hb
          replace KY := KY.on hb
          replace KZ := KZ.on hb
          replace KD := KD.on hb
          replace L1 := L1.on hb
          replace L2 := L2.on hb
          replace L3 := L3.on hb
          replace LD := LD.on hb
          replace BW := BW.trans (hb.mono BW.size)
          clear hb
          by_cases hb0 : 0 < b
          · have KX_0 := KX.c 0 _ rfl
            have KX_1 := KX.c 1 _ rfl
            have KX_2 := KX.c 2 _ rfl
            have KX_3 := KX.c 3 _ rfl
            have KY_0 := KY.c 0 _ rfl
            have KY_1 := KY.c 1 _ rfl
            have KY_2 := KY.c 2 _ rfl
            have KY_3 := KY.c 3 _ rfl
            have KZ_0 := KZ.c 0 _ rfl
            have KZ_1 := KZ.c 1 _ rfl
            have KZ_2 := KZ.c 2 _ rfl
            have KZ_3 := KZ.c 3 _ rfl
            have KD_0 := KD.c 0 _ rfl
            have KD_1 := KD.c 1 _ rfl
            have KD_2 := KD.c 2 _ rfl
            have KD_3 := KD.c 3 _ rfl
            go_wp2_with fail
            clear KX_0 KX_1 KX_2 KX_3 KY_0 KY_1 KY_2 KY_3 KZ_0 KZ_1 KZ_2 KZ_3 KD_0 KD_1 KD_2 KD_3
            refine (lives_any _ (tab_below HT.out BW)).mono ?_
            rintro _ wl ⟨rfl, hb⟩
            replace BW := BW.trans (hb.mono BW.size)
            go_wp2
            go_ret
            exact ⟨rfl, BW⟩
          · obtain ⟨g, hgv⟩ : ∃ g, cmpQ q s = g := ⟨_, rfl⟩
            have D13 := frac_cmp q s _ _ _ _ _ _ _ _ _ _ _ _ _ _ w8 L1 L3
            rw [hgv] at D13 HTR
            clear hgv
            have hg0 : g ≤ 0 := HTR.out (by decide) (by omega)
            have KX_0 := KX.c 0 _ rfl
            have KX_1 := KX.c 1 _ rfl
            have KX_2 := KX.c 2 _ rfl
            have KX_3 := KX.c 3 _ rfl
            have KY_0 := KY.c 0 _ rfl
            have KY_1 := KY.c 1 _ rfl
            have KY_2 := KY.c 2 _ rfl
            have KY_3 := KY.c 3 _ rfl
            have KZ_0 := KZ.c 0 _ rfl
            have KZ_1 := KZ.c 1 _ rfl
            have KZ_2 := KZ.c 2 _ rfl
            have KZ_3 := KZ.c 3 _ rfl
            have KD_0 := KD.c 0 _ rfl
            have KD_1 := KD.c 1 _ rfl
            have KD_2 := KD.c 2 _ rfl
            have KD_3 := KD.c 3 _ rfl
            go_wp2_with fail
            clear KX_0 KX_1 KX_2 KX_3 KY_0 KY_1 KY_2 KY_3 KZ_0 KZ_1 KZ_2 KZ_3 KD_0 KD_1 KD_2 KD_3
            refine D13.mono ?_
            rintro _ w10 ⟨rfl, hb⟩
            replace KX := KX.on hb
            replace KY := KY.on hb
            replace KZ := KZ.on hb
            replace KD := KD.on hb
            replace L1 := L1.on hb
            replace L2 := L2.on hb
            replace L3 := L3.on hb
            replace LD := LD.on hb
            replace BW := BW.trans (hb.mono BW.size)
            clear hb
            have KX_0 := KX.c 0 _ rfl
            have KX_1 := KX.c 1 _ rfl
            have KX_2 := KX.c 2 _ rfl
            have KX_3 := KX.c 3 _ rfl
            have KY_0 := KY.c 0 _ rfl
            have KY_1 := KY.c 1 _ rfl
            have KY_2 := KY.c 2 _ rfl
            have KY_3 := KY.c 3 _ rfl
            have KZ_0 := KZ.c 0 _ rfl
            have KZ_1 := KZ.c 1 _ rfl
            have KZ_2 := KZ.c 2 _ rfl
            have KZ_3 := KZ.c 3 _ rfl
            have KD_0 := KD.c 0 _ rfl
            have KD_1 := KD.c 1 _ rfl
            have KD_2 := KD.c 2 _ rfl
            have KD_3 := KD.c 3 _ rfl
            go_wp2_with fail
            clear KX_0 KX_1 KX_2 KX_3 KY_0 KY_1 KY_2 KY_3 KZ_0 KZ_1 KZ_2 KZ_3 KD_0 KD_1 KD_2 KD_3
            refine (lives_any _ (tab_below HT.out BW)).mono ?_
            rintro _ wl ⟨rfl, hb⟩
            replace BW := BW.trans (hb.mono BW.size)
            go_wp2
            go_ret
            exact ⟨rfl, BW⟩
        · clear Rt
          have KX_0 := KX.c 0 _ rfl
          have KX_1 := KX.c 1 _ rfl
          have KX_2 := KX.c 2 _ rfl
          have KX_3 := KX.c 3 _ rfl
          have KY_0 := KY.c 0 _ rfl
          have KY_1 := KY.c 1 _ rfl
          have KY_2 := KY.c 2 _ rfl
          have KY_3 := KY.c 3 _ rfl
          have KZ_0 := KZ.c 0 _ rfl
          have KZ_1 := KZ.c 1 _ rfl
          have KZ_2 := KZ.c 2 _ rfl
          have KZ_3 := KZ.c 3 _ rfl
          have KD_0 := KD.c 0 _ rfl
          have KD_1 := KD.c 1 _ rfl
          have KD_2 := KD.c 2 _ rfl
          have KD_3 := KD.c 3 _ rfl
          go_wp2_with fail
          clear KX_0 KX_1 KX_2 KX_3 KY_0 KY_1 KY_2 KY_3 KZ_0 KZ_1 KZ_2 KZ_3 KD_0 KD_1 KD_2 KD_3
          refine (ES.out _ L1 L2).mono ?_
          rintro _ w7 ⟨rfl, hb⟩
          replace KX := KX.on hb
          replace KY := KY.on hb
          replace KZ := KZ.on hb
          replace KD := KD.on hb
          replace L1 := L1.on hb
          replace L2 := L2.on hb
          replace L3 := L3.on hb
          replace BW := BW.trans (hb.mono BW.size)
          clear hb
          obtain ⟨b, hbv⟩ : ∃ b, cmpQ p s = b := ⟨_, rfl⟩
          have D23 := frac_cmp p s _ _ _ _ _ _ _ _ _ _ _ _ _ _ w7 L2 L3
          rw [hbv] at D23 HTR
          clear hbv
          have KX_0 := KX.c 0 _ rfl
          have KX_1 := KX.c 1 _ rfl
          have KX_2 := KX.c 2 _ rfl
          have KX_3 := KX.c 3 _ rfl
          have KY_0 := KY.c 0 _ rfl
          have KY_1 := KY.c 1 _ rfl
          have KY_2 := KY.c 2 _ rfl
          have KY_3 := KY.c 3 _ rfl
          have KZ_0 := KZ.c 0 _ rfl
          have KZ_1 := KZ.c 1 _ rfl
          have KZ_2 := KZ.c 2 _ rfl
          have KZ_3 := KZ.c 3 _ rfl
          have KD_0 := KD.c 0 _ rfl
          have KD_1 := KD.c 1 _ rfl
          have KD_2 := KD.c 2 _ rfl
          have KD_3 := KD.c 3 _ rfl
          go_wp2_with fail
          clear KX_0 KX_1 KX_2 KX_3 KY_0 KY_1 KY_2 KY_3 KZ_0 KZ_1 KZ_2 KZ_3 KD_0 KD_1 KD_2 KD_3
          refine D23.mono ?_
          rintro _ w8 ⟨rfl, hb⟩
          replace KX := KX.on hb
          replace KY := KY.on hb
          replace KZ := KZ.on hb
          replace KD := KD.on hb
          replace L1 := L1.on hb
          replace L2 := L2.on hb
          replace L3 := L3.on hb
          replace BW := BW.trans (hb.mono BW.size)
          clear hb
          by_cases hb0 : 0 < b
          · have KX_0 := KX.c 0 _ rfl
            have KX_1 := KX.c 1 _ rfl
            have KX_2 := KX.c 2 _ rfl
            have KX_3 := KX.c 3 _ rfl
            have KY_0 := KY.c 0 _ rfl
            have KY_1 := KY.c 1 _ rfl
            have KY_2 := KY.c 2 _ rfl
            have KY_3 := KY.c 3 _ rfl
            have KZ_0 := KZ.c 0 _ rfl
            have KZ_1 := KZ.c 1 _ rfl
            have KZ_2 := KZ.c 2 _ rfl
            have KZ_3 := KZ.c 3 _ rfl
            have KD_0 := KD.c 0 _ rfl
            have KD_1 := KD.c 1 _ rfl
            have KD_2 := KD.c 2 _ rfl
            have KD_3 := KD.c 3 _ rfl
            go_wp2_with fail
            clear KX_0 KX_1 KX_2 KX_3 KY_0 KY_1 KY_2 KY_3 KZ_0 KZ_1 KZ_2 KZ_3 KD_0 KD_1 KD_2 KD_3
            refine (lives_any _ (tab_below HT.out BW)).mono ?_
            rintro _ wl ⟨rfl, hb⟩
            replace BW := BW.trans (hb.mono BW.size)
            go_wp2
            go_ret
            exact ⟨rfl, BW⟩
          · obtain ⟨g, hgv⟩ : ∃ g, cmpQ q s = g := ⟨_, rfl⟩
            have D13 := frac_cmp q s _ _ _ _ _ _ _ _ _ _ _ _ _ _ w8 L1 L3
            rw [hgv] at D13 HTR
            clear hgv
            have hg0 : g ≤ 0 := HTR.out (by decide) (by omega)
            have KX_0 := KX.c 0 _ rfl
            have KX_1 := KX.c 1 _ rfl
            have KX_2 := KX.c 2 _ rfl
            have KX_3 := KX.c 3 _ rfl
            have KY_0 := KY.c 0 _ rfl
            have KY_1 := KY.c 1 _ rfl
            have KY_2 := KY.c 2 _ rfl
            have KY_3 := KY.c 3 _ rfl
            have KZ_0 := KZ.c 0 _ rfl
            have KZ_1 := KZ.c 1 _ rfl
            have KZ_2 := KZ.c 2 _ rfl
            have KZ_3 := KZ.c 3 _ rfl
            have KD_0 := KD.c 0 _ rfl
            have KD_1 := KD.c 1 _ rfl
            have KD_2 := KD.c 2 _ rfl
            have KD_3 := KD.c 3 _ rfl
            go_wp2_with fail
            clear KX_0 KX_1 KX_2 KX_3 KY_0 KY_1 KY_2 KY_3 KZ_0 KZ_1 KZ_2 KZ_3 KD_0 KD_1 KD_2 KD_3
            refine D13.mono ?_
            rintro _ w10 ⟨rfl, hb⟩
            replace KX := KX.on hb
            replace KY := KY.on hb
            replace KZ := KZ.on hb
            replace KD := KD.on hb
            replace L1 := L1.on hb
            replace L2 := L2.on hb
            replace L3 := L3.on hb
            replace BW := BW.trans (hb.mono BW.size)
            clear hb
            have KX_0 := KX.c 0 _ rfl
            have KX_1 := KX.c 1 _ rfl
            have KX_2 := KX.c 2 _ rfl
            have KX_3 := KX.c 3 _ rfl
            have KY_0 := KY.c 0 _ rfl
            have KY_1 := KY.c 1 _ rfl
            have KY_2 := KY.c 2 _ rfl
            have KY_3 := KY.c 3 _ rfl
            have KZ_0 := KZ.c 0 _ rfl
            have KZ_1 := KZ.c 1 _ rfl
            have KZ_2 := KZ.c 2 _ rfl
            have KZ_3 := KZ.c 3 _ rfl
            have KD_0 := KD.c 0 _ rfl
            have KD_1 := KD.c 1 _ rfl
            have KD_2 := KD.c 2 _ rfl
            have KD_3 := KD.c 3 _ rfl
            go_wp2_with fail
            clear KX_0 KX_1 KX_2 KX_3 KY_0 KY_1 KY_2 KY_3 KZ_0 KZ_1 KZ_2 KZ_3 KD_0 KD_1 KD_2 KD_3
            refine (lives_any _ (tab_below HT.out BW)).mono ?_
            rintro _ wl ⟨rfl, hb⟩
            replace BW := BW.trans (hb.mono BW.size)
            go_wp2
            go_ret
            exact ⟨rfl, BW⟩
      · have e2 : cmpQ p q = -1 := by omega
        have e3 : decide (q = p) = false := by simp; intro e; rw [hzero.2 e] at hc; omega
        have D12 := C12.out
        have D21 := C21.out
        have DS := CS.out
        rw [hc] at D12 HTR HSUB
        rw [e2] at D21
        rw [e3] at DS
        clear C12 C21 CS hswap hzero e2 e3 hc
        have E12 := Lib.hid D12
        have E21 := Lib.hid D21
        have ES := Lib.hid DS
        clear D12 D21 DS
        have KX_0 := KX.c 0 _ rfl
        have KX_1 := KX.c 1 _ rfl
        have KX_2 := KX.c 2 _ rfl
        have KX_3 := KX.c 3 _ rfl
        have KY_0 := KY.c 0 _ rfl
        have KY_1 := KY.c 1 _ rfl
        have KY_2 := KY.c 2 _ rfl
        have KY_3 := KY.c 3 _ rfl
        have KZ_0 := KZ.c 0 _ rfl
        have KZ_1 := KZ.c 1 _ rfl
        have KZ_2 := KZ.c 2 _ rfl
        have KZ_3 := KZ.c 3 _ rfl
        go_wp2_with fail
        clear KX_0 KX_1 KX_2 KX_3 KY_0 KY_1 KY_2 KY_3 KZ_0 KZ_1 KZ_2 KZ_3
        refine (E12.out _ L1 L2).mono ?_
        rintro _ w3 ⟨rfl, hb⟩
        replace KX := KX.on hb
        replace KY := KY.on hb
        replace KZ := KZ.on hb
        replace L1 := L1.on hb
        replace L2 := L2.on hb
        replace L3 := L3.on hb
        replace BW := BW.trans (hb.mono BW.size)
        clear hb
        have KX_0 := KX.c 0 _ rfl
        have KX_1 := KX.c 1 _ rfl
        have KX_2 := KX.c 2 _ rfl
        have KX_3 := KX.c 3 _ rfl
        have KY_0 := KY.c 0 _ rfl
        have KY_1 := KY.c 1 _ rfl
        have KY_2 := KY.c 2 _ rfl
        have KY_3 := KY.c 3 _ rfl
        have KZ_0 := KZ.c 0 _ rfl
        have KZ_1 := KZ.c 1 _ rfl
        have KZ_2 := KZ.c 2 _ rfl
        have KZ_3 := KZ.c 3 _ rfl
        go_wp2_with fail
        clear KX_0 KX_1 KX_2 KX_3 KY_0 KY_1 KY_2 KY_3 KZ_0 KZ_1 KZ_2 KZ_3
        refine (frac_sub q p _ _ _ _ _ _ _ _ _ _ _ _ _ _ w3 L1 L2).mono ?_
        rintro _ w4 ⟨tn, tA, tz, tk, tm, tB, td, tl, er, rfl, Rt, hb⟩
        replace KX := KX.on hb
        replace KY := KY.on hb
        replace KZ := KZ.on hb
        replace L1 := L1.on hb
        replace L2 := L2.on hb
        replace L3 := L3.on hb
        replace BW := BW.trans (hb.mono BW.size)
        clear hb
        have hb : Below w4.heap.size w4 (w4.alloc (.cells #[.bool tn, .slice tA tz.length tk, .bool tm, .slice tB td.length tl] 26)) := by go_grown
        have KD := Box.new w4 [.bool tn, .slice tA tz.length tk, .bool tm, .slice tB td.length tl] 26
        replace KX := KX.on hb
        replace KY := KY.on hb
        replace KZ := KZ.on hb
        replace L1 := L1.on hb
        replace L2 := L2.on hb
        replace L3 := L3.on hb
        replace Rt := Rt.on hb
        replace BW := BW.trans (hb.mono BW.size)
        clear hb
        have KX_0 := KX.c 0 _ rfl
        have KX_1 := KX.c 1 _ rfl
        have KX_2 := KX.c 2 _ rfl
        have KX_3 := KX.c 3 _ rfl
        have KY_0 := KY.c 0 _ rfl
        have KY_1 := KY.c 1 _ rfl
        have KY_2 := KY.c 2 _ rfl
        have KY_3 := KY.c 3 _ rfl
        have KZ_0 := KZ.c 0 _ rfl
        have KZ_1 := KZ.c 1 _ rfl
        have KZ_2 := KZ.c 2 _ rfl
        have KZ_3 := KZ.c 3 _ rfl
        have KD_0 := KD.c 0 _ rfl
        have KD_1 := KD.c 1 _ rfl
        have KD_2 := KD.c 2 _ rfl
        have KD_3 := KD.c 3 _ rfl
        go_wp2_with fail
        clear KX_0 KX_1 KX_2 KX_3 KY_0 KY_1 KY_2 KY_3 KZ_0 KZ_1 KZ_2 KZ_3 KD_0 KD_1 KD_2 KD_3
        generalize (w4.alloc (.cells #[.bool tn, .slice tA tz.length tk, .bool tm, .slice tB td.length tl] 26)) = VD at *
        generalize w4.heap.size = pD at *
        refine (E21.out _ L1 L2).mono ?_
        rintro _ w5 ⟨rfl, hb⟩
        replace KX := KX.on hb
        replace KY := KY.on hb
        replace KZ := KZ.on hb
        replace KD := KD.on hb
        replace L1 := L1.on hb
        replace L2 := L2.on hb
        replace L3 := L3.on hb
        replace Rt := Rt.on hb
        replace BW := BW.trans (hb.mono BW.size)
        clear hb
        by_cases he : er = 0
        · subst he
          obtain ⟨rfl, LD⟩ : tm = false ∧ Lf w5 (q - p) tn tA tz tk tB td tl := by
            rcases Rt with ⟨_, _, _, a, b⟩ | ⟨⟨h, _⟩ | ⟨_, _, h⟩, _⟩
            · exact ⟨a, b⟩
            · exact h.elim
            · cases h
          clear Rt
          have KX_0 := KX.c 0 _ rfl
          have KX_1 := KX.c 1 _ rfl
          have KX_2 := KX.c 2 _ rfl
          have KX_3 := KX.c 3 _ rfl
          have KY_0 := KY.c 0 _ rfl
          have KY_1 := KY.c 1 _ rfl
          have KY_2 := KY.c 2 _ rfl
          have KY_3 := KY.c 3 _ rfl
          have KZ_0 := KZ.c 0 _ rfl
          have KZ_1 := KZ.c 1 _ rfl
          have KZ_2 := KZ.c 2 _ rfl
          have KZ_3 := KZ.c 3 _ rfl
          have KD_0 := KD.c 0 _ rfl
          have KD_1 := KD.c 1 _ rfl
          have KD_2 := KD.c 2 _ rfl
          have KD_3 := KD.c 3 _ rfl
          go_wp2_with fail
          clear KX_0 KX_1 KX_2 KX_3 KY_0 KY_1 KY_2 KY_3 KZ_0 KZ_1 KZ_2 KZ_3 KD_0 KD_1 KD_2 KD_3
          refine (frac_sign (q - p) _ _ _ _ _ _ _ w5 LD).mono ?_
          rw [HSUB.out]
          rintro _ w6 ⟨rfl, hb⟩
          replace KX := KX.on hb
          replace KY := KY.on hb
          replace KZ := KZ.on hb
          replace KD := KD.on hb
          replace L1 := L1.on hb
          replace L2 := L2.on hb
          replace L3 := L3.on hb
          replace LD := LD.on hb
          replace BW := BW.trans (hb.mono BW.size)
          clear hb
          have KX_0 := KX.c 0 _ rfl
          have KX_1 := KX.c 1 _ rfl
          have KX_2 := KX.c 2 _ rfl
          have KX_3 := KX.c 3 _ rfl
          have KY_0 := KY.c 0 _ rfl
          have KY_1 := KY.c 1 _ rfl
          have KY_2 := KY.c 2 _ rfl
          have KY_3 := KY.c 3 _ rfl
          have KZ_0 := KZ.c 0 _ rfl
          have KZ_1 := KZ.c 1 _ rfl
          have KZ_2 := KZ.c 2 _ rfl
          have KZ_3 := KZ.c 3 _ rfl
          have KD_0 := KD.c 0 _ rfl
          have KD_1 := KD.c 1 _ rfl
          have KD_2 := KD.c 2 _ rfl
          have KD_3 := KD.c 3 _ rfl
          go_wp2_with fail
          clear KX_0 KX_1 KX_2 KX_3 KY_0 KY_1 KY_2 KY_3 KZ_0 KZ_1 KZ_2 KZ_3 KD_0 KD_1 KD_2 KD_3
          refine (ES.out _ L1 L2).mono ?_
          rintro _ w7 ⟨rfl, hb⟩
          replace KX := KX.on hb
          replace KY := KY.on hb
          replace KZ := KZ.on hb
          replace KD := KD.on hb
          replace L1 := L1.on hb
          replace L2 := L2.on hb
          replace L3 := L3.on hb
          replace LD := LD.on hb
          replace BW := BW.trans (hb.mono BW.size)
          clear hb
          have KX_0 := KX.c 0 _ rfl
          have KX_1 := KX.c 1 _ rfl
          have KX_2 := KX.c 2 _ rfl
          have KX_3 := KX.c 3 _ rfl
          have KY_0 := KY.c 0 _ rfl
          have KY_1 := KY.c 1 _ rfl
          have KY_2 := KY.c 2 _ rfl
          have KY_3 := KY.c 3 _ rfl
          have KZ_0 := KZ.c 0 _ rfl
          have KZ_1 := KZ.c 1 _ rfl
          have KZ_2 := KZ.c 2 _ rfl
          have KZ_3 := KZ.c 3 _ rfl
          have KD_0 := KD.c 0 _ rfl
          have KD_1 := KD.c 1 _ rfl
          have KD_2 := KD.c 2 _ rfl
          have KD_3 := KD.c 3 _ rfl
          go_wp2_with fail
          clear KX_0 KX_1 KX_2 KX_3 KY_0 KY_1 KY_2 KY_3 KZ_0 KZ_1 KZ_2 KZ_3 KD_0 KD_1 KD_2 KD_3
          refine (lives_any _ (tab_below HT.out BW)).mono ?_
          rintro _ wl ⟨rfl, hb⟩
          replace BW := BW.trans (hb.mono BW.size)
          go_wp2
          go_ret
          exact ⟨rfl, BW⟩
        · clear Rt
          have KX_0 := KX.c 0 _ rfl
          have KX_1 := KX.c 1 _ rfl
          have KX_2 := KX.c 2 _ rfl
          have KX_3 := KX.c 3 _ rfl
          have KY_0 := KY.c 0 _ rfl
          have KY_1 := KY.c 1 _ rfl
          have KY_2 := KY.c 2 _ rfl
          have KY_3 := KY.c 3 _ rfl
          have KZ_0 := KZ.c 0 _ rfl
          have KZ_1 := KZ.c 1 _ rfl
          have KZ_2 := KZ.c 2 _ rfl
          have KZ_3 := KZ.c 3 _ rfl
          have KD_0 := KD.c 0 _ rfl
          have KD_1 := KD.c 1 _ rfl
          have KD_2 := KD.c 2 _ rfl
          have KD_3 := KD.c 3 _ rfl
          go_wp2_with fail
          clear KX_0 KX_1 KX_2 KX_3 KY_0 KY_1 KY_2 KY_3 KZ_0 KZ_1 KZ_2 KZ_3 KD_0 KD_1 KD_2 KD_3
          refine (ES.out _ L1 L2).mono ?_
          rintro _ w7 ⟨rfl, hb⟩
          replace KX := KX.on hb
          replace KY := KY.on hb
          replace KZ := KZ.on hb
          replace KD := KD.on hb
          replace L1 := L1.on hb
          replace L2 := L2.on hb
          replace L3 := L3.on hb
          replace BW := BW.trans (hb.mono BW.size)
          clear hb
          have KX_0 := KX.c 0 _ rfl
          have KX_1 := KX.c 1 _ rfl
          have KX_2 := KX.c 2 _ rfl
          have KX_3 := KX.c 3 _ rfl
          have KY_0 := KY.c 0 _ rfl
          have KY_1 := KY.c 1 _ rfl
          have KY_2 := KY.c 2 _ rfl
          have KY_3 := KY.c 3 _ rfl
          have KZ_0 := KZ.c 0 _ rfl
          have KZ_1 := KZ.c 1 _ rfl
          have KZ_2 := KZ.c 2 _ rfl
          have KZ_3 := KZ.c 3 _ rfl
          have KD_0 := KD.c 0 _ rfl
          have KD_1 := KD.c 1 _ rfl
          have KD_2 := KD.c 2 _ rfl
          have KD_3 := KD.c 3 _ rfl
          go_wp2_with fail
          clear KX_0 KX_1 KX_2 KX_3 KY_0 KY_1 KY_2 KY_3 KZ_0 KZ_1 KZ_2 KZ_3 KD_0 KD_1 KD_2 KD_3
          refine (lives_any _ (tab_below HT.out BW)).mono ?_
          rintro _ wl ⟨rfl, hb⟩
          replace BW := BW.trans (hb.mono BW.size)
          go_wp2
          go_ret
          exact ⟨rfl, BW⟩
end Go.Proofs.YtjilhplonaomoaaGreatDoor
