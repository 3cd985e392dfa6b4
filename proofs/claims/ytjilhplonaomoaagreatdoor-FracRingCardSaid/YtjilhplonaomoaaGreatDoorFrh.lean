/-
  The statements' costs, frac.Make and Of, the statements' own fixed fractions. Conditions: as each theorem states.
-/
import Derived.Test.YtjilhplonaomoaaGreatDoorFqe
import Derived.Deep.RegionHeld3
import Derived.Deep.DeepCutAuto
import Derived.BigRegion
import Derived.Test.YtjilhplonaomoaaGreatDoorFq7
import Derived.Test.YtjilhplonaomoaaGreatDoorFre
import Derived.Test.YtjilhplonaomoaaGreatDoorFix
import Derived.Test.YtjilhplonaomoaaGreatDoorWText
/-! ### Frf -/
namespace Go.Proofs.YtjilhplonaomoaaGreatDoor
open Go.RowKit Nb

set_option maxHeartbeats 1000000 in
theorem isize_any (n : Bool) (A : Option Addr) (l c : Nat) (w : World) :
    Calls Tryz.prog 72 #[big n A l c] w (fun e w' => (∃ k : Int, e = .returned (.int .i64 k)) ∧ Below w.heap.size w w') := by
  go_enter Tryz.func72, Tryz.ntmps72
  go_wp2
  go_ret
  exact ⟨⟨_, rfl⟩, by go_grown⟩
set_option maxHeartbeats 1000000 in
theorem lowest_any (n m : Bool) (A B : Option Addr) (l c k d : Nat) (w : World) :
    Calls Tryz.prog 34 #[big n A l c, big m B k d] w (fun e w' => (∃ k : Int, e = .returned (.int .i64 k)) ∧ Below w.heap.size w w') := by
  go_enter Tryz.func34, Tryz.ntmps34
  go_wp2
  go_ret
  exact ⟨⟨_, rfl⟩, by go_grown⟩

set_option maxHeartbeats 8000000 in
set_option maxRecDepth 20000 in
theorem fsize_any (n m : Bool) (A B : Option Addr) (l c k d : Nat) (w : World) :
    Calls Tryz.prog 31 #[frq n A l c m B k d] w (fun e w' => (∃ k : Int, e = .returned (.int .i64 k)) ∧ Below w.heap.size w w') := by
  obtain ⟨V, hV⟩ : ∃ V, V = (w.alloc (.cells #[.bool n, .slice A l c, .bool m, .slice B k d] 26)) := ⟨_, rfl⟩
  have BW : Below w.heap.size w V := by rw [hV]; go_grown
  have KX : Box V w.heap.size [.bool n, .slice A l c, .bool m, .slice B k d] := by rw [hV]; exact Box.new w _ _
  have KX_0 := KX.c 0 _ rfl
  have KX_1 := KX.c 1 _ rfl
  have KX_2 := KX.c 2 _ rfl
  have KX_3 := KX.c 3 _ rfl
  go_enter Tryz.func31, Tryz.ntmps31
  go_wp2_with fail
  clear KX_0 KX_1 KX_2 KX_3
  rw [← hV]
  clear hV
  refine wp_region_noPanic ?_
  have hb : Below V.heap.size V V.drew := (Below.refl _ _).drew
  replace KX := KX.on hb
  replace BW := BW.trans (hb.mono BW.size)
  clear hb
  refine wp_region_held_drew (S := (fun wx => wx.cell? ⟨w.heap.size, 0, none⟩ = some (.bool n) ∧ wx.cell? ⟨w.heap.size, 1, none⟩ = some (.slice A l c) ∧ wx.cell? ⟨w.heap.size, 2, none⟩ = some (.bool m) ∧ wx.cell? ⟨w.heap.size, 3, none⟩ = some (.slice B k d))) (by kernel_rfl) (by exact ⟨KX.c 0 _ rfl, KX.c 1 _ rfl, KX.c 2 _ rfl, KX.c 3 _ rfl⟩) (fun hHeld => ?_)
  generalize V.drew = Vd at *
  refine wpAnyH_take (i := 0) (v := ?_) (by (simp only [List.getElem?_toArray, List.getElem?_cons_zero]; rfl)) (by kernel_rfl) (by kernel_rfl) (by kernel_rfl) (fun _ _ _ h => h) (Or.inl ⟨by rfl, ?_⟩) (by assumption) ?_
  rotate_left
  · intro wt hSw
    (try dsimp only at hSw)
    go_simp
    (try with_reducible rfl)
  (try simp only [Act.put, List.setIfInBounds_toArray, List.set_cons_zero, List.set_cons_succ])
  refine wpAnyH_take (i := 1) (v := ?_) (by (simp only [List.getElem?_toArray, List.getElem?_cons_succ, List.getElem?_cons_zero]; rfl)) (by kernel_rfl) (by kernel_rfl) (by kernel_rfl) (fun _ _ _ h => h) (Or.inl ⟨by rfl, ?_⟩) (by assumption) ?_
  rotate_left
  · intro wt hSw
    (try dsimp only at hSw)
    go_simp
    (try with_reducible rfl)
  (try simp only [Act.put, List.setIfInBounds_toArray, List.set_cons_zero, List.set_cons_succ])
  refine wpAnyH_take (i := 3) (v := ?_) (by (simp only [List.getElem?_toArray, List.getElem?_cons_succ, List.getElem?_cons_zero]; rfl)) (by kernel_rfl) (by kernel_rfl) (by kernel_rfl) (fun _ _ _ h => h) (Or.inl ⟨by rfl, ?_⟩) (by assumption) ?_
  rotate_left
  · intro wt hSw
    (try dsimp only at hSw)
    go_simp
    (try with_reducible rfl)
  (try simp only [Act.put, List.setIfInBounds_toArray, List.set_cons_zero, List.set_cons_succ])
  refine wpAnyH_take (i := 4) (v := ?_) (by (simp only [List.getElem?_toArray, List.getElem?_cons_succ, List.getElem?_cons_zero]; rfl)) (by kernel_rfl) (by kernel_rfl) (by kernel_rfl) (fun _ _ _ h => h) (Or.inl ⟨by rfl, ?_⟩) (by assumption) ?_
  rotate_left
  · intro wt hSw
    (try dsimp only at hSw)
    go_simp
    (try with_reducible rfl)
  (try simp only [Act.put, List.setIfInBounds_toArray, List.set_cons_zero, List.set_cons_succ])
  refine wpAnyH_ready (rs := [2]) (by kernel_rfl) (by simp) (AllReadyH.cons (by (simp only [List.getElem?_toArray, List.getElem?_cons_succ, List.getElem?_cons_zero]; rfl)) (fun K hK => ?_) AllReadyH.nil)
  go_simp
  (go_at_call 72; with_reducible refine (isize_any _ _ _ _ _).mono ?_)
  rintro _ wc0 ⟨⟨i1, rfl⟩, hb⟩
  (try go_wp2_with fail)
  replace KX := KX.on hb
  replace BW := BW.trans (hb.mono BW.size)
  clear hb
  refine hK.out _ _ (by exact ⟨KX.c 0 _ rfl, KX.c 1 _ rfl, KX.c 2 _ rfl, KX.c 3 _ rfl⟩) (fun hHeld => ?_)
  clear hK
  (try simp only [Act.put, List.setIfInBounds_toArray, List.set_cons_zero, List.set_cons_succ])
  refine wpAnyH_ready (rs := [5]) (by kernel_rfl) (by simp) (AllReadyH.cons (by (simp only [List.getElem?_toArray, List.getElem?_cons_succ, List.getElem?_cons_zero]; rfl)) (fun K hK => ?_) AllReadyH.nil)
  go_simp
  (go_at_call 72; with_reducible refine (isize_any _ _ _ _ _).mono ?_)
  rintro _ wc1 ⟨⟨i2, rfl⟩, hb⟩
  (try go_wp2_with fail)
  replace KX := KX.on hb
  replace BW := BW.trans (hb.mono BW.size)
  clear hb
  refine hK.out _ _ (by exact ⟨KX.c 0 _ rfl, KX.c 1 _ rfl, KX.c 2 _ rfl, KX.c 3 _ rfl⟩) (fun hHeld => ?_)
  clear hK
  (try simp only [Act.put, List.setIfInBounds_toArray, List.set_cons_zero, List.set_cons_succ])
  refine wpAnyH_take (i := 6) (v := ?_) (by (simp only [List.getElem?_toArray, List.getElem?_cons_succ, List.getElem?_cons_zero]; rfl)) (by kernel_rfl) (by kernel_rfl) (by kernel_rfl) (fun _ _ _ h => h) (Or.inl ⟨by rfl, ?_⟩) (by assumption) ?_
  rotate_left
  · intro wt hSw
    (try dsimp only at hSw)
    go_simp
    (try with_reducible rfl)
  (try simp only [Act.put, List.setIfInBounds_toArray, List.set_cons_zero, List.set_cons_succ])
  refine wpAnyH_take (i := 7) (v := ?_) (by (simp only [List.getElem?_toArray, List.getElem?_cons_succ, List.getElem?_cons_zero]; rfl)) (by kernel_rfl) (by kernel_rfl) (by kernel_rfl) (fun _ _ _ h => h) (Or.inl ⟨by rfl, ?_⟩) (by assumption) ?_
  rotate_left
  · intro wt hSw
    (try dsimp only at hSw)
    go_simp
    (try with_reducible rfl)
  (try simp only [Act.put, List.setIfInBounds_toArray, List.set_cons_zero, List.set_cons_succ])
  refine wpAnyH_done (by kernel_rfl) (NoPanic.normal ?_) _
  go_wp2
  go_ret
  exact ⟨⟨_, rfl⟩, BW⟩

set_option maxHeartbeats 8000000 in
set_option maxRecDepth 20000 in
theorem fcost_any (n m : Bool) (A B : Option Addr) (l c k d : Nat) (w : World) :
    Calls Tryz.prog 9 #[frq n A l c m B k d] w (fun e w' => (∃ k : Int, e = .returned (.int .i64 k)) ∧ Below w.heap.size w w') := by
  obtain ⟨V, hV⟩ : ∃ V, V = (w.alloc (.cells #[.bool n, .slice A l c, .bool m, .slice B k d] 26)) := ⟨_, rfl⟩
  have BW : Below w.heap.size w V := by rw [hV]; go_grown
  have KX : Box V w.heap.size [.bool n, .slice A l c, .bool m, .slice B k d] := by rw [hV]; exact Box.new w _ _
  have KX_0 := KX.c 0 _ rfl
  have KX_1 := KX.c 1 _ rfl
  have KX_2 := KX.c 2 _ rfl
  have KX_3 := KX.c 3 _ rfl
  go_enter Tryz.func9, Tryz.ntmps9
  go_wp2_with fail
  clear KX_0 KX_1 KX_2 KX_3
  rw [← hV]
  clear hV
  refine wp_region_noPanic ?_
  have hb : Below V.heap.size V V.drew := (Below.refl _ _).drew
  replace KX := KX.on hb
  replace BW := BW.trans (hb.mono BW.size)
  clear hb
  refine wp_region_held_drew (S := (fun wx => wx.cell? ⟨w.heap.size, 0, none⟩ = some (.bool n) ∧ wx.cell? ⟨w.heap.size, 1, none⟩ = some (.slice A l c) ∧ wx.cell? ⟨w.heap.size, 2, none⟩ = some (.bool m) ∧ wx.cell? ⟨w.heap.size, 3, none⟩ = some (.slice B k d))) (by kernel_rfl) (by exact ⟨KX.c 0 _ rfl, KX.c 1 _ rfl, KX.c 2 _ rfl, KX.c 3 _ rfl⟩) (fun hHeld => ?_)
  generalize V.drew = Vd at *
  refine wpAnyH_take (i := 0) (v := ?_) (by (simp only [List.getElem?_toArray, List.getElem?_cons_zero]; rfl)) (by kernel_rfl) (by kernel_rfl) (by kernel_rfl) (fun _ _ _ h => h) (Or.inl ⟨by rfl, ?_⟩) (by assumption) ?_
  rotate_left
  · intro wt hSw
    (try dsimp only at hSw)
    go_simp
    (try with_reducible rfl)
  (try simp only [Act.put, List.setIfInBounds_toArray, List.set_cons_zero, List.set_cons_succ])
  refine wpAnyH_take (i := 2) (v := ?_) (by (simp only [List.getElem?_toArray, List.getElem?_cons_succ, List.getElem?_cons_zero]; rfl)) (by kernel_rfl) (by kernel_rfl) (by kernel_rfl) (fun _ _ _ h => h) (Or.inl ⟨by rfl, ?_⟩) (by assumption) ?_
  rotate_left
  · intro wt hSw
    (try dsimp only at hSw)
    go_simp
    (try with_reducible rfl)
  (try simp only [Act.put, List.setIfInBounds_toArray, List.set_cons_zero, List.set_cons_succ])
  refine wpAnyH_take (i := 3) (v := ?_) (by (simp only [List.getElem?_toArray, List.getElem?_cons_succ, List.getElem?_cons_zero]; rfl)) (by kernel_rfl) (by kernel_rfl) (by kernel_rfl) (fun _ _ _ h => h) (Or.inl ⟨by rfl, ?_⟩) (by assumption) ?_
  rotate_left
  · intro wt hSw
    (try dsimp only at hSw)
    go_simp
    (try with_reducible rfl)
  (try simp only [Act.put, List.setIfInBounds_toArray, List.set_cons_zero, List.set_cons_succ])
  refine wpAnyH_take (i := 4) (v := ?_) (by (simp only [List.getElem?_toArray, List.getElem?_cons_succ, List.getElem?_cons_zero]; rfl)) (by kernel_rfl) (by kernel_rfl) (by kernel_rfl) (fun _ _ _ h => h) (Or.inl ⟨by rfl, ?_⟩) (by assumption) ?_
  rotate_left
  · intro wt hSw
    (try dsimp only at hSw)
    go_simp
    (try with_reducible rfl)
  (try simp only [Act.put, List.setIfInBounds_toArray, List.set_cons_zero, List.set_cons_succ])
  refine wpAnyH_take (i := 5) (v := ?_) (by (simp only [List.getElem?_toArray, List.getElem?_cons_succ, List.getElem?_cons_zero]; rfl)) (by kernel_rfl) (by kernel_rfl) (by kernel_rfl) (fun _ _ _ h => h) (Or.inl ⟨by rfl, ?_⟩) (by assumption) ?_
  rotate_left
  · intro wt hSw
    (try dsimp only at hSw)
    go_simp
    (try with_reducible rfl)
  (try simp only [Act.put, List.setIfInBounds_toArray, List.set_cons_zero, List.set_cons_succ])
  refine wpAnyH_ready (rs := [1]) (by kernel_rfl) (by simp) (AllReadyH.cons (by (simp only [List.getElem?_toArray, List.getElem?_cons_succ, List.getElem?_cons_zero]; rfl)) (fun K hK => ?_) AllReadyH.nil)
  go_simp
  (go_at_call 31; with_reducible refine (fsize_any _ _ _ _ _ _ _ _ _).mono ?_)
  rintro _ wc0 ⟨⟨i1, rfl⟩, hb⟩
  (try go_wp2_with fail)
  replace KX := KX.on hb
  replace BW := BW.trans (hb.mono BW.size)
  clear hb
  refine hK.out _ _ (by exact ⟨KX.c 0 _ rfl, KX.c 1 _ rfl, KX.c 2 _ rfl, KX.c 3 _ rfl⟩) (fun hHeld => ?_)
  clear hK
  (try simp only [Act.put, List.setIfInBounds_toArray, List.set_cons_zero, List.set_cons_succ])
  refine wpAnyH_ready (rs := [6]) (by kernel_rfl) (by simp) (AllReadyH.cons (by (simp only [List.getElem?_toArray, List.getElem?_cons_succ, List.getElem?_cons_zero]; rfl)) (fun K hK => ?_) AllReadyH.nil)
  go_simp
  (go_at_call 34; with_reducible refine (lowest_any _ _ _ _ _ _ _ _ _).mono ?_)
  rintro _ wc1 ⟨⟨i2, rfl⟩, hb⟩
  (try go_wp2_with fail)
  replace KX := KX.on hb
  replace BW := BW.trans (hb.mono BW.size)
  clear hb
  refine hK.out _ _ (by exact ⟨KX.c 0 _ rfl, KX.c 1 _ rfl, KX.c 2 _ rfl, KX.c 3 _ rfl⟩) (fun hHeld => ?_)
  clear hK
  (try simp only [Act.put, List.setIfInBounds_toArray, List.set_cons_zero, List.set_cons_succ])
  refine wpAnyH_take (i := 7) (v := ?_) (by (simp only [List.getElem?_toArray, List.getElem?_cons_succ, List.getElem?_cons_zero]; rfl)) (by kernel_rfl) (by kernel_rfl) (by kernel_rfl) (fun _ _ _ h => h) (Or.inl ⟨by rfl, ?_⟩) (by assumption) ?_
  rotate_left
  · intro wt hSw
    (try dsimp only at hSw)
    go_simp
    (try with_reducible rfl)
  (try simp only [Act.put, List.setIfInBounds_toArray, List.set_cons_zero, List.set_cons_succ])
  refine wpAnyH_take (i := 8) (v := ?_) (by (simp only [List.getElem?_toArray, List.getElem?_cons_succ, List.getElem?_cons_zero]; rfl)) (by kernel_rfl) (by kernel_rfl) (by kernel_rfl) (fun _ _ _ h => h) (Or.inl ⟨by rfl, ?_⟩) (by assumption) ?_
  rotate_left
  · intro wt hSw
    (try dsimp only at hSw)
    go_simp
    (try with_reducible rfl)
  (try simp only [Act.put, List.setIfInBounds_toArray, List.set_cons_zero, List.set_cons_succ])
  refine wpAnyH_done (by kernel_rfl) (NoPanic.normal ?_) _
  go_wp2
  go_ret
  exact ⟨⟨_, rfl⟩, BW⟩

set_option maxHeartbeats 2000000 in
theorem beyond_three (g l : Nat) (k1 k2 k3 : Int) (w : World) (c0 : w.cell? ⟨g, 0, none⟩ = some (.int .i64 k1)) (c1 : w.cell? ⟨g, 1, none⟩ = some (.int .i64 k2)) (c2 : w.cell? ⟨g, 2, none⟩ = some (.int .i64 k3)) :
    Calls Tryz.prog 8 #[.slice (some ⟨g, 0, none⟩) 3 l] w fun e w' => (∃ b : Bool, e = .returned (.bool b)) ∧ Below w.heap.size w w' := by
  go_enter Tryz.func8, Tryz.ntmps8
  go_wp2
  refine wp_loop_rounds 4 ?_
  rw [rounds_succ]
  go_wp2
  all_goals try (go_ret; exact ⟨⟨_, rfl⟩, Below.refl _ _⟩)
  all_goals rw [rounds_succ]
  all_goals go_wp2
  all_goals try (go_ret; exact ⟨⟨_, rfl⟩, Below.refl _ _⟩)
  all_goals rw [rounds_succ]
  all_goals go_wp2
  all_goals try (go_ret; exact ⟨⟨_, rfl⟩, Below.refl _ _⟩)
  all_goals rw [rounds_succ]
  all_goals go_wp2
  all_goals (go_ret; exact ⟨⟨_, rfl⟩, Below.refl _ _⟩)
end Go.Proofs.YtjilhplonaomoaaGreatDoor

/-! ### Frg -/
namespace Go.Proofs.YtjilhplonaomoaaGreatDoor
open Go.RowKit Nb

theorem Rk.ofTold {W : World} {z : Rat} {bad : Prop} {n m : Bool} {A B : Option Addr} {xs ds : List Nat} {c d : Nat} {er : Int} (hb : ¬ bad) (h : (FitsQ z ∧ er = 0 ∧ m = false ∧ Lf W z n A xs c B ds d) ∨ (¬ FitsQ z ∧ er = 4 ∧ n = false ∧ A = none ∧ xs = [] ∧ c = 0 ∧ m = false ∧ B = none ∧ ds = [] ∧ d = 0)) : Rk W bad z n A xs c m B ds d er := by
  rcases h with ⟨a, b, e1, f⟩ | ⟨a, b, e1⟩
  · exact .inl ⟨hb, a, b, e1, f⟩
  · exact .inr ⟨.inr ⟨hb, a, b⟩, e1⟩
set_option maxHeartbeats 8000000 in
set_option maxRecDepth 20000 in
theorem frac_make (X Y : Int) (n m : Bool) (A B : Option Addr) (xs ds : List Nat) (c d : Nat) (w : World) (h : Nl w X n A xs c) (k : Nl w Y m B ds d) :
    Calls Tryz.prog 75 #[big n A xs.length c, big m B ds.length d] w (ReckF w (Y = 0) (Rat.divInt X Y)) := by
  obtain ⟨V, hV, BW, hz, RR, KX, KY, FX, FY⟩ := box_ints w n A xs.length c m B ds.length d 24 24 26
  have Xn := h.on BW
  have Yn := k.on BW
  clear h k hz FX FY
  have KX_0 := KX.c 0 _ rfl
  have KX_1 := KX.c 1 _ rfl
  have KY_0 := KY.c 0 _ rfl
  have KY_1 := KY.c 1 _ rfl
  go_enter Tryz.func75, Tryz.ntmps75
  go_wp2_with fail
  clear KX_0 KX_1 KY_0 KY_1
  rw [← hV]
  clear hV
  refine (check_u n A xs c V Xn.lm.sl Xn.lm.sz).mono ?_
  rw [chkV_ok Xn.lm.ok]
  rintro _ w1 ⟨rfl, hb⟩
  replace KX := KX.on hb
  replace KY := KY.on hb
  replace Xn := Xn.on hb
  replace Yn := Yn.on hb
  replace RR := RR.on hb
  replace BW := BW.trans (hb.mono BW.size)
  clear hb
  have KX_0 := KX.c 0 _ rfl
  have KX_1 := KX.c 1 _ rfl
  have KY_0 := KY.c 0 _ rfl
  have KY_1 := KY.c 1 _ rfl
  go_wp2_with fail
  clear KX_0 KX_1 KY_0 KY_1
  refine (check_u m B ds d w1 Yn.lm.sl Yn.lm.sz).mono ?_
  rw [chkV_ok Yn.lm.ok]
  rintro _ w2 ⟨rfl, hb⟩
  replace KX := KX.on hb
  replace KY := KY.on hb
  replace Xn := Xn.on hb
  replace Yn := Yn.on hb
  replace RR := RR.on hb
  replace BW := BW.trans (hb.mono BW.size)
  clear hb
  have KX_0 := KX.c 0 _ rfl
  have KX_1 := KX.c 1 _ rfl
  have KY_0 := KY.c 0 _ rfl
  have KY_1 := KY.c 1 _ rfl
  go_wp2_with fail
  clear KX_0 KX_1 KY_0 KY_1
  refine (wsign_u m B ds d w2 Yn.lm.sl Yn.lm.dig Yn.lm.sz).mono ?_
  rw [sgnV_nl Yn]
  rintro _ w3 ⟨rfl, hb⟩
  replace KX := KX.on hb
  replace KY := KY.on hb
  replace Xn := Xn.on hb
  replace Yn := Yn.on hb
  replace RR := RR.on hb
  replace BW := BW.trans (hb.mono BW.size)
  clear hb
  by_cases hY : Y = 0
  · have hs : Y.sign = 0 := by rw [hY]; rfl
    rw [hs]
    clear hs
    have KX_0 := KX.c 0 _ rfl
    have KX_1 := KX.c 1 _ rfl
    have KY_0 := KY.c 0 _ rfl
    have KY_1 := KY.c 1 _ rfl
    have y0 := RR.r0
    have y1 := RR.r1
    have y2 := RR.r2
    have y3 := RR.r3
    have y4 := RR.f0
    have y5 := RR.f1
    have y6 := RR.f2
    have y7 := RR.f3
    have HL := Lib.hid (Below.putq BW (r := w.heap.size + 1 + 1) (by omega) (.bool false) (.slice none 0 0) (.bool false) (.slice none 0 0))
    have HB := Lib.hid hY
    clear Xn Yn BW KX KY RR hY
    go_wp2
    exact bodyPost_ret (v := .tuple #[frq false none ([] : List Nat).length 0 false none ([] : List Nat).length 0, .int .i64 3]) (by simp [results, Tryz.results75, go_sem, y0, y1, y2, y3]) rfl ⟨_, _, _, _, _, _, _, _, _, rfl, .inr ⟨.inl ⟨HB.out, rfl⟩, Zq.mk'⟩, HL.out⟩
  · have hs : Y.sign ≠ 0 := fun e => hY (Int.sign_eq_zero_iff_zero.1 e)
    generalize Y.sign = sg at *
    have KX_0 := KX.c 0 _ rfl
    have KX_1 := KX.c 1 _ rfl
    have KY_0 := KY.c 0 _ rfl
    have KY_1 := KY.c 1 _ rfl
    go_wp2_with fail
    clear hs
    clear KX_0 KX_1 KY_0 KY_1
    refine wp_region_noPanic ?_
    have hb : Below w3.heap.size w3 w3.drew := (Below.refl _ _).drew
    replace KX := KX.on hb
    replace KY := KY.on hb
    replace Xn := Xn.on hb
    replace Yn := Yn.on hb
    replace RR := RR.on hb
    replace BW := BW.trans (hb.mono BW.size)
    clear hb
    refine wp_region_held_drew (S := (fun wx => wx.cell? ⟨w.heap.size, 0, none⟩ = some (.bool n) ∧ wx.cell? ⟨w.heap.size, 1, none⟩ = some (.slice A xs.length c) ∧ wx.cell? ⟨w.heap.size + 1, 0, none⟩ = some (.bool m) ∧ wx.cell? ⟨w.heap.size + 1, 1, none⟩ = some (.slice B ds.length d))) (by kernel_rfl) (by exact ⟨KX.c 0 _ rfl, KX.c 1 _ rfl, KY.c 0 _ rfl, KY.c 1 _ rfl⟩) (fun hHeld => ?_)
    generalize w3.drew = Vd at *
    refine wpAnyH_take (i := 0) (v := ?_) (by (simp only [List.getElem?_toArray, List.getElem?_cons_zero]; rfl)) (by kernel_rfl) (by kernel_rfl) (by kernel_rfl) (fun _ _ _ h => h) (Or.inl ⟨by rfl, ?_⟩) (by assumption) ?_
    rotate_left
    · intro wt hSw
      (try dsimp only at hSw)
      go_simp
      (try with_reducible rfl)
    (try simp only [Act.put, List.setIfInBounds_toArray, List.set_cons_zero, List.set_cons_succ])
    refine wpAnyH_take (i := 2) (v := ?_) (by (simp only [List.getElem?_toArray, List.getElem?_cons_succ, List.getElem?_cons_zero]; rfl)) (by kernel_rfl) (by kernel_rfl) (by kernel_rfl) (fun _ _ _ h => h) (Or.inl ⟨by rfl, ?_⟩) (by assumption) ?_
    rotate_left
    · intro wt hSw
      (try dsimp only at hSw)
      go_simp
      (try with_reducible rfl)
    (try simp only [Act.put, List.setIfInBounds_toArray, List.set_cons_zero, List.set_cons_succ])
    refine wpAnyH_ready (rs := [1]) (by kernel_rfl) (by simp) (AllReadyH.cons (by (simp only [List.getElem?_toArray, List.getElem?_cons_succ, List.getElem?_cons_zero]; rfl)) (fun K hK => ?_) AllReadyH.nil)
    go_simp
    (go_at_call 77; with_reducible refine (from_n Xn).mono ?_)
    rintro _ wc0 ⟨un, uA, uz, uk, rfl, Nu, hb⟩
    (try go_wp2_with fail)
    replace KX := KX.on hb
    replace KY := KY.on hb
    replace Xn := Xn.on hb
    replace Yn := Yn.on hb
    replace RR := RR.on hb
    replace BW := BW.trans (hb.mono BW.size)
    clear hb
    refine hK.out _ _ (by exact ⟨KX.c 0 _ rfl, KX.c 1 _ rfl, KY.c 0 _ rfl, KY.c 1 _ rfl⟩) (fun hHeld => ?_)
    clear hK
    (try simp only [Act.put, List.setIfInBounds_toArray, List.set_cons_zero, List.set_cons_succ])
    refine wpAnyH_ready (rs := [3]) (by kernel_rfl) (by simp) (AllReadyH.cons (by (simp only [List.getElem?_toArray, List.getElem?_cons_succ, List.getElem?_cons_zero]; rfl)) (fun K hK => ?_) AllReadyH.nil)
    go_simp
    (go_at_call 77; with_reducible refine (from_n Yn).mono ?_)
    rintro _ wc1 ⟨vn, vA, vz, vk, rfl, Nv, hb⟩
    (try go_wp2_with fail)
    replace KX := KX.on hb
    replace KY := KY.on hb
    replace Xn := Xn.on hb
    replace Yn := Yn.on hb
    replace Nu := Nu.on hb
    replace RR := RR.on hb
    replace BW := BW.trans (hb.mono BW.size)
    clear hb
    refine hK.out _ _ (by exact ⟨KX.c 0 _ rfl, KX.c 1 _ rfl, KY.c 0 _ rfl, KY.c 1 _ rfl⟩) (fun hHeld => ?_)
    clear hK
    (try simp only [Act.put, List.setIfInBounds_toArray, List.set_cons_zero, List.set_cons_succ])
    refine wpAnyH_ready (rs := [4]) (by kernel_rfl) (by simp) (AllReadyH.cons (by (simp only [List.getElem?_toArray, List.getElem?_cons_succ, List.getElem?_cons_zero]; rfl)) (fun K hK => ?_) AllReadyH.nil)
    go_simp
    (go_at_call 73; with_reducible refine (ratio_any X Y _ _ _ _ _ _ _ _ 1024 _ Nu Nv hY (by decide)).mono ?_)
    rintro _ wc2 ⟨sn, sA, sz, sk, sB, sd, sl, rfl, Ls, hb⟩
    (try go_wp2_with fail)
    replace KX := KX.on hb
    replace KY := KY.on hb
    replace Xn := Xn.on hb
    replace Yn := Yn.on hb
    replace Nu := Nu.on hb
    replace Nv := Nv.on hb
    replace RR := RR.on hb
    replace BW := BW.trans (hb.mono BW.size)
    clear hb
    refine hK.out _ _ (by exact ⟨KX.c 0 _ rfl, KX.c 1 _ rfl, KY.c 0 _ rfl, KY.c 1 _ rfl⟩) (fun hHeld => ?_)
    clear hK
    (try simp only [Act.put, List.setIfInBounds_toArray, List.set_cons_zero, List.set_cons_succ])
    refine wpAnyH_ready (rs := [5]) (by kernel_rfl) (by simp) (AllReadyH.cons (by (simp only [List.getElem?_toArray, List.getElem?_cons_succ, List.getElem?_cons_zero]; rfl)) (fun K hK => ?_) AllReadyH.nil)
    go_simp
    (go_at_call 69; with_reducible refine (ffit_any _ _ _ _ _ _ _ _ _ _ Ls (by decide)).mono ?_)
    rintro _ wc3 ⟨tn, tA, tz, tk, tm, tB, td, tl, er, rfl, Ht, hb⟩
    (try go_wp2_with fail)
    have Rt := Rk.ofTold (bad := Y = 0) hY Ht
    clear Ht
    replace KX := KX.on hb
    replace KY := KY.on hb
    replace Xn := Xn.on hb
    replace Yn := Yn.on hb
    replace Nu := Nu.on hb
    replace Nv := Nv.on hb
    replace Ls := Ls.on hb
    replace RR := RR.on hb
    replace BW := BW.trans (hb.mono BW.size)
    clear hb
    refine hK.out _ _ (by exact ⟨KX.c 0 _ rfl, KX.c 1 _ rfl, KY.c 0 _ rfl, KY.c 1 _ rfl⟩) (fun hHeld => ?_)
    clear hK
    (try simp only [Act.put, List.setIfInBounds_toArray, List.set_cons_zero, List.set_cons_succ])
    refine wpAnyH_take (i := 6) (v := ?_) (by (simp only [List.getElem?_toArray, List.getElem?_cons_succ, List.getElem?_cons_zero]; rfl)) (by kernel_rfl) (by kernel_rfl) (by kernel_rfl) (fun _ _ _ h => h) (Or.inl ⟨by rfl, ?_⟩) (by assumption) ?_
    rotate_left
    · intro wt hSw
      (try dsimp only at hSw)
      go_simp
      (try with_reducible rfl)
    (try simp only [Act.put, List.setIfInBounds_toArray, List.set_cons_zero, List.set_cons_succ])
    refine wpAnyH_take (i := 7) (v := ?_) (by (simp only [List.getElem?_toArray, List.getElem?_cons_succ, List.getElem?_cons_zero]; rfl)) (by kernel_rfl) (by kernel_rfl) (by kernel_rfl) (fun _ _ _ h => h) (Or.inl ⟨by rfl, ?_⟩) (by assumption) ?_
    rotate_left
    · intro wt hSw
      (try dsimp only at hSw)
      go_simp
      (try with_reducible rfl)
    (try simp only [Act.put, List.setIfInBounds_toArray, List.set_cons_zero, List.set_cons_succ])
    have y0 := RR.r0
    have y1 := RR.r1
    have y2 := RR.r2
    have y3 := RR.r3
    have y4 := RR.f0
    have y5 := RR.f1
    have y6 := RR.f2
    have y7 := RR.f3
    refine wpAnyH_ready (rs := [8]) (by kernel_rfl) (by simp) (AllReadyH.cons (by (simp only [List.getElem?_toArray, List.getElem?_cons_succ, List.getElem?_cons_zero]; rfl)) (fun K hK => ?_) AllReadyH.nil)
    go_simp
    replace KX := KX.far4 (g := w.heap.size + 1 + 1) (by omega) (.bool tn) (.slice tA tz.length tk) (.bool tm) (.slice tB td.length tl)
    replace KY := KY.far4 (g := w.heap.size + 1 + 1) (by omega) (.bool tn) (.slice tA tz.length tk) (.bool tm) (.slice tB td.length tl)
    replace Rt := Rt.put4 RR (.bool tn) (.slice tA tz.length tk) (.bool tm) (.slice tB td.length tl)
    replace BW := Below.putq BW (r := w.heap.size + 1 + 1) (by omega) (.bool tn) (.slice tA tz.length tk) (.bool tm) (.slice tB td.length tl)
    have KR := Box.laidQ RR (.bool tn) (.slice tA tz.length tk) (.bool tm) (.slice tB td.length tl)
    clear RR y0 y1 y2 y3 y4 y5 y6 y7
    generalize ((((wc3.setCell ⟨w.heap.size + 1 + 1, 0, none⟩ (.bool tn)).setCell ⟨w.heap.size + 1 + 1, 1, none⟩ (.slice tA tz.length tk)).setCell ⟨w.heap.size + 1 + 1, 2, none⟩ (.bool tm)).setCell ⟨w.heap.size + 1 + 1, 3, none⟩ (.slice tB td.length tl)) = ws at *
    refine hK.out _ _ (by exact ⟨KX.c 0 _ rfl, KX.c 1 _ rfl, KY.c 0 _ rfl, KY.c 1 _ rfl⟩) (fun hHeld => ?_)
    clear hK
    (try simp only [Act.put, List.setIfInBounds_toArray, List.set_cons_zero, List.set_cons_succ])
    refine wpAnyH_take (i := 9) (v := ?_) (by (simp only [List.getElem?_toArray, List.getElem?_cons_succ, List.getElem?_cons_zero]; rfl)) (by kernel_rfl) (by kernel_rfl) (by kernel_rfl) (fun _ _ _ h => h) (Or.inl ⟨by rfl, ?_⟩) (by assumption) ?_
    rotate_left
    · intro wt hSw
      (try dsimp only at hSw)
      go_simp
      (try with_reducible rfl)
    (try simp only [Act.put, List.setIfInBounds_toArray, List.set_cons_zero, List.set_cons_succ])
    refine wpAnyH_done (by kernel_rfl) (NoPanic.normal ?_) _
    have y0 := KR.c 0 _ rfl
    have y1 := KR.c 1 _ rfl
    have y2 := KR.c 2 _ rfl
    have y3 := KR.c 3 _ rfl
    go_wp2
    exact bodyPost_ret (v := .tuple #[frq tn tA tz.length tk tm tB td.length tl, .int .i64 er]) (by simp [results, Tryz.results75, go_sem, y0, y1, y2, y3]) rfl ⟨_, _, _, _, _, _, _, _, _, rfl, Rt, BW⟩

theorem of_nl (n : Int) (w : World) (h0 : -9223372036854775808 ≤ n) (h1 : n ≤ 9223372036854775807) :
    Calls Tryz.prog 38 #[.int .i64 n] w (GivesL32 w n) := by
  refine (of_fix n (decide (n < 0)) w h0 h1 rfl).mono ?_
  rintro e w' ⟨A, c, xs, rfl, hl, hv, _, hb⟩
  exact ⟨_, A, xs, c, rfl, ⟨hl, hv⟩, hb⟩

set_option maxHeartbeats 8000000 in
set_option maxRecDepth 20000 in
theorem frac_of (X Y : Int) (w : World) (h0 : -9223372036854775808 ≤ X) (h1 : X ≤ 9223372036854775807) (k0 : -9223372036854775808 ≤ Y) (k1 : Y ≤ 9223372036854775807) :
    Calls Tryz.prog 33 #[.int .i64 X, .int .i64 Y] w (ReckF w (Y = 0) (Rat.divInt X Y)) := by
  have H1 := Lib.hid (fun W => of_nl X W h0 h1)
  have H2 := Lib.hid (fun W => of_nl Y W k0 k1)
  clear h0 h1 k0 k1
  have RR := RestQ.new w 26
  have BW : Below w.heap.size w (w.alloc (.cells #[.bool false, .slice none 0 0, .bool false, .slice none 0 0] 26)) := by go_grown
  go_enter Tryz.func33, Tryz.ntmps33
  go_wp2_with fail
  generalize (w.alloc (.cells #[.bool false, .slice none 0 0, .bool false, .slice none 0 0] 26)) = V at *
  refine (H1.out V).mono ?_
  rintro _ w1 ⟨un, uA, uz, uk, rfl, Nu, hb⟩
  replace RR := RR.on hb
  replace BW := BW.trans (hb.mono BW.size)
  clear hb
  go_wp2_with fail
  refine (H2.out w1).mono ?_
  rintro _ w2 ⟨vn, vA, vz, vk, rfl, Nv, hb⟩
  replace Nu := Nu.on hb
  replace RR := RR.on hb
  replace BW := BW.trans (hb.mono BW.size)
  clear hb
  go_wp2_with fail
  refine (frac_make X Y _ _ _ _ _ _ _ _ w2 Nu Nv).mono ?_
  rintro _ w9 ⟨tn, tA, tz, tk, tm, tB, td, tl, er, rfl, Rt, hb⟩
  replace RR := RR.on hb
  replace BW := BW.trans (hb.mono BW.size)
  clear hb
  have y0 := RR.r0
  have y1 := RR.r1
  have y2 := RR.r2
  have y3 := RR.r3
  have y4 := RR.f0
  have y5 := RR.f1
  have y6 := RR.f2
  have y7 := RR.f3
  have HL := Lib.hid (And.intro (Rt.put4 RR (.bool tn) (.slice tA tz.length tk) (.bool tm) (.slice tB td.length tl)) (Below.putq BW (r := w.heap.size) (by omega) (.bool tn) (.slice tA tz.length tk) (.bool tm) (.slice tB td.length tl)))
  clear Nu Nv Rt BW RR H1 H2
  go_wp2
  exact bodyPost_ret (v := .tuple #[frq tn tA tz.length tk tm tB td.length tl, .int .i64 er]) (by simp [results, Tryz.results33, go_sem, y0, y1, y2, y3]) rfl ⟨_, _, _, _, _, _, _, _, _, rfl, HL.out.1, HL.out.2⟩
end Go.Proofs.YtjilhplonaomoaaGreatDoor

/-! ### Frh -/
namespace Go.Proofs.YtjilhplonaomoaaGreatDoor
open Go.RowKit Nb

theorem fits_of' {Z : Int} (hz : Z.natAbs < 2 ^ 100) (k : Nat) (hk : 4 ≤ k) : Z.natAbs < W32 ^ k := by
  have h4 : (2 : Nat) ^ 100 ≤ W32 ^ 4 := by decide
  exact Nat.lt_of_lt_of_le (Nat.lt_of_lt_of_le hz h4) (Nat.pow_le_pow_right (by decide) hk)
theorem fits_low {Z : Int} (hz : Z.natAbs < 2 ^ 100) : Fits Z := fits_of' hz 2048 (by omega)
theorem half3 : (Rat.divInt 6 (-4)).num = -3 ∧ (Rat.divInt 6 (-4)).den = 2 := by decide +kernel
/-- Minus three by two. -/
abbrev q3 : Rat := Rat.divInt 6 (-4)
theorem q3_fits : FitsQ q3 := by
  refine ⟨?_, ?_⟩
  · rw [half3.1]; exact fits_low (by decide)
  · rw [half3.2]; exact fits_low (by decide)
theorem q3_sign : sgnQ q3 = -1 := by unfold sgnQ; rw [half3.1]; rfl
theorem t3 : (⟨((if true then [45] else []) ++ Lib.decDigits 3).toArray⟩ : ByteArray) = ⟨#[45, 51]⟩ := by decide +kernel
theorem t2 : (⟨((if false then [45] else []) ++ Lib.decDigits 2).toArray⟩ : ByteArray) = ⟨#[50]⟩ := by decide +kernel
theorem wtext_n {Z : Int} {n : Bool} {A : Option Addr} {ls : List Nat} {c : Nat} {w : World} (h : Nl w Z n A ls c) (hz : Z ≠ 0) (htab : Tab w) (s : ByteArray) (hs : (⟨((if n then [45] else []) ++ Lib.decDigits Z.natAbs).toArray⟩ : ByteArray) = s) :
    Calls Tryz.prog 84 #[big n A ls.length c] w fun e w' => e = .returned (.tuple #[.string s, .int .i64 0]) ∧ Below w.heap.size w w' := by
  have hp : 0 < ls.length := by
    rcases Nat.eq_zero_or_pos ls.length with h0 | h0
    · exfalso
      have : ls = [] := List.length_eq_zero_iff.1 h0
      subst this
      apply hz
      rw [← h.v]
      cases n <;> rfl
    · exact h0
  have := wtext_pos n A ls c w h.lm.sl h.lm.dig h.lm.ok hp htab
  rwa [show val W32 ls = Z.natAbs by rw [← h.v, sv_abs], hs] at this
theorem Lf.q3n {W : World} {n : Bool} {A B : Option Addr} {xs ds : List Nat} {c d : Nat} (h : Lf W q3 n A xs c B ds d) : n = true ∧ Nl W (-3) n A xs c ∧ Nl W 2 false B ds d := by
  have h1 := h.num
  have h2 := h.den
  rw [half3.1] at h1
  rw [half3.2] at h2
  refine ⟨?_, h1, h2⟩
  cases n with
  | true => rfl
  | false =>
    have h3 : ((val W32 xs : Nat) : Int) = -3 := h1.v
    omega

set_option maxHeartbeats 8000000 in
set_option maxRecDepth 20000 in
theorem ftext_q3 (A B : Option Addr) (xs ds : List Nat) (c d : Nat) (w : World) (h : Lf w q3 true A xs c B ds d) (htab : Tab w) :
    Calls Tryz.prog 39 #[frq true A xs.length c false B ds.length d] w (fun e w' => e = .returned (.tuple #[.string ⟨#[45, 51, 47, 50]⟩, .int .i64 0]) ∧ Below w.heap.size w w') := by
  obtain ⟨V, hV⟩ : ∃ V, V = (w.alloc (.cells #[.bool true, .slice A xs.length c, .bool false, .slice B ds.length d] 26)) := ⟨_, rfl⟩
  have BW : Below w.heap.size w V := by rw [hV]; go_grown
  have KX : Box V w.heap.size [.bool true, .slice A xs.length c, .bool false, .slice B ds.length d] := by rw [hV]; exact Box.new w _ _
  have LX := h.on BW
  have HT := Lib.hid htab
  clear h htab
  have KX_0 := KX.c 0 _ rfl
  have KX_1 := KX.c 1 _ rfl
  have KX_2 := KX.c 2 _ rfl
  have KX_3 := KX.c 3 _ rfl
  go_enter Tryz.func39, Tryz.ntmps39
  go_wp2_with fail
  clear KX_0 KX_1 KX_2 KX_3
  rw [← hV]
  clear hV
  refine (fcheck_any true false A B xs ds c d V LX.rq).mono ?_
  rw [chkF_ok LX.okf]
  rintro _ w1 ⟨rfl, hb⟩
  replace KX := KX.on hb
  replace LX := LX.on hb
  replace BW := BW.trans (hb.mono BW.size)
  clear hb
  have KX_0 := KX.c 0 _ rfl
  have KX_1 := KX.c 1 _ rfl
  have KX_2 := KX.c 2 _ rfl
  have KX_3 := KX.c 3 _ rfl
  go_wp2_with fail
  clear KX_0 KX_1 KX_2 KX_3
  refine (wtext_n LX.q3n.2.1 (by decide) (tab_below HT.out BW) _ t3).mono ?_
  rintro _ w2 ⟨rfl, hb⟩
  replace KX := KX.on hb
  replace LX := LX.on hb
  replace BW := BW.trans (hb.mono BW.size)
  clear hb
  have KX_0 := KX.c 0 _ rfl
  have KX_1 := KX.c 1 _ rfl
  have KX_2 := KX.c 2 _ rfl
  have KX_3 := KX.c 3 _ rfl
  go_wp2_with fail
  clear KX_0 KX_1 KX_2 KX_3
  refine (wtext_n LX.q3n.2.2 (by decide) (tab_below HT.out BW) _ t2).mono ?_
  rintro _ w3 ⟨rfl, hb⟩
  replace KX := KX.on hb
  replace LX := LX.on hb
  replace BW := BW.trans (hb.mono BW.size)
  clear hb
  clear LX KX
  go_wp2
  go_ret2
  exact ⟨rfl, BW⟩

set_option maxHeartbeats 8000000 in
set_option maxRecDepth 20000 in
theorem lives_any (w : World) (htab : Tab w) :
    Calls Tryz.prog 11 #[] w (fun e w' => e = .returned (.bool true) ∧ Below w.heap.size w w') := by
  have HT := Lib.hid htab
  clear htab
  go_enter Tryz.func11, Tryz.ntmps11
  go_wp2_with fail
  refine (frac_of 6 (-4) w (by omega) (by omega) (by omega) (by omega)).mono ?_
  rintro _ w1 ⟨n, A, xs, c, m, B, ds, d, er, rfl, Rt, BW⟩
  obtain ⟨rfl, rfl, LX⟩ : er = 0 ∧ m = false ∧ Lf w1 q3 n A xs c B ds d := by
    rcases Rt with ⟨_, _, h1, h2, h3⟩ | ⟨⟨h, _⟩ | ⟨_, h, _⟩, _⟩
    · exact ⟨h1, h2, h3⟩
    · exact absurd h (by decide)
    · exact absurd q3_fits h
  obtain rfl := LX.q3n.1
  clear Rt
  have hb : Below w1.heap.size w1 (w1.alloc (.cells #[.bool true, .slice A xs.length c, .bool false, .slice B ds.length d] 26)) := by go_grown
  have KX := Box.new w1 [.bool true, .slice A xs.length c, .bool false, .slice B ds.length d] 26
  replace LX := LX.on hb
  replace BW := BW.trans (hb.mono BW.size)
  clear hb
  go_wp2_with fail
  generalize (w1.alloc (.cells #[.bool true, .slice A xs.length c, .bool false, .slice B ds.length d] 26)) = VX at *
  generalize w1.heap.size = pX at *
  refine (frac_of 1 0 VX (by omega) (by omega) (by omega) (by omega)).mono ?_
  rintro _ w2 ⟨n2, A2, x2, c2, m2, B2, d2, l2, er2, rfl, Rt, hb⟩
  obtain rfl : er2 = 3 := by
    rcases Rt with ⟨h, _⟩ | ⟨⟨_, h⟩ | ⟨h, _⟩, _⟩
    · exact absurd rfl h
    · exact h
    · exact absurd rfl h
  clear Rt
  replace KX := KX.on hb
  replace LX := LX.on hb
  replace BW := BW.trans (hb.mono BW.size)
  clear hb
  have hb : Below w2.heap.size w2 (w2.alloc (.cells #[.bool n2, .slice A2 x2.length c2, .bool m2, .slice B2 d2.length l2] 26)) := by go_grown
  replace KX := KX.on hb
  replace LX := LX.on hb
  replace BW := BW.trans (hb.mono BW.size)
  clear hb
  have KX_0 := KX.c 0 _ rfl
  have KX_1 := KX.c 1 _ rfl
  have KX_2 := KX.c 2 _ rfl
  have KX_3 := KX.c 3 _ rfl
  go_wp2_with fail
  clear KX_0 KX_1 KX_2 KX_3
  generalize (w2.alloc (.cells #[.bool n2, .slice A2 x2.length c2, .bool m2, .slice B2 d2.length l2] 26)) = VY at *
  refine (ftext_q3 A B xs ds c d VY LX (tab_below HT.out BW)).mono ?_
  rintro _ w3 ⟨rfl, hb⟩
  replace KX := KX.on hb
  replace LX := LX.on hb
  replace BW := BW.trans (hb.mono BW.size)
  clear hb
  have KX_0 := KX.c 0 _ rfl
  have KX_1 := KX.c 1 _ rfl
  have KX_2 := KX.c 2 _ rfl
  have KX_3 := KX.c 3 _ rfl
  go_wp2_with fail
  clear KX_0 KX_1 KX_2 KX_3
  refine (frac_sign q3 true A B xs ds c d w3 LX).mono ?_
  rw [q3_sign]
  rintro _ w4 ⟨rfl, hb⟩
  replace KX := KX.on hb
  replace LX := LX.on hb
  replace BW := BW.trans (hb.mono BW.size)
  clear hb
  clear LX KX
  go_wp2
  go_ret
  exact ⟨rfl, BW⟩
end Go.Proofs.YtjilhplonaomoaaGreatDoor
