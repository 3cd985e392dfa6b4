/-
  What span's reckon returns of any two spans, for one of round's operations. Condition: floats of 64 bits.
-/
import Derived.Test.YtghcoijinihlnaaSp5
import Derived.Outline
import Derived.Deep.RegionHeld3
import Derived.Deep.DeepCutAuto
namespace Go.Proofs.Ytghcoijinihlnaa.Fl
open Go.RowKit Ieee
set_option maxHeartbeats 8000000 in
theorem reckon_add (al ah bl bh : Nat) (w : World) (Rel : Nat → Nat → Nat → Nat → Prop) (h1 : al < 18446744073709551616) (h3 : bl < 18446744073709551616) (hs : Spn al ah ∧ Spn bl bh)
    (hD : ∀ x y W, (x = al ∨ x = ah) → (y = bl ∨ y = bh) → Calls Try.prog 32 #[.float .f64 x, .float .f64 y] W fun e w' => ∃ d u, e = .returned (.tuple #[.float .f64 d, .float .f64 u]) ∧ Below W.heap.size W w' ∧ Flt d ∧ Flt u ∧ Rel x y d u) :
    Calls Try.prog 31 #[.func (.func 32) #[] #[], spv al ah, spv bl bh] w fun e w' => ∃ d1 u1 d2 u2 d3 u3 d4 u4, (Rel al bl d1 u1 ∧ Rel al bh d2 u2 ∧ Rel ah bl d3 u3 ∧ Rel ah bh d4 u4) ∧ (Flt d1 ∧ Flt u1 ∧ Flt d2 ∧ Flt u2 ∧ Flt d3 ∧ Flt u3 ∧ Flt d4 ∧ Flt u4) ∧
      e = .returned (.tuple #[spv (leaLo d1 u1 [(d2, u2), (d3, u3), (d4, u4)]) (leaHi d1 u1 [(d2, u2), (d3, u3), (d4, u4)]), .int .i64 (leaE d1 u1 [(d2, u2), (d3, u3), (d4, u4)])]) ∧ Below w.heap.size w w' := by
  have HC := Lib.hid (fun g W k k0 k1 k2 k3 => check_two g al ah bl bh W h1 h3 k k0 k1 k2 k3)
  have hsf := @run_store_f Try.prog .f64
  have e3 : spE2 al ah bl bh = 0 := if_pos hs
  rw [e3] at HC
  have HD := Lib.hid hD
  have HB := Lib.hid (fun x y W => between_any x y W)
  clear e3 hs h1 h3 hD
  go_enter Try.func31, Try.ntmps31
  go_wp2_with fail
  refine (HC.out _ _ (by simp) (by go_cell) (by go_cell) (by go_cell) (by go_cell)).mono ?_
  rintro e w1 ⟨rfl, hb⟩
  have R : Rk w w1 al ah bl bh := by
    obtain ⟨hc, hf⟩ := bcell hb
    have hz : w.heap.size + 1 + 1 < w1.heap.size := by have := hb.size; simp at this; omega
    exact ⟨Below.trans (by (repeat (first | exact below_self _ _ | assumption | refine below_dn ?_ _ | refine Below.drew ?_ | refine Below.setCell ?_ (by (try simp) <;> (try omega)) _ | refine Below.alloc ?_ (by (try simp) <;> (try omega)) _))) (hb.mono (by simp; try omega)), hz, by go_cell, by go_cell, by go_cell, by go_cell, by go_cell, by go_cell, by go_cell, by go_cell⟩
  clear hb HC
  go_wp2
  go_cut [9] (fun s wx => ∃ (g d1 u1 d2 u2 d3 u3 d4 u4 : Nat), (Rel al bl d1 u1 ∧ Rel al bh d2 u2 ∧ Rel ah bl d3 u3 ∧ Rel ah bh d4 u4) ∧ (Flt d1 ∧ Flt u1 ∧ Flt d2 ∧ Flt u2 ∧ Flt d3 ∧ Flt u3 ∧ Flt d4 ∧ Flt u4) ∧ s = .pointer (some ⟨g, 0, none⟩) ∧ w.heap.size + 1 + 1 < g ∧ Zr wx g [d1, u1, d2, u2, d3, u3, d4, u4] ∧ Rk w wx al ah bl bh)
  case first =>
    refine wp_region_noPanic ?_
    replace R := R.on (Below.drew (Below.refl _ _))
    refine wp_region_held_drew (S := (fun wx => wx.cell? ⟨w.heap.size, 0, none⟩ = some (.float .f64 al) ∧ wx.cell? ⟨w.heap.size, 1, none⟩ = some (.float .f64 ah) ∧ wx.cell? ⟨w.heap.size + 1, 0, none⟩ = some (.float .f64 bl) ∧ wx.cell? ⟨w.heap.size + 1, 1, none⟩ = some (.float .f64 bh))) (by kernel_rfl) ⟨R.a0, R.a1, R.b0, R.b1⟩ (fun hHeld => ?_)
    generalize w1.drew = Vd at *
    refine wpAnyH_take (i := 0) (v := ?_) (by (simp only [List.getElem?_toArray, List.getElem?_cons_zero]; rfl)) (by kernel_rfl) (by kernel_rfl) (by kernel_rfl) (fun _ _ _ h => h) (Or.inl ⟨by rfl, ?_⟩) (by assumption) ?_
    rotate_left
    · intro wt hSw
      (try dsimp only at hSw)
      go_simp
      (try with_reducible rfl)
    (try simp only [Act.put, List.setIfInBounds_toArray, List.set_cons_zero, List.set_cons_succ])
    refine wpAnyH_take (i := 1) (v := ?_) (by (simp only [List.getElem?_toArray, List.getElem?_cons_succ, List.getElem?_cons_zero]; rfl)) (by kernel_rfl) (by kernel_rfl) (by kernel_rfl) (fun _ _ _ h => h) (Or.inl ⟨by rfl, ?_⟩) (by assumption) ?_
    rotate_left
    · intro wt hSw
      (try dsimp only at hSw)
      go_simp
      (try with_reducible rfl)
    (try simp only [Act.put, List.setIfInBounds_toArray, List.set_cons_zero, List.set_cons_succ])
    refine wpAnyH_take (i := 2) (v := ?_) (by (simp only [List.getElem?_toArray, List.getElem?_cons_succ, List.getElem?_cons_zero]; rfl)) (by kernel_rfl) (by kernel_rfl) (by kernel_rfl) (fun _ _ _ h => h) (Or.inl ⟨by rfl, ?_⟩) (by assumption) ?_
    rotate_left
    · intro wt hSw
      (try dsimp only at hSw)
      go_simp
      (try with_reducible rfl)
    (try simp only [Act.put, List.setIfInBounds_toArray, List.set_cons_zero, List.set_cons_succ])
    refine wpAnyH_take (i := 3) (v := ?_) (by (simp only [List.getElem?_toArray, List.getElem?_cons_succ, List.getElem?_cons_zero]; rfl)) (by kernel_rfl) (by kernel_rfl) (by kernel_rfl) (fun _ _ _ h => h) (Or.inl ⟨by rfl, ?_⟩) (by assumption) ?_
    rotate_left
    · intro wt hSw
      (try dsimp only at hSw)
      go_simp
      (try with_reducible rfl)
    (try simp only [Act.put, List.setIfInBounds_toArray, List.set_cons_zero, List.set_cons_succ])
    refine wpAnyH_take (i := 4) (v := ?_) (by (simp only [List.getElem?_toArray, List.getElem?_cons_succ, List.getElem?_cons_zero]; rfl)) (by kernel_rfl) (by kernel_rfl) (by kernel_rfl) (fun _ _ _ h => h) (Or.inl ⟨by rfl, ?_⟩) (by assumption) ?_
    rotate_left
    · intro wt hSw
      (try dsimp only at hSw)
      go_simp
      (try with_reducible rfl)
    (try simp only [Act.put, List.setIfInBounds_toArray, List.set_cons_zero, List.set_cons_succ])
    refine wpAnyH_take (i := 9) (v := ?_) (by (simp only [List.getElem?_toArray, List.getElem?_cons_succ, List.getElem?_cons_zero]; rfl)) (by kernel_rfl) (by kernel_rfl) (by kernel_rfl) (fun _ _ _ h => h) (Or.inl ⟨by rfl, ?_⟩) (by assumption) ?_
    rotate_left
    · intro wt hSw
      (try dsimp only at hSw)
      go_simp
      (try with_reducible rfl)
    (try simp only [Act.put, List.setIfInBounds_toArray, List.set_cons_zero, List.set_cons_succ])
    refine wpAnyH_take (i := 10) (v := ?_) (by (simp only [List.getElem?_toArray, List.getElem?_cons_succ, List.getElem?_cons_zero]; rfl)) (by kernel_rfl) (by kernel_rfl) (by kernel_rfl) (fun _ _ _ h => h) (Or.inl ⟨by rfl, ?_⟩) (by assumption) ?_
    rotate_left
    · intro wt hSw
      (try dsimp only at hSw)
      go_simp
      (try with_reducible rfl)
    (try simp only [Act.put, List.setIfInBounds_toArray, List.set_cons_zero, List.set_cons_succ])
    refine wpAnyH_take (i := 11) (v := ?_) (by (simp only [List.getElem?_toArray, List.getElem?_cons_succ, List.getElem?_cons_zero]; rfl)) (by kernel_rfl) (by kernel_rfl) (by kernel_rfl) (fun _ _ _ h => h) (Or.inl ⟨by rfl, ?_⟩) (by assumption) ?_
    rotate_left
    · intro wt hSw
      (try dsimp only at hSw)
      go_simp
      (try with_reducible rfl)
    (try simp only [Act.put, List.setIfInBounds_toArray, List.set_cons_zero, List.set_cons_succ])
    refine wpAnyH_take (i := 12) (v := ?_) (by (simp only [List.getElem?_toArray, List.getElem?_cons_succ, List.getElem?_cons_zero]; rfl)) (by kernel_rfl) (by kernel_rfl) (by kernel_rfl) (fun _ _ _ h => h) (Or.inl ⟨by rfl, ?_⟩) (by assumption) ?_
    rotate_left
    · intro wt hSw
      (try dsimp only at hSw)
      go_simp
      (try with_reducible rfl)
    (try simp only [Act.put, List.setIfInBounds_toArray, List.set_cons_zero, List.set_cons_succ])
    refine wpAnyH_take (i := 13) (v := ?_) (by (simp only [List.getElem?_toArray, List.getElem?_cons_succ, List.getElem?_cons_zero]; rfl)) (by kernel_rfl) (by kernel_rfl) (by kernel_rfl) (fun _ _ _ h => h) (Or.inl ⟨by rfl, ?_⟩) (by assumption) ?_
    rotate_left
    · intro wt hSw
      (try dsimp only at hSw)
      go_simp
      (try with_reducible rfl)
    (try simp only [Act.put, List.setIfInBounds_toArray, List.set_cons_zero, List.set_cons_succ])
    refine wpAnyH_take (i := 18) (v := ?_) (by (simp only [List.getElem?_toArray, List.getElem?_cons_succ, List.getElem?_cons_zero]; rfl)) (by kernel_rfl) (by kernel_rfl) (by kernel_rfl) (fun _ _ _ h => h) (Or.inl ⟨by rfl, ?_⟩) (by assumption) ?_
    rotate_left
    · intro wt hSw
      (try dsimp only at hSw)
      go_simp
      (try with_reducible rfl)
    (try simp only [Act.put, List.setIfInBounds_toArray, List.set_cons_zero, List.set_cons_succ])
    refine wpAnyH_take (i := 19) (v := ?_) (by (simp only [List.getElem?_toArray, List.getElem?_cons_succ, List.getElem?_cons_zero]; rfl)) (by kernel_rfl) (by kernel_rfl) (by kernel_rfl) (fun _ _ _ h => h) (Or.inl ⟨by rfl, ?_⟩) (by assumption) ?_
    rotate_left
    · intro wt hSw
      (try dsimp only at hSw)
      go_simp
      (try with_reducible rfl)
    (try simp only [Act.put, List.setIfInBounds_toArray, List.set_cons_zero, List.set_cons_succ])
    refine wpAnyH_take (i := 20) (v := ?_) (by (simp only [List.getElem?_toArray, List.getElem?_cons_succ, List.getElem?_cons_zero]; rfl)) (by kernel_rfl) (by kernel_rfl) (by kernel_rfl) (fun _ _ _ h => h) (Or.inl ⟨by rfl, ?_⟩) (by assumption) ?_
    rotate_left
    · intro wt hSw
      (try dsimp only at hSw)
      go_simp
      (try with_reducible rfl)
    (try simp only [Act.put, List.setIfInBounds_toArray, List.set_cons_zero, List.set_cons_succ])
    refine wpAnyH_take (i := 21) (v := ?_) (by (simp only [List.getElem?_toArray, List.getElem?_cons_succ, List.getElem?_cons_zero]; rfl)) (by kernel_rfl) (by kernel_rfl) (by kernel_rfl) (fun _ _ _ h => h) (Or.inl ⟨by rfl, ?_⟩) (by assumption) ?_
    rotate_left
    · intro wt hSw
      (try dsimp only at hSw)
      go_simp
      (try with_reducible rfl)
    (try simp only [Act.put, List.setIfInBounds_toArray, List.set_cons_zero, List.set_cons_succ])
    refine wpAnyH_take (i := 22) (v := ?_) (by (simp only [List.getElem?_toArray, List.getElem?_cons_succ, List.getElem?_cons_zero]; rfl)) (by kernel_rfl) (by kernel_rfl) (by kernel_rfl) (fun _ _ _ h => h) (Or.inl ⟨by rfl, ?_⟩) (by assumption) ?_
    rotate_left
    · intro wt hSw
      (try dsimp only at hSw)
      go_simp
      (try with_reducible rfl)
    (try simp only [Act.put, List.setIfInBounds_toArray, List.set_cons_zero, List.set_cons_succ])
    refine wpAnyH_take (i := 27) (v := ?_) (by (simp only [List.getElem?_toArray, List.getElem?_cons_succ, List.getElem?_cons_zero]; rfl)) (by kernel_rfl) (by kernel_rfl) (by kernel_rfl) (fun _ _ _ h => h) (Or.inl ⟨by rfl, ?_⟩) (by assumption) ?_
    rotate_left
    · intro wt hSw
      (try dsimp only at hSw)
      go_simp
      (try with_reducible rfl)
    (try simp only [Act.put, List.setIfInBounds_toArray, List.set_cons_zero, List.set_cons_succ])
    refine wpAnyH_take (i := 28) (v := ?_) (by (simp only [List.getElem?_toArray, List.getElem?_cons_succ, List.getElem?_cons_zero]; rfl)) (by kernel_rfl) (by kernel_rfl) (by kernel_rfl) (fun _ _ _ h => h) (Or.inl ⟨by rfl, ?_⟩) (by assumption) ?_
    rotate_left
    · intro wt hSw
      (try dsimp only at hSw)
      go_simp
      (try with_reducible rfl)
    (try simp only [Act.put, List.setIfInBounds_toArray, List.set_cons_zero, List.set_cons_succ])
    refine wpAnyH_take (i := 29) (v := ?_) (by (simp only [List.getElem?_toArray, List.getElem?_cons_succ, List.getElem?_cons_zero]; rfl)) (by kernel_rfl) (by kernel_rfl) (by kernel_rfl) (fun _ _ _ h => h) (Or.inl ⟨by rfl, ?_⟩) (by assumption) ?_
    rotate_left
    · intro wt hSw
      (try dsimp only at hSw)
      go_simp
      (try with_reducible rfl)
    (try simp only [Act.put, List.setIfInBounds_toArray, List.set_cons_zero, List.set_cons_succ])
    refine wpAnyH_take (i := 30) (v := ?_) (by (simp only [List.getElem?_toArray, List.getElem?_cons_succ, List.getElem?_cons_zero]; rfl)) (by kernel_rfl) (by kernel_rfl) (by kernel_rfl) (fun _ _ _ h => h) (Or.inl ⟨by rfl, ?_⟩) (by assumption) ?_
    rotate_left
    · intro wt hSw
      (try dsimp only at hSw)
      go_simp
      (try with_reducible rfl)
    (try simp only [Act.put, List.setIfInBounds_toArray, List.set_cons_zero, List.set_cons_succ])
    refine wpAnyH_take (i := 31) (v := ?_) (by (simp only [List.getElem?_toArray, List.getElem?_cons_succ, List.getElem?_cons_zero]; rfl)) (by kernel_rfl) (by kernel_rfl) (by kernel_rfl) (fun _ _ _ h => h) (Or.inl ⟨by rfl, ?_⟩) (by assumption) ?_
    rotate_left
    · intro wt hSw
      (try dsimp only at hSw)
      go_simp
      (try with_reducible rfl)
    (try simp only [Act.put, List.setIfInBounds_toArray, List.set_cons_zero, List.set_cons_succ])
    refine wpAnyH_ready (rs := [5, 37]) (by kernel_rfl) (by simp) (AllReadyH.cons (by (simp only [List.getElem?_toArray, List.getElem?_cons_succ, List.getElem?_cons_zero]; rfl)) (fun K hK => ?_) (AllReadyH.cons (by (simp only [List.getElem?_toArray, List.getElem?_cons_succ, List.getElem?_cons_zero]; rfl)) (fun K hK => ?_) AllReadyH.nil))
    · go_simp
      (go_at_call 32; with_reducible refine (HD.out _ _ _ (by first | exact .inl rfl | exact .inr rfl) (by first | exact .inl rfl | exact .inr rfl)).mono ?_)
      rintro e0 w2 ⟨d1, u1, rfl, hb, fd1, fu1, hr1⟩
      (try go_wp2_with fail)
      replace R := R.on hb
      clear hb
      refine hK.out _ _ ⟨R.a0, R.a1, R.b0, R.b1⟩ (fun hHeld => ?_)
      clear hK
      (try simp only [Act.put, List.setIfInBounds_toArray, List.set_cons_zero, List.set_cons_succ])
      refine wpAnyH_take (i := 6) (v := ?_) (by (simp only [List.getElem?_toArray, List.getElem?_cons_succ, List.getElem?_cons_zero]; rfl)) (by kernel_rfl) (by kernel_rfl) (by kernel_rfl) (fun _ _ _ h => h) (Or.inl ⟨by rfl, ?_⟩) (by assumption) ?_
      rotate_left
      · intro wt hSw
        (try dsimp only at hSw)
        go_simp
        (try with_reducible rfl)
      (try simp only [Act.put, List.setIfInBounds_toArray, List.set_cons_zero, List.set_cons_succ])
      refine wpAnyH_take (i := 7) (v := ?_) (by (simp only [List.getElem?_toArray, List.getElem?_cons_succ, List.getElem?_cons_zero]; rfl)) (by kernel_rfl) (by kernel_rfl) (by kernel_rfl) (fun _ _ _ h => h) (Or.inl ⟨by rfl, ?_⟩) (by assumption) ?_
      rotate_left
      · intro wt hSw
        (try dsimp only at hSw)
        go_simp
        (try with_reducible rfl)
      (try simp only [Act.put, List.setIfInBounds_toArray, List.set_cons_zero, List.set_cons_succ])
      refine wpAnyH_ready (rs := [8, 37]) (by kernel_rfl) (by simp) (AllReadyH.cons (by (simp only [List.getElem?_toArray, List.getElem?_cons_succ, List.getElem?_cons_zero]; rfl)) (fun K hK => ?_) (AllReadyH.cons (by (simp only [List.getElem?_toArray, List.getElem?_cons_succ, List.getElem?_cons_zero]; rfl)) (fun K hK => ?_) AllReadyH.nil))
      · go_simp
        (go_at_call 20; with_reducible refine (HB.out _ _ _).mono ?_)
        rintro e1 w3 ⟨rfl, hb⟩
        (try go_wp2_with fail)
        replace R := R.on hb
        clear hb
        refine hK.out _ _ ⟨R.a0, R.a1, R.b0, R.b1⟩ (fun hHeld => ?_)
        clear hK
        (try simp only [Act.put, List.setIfInBounds_toArray, List.set_cons_zero, List.set_cons_succ])
        refine wpAnyH_ready (rs := [14, 37]) (by kernel_rfl) (by simp) (AllReadyH.cons (by (simp only [List.getElem?_toArray, List.getElem?_cons_succ, List.getElem?_cons_zero]; rfl)) (fun K hK => ?_) (AllReadyH.cons (by (simp only [List.getElem?_toArray, List.getElem?_cons_succ, List.getElem?_cons_zero]; rfl)) (fun K hK => ?_) AllReadyH.nil))
        · go_simp
          (go_at_call 32; with_reducible refine (HD.out _ _ _ (by first | exact .inl rfl | exact .inr rfl) (by first | exact .inl rfl | exact .inr rfl)).mono ?_)
          rintro e2 w4 ⟨d2, u2, rfl, hb, fd2, fu2, hr2⟩
          (try go_wp2_with fail)
          replace R := R.on hb
          clear hb
          refine hK.out _ _ ⟨R.a0, R.a1, R.b0, R.b1⟩ (fun hHeld => ?_)
          clear hK
          (try simp only [Act.put, List.setIfInBounds_toArray, List.set_cons_zero, List.set_cons_succ])
          refine wpAnyH_take (i := 15) (v := ?_) (by (simp only [List.getElem?_toArray, List.getElem?_cons_succ, List.getElem?_cons_zero]; rfl)) (by kernel_rfl) (by kernel_rfl) (by kernel_rfl) (fun _ _ _ h => h) (Or.inl ⟨by rfl, ?_⟩) (by assumption) ?_
          rotate_left
          · intro wt hSw
            (try dsimp only at hSw)
            go_simp
            (try with_reducible rfl)
          (try simp only [Act.put, List.setIfInBounds_toArray, List.set_cons_zero, List.set_cons_succ])
          refine wpAnyH_take (i := 16) (v := ?_) (by (simp only [List.getElem?_toArray, List.getElem?_cons_succ, List.getElem?_cons_zero]; rfl)) (by kernel_rfl) (by kernel_rfl) (by kernel_rfl) (fun _ _ _ h => h) (Or.inl ⟨by rfl, ?_⟩) (by assumption) ?_
          rotate_left
          · intro wt hSw
            (try dsimp only at hSw)
            go_simp
            (try with_reducible rfl)
          (try simp only [Act.put, List.setIfInBounds_toArray, List.set_cons_zero, List.set_cons_succ])
          refine wpAnyH_ready (rs := [17, 37]) (by kernel_rfl) (by simp) (AllReadyH.cons (by (simp only [List.getElem?_toArray, List.getElem?_cons_succ, List.getElem?_cons_zero]; rfl)) (fun K hK => ?_) (AllReadyH.cons (by (simp only [List.getElem?_toArray, List.getElem?_cons_succ, List.getElem?_cons_zero]; rfl)) (fun K hK => ?_) AllReadyH.nil))
          · go_simp
            (go_at_call 20; with_reducible refine (HB.out _ _ _).mono ?_)
            rintro e3 w5 ⟨rfl, hb⟩
            (try go_wp2_with fail)
            replace R := R.on hb
            clear hb
            refine hK.out _ _ ⟨R.a0, R.a1, R.b0, R.b1⟩ (fun hHeld => ?_)
            clear hK
            (try simp only [Act.put, List.setIfInBounds_toArray, List.set_cons_zero, List.set_cons_succ])
            refine wpAnyH_ready (rs := [23, 37]) (by kernel_rfl) (by simp) (AllReadyH.cons (by (simp only [List.getElem?_toArray, List.getElem?_cons_succ, List.getElem?_cons_zero]; rfl)) (fun K hK => ?_) (AllReadyH.cons (by (simp only [List.getElem?_toArray, List.getElem?_cons_succ, List.getElem?_cons_zero]; rfl)) (fun K hK => ?_) AllReadyH.nil))
            · go_simp
              (go_at_call 32; with_reducible refine (HD.out _ _ _ (by first | exact .inl rfl | exact .inr rfl) (by first | exact .inl rfl | exact .inr rfl)).mono ?_)
              rintro e4 w6 ⟨d3, u3, rfl, hb, fd3, fu3, hr3⟩
              (try go_wp2_with fail)
              replace R := R.on hb
              clear hb
              refine hK.out _ _ ⟨R.a0, R.a1, R.b0, R.b1⟩ (fun hHeld => ?_)
              clear hK
              (try simp only [Act.put, List.setIfInBounds_toArray, List.set_cons_zero, List.set_cons_succ])
              refine wpAnyH_take (i := 24) (v := ?_) (by (simp only [List.getElem?_toArray, List.getElem?_cons_succ, List.getElem?_cons_zero]; rfl)) (by kernel_rfl) (by kernel_rfl) (by kernel_rfl) (fun _ _ _ h => h) (Or.inl ⟨by rfl, ?_⟩) (by assumption) ?_
              rotate_left
              · intro wt hSw
                (try dsimp only at hSw)
                go_simp
                (try with_reducible rfl)
              (try simp only [Act.put, List.setIfInBounds_toArray, List.set_cons_zero, List.set_cons_succ])
              refine wpAnyH_take (i := 25) (v := ?_) (by (simp only [List.getElem?_toArray, List.getElem?_cons_succ, List.getElem?_cons_zero]; rfl)) (by kernel_rfl) (by kernel_rfl) (by kernel_rfl) (fun _ _ _ h => h) (Or.inl ⟨by rfl, ?_⟩) (by assumption) ?_
              rotate_left
              · intro wt hSw
                (try dsimp only at hSw)
                go_simp
                (try with_reducible rfl)
              (try simp only [Act.put, List.setIfInBounds_toArray, List.set_cons_zero, List.set_cons_succ])
              refine wpAnyH_ready (rs := [26, 37]) (by kernel_rfl) (by simp) (AllReadyH.cons (by (simp only [List.getElem?_toArray, List.getElem?_cons_succ, List.getElem?_cons_zero]; rfl)) (fun K hK => ?_) (AllReadyH.cons (by (simp only [List.getElem?_toArray, List.getElem?_cons_succ, List.getElem?_cons_zero]; rfl)) (fun K hK => ?_) AllReadyH.nil))
              · go_simp
                (go_at_call 20; with_reducible refine (HB.out _ _ _).mono ?_)
                rintro e5 w7 ⟨rfl, hb⟩
                (try go_wp2_with fail)
                replace R := R.on hb
                clear hb
                refine hK.out _ _ ⟨R.a0, R.a1, R.b0, R.b1⟩ (fun hHeld => ?_)
                clear hK
                (try simp only [Act.put, List.setIfInBounds_toArray, List.set_cons_zero, List.set_cons_succ])
                refine wpAnyH_ready (rs := [32, 37]) (by kernel_rfl) (by simp) (AllReadyH.cons (by (simp only [List.getElem?_toArray, List.getElem?_cons_succ, List.getElem?_cons_zero]; rfl)) (fun K hK => ?_) (AllReadyH.cons (by (simp only [List.getElem?_toArray, List.getElem?_cons_succ, List.getElem?_cons_zero]; rfl)) (fun K hK => ?_) AllReadyH.nil))
                · go_simp
                  (go_at_call 32; with_reducible refine (HD.out _ _ _ (by first | exact .inl rfl | exact .inr rfl) (by first | exact .inl rfl | exact .inr rfl)).mono ?_)
                  rintro e6 w8 ⟨d4, u4, rfl, hb, fd4, fu4, hr4⟩
                  (try go_wp2_with fail)
                  replace R := R.on hb
                  clear hb
                  refine hK.out _ _ ⟨R.a0, R.a1, R.b0, R.b1⟩ (fun hHeld => ?_)
                  clear hK
                  (try simp only [Act.put, List.setIfInBounds_toArray, List.set_cons_zero, List.set_cons_succ])
                  refine wpAnyH_take (i := 33) (v := ?_) (by (simp only [List.getElem?_toArray, List.getElem?_cons_succ, List.getElem?_cons_zero]; rfl)) (by kernel_rfl) (by kernel_rfl) (by kernel_rfl) (fun _ _ _ h => h) (Or.inl ⟨by rfl, ?_⟩) (by assumption) ?_
                  rotate_left
                  · intro wt hSw
                    (try dsimp only at hSw)
                    go_simp
                    (try with_reducible rfl)
                  (try simp only [Act.put, List.setIfInBounds_toArray, List.set_cons_zero, List.set_cons_succ])
                  refine wpAnyH_take (i := 34) (v := ?_) (by (simp only [List.getElem?_toArray, List.getElem?_cons_succ, List.getElem?_cons_zero]; rfl)) (by kernel_rfl) (by kernel_rfl) (by kernel_rfl) (fun _ _ _ h => h) (Or.inl ⟨by rfl, ?_⟩) (by assumption) ?_
                  rotate_left
                  · intro wt hSw
                    (try dsimp only at hSw)
                    go_simp
                    (try with_reducible rfl)
                  (try simp only [Act.put, List.setIfInBounds_toArray, List.set_cons_zero, List.set_cons_succ])
                  refine wpAnyH_ready (rs := [35, 37]) (by kernel_rfl) (by simp) (AllReadyH.cons (by (simp only [List.getElem?_toArray, List.getElem?_cons_succ, List.getElem?_cons_zero]; rfl)) (fun K hK => ?_) (AllReadyH.cons (by (simp only [List.getElem?_toArray, List.getElem?_cons_succ, List.getElem?_cons_zero]; rfl)) (fun K hK => ?_) AllReadyH.nil))
                  · go_simp
                    (go_at_call 20; with_reducible refine (HB.out _ _ _).mono ?_)
                    rintro e7 w9 ⟨rfl, hb⟩
                    (try go_wp2_with fail)
                    replace R := R.on hb
                    clear hb
                    refine hK.out _ _ ⟨R.a0, R.a1, R.b0, R.b1⟩ (fun hHeld => ?_)
                    clear hK
                    (try simp only [Act.put, List.setIfInBounds_toArray, List.set_cons_zero, List.set_cons_succ])
                    refine wpAnyH_take (i := 36) (v := ?_) (by (simp only [List.getElem?_toArray, List.getElem?_cons_succ, List.getElem?_cons_zero]; rfl)) (by kernel_rfl) (by kernel_rfl) (by kernel_rfl) (fun _ _ _ h => h) (Or.inl ⟨by rfl, ?_⟩) (by assumption) ?_
                    rotate_left
                    · intro wt hSw
                      (try dsimp only at hSw)
                      go_simp
                      (try with_reducible rfl)
                    (try simp only [Act.put, List.setIfInBounds_toArray, List.set_cons_zero, List.set_cons_succ])
                    refine wpAnyH_ready (rs := [37]) (by kernel_rfl) (by simp) (AllReadyH.cons (by (simp only [List.getElem?_toArray, List.getElem?_cons_succ, List.getElem?_cons_zero]; rfl)) (fun K hK => ?_) AllReadyH.nil)
                    go_simp
                    have Z := Zr.new w9 55
                    have hg := R.lt
                    replace R := R.on (W'' := w9.alloc (.cells #[.float .f64 0, .float .f64 0, .float .f64 0, .float .f64 0, .float .f64 0, .float .f64 0, .float .f64 0, .float .f64 0] 55)) (Below.alloc (Below.refl _ _) (Nat.le_refl _) _)
                    generalize w9.heap.size = gz at *
                    generalize (w9.alloc (.cells #[.float .f64 0, .float .f64 0, .float .f64 0, .float .f64 0, .float .f64 0, .float .f64 0, .float .f64 0, .float .f64 0] 55)) = wz8 at *
                    refine hK.out _ _ ⟨R.a0, R.a1, R.b0, R.b1⟩ (fun hHeld => ?_)
                    clear hK
                    (try simp only [Act.put, List.setIfInBounds_toArray, List.set_cons_zero, List.set_cons_succ])
                    have z0 := Z.c 0 (by decide)
                    have z1 := Z.c 1 (by decide)
                    have z2 := Z.c 2 (by decide)
                    have z3 := Z.c 3 (by decide)
                    have z4 := Z.c 4 (by decide)
                    have z5 := Z.c 5 (by decide)
                    have z6 := Z.c 6 (by decide)
                    have z7 := Z.c 7 (by decide)
                    have y0 := Z.f 0
                    have y1 := Z.f 1
                    have y2 := Z.f 2
                    have y3 := Z.f 3
                    have y4 := Z.f 4
                    have y5 := Z.f 5
                    have y6 := Z.f 6
                    have y7 := Z.f 7
                    refine wpAnyH_ready (rs := [38]) (by kernel_rfl) (by simp) (AllReadyH.cons (by (simp only [List.getElem?_toArray, List.getElem?_cons_succ, List.getElem?_cons_zero]; rfl)) (fun K hK => ?_) AllReadyH.nil)
                    go_simp
                    have hF := fill8 Z R hg d1 u1 d2 u2 d3 u3 d4 u4
                    replace Z := hF.1
                    replace R := hF.2
                    clear hF z0 y0 z1 y1 z2 y2 z3 y3 z4 y4 z5 y5 z6 y6 z7 y7
                    generalize ((((((((wz8.setCell ⟨gz, 0, none⟩ (.float .f64 d1)).setCell ⟨gz, 1, none⟩ (.float .f64 u1)).setCell ⟨gz, 2, none⟩ (.float .f64 d2)).setCell ⟨gz, 3, none⟩ (.float .f64 u2)).setCell ⟨gz, 4, none⟩ (.float .f64 d3)).setCell ⟨gz, 5, none⟩ (.float .f64 u3)).setCell ⟨gz, 6, none⟩ (.float .f64 d4)).setCell ⟨gz, 7, none⟩ (.float .f64 u4)) = Ws at *
                    refine hK.out _ _ ⟨R.a0, R.a1, R.b0, R.b1⟩ (fun hHeld => ?_)
                    clear hK
                    (try simp only [Act.put, List.setIfInBounds_toArray, List.set_cons_zero, List.set_cons_succ])
                    refine wpAnyH_done (by kernel_rfl) (NoPanic.normal ?_) _
                    go_wp2
                    go_meet
                    exact ⟨_, _, _, _, _, _, _, _, _, ⟨hr1, hr2, hr3, hr4⟩, ⟨fd1, fu1, fd2, fu2, fd3, fu3, fd4, fu4⟩, rfl, hg, Z, R⟩
                  · go_simp
                    have Z := Zr.new w8 55
                    have hg := R.lt
                    replace R := R.on (W'' := w8.alloc (.cells #[.float .f64 0, .float .f64 0, .float .f64 0, .float .f64 0, .float .f64 0, .float .f64 0, .float .f64 0, .float .f64 0] 55)) (Below.alloc (Below.refl _ _) (Nat.le_refl _) _)
                    generalize w8.heap.size = gz at *
                    generalize (w8.alloc (.cells #[.float .f64 0, .float .f64 0, .float .f64 0, .float .f64 0, .float .f64 0, .float .f64 0, .float .f64 0, .float .f64 0] 55)) = wz7 at *
                    refine hK.out _ _ ⟨R.a0, R.a1, R.b0, R.b1⟩ (fun hHeld => ?_)
                    clear hK
                    (try simp only [Act.put, List.setIfInBounds_toArray, List.set_cons_zero, List.set_cons_succ])
                    refine wpAnyH_ready (rs := [35]) (by kernel_rfl) (by simp) (AllReadyH.cons (by (simp only [List.getElem?_toArray, List.getElem?_cons_succ, List.getElem?_cons_zero]; rfl)) (fun K hK => ?_) AllReadyH.nil)
                    go_simp
                    (go_at_call 20; with_reducible refine (HB.out _ _ _).mono ?_)
                    rintro e7 w9z ⟨rfl, hb⟩
                    (try go_wp2_with fail)
                    replace R := R.on hb
                    replace Z := Z.on hb
                    clear hb
                    refine hK.out _ _ ⟨R.a0, R.a1, R.b0, R.b1⟩ (fun hHeld => ?_)
                    clear hK
                    (try simp only [Act.put, List.setIfInBounds_toArray, List.set_cons_zero, List.set_cons_succ])
                    refine wpAnyH_take (i := 36) (v := ?_) (by (simp only [List.getElem?_toArray, List.getElem?_cons_succ, List.getElem?_cons_zero]; rfl)) (by kernel_rfl) (by kernel_rfl) (by kernel_rfl) (fun _ _ _ h => h) (Or.inl ⟨by rfl, ?_⟩) (by assumption) ?_
                    rotate_left
                    · intro wt hSw
                      (try dsimp only at hSw)
                      go_simp
                      (try with_reducible rfl)
                    (try simp only [Act.put, List.setIfInBounds_toArray, List.set_cons_zero, List.set_cons_succ])
                    have z0 := Z.c 0 (by decide)
                    have z1 := Z.c 1 (by decide)
                    have z2 := Z.c 2 (by decide)
                    have z3 := Z.c 3 (by decide)
                    have z4 := Z.c 4 (by decide)
                    have z5 := Z.c 5 (by decide)
                    have z6 := Z.c 6 (by decide)
                    have z7 := Z.c 7 (by decide)
                    have y0 := Z.f 0
                    have y1 := Z.f 1
                    have y2 := Z.f 2
                    have y3 := Z.f 3
                    have y4 := Z.f 4
                    have y5 := Z.f 5
                    have y6 := Z.f 6
                    have y7 := Z.f 7
                    refine wpAnyH_ready (rs := [38]) (by kernel_rfl) (by simp) (AllReadyH.cons (by (simp only [List.getElem?_toArray, List.getElem?_cons_succ, List.getElem?_cons_zero]; rfl)) (fun K hK => ?_) AllReadyH.nil)
                    go_simp
                    have hF := fill8 Z R hg d1 u1 d2 u2 d3 u3 d4 u4
                    replace Z := hF.1
                    replace R := hF.2
                    clear hF z0 y0 z1 y1 z2 y2 z3 y3 z4 y4 z5 y5 z6 y6 z7 y7
                    generalize ((((((((w9z.setCell ⟨gz, 0, none⟩ (.float .f64 d1)).setCell ⟨gz, 1, none⟩ (.float .f64 u1)).setCell ⟨gz, 2, none⟩ (.float .f64 d2)).setCell ⟨gz, 3, none⟩ (.float .f64 u2)).setCell ⟨gz, 4, none⟩ (.float .f64 d3)).setCell ⟨gz, 5, none⟩ (.float .f64 u3)).setCell ⟨gz, 6, none⟩ (.float .f64 d4)).setCell ⟨gz, 7, none⟩ (.float .f64 u4)) = Ws at *
                    refine hK.out _ _ ⟨R.a0, R.a1, R.b0, R.b1⟩ (fun hHeld => ?_)
                    clear hK
                    (try simp only [Act.put, List.setIfInBounds_toArray, List.set_cons_zero, List.set_cons_succ])
                    refine wpAnyH_done (by kernel_rfl) (NoPanic.normal ?_) _
                    go_wp2
                    go_meet
                    exact ⟨_, _, _, _, _, _, _, _, _, ⟨hr1, hr2, hr3, hr4⟩, ⟨fd1, fu1, fd2, fu2, fd3, fu3, fd4, fu4⟩, rfl, hg, Z, R⟩
                · go_simp
                  have Z := Zr.new w7 55
                  have hg := R.lt
                  replace R := R.on (W'' := w7.alloc (.cells #[.float .f64 0, .float .f64 0, .float .f64 0, .float .f64 0, .float .f64 0, .float .f64 0, .float .f64 0, .float .f64 0] 55)) (Below.alloc (Below.refl _ _) (Nat.le_refl _) _)
                  generalize w7.heap.size = gz at *
                  generalize (w7.alloc (.cells #[.float .f64 0, .float .f64 0, .float .f64 0, .float .f64 0, .float .f64 0, .float .f64 0, .float .f64 0, .float .f64 0] 55)) = wz6 at *
                  refine hK.out _ _ ⟨R.a0, R.a1, R.b0, R.b1⟩ (fun hHeld => ?_)
                  clear hK
                  (try simp only [Act.put, List.setIfInBounds_toArray, List.set_cons_zero, List.set_cons_succ])
                  refine wpAnyH_ready (rs := [32]) (by kernel_rfl) (by simp) (AllReadyH.cons (by (simp only [List.getElem?_toArray, List.getElem?_cons_succ, List.getElem?_cons_zero]; rfl)) (fun K hK => ?_) AllReadyH.nil)
                  go_simp
                  (go_at_call 32; with_reducible refine (HD.out _ _ _ (by first | exact .inl rfl | exact .inr rfl) (by first | exact .inl rfl | exact .inr rfl)).mono ?_)
                  rintro e6 w8z ⟨d4, u4, rfl, hb, fd4, fu4, hr4⟩
                  (try go_wp2_with fail)
                  replace R := R.on hb
                  replace Z := Z.on hb
                  clear hb
                  refine hK.out _ _ ⟨R.a0, R.a1, R.b0, R.b1⟩ (fun hHeld => ?_)
                  clear hK
                  (try simp only [Act.put, List.setIfInBounds_toArray, List.set_cons_zero, List.set_cons_succ])
                  refine wpAnyH_take (i := 33) (v := ?_) (by (simp only [List.getElem?_toArray, List.getElem?_cons_succ, List.getElem?_cons_zero]; rfl)) (by kernel_rfl) (by kernel_rfl) (by kernel_rfl) (fun _ _ _ h => h) (Or.inl ⟨by rfl, ?_⟩) (by assumption) ?_
                  rotate_left
                  · intro wt hSw
                    (try dsimp only at hSw)
                    go_simp
                    (try with_reducible rfl)
                  (try simp only [Act.put, List.setIfInBounds_toArray, List.set_cons_zero, List.set_cons_succ])
                  refine wpAnyH_take (i := 34) (v := ?_) (by (simp only [List.getElem?_toArray, List.getElem?_cons_succ, List.getElem?_cons_zero]; rfl)) (by kernel_rfl) (by kernel_rfl) (by kernel_rfl) (fun _ _ _ h => h) (Or.inl ⟨by rfl, ?_⟩) (by assumption) ?_
                  rotate_left
                  · intro wt hSw
                    (try dsimp only at hSw)
                    go_simp
                    (try with_reducible rfl)
                  (try simp only [Act.put, List.setIfInBounds_toArray, List.set_cons_zero, List.set_cons_succ])
                  refine wpAnyH_ready (rs := [35]) (by kernel_rfl) (by simp) (AllReadyH.cons (by (simp only [List.getElem?_toArray, List.getElem?_cons_succ, List.getElem?_cons_zero]; rfl)) (fun K hK => ?_) AllReadyH.nil)
                  go_simp
                  (go_at_call 20; with_reducible refine (HB.out _ _ _).mono ?_)
                  rintro e7 w9z ⟨rfl, hb⟩
                  (try go_wp2_with fail)
                  replace R := R.on hb
                  replace Z := Z.on hb
                  clear hb
                  refine hK.out _ _ ⟨R.a0, R.a1, R.b0, R.b1⟩ (fun hHeld => ?_)
                  clear hK
                  (try simp only [Act.put, List.setIfInBounds_toArray, List.set_cons_zero, List.set_cons_succ])
                  refine wpAnyH_take (i := 36) (v := ?_) (by (simp only [List.getElem?_toArray, List.getElem?_cons_succ, List.getElem?_cons_zero]; rfl)) (by kernel_rfl) (by kernel_rfl) (by kernel_rfl) (fun _ _ _ h => h) (Or.inl ⟨by rfl, ?_⟩) (by assumption) ?_
                  rotate_left
                  · intro wt hSw
                    (try dsimp only at hSw)
                    go_simp
                    (try with_reducible rfl)
                  (try simp only [Act.put, List.setIfInBounds_toArray, List.set_cons_zero, List.set_cons_succ])
                  have z0 := Z.c 0 (by decide)
                  have z1 := Z.c 1 (by decide)
                  have z2 := Z.c 2 (by decide)
                  have z3 := Z.c 3 (by decide)
                  have z4 := Z.c 4 (by decide)
                  have z5 := Z.c 5 (by decide)
                  have z6 := Z.c 6 (by decide)
                  have z7 := Z.c 7 (by decide)
                  have y0 := Z.f 0
                  have y1 := Z.f 1
                  have y2 := Z.f 2
                  have y3 := Z.f 3
                  have y4 := Z.f 4
                  have y5 := Z.f 5
                  have y6 := Z.f 6
                  have y7 := Z.f 7
                  refine wpAnyH_ready (rs := [38]) (by kernel_rfl) (by simp) (AllReadyH.cons (by (simp only [List.getElem?_toArray, List.getElem?_cons_succ, List.getElem?_cons_zero]; rfl)) (fun K hK => ?_) AllReadyH.nil)
                  go_simp
                  have hF := fill8 Z R hg d1 u1 d2 u2 d3 u3 d4 u4
                  replace Z := hF.1
                  replace R := hF.2
                  clear hF z0 y0 z1 y1 z2 y2 z3 y3 z4 y4 z5 y5 z6 y6 z7 y7
                  generalize ((((((((w9z.setCell ⟨gz, 0, none⟩ (.float .f64 d1)).setCell ⟨gz, 1, none⟩ (.float .f64 u1)).setCell ⟨gz, 2, none⟩ (.float .f64 d2)).setCell ⟨gz, 3, none⟩ (.float .f64 u2)).setCell ⟨gz, 4, none⟩ (.float .f64 d3)).setCell ⟨gz, 5, none⟩ (.float .f64 u3)).setCell ⟨gz, 6, none⟩ (.float .f64 d4)).setCell ⟨gz, 7, none⟩ (.float .f64 u4)) = Ws at *
                  refine hK.out _ _ ⟨R.a0, R.a1, R.b0, R.b1⟩ (fun hHeld => ?_)
                  clear hK
                  (try simp only [Act.put, List.setIfInBounds_toArray, List.set_cons_zero, List.set_cons_succ])
                  refine wpAnyH_done (by kernel_rfl) (NoPanic.normal ?_) _
                  go_wp2
                  go_meet
                  exact ⟨_, _, _, _, _, _, _, _, _, ⟨hr1, hr2, hr3, hr4⟩, ⟨fd1, fu1, fd2, fu2, fd3, fu3, fd4, fu4⟩, rfl, hg, Z, R⟩
              · go_simp
                have Z := Zr.new w6 55
                have hg := R.lt
                replace R := R.on (W'' := w6.alloc (.cells #[.float .f64 0, .float .f64 0, .float .f64 0, .float .f64 0, .float .f64 0, .float .f64 0, .float .f64 0, .float .f64 0] 55)) (Below.alloc (Below.refl _ _) (Nat.le_refl _) _)
                generalize w6.heap.size = gz at *
                generalize (w6.alloc (.cells #[.float .f64 0, .float .f64 0, .float .f64 0, .float .f64 0, .float .f64 0, .float .f64 0, .float .f64 0, .float .f64 0] 55)) = wz5 at *
                refine hK.out _ _ ⟨R.a0, R.a1, R.b0, R.b1⟩ (fun hHeld => ?_)
                clear hK
                (try simp only [Act.put, List.setIfInBounds_toArray, List.set_cons_zero, List.set_cons_succ])
                refine wpAnyH_ready (rs := [26]) (by kernel_rfl) (by simp) (AllReadyH.cons (by (simp only [List.getElem?_toArray, List.getElem?_cons_succ, List.getElem?_cons_zero]; rfl)) (fun K hK => ?_) AllReadyH.nil)
                go_simp
                (go_at_call 20; with_reducible refine (HB.out _ _ _).mono ?_)
                rintro e5 w7z ⟨rfl, hb⟩
                (try go_wp2_with fail)
                replace R := R.on hb
                replace Z := Z.on hb
                clear hb
                refine hK.out _ _ ⟨R.a0, R.a1, R.b0, R.b1⟩ (fun hHeld => ?_)
                clear hK
                (try simp only [Act.put, List.setIfInBounds_toArray, List.set_cons_zero, List.set_cons_succ])
                refine wpAnyH_ready (rs := [32]) (by kernel_rfl) (by simp) (AllReadyH.cons (by (simp only [List.getElem?_toArray, List.getElem?_cons_succ, List.getElem?_cons_zero]; rfl)) (fun K hK => ?_) AllReadyH.nil)
                go_simp
                (go_at_call 32; with_reducible refine (HD.out _ _ _ (by first | exact .inl rfl | exact .inr rfl) (by first | exact .inl rfl | exact .inr rfl)).mono ?_)
                rintro e6 w8z ⟨d4, u4, rfl, hb, fd4, fu4, hr4⟩
                (try go_wp2_with fail)
                replace R := R.on hb
                replace Z := Z.on hb
                clear hb
                refine hK.out _ _ ⟨R.a0, R.a1, R.b0, R.b1⟩ (fun hHeld => ?_)
                clear hK
                (try simp only [Act.put, List.setIfInBounds_toArray, List.set_cons_zero, List.set_cons_succ])
                refine wpAnyH_take (i := 33) (v := ?_) (by (simp only [List.getElem?_toArray, List.getElem?_cons_succ, List.getElem?_cons_zero]; rfl)) (by kernel_rfl) (by kernel_rfl) (by kernel_rfl) (fun _ _ _ h => h) (Or.inl ⟨by rfl, ?_⟩) (by assumption) ?_
                rotate_left
                · intro wt hSw
                  (try dsimp only at hSw)
                  go_simp
                  (try with_reducible rfl)
                (try simp only [Act.put, List.setIfInBounds_toArray, List.set_cons_zero, List.set_cons_succ])
                refine wpAnyH_take (i := 34) (v := ?_) (by (simp only [List.getElem?_toArray, List.getElem?_cons_succ, List.getElem?_cons_zero]; rfl)) (by kernel_rfl) (by kernel_rfl) (by kernel_rfl) (fun _ _ _ h => h) (Or.inl ⟨by rfl, ?_⟩) (by assumption) ?_
                rotate_left
                · intro wt hSw
                  (try dsimp only at hSw)
                  go_simp
                  (try with_reducible rfl)
                (try simp only [Act.put, List.setIfInBounds_toArray, List.set_cons_zero, List.set_cons_succ])
                refine wpAnyH_ready (rs := [35]) (by kernel_rfl) (by simp) (AllReadyH.cons (by (simp only [List.getElem?_toArray, List.getElem?_cons_succ, List.getElem?_cons_zero]; rfl)) (fun K hK => ?_) AllReadyH.nil)
                go_simp
                (go_at_call 20; with_reducible refine (HB.out _ _ _).mono ?_)
                rintro e7 w9z ⟨rfl, hb⟩
                (try go_wp2_with fail)
                replace R := R.on hb
                replace Z := Z.on hb
                clear hb
                refine hK.out _ _ ⟨R.a0, R.a1, R.b0, R.b1⟩ (fun hHeld => ?_)
                clear hK
                (try simp only [Act.put, List.setIfInBounds_toArray, List.set_cons_zero, List.set_cons_succ])
                refine wpAnyH_take (i := 36) (v := ?_) (by (simp only [List.getElem?_toArray, List.getElem?_cons_succ, List.getElem?_cons_zero]; rfl)) (by kernel_rfl) (by kernel_rfl) (by kernel_rfl) (fun _ _ _ h => h) (Or.inl ⟨by rfl, ?_⟩) (by assumption) ?_
                rotate_left
                · intro wt hSw
                  (try dsimp only at hSw)
                  go_simp
                  (try with_reducible rfl)
                (try simp only [Act.put, List.setIfInBounds_toArray, List.set_cons_zero, List.set_cons_succ])
                have z0 := Z.c 0 (by decide)
                have z1 := Z.c 1 (by decide)
                have z2 := Z.c 2 (by decide)
                have z3 := Z.c 3 (by decide)
                have z4 := Z.c 4 (by decide)
                have z5 := Z.c 5 (by decide)
                have z6 := Z.c 6 (by decide)
                have z7 := Z.c 7 (by decide)
                have y0 := Z.f 0
                have y1 := Z.f 1
                have y2 := Z.f 2
                have y3 := Z.f 3
                have y4 := Z.f 4
                have y5 := Z.f 5
                have y6 := Z.f 6
                have y7 := Z.f 7
                refine wpAnyH_ready (rs := [38]) (by kernel_rfl) (by simp) (AllReadyH.cons (by (simp only [List.getElem?_toArray, List.getElem?_cons_succ, List.getElem?_cons_zero]; rfl)) (fun K hK => ?_) AllReadyH.nil)
                go_simp
                have hF := fill8 Z R hg d1 u1 d2 u2 d3 u3 d4 u4
                replace Z := hF.1
                replace R := hF.2
                clear hF z0 y0 z1 y1 z2 y2 z3 y3 z4 y4 z5 y5 z6 y6 z7 y7
                generalize ((((((((w9z.setCell ⟨gz, 0, none⟩ (.float .f64 d1)).setCell ⟨gz, 1, none⟩ (.float .f64 u1)).setCell ⟨gz, 2, none⟩ (.float .f64 d2)).setCell ⟨gz, 3, none⟩ (.float .f64 u2)).setCell ⟨gz, 4, none⟩ (.float .f64 d3)).setCell ⟨gz, 5, none⟩ (.float .f64 u3)).setCell ⟨gz, 6, none⟩ (.float .f64 d4)).setCell ⟨gz, 7, none⟩ (.float .f64 u4)) = Ws at *
                refine hK.out _ _ ⟨R.a0, R.a1, R.b0, R.b1⟩ (fun hHeld => ?_)
                clear hK
                (try simp only [Act.put, List.setIfInBounds_toArray, List.set_cons_zero, List.set_cons_succ])
                refine wpAnyH_done (by kernel_rfl) (NoPanic.normal ?_) _
                go_wp2
                go_meet
                exact ⟨_, _, _, _, _, _, _, _, _, ⟨hr1, hr2, hr3, hr4⟩, ⟨fd1, fu1, fd2, fu2, fd3, fu3, fd4, fu4⟩, rfl, hg, Z, R⟩
            · go_simp
              have Z := Zr.new w5 55
              have hg := R.lt
              replace R := R.on (W'' := w5.alloc (.cells #[.float .f64 0, .float .f64 0, .float .f64 0, .float .f64 0, .float .f64 0, .float .f64 0, .float .f64 0, .float .f64 0] 55)) (Below.alloc (Below.refl _ _) (Nat.le_refl _) _)
              generalize w5.heap.size = gz at *
              generalize (w5.alloc (.cells #[.float .f64 0, .float .f64 0, .float .f64 0, .float .f64 0, .float .f64 0, .float .f64 0, .float .f64 0, .float .f64 0] 55)) = wz4 at *
              refine hK.out _ _ ⟨R.a0, R.a1, R.b0, R.b1⟩ (fun hHeld => ?_)
              clear hK
              (try simp only [Act.put, List.setIfInBounds_toArray, List.set_cons_zero, List.set_cons_succ])
              refine wpAnyH_ready (rs := [23]) (by kernel_rfl) (by simp) (AllReadyH.cons (by (simp only [List.getElem?_toArray, List.getElem?_cons_succ, List.getElem?_cons_zero]; rfl)) (fun K hK => ?_) AllReadyH.nil)
              go_simp
              (go_at_call 32; with_reducible refine (HD.out _ _ _ (by first | exact .inl rfl | exact .inr rfl) (by first | exact .inl rfl | exact .inr rfl)).mono ?_)
              rintro e4 w6z ⟨d3, u3, rfl, hb, fd3, fu3, hr3⟩
              (try go_wp2_with fail)
              replace R := R.on hb
              replace Z := Z.on hb
              clear hb
              refine hK.out _ _ ⟨R.a0, R.a1, R.b0, R.b1⟩ (fun hHeld => ?_)
              clear hK
              (try simp only [Act.put, List.setIfInBounds_toArray, List.set_cons_zero, List.set_cons_succ])
              refine wpAnyH_take (i := 24) (v := ?_) (by (simp only [List.getElem?_toArray, List.getElem?_cons_succ, List.getElem?_cons_zero]; rfl)) (by kernel_rfl) (by kernel_rfl) (by kernel_rfl) (fun _ _ _ h => h) (Or.inl ⟨by rfl, ?_⟩) (by assumption) ?_
              rotate_left
              · intro wt hSw
                (try dsimp only at hSw)
                go_simp
                (try with_reducible rfl)
              (try simp only [Act.put, List.setIfInBounds_toArray, List.set_cons_zero, List.set_cons_succ])
              refine wpAnyH_take (i := 25) (v := ?_) (by (simp only [List.getElem?_toArray, List.getElem?_cons_succ, List.getElem?_cons_zero]; rfl)) (by kernel_rfl) (by kernel_rfl) (by kernel_rfl) (fun _ _ _ h => h) (Or.inl ⟨by rfl, ?_⟩) (by assumption) ?_
              rotate_left
              · intro wt hSw
                (try dsimp only at hSw)
                go_simp
                (try with_reducible rfl)
              (try simp only [Act.put, List.setIfInBounds_toArray, List.set_cons_zero, List.set_cons_succ])
              refine wpAnyH_ready (rs := [26]) (by kernel_rfl) (by simp) (AllReadyH.cons (by (simp only [List.getElem?_toArray, List.getElem?_cons_succ, List.getElem?_cons_zero]; rfl)) (fun K hK => ?_) AllReadyH.nil)
              go_simp
              (go_at_call 20; with_reducible refine (HB.out _ _ _).mono ?_)
              rintro e5 w7z ⟨rfl, hb⟩
              (try go_wp2_with fail)
              replace R := R.on hb
              replace Z := Z.on hb
              clear hb
              refine hK.out _ _ ⟨R.a0, R.a1, R.b0, R.b1⟩ (fun hHeld => ?_)
              clear hK
              (try simp only [Act.put, List.setIfInBounds_toArray, List.set_cons_zero, List.set_cons_succ])
              refine wpAnyH_ready (rs := [32]) (by kernel_rfl) (by simp) (AllReadyH.cons (by (simp only [List.getElem?_toArray, List.getElem?_cons_succ, List.getElem?_cons_zero]; rfl)) (fun K hK => ?_) AllReadyH.nil)
              go_simp
              (go_at_call 32; with_reducible refine (HD.out _ _ _ (by first | exact .inl rfl | exact .inr rfl) (by first | exact .inl rfl | exact .inr rfl)).mono ?_)
              rintro e6 w8z ⟨d4, u4, rfl, hb, fd4, fu4, hr4⟩
              (try go_wp2_with fail)
              replace R := R.on hb
              replace Z := Z.on hb
              clear hb
              refine hK.out _ _ ⟨R.a0, R.a1, R.b0, R.b1⟩ (fun hHeld => ?_)
              clear hK
              (try simp only [Act.put, List.setIfInBounds_toArray, List.set_cons_zero, List.set_cons_succ])
              refine wpAnyH_take (i := 33) (v := ?_) (by (simp only [List.getElem?_toArray, List.getElem?_cons_succ, List.getElem?_cons_zero]; rfl)) (by kernel_rfl) (by kernel_rfl) (by kernel_rfl) (fun _ _ _ h => h) (Or.inl ⟨by rfl, ?_⟩) (by assumption) ?_
              rotate_left
              · intro wt hSw
                (try dsimp only at hSw)
                go_simp
                (try with_reducible rfl)
              (try simp only [Act.put, List.setIfInBounds_toArray, List.set_cons_zero, List.set_cons_succ])
              refine wpAnyH_take (i := 34) (v := ?_) (by (simp only [List.getElem?_toArray, List.getElem?_cons_succ, List.getElem?_cons_zero]; rfl)) (by kernel_rfl) (by kernel_rfl) (by kernel_rfl) (fun _ _ _ h => h) (Or.inl ⟨by rfl, ?_⟩) (by assumption) ?_
              rotate_left
              · intro wt hSw
                (try dsimp only at hSw)
                go_simp
                (try with_reducible rfl)
              (try simp only [Act.put, List.setIfInBounds_toArray, List.set_cons_zero, List.set_cons_succ])
              refine wpAnyH_ready (rs := [35]) (by kernel_rfl) (by simp) (AllReadyH.cons (by (simp only [List.getElem?_toArray, List.getElem?_cons_succ, List.getElem?_cons_zero]; rfl)) (fun K hK => ?_) AllReadyH.nil)
              go_simp
              (go_at_call 20; with_reducible refine (HB.out _ _ _).mono ?_)
              rintro e7 w9z ⟨rfl, hb⟩
              (try go_wp2_with fail)
              replace R := R.on hb
              replace Z := Z.on hb
              clear hb
              refine hK.out _ _ ⟨R.a0, R.a1, R.b0, R.b1⟩ (fun hHeld => ?_)
              clear hK
              (try simp only [Act.put, List.setIfInBounds_toArray, List.set_cons_zero, List.set_cons_succ])
              refine wpAnyH_take (i := 36) (v := ?_) (by (simp only [List.getElem?_toArray, List.getElem?_cons_succ, List.getElem?_cons_zero]; rfl)) (by kernel_rfl) (by kernel_rfl) (by kernel_rfl) (fun _ _ _ h => h) (Or.inl ⟨by rfl, ?_⟩) (by assumption) ?_
              rotate_left
              · intro wt hSw
                (try dsimp only at hSw)
                go_simp
                (try with_reducible rfl)
              (try simp only [Act.put, List.setIfInBounds_toArray, List.set_cons_zero, List.set_cons_succ])
              have z0 := Z.c 0 (by decide)
              have z1 := Z.c 1 (by decide)
              have z2 := Z.c 2 (by decide)
              have z3 := Z.c 3 (by decide)
              have z4 := Z.c 4 (by decide)
              have z5 := Z.c 5 (by decide)
              have z6 := Z.c 6 (by decide)
              have z7 := Z.c 7 (by decide)
              have y0 := Z.f 0
              have y1 := Z.f 1
              have y2 := Z.f 2
              have y3 := Z.f 3
              have y4 := Z.f 4
              have y5 := Z.f 5
              have y6 := Z.f 6
              have y7 := Z.f 7
              refine wpAnyH_ready (rs := [38]) (by kernel_rfl) (by simp) (AllReadyH.cons (by (simp only [List.getElem?_toArray, List.getElem?_cons_succ, List.getElem?_cons_zero]; rfl)) (fun K hK => ?_) AllReadyH.nil)
              go_simp
              have hF := fill8 Z R hg d1 u1 d2 u2 d3 u3 d4 u4
              replace Z := hF.1
              replace R := hF.2
              clear hF z0 y0 z1 y1 z2 y2 z3 y3 z4 y4 z5 y5 z6 y6 z7 y7
              generalize ((((((((w9z.setCell ⟨gz, 0, none⟩ (.float .f64 d1)).setCell ⟨gz, 1, none⟩ (.float .f64 u1)).setCell ⟨gz, 2, none⟩ (.float .f64 d2)).setCell ⟨gz, 3, none⟩ (.float .f64 u2)).setCell ⟨gz, 4, none⟩ (.float .f64 d3)).setCell ⟨gz, 5, none⟩ (.float .f64 u3)).setCell ⟨gz, 6, none⟩ (.float .f64 d4)).setCell ⟨gz, 7, none⟩ (.float .f64 u4)) = Ws at *
              refine hK.out _ _ ⟨R.a0, R.a1, R.b0, R.b1⟩ (fun hHeld => ?_)
              clear hK
              (try simp only [Act.put, List.setIfInBounds_toArray, List.set_cons_zero, List.set_cons_succ])
              refine wpAnyH_done (by kernel_rfl) (NoPanic.normal ?_) _
              go_wp2
              go_meet
              exact ⟨_, _, _, _, _, _, _, _, _, ⟨hr1, hr2, hr3, hr4⟩, ⟨fd1, fu1, fd2, fu2, fd3, fu3, fd4, fu4⟩, rfl, hg, Z, R⟩
          · go_simp
            have Z := Zr.new w4 55
            have hg := R.lt
            replace R := R.on (W'' := w4.alloc (.cells #[.float .f64 0, .float .f64 0, .float .f64 0, .float .f64 0, .float .f64 0, .float .f64 0, .float .f64 0, .float .f64 0] 55)) (Below.alloc (Below.refl _ _) (Nat.le_refl _) _)
            generalize w4.heap.size = gz at *
            generalize (w4.alloc (.cells #[.float .f64 0, .float .f64 0, .float .f64 0, .float .f64 0, .float .f64 0, .float .f64 0, .float .f64 0, .float .f64 0] 55)) = wz3 at *
            refine hK.out _ _ ⟨R.a0, R.a1, R.b0, R.b1⟩ (fun hHeld => ?_)
            clear hK
            (try simp only [Act.put, List.setIfInBounds_toArray, List.set_cons_zero, List.set_cons_succ])
            refine wpAnyH_ready (rs := [17]) (by kernel_rfl) (by simp) (AllReadyH.cons (by (simp only [List.getElem?_toArray, List.getElem?_cons_succ, List.getElem?_cons_zero]; rfl)) (fun K hK => ?_) AllReadyH.nil)
            go_simp
            (go_at_call 20; with_reducible refine (HB.out _ _ _).mono ?_)
            rintro e3 w5z ⟨rfl, hb⟩
            (try go_wp2_with fail)
            replace R := R.on hb
            replace Z := Z.on hb
            clear hb
            refine hK.out _ _ ⟨R.a0, R.a1, R.b0, R.b1⟩ (fun hHeld => ?_)
            clear hK
            (try simp only [Act.put, List.setIfInBounds_toArray, List.set_cons_zero, List.set_cons_succ])
            refine wpAnyH_ready (rs := [23]) (by kernel_rfl) (by simp) (AllReadyH.cons (by (simp only [List.getElem?_toArray, List.getElem?_cons_succ, List.getElem?_cons_zero]; rfl)) (fun K hK => ?_) AllReadyH.nil)
            go_simp
            (go_at_call 32; with_reducible refine (HD.out _ _ _ (by first | exact .inl rfl | exact .inr rfl) (by first | exact .inl rfl | exact .inr rfl)).mono ?_)
            rintro e4 w6z ⟨d3, u3, rfl, hb, fd3, fu3, hr3⟩
            (try go_wp2_with fail)
            replace R := R.on hb
            replace Z := Z.on hb
            clear hb
            refine hK.out _ _ ⟨R.a0, R.a1, R.b0, R.b1⟩ (fun hHeld => ?_)
            clear hK
            (try simp only [Act.put, List.setIfInBounds_toArray, List.set_cons_zero, List.set_cons_succ])
            refine wpAnyH_take (i := 24) (v := ?_) (by (simp only [List.getElem?_toArray, List.getElem?_cons_succ, List.getElem?_cons_zero]; rfl)) (by kernel_rfl) (by kernel_rfl) (by kernel_rfl) (fun _ _ _ h => h) (Or.inl ⟨by rfl, ?_⟩) (by assumption) ?_
            rotate_left
            · intro wt hSw
              (try dsimp only at hSw)
              go_simp
              (try with_reducible rfl)
            (try simp only [Act.put, List.setIfInBounds_toArray, List.set_cons_zero, List.set_cons_succ])
            refine wpAnyH_take (i := 25) (v := ?_) (by (simp only [List.getElem?_toArray, List.getElem?_cons_succ, List.getElem?_cons_zero]; rfl)) (by kernel_rfl) (by kernel_rfl) (by kernel_rfl) (fun _ _ _ h => h) (Or.inl ⟨by rfl, ?_⟩) (by assumption) ?_
            rotate_left
            · intro wt hSw
              (try dsimp only at hSw)
              go_simp
              (try with_reducible rfl)
            (try simp only [Act.put, List.setIfInBounds_toArray, List.set_cons_zero, List.set_cons_succ])
            refine wpAnyH_ready (rs := [26]) (by kernel_rfl) (by simp) (AllReadyH.cons (by (simp only [List.getElem?_toArray, List.getElem?_cons_succ, List.getElem?_cons_zero]; rfl)) (fun K hK => ?_) AllReadyH.nil)
            go_simp
            (go_at_call 20; with_reducible refine (HB.out _ _ _).mono ?_)
            rintro e5 w7z ⟨rfl, hb⟩
            (try go_wp2_with fail)
            replace R := R.on hb
            replace Z := Z.on hb
            clear hb
            refine hK.out _ _ ⟨R.a0, R.a1, R.b0, R.b1⟩ (fun hHeld => ?_)
            clear hK
            (try simp only [Act.put, List.setIfInBounds_toArray, List.set_cons_zero, List.set_cons_succ])
            refine wpAnyH_ready (rs := [32]) (by kernel_rfl) (by simp) (AllReadyH.cons (by (simp only [List.getElem?_toArray, List.getElem?_cons_succ, List.getElem?_cons_zero]; rfl)) (fun K hK => ?_) AllReadyH.nil)
            go_simp
            (go_at_call 32; with_reducible refine (HD.out _ _ _ (by first | exact .inl rfl | exact .inr rfl) (by first | exact .inl rfl | exact .inr rfl)).mono ?_)
            rintro e6 w8z ⟨d4, u4, rfl, hb, fd4, fu4, hr4⟩
            (try go_wp2_with fail)
            replace R := R.on hb
            replace Z := Z.on hb
            clear hb
            refine hK.out _ _ ⟨R.a0, R.a1, R.b0, R.b1⟩ (fun hHeld => ?_)
            clear hK
            (try simp only [Act.put, List.setIfInBounds_toArray, List.set_cons_zero, List.set_cons_succ])
            refine wpAnyH_take (i := 33) (v := ?_) (by (simp only [List.getElem?_toArray, List.getElem?_cons_succ, List.getElem?_cons_zero]; rfl)) (by kernel_rfl) (by kernel_rfl) (by kernel_rfl) (fun _ _ _ h => h) (Or.inl ⟨by rfl, ?_⟩) (by assumption) ?_
            rotate_left
            · intro wt hSw
              (try dsimp only at hSw)
              go_simp
              (try with_reducible rfl)
            (try simp only [Act.put, List.setIfInBounds_toArray, List.set_cons_zero, List.set_cons_succ])
            refine wpAnyH_take (i := 34) (v := ?_) (by (simp only [List.getElem?_toArray, List.getElem?_cons_succ, List.getElem?_cons_zero]; rfl)) (by kernel_rfl) (by kernel_rfl) (by kernel_rfl) (fun _ _ _ h => h) (Or.inl ⟨by rfl, ?_⟩) (by assumption) ?_
            rotate_left
            · intro wt hSw
              (try dsimp only at hSw)
              go_simp
              (try with_reducible rfl)
            (try simp only [Act.put, List.setIfInBounds_toArray, List.set_cons_zero, List.set_cons_succ])
            refine wpAnyH_ready (rs := [35]) (by kernel_rfl) (by simp) (AllReadyH.cons (by (simp only [List.getElem?_toArray, List.getElem?_cons_succ, List.getElem?_cons_zero]; rfl)) (fun K hK => ?_) AllReadyH.nil)
            go_simp
            (go_at_call 20; with_reducible refine (HB.out _ _ _).mono ?_)
            rintro e7 w9z ⟨rfl, hb⟩
            (try go_wp2_with fail)
            replace R := R.on hb
            replace Z := Z.on hb
            clear hb
            refine hK.out _ _ ⟨R.a0, R.a1, R.b0, R.b1⟩ (fun hHeld => ?_)
            clear hK
            (try simp only [Act.put, List.setIfInBounds_toArray, List.set_cons_zero, List.set_cons_succ])
            refine wpAnyH_take (i := 36) (v := ?_) (by (simp only [List.getElem?_toArray, List.getElem?_cons_succ, List.getElem?_cons_zero]; rfl)) (by kernel_rfl) (by kernel_rfl) (by kernel_rfl) (fun _ _ _ h => h) (Or.inl ⟨by rfl, ?_⟩) (by assumption) ?_
            rotate_left
            · intro wt hSw
              (try dsimp only at hSw)
              go_simp
              (try with_reducible rfl)
            (try simp only [Act.put, List.setIfInBounds_toArray, List.set_cons_zero, List.set_cons_succ])
            have z0 := Z.c 0 (by decide)
            have z1 := Z.c 1 (by decide)
            have z2 := Z.c 2 (by decide)
            have z3 := Z.c 3 (by decide)
            have z4 := Z.c 4 (by decide)
            have z5 := Z.c 5 (by decide)
            have z6 := Z.c 6 (by decide)
            have z7 := Z.c 7 (by decide)
            have y0 := Z.f 0
            have y1 := Z.f 1
            have y2 := Z.f 2
            have y3 := Z.f 3
            have y4 := Z.f 4
            have y5 := Z.f 5
            have y6 := Z.f 6
            have y7 := Z.f 7
            refine wpAnyH_ready (rs := [38]) (by kernel_rfl) (by simp) (AllReadyH.cons (by (simp only [List.getElem?_toArray, List.getElem?_cons_succ, List.getElem?_cons_zero]; rfl)) (fun K hK => ?_) AllReadyH.nil)
            go_simp
            have hF := fill8 Z R hg d1 u1 d2 u2 d3 u3 d4 u4
            replace Z := hF.1
            replace R := hF.2
            clear hF z0 y0 z1 y1 z2 y2 z3 y3 z4 y4 z5 y5 z6 y6 z7 y7
            generalize ((((((((w9z.setCell ⟨gz, 0, none⟩ (.float .f64 d1)).setCell ⟨gz, 1, none⟩ (.float .f64 u1)).setCell ⟨gz, 2, none⟩ (.float .f64 d2)).setCell ⟨gz, 3, none⟩ (.float .f64 u2)).setCell ⟨gz, 4, none⟩ (.float .f64 d3)).setCell ⟨gz, 5, none⟩ (.float .f64 u3)).setCell ⟨gz, 6, none⟩ (.float .f64 d4)).setCell ⟨gz, 7, none⟩ (.float .f64 u4)) = Ws at *
            refine hK.out _ _ ⟨R.a0, R.a1, R.b0, R.b1⟩ (fun hHeld => ?_)
            clear hK
            (try simp only [Act.put, List.setIfInBounds_toArray, List.set_cons_zero, List.set_cons_succ])
            refine wpAnyH_done (by kernel_rfl) (NoPanic.normal ?_) _
            go_wp2
            go_meet
            exact ⟨_, _, _, _, _, _, _, _, _, ⟨hr1, hr2, hr3, hr4⟩, ⟨fd1, fu1, fd2, fu2, fd3, fu3, fd4, fu4⟩, rfl, hg, Z, R⟩
        · go_simp
          have Z := Zr.new w3 55
          have hg := R.lt
          replace R := R.on (W'' := w3.alloc (.cells #[.float .f64 0, .float .f64 0, .float .f64 0, .float .f64 0, .float .f64 0, .float .f64 0, .float .f64 0, .float .f64 0] 55)) (Below.alloc (Below.refl _ _) (Nat.le_refl _) _)
          generalize w3.heap.size = gz at *
          generalize (w3.alloc (.cells #[.float .f64 0, .float .f64 0, .float .f64 0, .float .f64 0, .float .f64 0, .float .f64 0, .float .f64 0, .float .f64 0] 55)) = wz2 at *
          refine hK.out _ _ ⟨R.a0, R.a1, R.b0, R.b1⟩ (fun hHeld => ?_)
          clear hK
          (try simp only [Act.put, List.setIfInBounds_toArray, List.set_cons_zero, List.set_cons_succ])
          refine wpAnyH_ready (rs := [14]) (by kernel_rfl) (by simp) (AllReadyH.cons (by (simp only [List.getElem?_toArray, List.getElem?_cons_succ, List.getElem?_cons_zero]; rfl)) (fun K hK => ?_) AllReadyH.nil)
          go_simp
          (go_at_call 32; with_reducible refine (HD.out _ _ _ (by first | exact .inl rfl | exact .inr rfl) (by first | exact .inl rfl | exact .inr rfl)).mono ?_)
          rintro e2 w4z ⟨d2, u2, rfl, hb, fd2, fu2, hr2⟩
          (try go_wp2_with fail)
          replace R := R.on hb
          replace Z := Z.on hb
          clear hb
          refine hK.out _ _ ⟨R.a0, R.a1, R.b0, R.b1⟩ (fun hHeld => ?_)
          clear hK
          (try simp only [Act.put, List.setIfInBounds_toArray, List.set_cons_zero, List.set_cons_succ])
          refine wpAnyH_take (i := 15) (v := ?_) (by (simp only [List.getElem?_toArray, List.getElem?_cons_succ, List.getElem?_cons_zero]; rfl)) (by kernel_rfl) (by kernel_rfl) (by kernel_rfl) (fun _ _ _ h => h) (Or.inl ⟨by rfl, ?_⟩) (by assumption) ?_
          rotate_left
          · intro wt hSw
            (try dsimp only at hSw)
            go_simp
            (try with_reducible rfl)
          (try simp only [Act.put, List.setIfInBounds_toArray, List.set_cons_zero, List.set_cons_succ])
          refine wpAnyH_take (i := 16) (v := ?_) (by (simp only [List.getElem?_toArray, List.getElem?_cons_succ, List.getElem?_cons_zero]; rfl)) (by kernel_rfl) (by kernel_rfl) (by kernel_rfl) (fun _ _ _ h => h) (Or.inl ⟨by rfl, ?_⟩) (by assumption) ?_
          rotate_left
          · intro wt hSw
            (try dsimp only at hSw)
            go_simp
            (try with_reducible rfl)
          (try simp only [Act.put, List.setIfInBounds_toArray, List.set_cons_zero, List.set_cons_succ])
          refine wpAnyH_ready (rs := [17]) (by kernel_rfl) (by simp) (AllReadyH.cons (by (simp only [List.getElem?_toArray, List.getElem?_cons_succ, List.getElem?_cons_zero]; rfl)) (fun K hK => ?_) AllReadyH.nil)
          go_simp
          (go_at_call 20; with_reducible refine (HB.out _ _ _).mono ?_)
          rintro e3 w5z ⟨rfl, hb⟩
          (try go_wp2_with fail)
          replace R := R.on hb
          replace Z := Z.on hb
          clear hb
          refine hK.out _ _ ⟨R.a0, R.a1, R.b0, R.b1⟩ (fun hHeld => ?_)
          clear hK
          (try simp only [Act.put, List.setIfInBounds_toArray, List.set_cons_zero, List.set_cons_succ])
          refine wpAnyH_ready (rs := [23]) (by kernel_rfl) (by simp) (AllReadyH.cons (by (simp only [List.getElem?_toArray, List.getElem?_cons_succ, List.getElem?_cons_zero]; rfl)) (fun K hK => ?_) AllReadyH.nil)
          go_simp
          (go_at_call 32; with_reducible refine (HD.out _ _ _ (by first | exact .inl rfl | exact .inr rfl) (by first | exact .inl rfl | exact .inr rfl)).mono ?_)
          rintro e4 w6z ⟨d3, u3, rfl, hb, fd3, fu3, hr3⟩
          (try go_wp2_with fail)
          replace R := R.on hb
          replace Z := Z.on hb
          clear hb
          refine hK.out _ _ ⟨R.a0, R.a1, R.b0, R.b1⟩ (fun hHeld => ?_)
          clear hK
          (try simp only [Act.put, List.setIfInBounds_toArray, List.set_cons_zero, List.set_cons_succ])
          refine wpAnyH_take (i := 24) (v := ?_) (by (simp only [List.getElem?_toArray, List.getElem?_cons_succ, List.getElem?_cons_zero]; rfl)) (by kernel_rfl) (by kernel_rfl) (by kernel_rfl) (fun _ _ _ h => h) (Or.inl ⟨by rfl, ?_⟩) (by assumption) ?_
          rotate_left
          · intro wt hSw
            (try dsimp only at hSw)
            go_simp
            (try with_reducible rfl)
          (try simp only [Act.put, List.setIfInBounds_toArray, List.set_cons_zero, List.set_cons_succ])
          refine wpAnyH_take (i := 25) (v := ?_) (by (simp only [List.getElem?_toArray, List.getElem?_cons_succ, List.getElem?_cons_zero]; rfl)) (by kernel_rfl) (by kernel_rfl) (by kernel_rfl) (fun _ _ _ h => h) (Or.inl ⟨by rfl, ?_⟩) (by assumption) ?_
          rotate_left
          · intro wt hSw
            (try dsimp only at hSw)
            go_simp
            (try with_reducible rfl)
          (try simp only [Act.put, List.setIfInBounds_toArray, List.set_cons_zero, List.set_cons_succ])
          refine wpAnyH_ready (rs := [26]) (by kernel_rfl) (by simp) (AllReadyH.cons (by (simp only [List.getElem?_toArray, List.getElem?_cons_succ, List.getElem?_cons_zero]; rfl)) (fun K hK => ?_) AllReadyH.nil)
          go_simp
          (go_at_call 20; with_reducible refine (HB.out _ _ _).mono ?_)
          rintro e5 w7z ⟨rfl, hb⟩
          (try go_wp2_with fail)
          replace R := R.on hb
          replace Z := Z.on hb
          clear hb
          refine hK.out _ _ ⟨R.a0, R.a1, R.b0, R.b1⟩ (fun hHeld => ?_)
          clear hK
          (try simp only [Act.put, List.setIfInBounds_toArray, List.set_cons_zero, List.set_cons_succ])
          refine wpAnyH_ready (rs := [32]) (by kernel_rfl) (by simp) (AllReadyH.cons (by (simp only [List.getElem?_toArray, List.getElem?_cons_succ, List.getElem?_cons_zero]; rfl)) (fun K hK => ?_) AllReadyH.nil)
          go_simp
          (go_at_call 32; with_reducible refine (HD.out _ _ _ (by first | exact .inl rfl | exact .inr rfl) (by first | exact .inl rfl | exact .inr rfl)).mono ?_)
          rintro e6 w8z ⟨d4, u4, rfl, hb, fd4, fu4, hr4⟩
          (try go_wp2_with fail)
          replace R := R.on hb
          replace Z := Z.on hb
          clear hb
          refine hK.out _ _ ⟨R.a0, R.a1, R.b0, R.b1⟩ (fun hHeld => ?_)
          clear hK
          (try simp only [Act.put, List.setIfInBounds_toArray, List.set_cons_zero, List.set_cons_succ])
          refine wpAnyH_take (i := 33) (v := ?_) (by (simp only [List.getElem?_toArray, List.getElem?_cons_succ, List.getElem?_cons_zero]; rfl)) (by kernel_rfl) (by kernel_rfl) (by kernel_rfl) (fun _ _ _ h => h) (Or.inl ⟨by rfl, ?_⟩) (by assumption) ?_
          rotate_left
          · intro wt hSw
            (try dsimp only at hSw)
            go_simp
            (try with_reducible rfl)
          (try simp only [Act.put, List.setIfInBounds_toArray, List.set_cons_zero, List.set_cons_succ])
          refine wpAnyH_take (i := 34) (v := ?_) (by (simp only [List.getElem?_toArray, List.getElem?_cons_succ, List.getElem?_cons_zero]; rfl)) (by kernel_rfl) (by kernel_rfl) (by kernel_rfl) (fun _ _ _ h => h) (Or.inl ⟨by rfl, ?_⟩) (by assumption) ?_
          rotate_left
          · intro wt hSw
            (try dsimp only at hSw)
            go_simp
            (try with_reducible rfl)
          (try simp only [Act.put, List.setIfInBounds_toArray, List.set_cons_zero, List.set_cons_succ])
          refine wpAnyH_ready (rs := [35]) (by kernel_rfl) (by simp) (AllReadyH.cons (by (simp only [List.getElem?_toArray, List.getElem?_cons_succ, List.getElem?_cons_zero]; rfl)) (fun K hK => ?_) AllReadyH.nil)
          go_simp
          (go_at_call 20; with_reducible refine (HB.out _ _ _).mono ?_)
          rintro e7 w9z ⟨rfl, hb⟩
          (try go_wp2_with fail)
          replace R := R.on hb
          replace Z := Z.on hb
          clear hb
          refine hK.out _ _ ⟨R.a0, R.a1, R.b0, R.b1⟩ (fun hHeld => ?_)
          clear hK
          (try simp only [Act.put, List.setIfInBounds_toArray, List.set_cons_zero, List.set_cons_succ])
          refine wpAnyH_take (i := 36) (v := ?_) (by (simp only [List.getElem?_toArray, List.getElem?_cons_succ, List.getElem?_cons_zero]; rfl)) (by kernel_rfl) (by kernel_rfl) (by kernel_rfl) (fun _ _ _ h => h) (Or.inl ⟨by rfl, ?_⟩) (by assumption) ?_
          rotate_left
          · intro wt hSw
            (try dsimp only at hSw)
            go_simp
            (try with_reducible rfl)
          (try simp only [Act.put, List.setIfInBounds_toArray, List.set_cons_zero, List.set_cons_succ])
          have z0 := Z.c 0 (by decide)
          have z1 := Z.c 1 (by decide)
          have z2 := Z.c 2 (by decide)
          have z3 := Z.c 3 (by decide)
          have z4 := Z.c 4 (by decide)
          have z5 := Z.c 5 (by decide)
          have z6 := Z.c 6 (by decide)
          have z7 := Z.c 7 (by decide)
          have y0 := Z.f 0
          have y1 := Z.f 1
          have y2 := Z.f 2
          have y3 := Z.f 3
          have y4 := Z.f 4
          have y5 := Z.f 5
          have y6 := Z.f 6
          have y7 := Z.f 7
          refine wpAnyH_ready (rs := [38]) (by kernel_rfl) (by simp) (AllReadyH.cons (by (simp only [List.getElem?_toArray, List.getElem?_cons_succ, List.getElem?_cons_zero]; rfl)) (fun K hK => ?_) AllReadyH.nil)
          go_simp
          have hF := fill8 Z R hg d1 u1 d2 u2 d3 u3 d4 u4
          replace Z := hF.1
          replace R := hF.2
          clear hF z0 y0 z1 y1 z2 y2 z3 y3 z4 y4 z5 y5 z6 y6 z7 y7
          generalize ((((((((w9z.setCell ⟨gz, 0, none⟩ (.float .f64 d1)).setCell ⟨gz, 1, none⟩ (.float .f64 u1)).setCell ⟨gz, 2, none⟩ (.float .f64 d2)).setCell ⟨gz, 3, none⟩ (.float .f64 u2)).setCell ⟨gz, 4, none⟩ (.float .f64 d3)).setCell ⟨gz, 5, none⟩ (.float .f64 u3)).setCell ⟨gz, 6, none⟩ (.float .f64 d4)).setCell ⟨gz, 7, none⟩ (.float .f64 u4)) = Ws at *
          refine hK.out _ _ ⟨R.a0, R.a1, R.b0, R.b1⟩ (fun hHeld => ?_)
          clear hK
          (try simp only [Act.put, List.setIfInBounds_toArray, List.set_cons_zero, List.set_cons_succ])
          refine wpAnyH_done (by kernel_rfl) (NoPanic.normal ?_) _
          go_wp2
          go_meet
          exact ⟨_, _, _, _, _, _, _, _, _, ⟨hr1, hr2, hr3, hr4⟩, ⟨fd1, fu1, fd2, fu2, fd3, fu3, fd4, fu4⟩, rfl, hg, Z, R⟩
      · go_simp
        have Z := Zr.new w2 55
        have hg := R.lt
        replace R := R.on (W'' := w2.alloc (.cells #[.float .f64 0, .float .f64 0, .float .f64 0, .float .f64 0, .float .f64 0, .float .f64 0, .float .f64 0, .float .f64 0] 55)) (Below.alloc (Below.refl _ _) (Nat.le_refl _) _)
        generalize w2.heap.size = gz at *
        generalize (w2.alloc (.cells #[.float .f64 0, .float .f64 0, .float .f64 0, .float .f64 0, .float .f64 0, .float .f64 0, .float .f64 0, .float .f64 0] 55)) = wz1 at *
        refine hK.out _ _ ⟨R.a0, R.a1, R.b0, R.b1⟩ (fun hHeld => ?_)
        clear hK
        (try simp only [Act.put, List.setIfInBounds_toArray, List.set_cons_zero, List.set_cons_succ])
        refine wpAnyH_ready (rs := [8]) (by kernel_rfl) (by simp) (AllReadyH.cons (by (simp only [List.getElem?_toArray, List.getElem?_cons_succ, List.getElem?_cons_zero]; rfl)) (fun K hK => ?_) AllReadyH.nil)
        go_simp
        (go_at_call 20; with_reducible refine (HB.out _ _ _).mono ?_)
        rintro e1 w3z ⟨rfl, hb⟩
        (try go_wp2_with fail)
        replace R := R.on hb
        replace Z := Z.on hb
        clear hb
        refine hK.out _ _ ⟨R.a0, R.a1, R.b0, R.b1⟩ (fun hHeld => ?_)
        clear hK
        (try simp only [Act.put, List.setIfInBounds_toArray, List.set_cons_zero, List.set_cons_succ])
        refine wpAnyH_ready (rs := [14]) (by kernel_rfl) (by simp) (AllReadyH.cons (by (simp only [List.getElem?_toArray, List.getElem?_cons_succ, List.getElem?_cons_zero]; rfl)) (fun K hK => ?_) AllReadyH.nil)
        go_simp
        (go_at_call 32; with_reducible refine (HD.out _ _ _ (by first | exact .inl rfl | exact .inr rfl) (by first | exact .inl rfl | exact .inr rfl)).mono ?_)
        rintro e2 w4z ⟨d2, u2, rfl, hb, fd2, fu2, hr2⟩
        (try go_wp2_with fail)
        replace R := R.on hb
        replace Z := Z.on hb
        clear hb
        refine hK.out _ _ ⟨R.a0, R.a1, R.b0, R.b1⟩ (fun hHeld => ?_)
        clear hK
        (try simp only [Act.put, List.setIfInBounds_toArray, List.set_cons_zero, List.set_cons_succ])
        refine wpAnyH_take (i := 15) (v := ?_) (by (simp only [List.getElem?_toArray, List.getElem?_cons_succ, List.getElem?_cons_zero]; rfl)) (by kernel_rfl) (by kernel_rfl) (by kernel_rfl) (fun _ _ _ h => h) (Or.inl ⟨by rfl, ?_⟩) (by assumption) ?_
        rotate_left
        · intro wt hSw
          (try dsimp only at hSw)
          go_simp
          (try with_reducible rfl)
        (try simp only [Act.put, List.setIfInBounds_toArray, List.set_cons_zero, List.set_cons_succ])
        refine wpAnyH_take (i := 16) (v := ?_) (by (simp only [List.getElem?_toArray, List.getElem?_cons_succ, List.getElem?_cons_zero]; rfl)) (by kernel_rfl) (by kernel_rfl) (by kernel_rfl) (fun _ _ _ h => h) (Or.inl ⟨by rfl, ?_⟩) (by assumption) ?_
        rotate_left
        · intro wt hSw
          (try dsimp only at hSw)
          go_simp
          (try with_reducible rfl)
        (try simp only [Act.put, List.setIfInBounds_toArray, List.set_cons_zero, List.set_cons_succ])
        refine wpAnyH_ready (rs := [17]) (by kernel_rfl) (by simp) (AllReadyH.cons (by (simp only [List.getElem?_toArray, List.getElem?_cons_succ, List.getElem?_cons_zero]; rfl)) (fun K hK => ?_) AllReadyH.nil)
        go_simp
        (go_at_call 20; with_reducible refine (HB.out _ _ _).mono ?_)
        rintro e3 w5z ⟨rfl, hb⟩
        (try go_wp2_with fail)
        replace R := R.on hb
        replace Z := Z.on hb
        clear hb
        refine hK.out _ _ ⟨R.a0, R.a1, R.b0, R.b1⟩ (fun hHeld => ?_)
        clear hK
        (try simp only [Act.put, List.setIfInBounds_toArray, List.set_cons_zero, List.set_cons_succ])
        refine wpAnyH_ready (rs := [23]) (by kernel_rfl) (by simp) (AllReadyH.cons (by (simp only [List.getElem?_toArray, List.getElem?_cons_succ, List.getElem?_cons_zero]; rfl)) (fun K hK => ?_) AllReadyH.nil)
        go_simp
        (go_at_call 32; with_reducible refine (HD.out _ _ _ (by first | exact .inl rfl | exact .inr rfl) (by first | exact .inl rfl | exact .inr rfl)).mono ?_)
        rintro e4 w6z ⟨d3, u3, rfl, hb, fd3, fu3, hr3⟩
        (try go_wp2_with fail)
        replace R := R.on hb
        replace Z := Z.on hb
        clear hb
        refine hK.out _ _ ⟨R.a0, R.a1, R.b0, R.b1⟩ (fun hHeld => ?_)
        clear hK
        (try simp only [Act.put, List.setIfInBounds_toArray, List.set_cons_zero, List.set_cons_succ])
        refine wpAnyH_take (i := 24) (v := ?_) (by (simp only [List.getElem?_toArray, List.getElem?_cons_succ, List.getElem?_cons_zero]; rfl)) (by kernel_rfl) (by kernel_rfl) (by kernel_rfl) (fun _ _ _ h => h) (Or.inl ⟨by rfl, ?_⟩) (by assumption) ?_
        rotate_left
        · intro wt hSw
          (try dsimp only at hSw)
          go_simp
          (try with_reducible rfl)
        (try simp only [Act.put, List.setIfInBounds_toArray, List.set_cons_zero, List.set_cons_succ])
        refine wpAnyH_take (i := 25) (v := ?_) (by (simp only [List.getElem?_toArray, List.getElem?_cons_succ, List.getElem?_cons_zero]; rfl)) (by kernel_rfl) (by kernel_rfl) (by kernel_rfl) (fun _ _ _ h => h) (Or.inl ⟨by rfl, ?_⟩) (by assumption) ?_
        rotate_left
        · intro wt hSw
          (try dsimp only at hSw)
          go_simp
          (try with_reducible rfl)
        (try simp only [Act.put, List.setIfInBounds_toArray, List.set_cons_zero, List.set_cons_succ])
        refine wpAnyH_ready (rs := [26]) (by kernel_rfl) (by simp) (AllReadyH.cons (by (simp only [List.getElem?_toArray, List.getElem?_cons_succ, List.getElem?_cons_zero]; rfl)) (fun K hK => ?_) AllReadyH.nil)
        go_simp
        (go_at_call 20; with_reducible refine (HB.out _ _ _).mono ?_)
        rintro e5 w7z ⟨rfl, hb⟩
        (try go_wp2_with fail)
        replace R := R.on hb
        replace Z := Z.on hb
        clear hb
        refine hK.out _ _ ⟨R.a0, R.a1, R.b0, R.b1⟩ (fun hHeld => ?_)
        clear hK
        (try simp only [Act.put, List.setIfInBounds_toArray, List.set_cons_zero, List.set_cons_succ])
        refine wpAnyH_ready (rs := [32]) (by kernel_rfl) (by simp) (AllReadyH.cons (by (simp only [List.getElem?_toArray, List.getElem?_cons_succ, List.getElem?_cons_zero]; rfl)) (fun K hK => ?_) AllReadyH.nil)
        go_simp
        (go_at_call 32; with_reducible refine (HD.out _ _ _ (by first | exact .inl rfl | exact .inr rfl) (by first | exact .inl rfl | exact .inr rfl)).mono ?_)
        rintro e6 w8z ⟨d4, u4, rfl, hb, fd4, fu4, hr4⟩
        (try go_wp2_with fail)
        replace R := R.on hb
        replace Z := Z.on hb
        clear hb
        refine hK.out _ _ ⟨R.a0, R.a1, R.b0, R.b1⟩ (fun hHeld => ?_)
        clear hK
        (try simp only [Act.put, List.setIfInBounds_toArray, List.set_cons_zero, List.set_cons_succ])
        refine wpAnyH_take (i := 33) (v := ?_) (by (simp only [List.getElem?_toArray, List.getElem?_cons_succ, List.getElem?_cons_zero]; rfl)) (by kernel_rfl) (by kernel_rfl) (by kernel_rfl) (fun _ _ _ h => h) (Or.inl ⟨by rfl, ?_⟩) (by assumption) ?_
        rotate_left
        · intro wt hSw
          (try dsimp only at hSw)
          go_simp
          (try with_reducible rfl)
        (try simp only [Act.put, List.setIfInBounds_toArray, List.set_cons_zero, List.set_cons_succ])
        refine wpAnyH_take (i := 34) (v := ?_) (by (simp only [List.getElem?_toArray, List.getElem?_cons_succ, List.getElem?_cons_zero]; rfl)) (by kernel_rfl) (by kernel_rfl) (by kernel_rfl) (fun _ _ _ h => h) (Or.inl ⟨by rfl, ?_⟩) (by assumption) ?_
        rotate_left
        · intro wt hSw
          (try dsimp only at hSw)
          go_simp
          (try with_reducible rfl)
        (try simp only [Act.put, List.setIfInBounds_toArray, List.set_cons_zero, List.set_cons_succ])
        refine wpAnyH_ready (rs := [35]) (by kernel_rfl) (by simp) (AllReadyH.cons (by (simp only [List.getElem?_toArray, List.getElem?_cons_succ, List.getElem?_cons_zero]; rfl)) (fun K hK => ?_) AllReadyH.nil)
        go_simp
        (go_at_call 20; with_reducible refine (HB.out _ _ _).mono ?_)
        rintro e7 w9z ⟨rfl, hb⟩
        (try go_wp2_with fail)
        replace R := R.on hb
        replace Z := Z.on hb
        clear hb
        refine hK.out _ _ ⟨R.a0, R.a1, R.b0, R.b1⟩ (fun hHeld => ?_)
        clear hK
        (try simp only [Act.put, List.setIfInBounds_toArray, List.set_cons_zero, List.set_cons_succ])
        refine wpAnyH_take (i := 36) (v := ?_) (by (simp only [List.getElem?_toArray, List.getElem?_cons_succ, List.getElem?_cons_zero]; rfl)) (by kernel_rfl) (by kernel_rfl) (by kernel_rfl) (fun _ _ _ h => h) (Or.inl ⟨by rfl, ?_⟩) (by assumption) ?_
        rotate_left
        · intro wt hSw
          (try dsimp only at hSw)
          go_simp
          (try with_reducible rfl)
        (try simp only [Act.put, List.setIfInBounds_toArray, List.set_cons_zero, List.set_cons_succ])
        have z0 := Z.c 0 (by decide)
        have z1 := Z.c 1 (by decide)
        have z2 := Z.c 2 (by decide)
        have z3 := Z.c 3 (by decide)
        have z4 := Z.c 4 (by decide)
        have z5 := Z.c 5 (by decide)
        have z6 := Z.c 6 (by decide)
        have z7 := Z.c 7 (by decide)
        have y0 := Z.f 0
        have y1 := Z.f 1
        have y2 := Z.f 2
        have y3 := Z.f 3
        have y4 := Z.f 4
        have y5 := Z.f 5
        have y6 := Z.f 6
        have y7 := Z.f 7
        refine wpAnyH_ready (rs := [38]) (by kernel_rfl) (by simp) (AllReadyH.cons (by (simp only [List.getElem?_toArray, List.getElem?_cons_succ, List.getElem?_cons_zero]; rfl)) (fun K hK => ?_) AllReadyH.nil)
        go_simp
        have hF := fill8 Z R hg d1 u1 d2 u2 d3 u3 d4 u4
        replace Z := hF.1
        replace R := hF.2
        clear hF z0 y0 z1 y1 z2 y2 z3 y3 z4 y4 z5 y5 z6 y6 z7 y7
        generalize ((((((((w9z.setCell ⟨gz, 0, none⟩ (.float .f64 d1)).setCell ⟨gz, 1, none⟩ (.float .f64 u1)).setCell ⟨gz, 2, none⟩ (.float .f64 d2)).setCell ⟨gz, 3, none⟩ (.float .f64 u2)).setCell ⟨gz, 4, none⟩ (.float .f64 d3)).setCell ⟨gz, 5, none⟩ (.float .f64 u3)).setCell ⟨gz, 6, none⟩ (.float .f64 d4)).setCell ⟨gz, 7, none⟩ (.float .f64 u4)) = Ws at *
        refine hK.out _ _ ⟨R.a0, R.a1, R.b0, R.b1⟩ (fun hHeld => ?_)
        clear hK
        (try simp only [Act.put, List.setIfInBounds_toArray, List.set_cons_zero, List.set_cons_succ])
        refine wpAnyH_done (by kernel_rfl) (NoPanic.normal ?_) _
        go_wp2
        go_meet
        exact ⟨_, _, _, _, _, _, _, _, _, ⟨hr1, hr2, hr3, hr4⟩, ⟨fd1, fu1, fd2, fu2, fd3, fu3, fd4, fu4⟩, rfl, hg, Z, R⟩
    · go_simp
      have Z := Zr.new Vd 55
      have hg := R.lt
      replace R := R.on (W'' := Vd.alloc (.cells #[.float .f64 0, .float .f64 0, .float .f64 0, .float .f64 0, .float .f64 0, .float .f64 0, .float .f64 0, .float .f64 0] 55)) (Below.alloc (Below.refl _ _) (Nat.le_refl _) _)
      generalize Vd.heap.size = gz at *
      generalize (Vd.alloc (.cells #[.float .f64 0, .float .f64 0, .float .f64 0, .float .f64 0, .float .f64 0, .float .f64 0, .float .f64 0, .float .f64 0] 55)) = wz0 at *
      refine hK.out _ _ ⟨R.a0, R.a1, R.b0, R.b1⟩ (fun hHeld => ?_)
      clear hK
      (try simp only [Act.put, List.setIfInBounds_toArray, List.set_cons_zero, List.set_cons_succ])
      refine wpAnyH_ready (rs := [5]) (by kernel_rfl) (by simp) (AllReadyH.cons (by (simp only [List.getElem?_toArray, List.getElem?_cons_succ, List.getElem?_cons_zero]; rfl)) (fun K hK => ?_) AllReadyH.nil)
      go_simp
      (go_at_call 32; with_reducible refine (HD.out _ _ _ (by first | exact .inl rfl | exact .inr rfl) (by first | exact .inl rfl | exact .inr rfl)).mono ?_)
      rintro e0 w2z ⟨d1, u1, rfl, hb, fd1, fu1, hr1⟩
      (try go_wp2_with fail)
      replace R := R.on hb
      replace Z := Z.on hb
      clear hb
      refine hK.out _ _ ⟨R.a0, R.a1, R.b0, R.b1⟩ (fun hHeld => ?_)
      clear hK
      (try simp only [Act.put, List.setIfInBounds_toArray, List.set_cons_zero, List.set_cons_succ])
      refine wpAnyH_take (i := 6) (v := ?_) (by (simp only [List.getElem?_toArray, List.getElem?_cons_succ, List.getElem?_cons_zero]; rfl)) (by kernel_rfl) (by kernel_rfl) (by kernel_rfl) (fun _ _ _ h => h) (Or.inl ⟨by rfl, ?_⟩) (by assumption) ?_
      rotate_left
      · intro wt hSw
        (try dsimp only at hSw)
        go_simp
        (try with_reducible rfl)
      (try simp only [Act.put, List.setIfInBounds_toArray, List.set_cons_zero, List.set_cons_succ])
      refine wpAnyH_take (i := 7) (v := ?_) (by (simp only [List.getElem?_toArray, List.getElem?_cons_succ, List.getElem?_cons_zero]; rfl)) (by kernel_rfl) (by kernel_rfl) (by kernel_rfl) (fun _ _ _ h => h) (Or.inl ⟨by rfl, ?_⟩) (by assumption) ?_
      rotate_left
      · intro wt hSw
        (try dsimp only at hSw)
        go_simp
        (try with_reducible rfl)
      (try simp only [Act.put, List.setIfInBounds_toArray, List.set_cons_zero, List.set_cons_succ])
      refine wpAnyH_ready (rs := [8]) (by kernel_rfl) (by simp) (AllReadyH.cons (by (simp only [List.getElem?_toArray, List.getElem?_cons_succ, List.getElem?_cons_zero]; rfl)) (fun K hK => ?_) AllReadyH.nil)
      go_simp
      (go_at_call 20; with_reducible refine (HB.out _ _ _).mono ?_)
      rintro e1 w3z ⟨rfl, hb⟩
      (try go_wp2_with fail)
      replace R := R.on hb
      replace Z := Z.on hb
      clear hb
      refine hK.out _ _ ⟨R.a0, R.a1, R.b0, R.b1⟩ (fun hHeld => ?_)
      clear hK
      (try simp only [Act.put, List.setIfInBounds_toArray, List.set_cons_zero, List.set_cons_succ])
      refine wpAnyH_ready (rs := [14]) (by kernel_rfl) (by simp) (AllReadyH.cons (by (simp only [List.getElem?_toArray, List.getElem?_cons_succ, List.getElem?_cons_zero]; rfl)) (fun K hK => ?_) AllReadyH.nil)
      go_simp
      (go_at_call 32; with_reducible refine (HD.out _ _ _ (by first | exact .inl rfl | exact .inr rfl) (by first | exact .inl rfl | exact .inr rfl)).mono ?_)
      rintro e2 w4z ⟨d2, u2, rfl, hb, fd2, fu2, hr2⟩
      (try go_wp2_with fail)
      replace R := R.on hb
      replace Z := Z.on hb
      clear hb
      refine hK.out _ _ ⟨R.a0, R.a1, R.b0, R.b1⟩ (fun hHeld => ?_)
      clear hK
      (try simp only [Act.put, List.setIfInBounds_toArray, List.set_cons_zero, List.set_cons_succ])
      refine wpAnyH_take (i := 15) (v := ?_) (by (simp only [List.getElem?_toArray, List.getElem?_cons_succ, List.getElem?_cons_zero]; rfl)) (by kernel_rfl) (by kernel_rfl) (by kernel_rfl) (fun _ _ _ h => h) (Or.inl ⟨by rfl, ?_⟩) (by assumption) ?_
      rotate_left
      · intro wt hSw
        (try dsimp only at hSw)
        go_simp
        (try with_reducible rfl)
      (try simp only [Act.put, List.setIfInBounds_toArray, List.set_cons_zero, List.set_cons_succ])
      refine wpAnyH_take (i := 16) (v := ?_) (by (simp only [List.getElem?_toArray, List.getElem?_cons_succ, List.getElem?_cons_zero]; rfl)) (by kernel_rfl) (by kernel_rfl) (by kernel_rfl) (fun _ _ _ h => h) (Or.inl ⟨by rfl, ?_⟩) (by assumption) ?_
      rotate_left
      · intro wt hSw
        (try dsimp only at hSw)
        go_simp
        (try with_reducible rfl)
      (try simp only [Act.put, List.setIfInBounds_toArray, List.set_cons_zero, List.set_cons_succ])
      refine wpAnyH_ready (rs := [17]) (by kernel_rfl) (by simp) (AllReadyH.cons (by (simp only [List.getElem?_toArray, List.getElem?_cons_succ, List.getElem?_cons_zero]; rfl)) (fun K hK => ?_) AllReadyH.nil)
      go_simp
      (go_at_call 20; with_reducible refine (HB.out _ _ _).mono ?_)
      rintro e3 w5z ⟨rfl, hb⟩
      (try go_wp2_with fail)
      replace R := R.on hb
      replace Z := Z.on hb
      clear hb
      refine hK.out _ _ ⟨R.a0, R.a1, R.b0, R.b1⟩ (fun hHeld => ?_)
      clear hK
      (try simp only [Act.put, List.setIfInBounds_toArray, List.set_cons_zero, List.set_cons_succ])
      refine wpAnyH_ready (rs := [23]) (by kernel_rfl) (by simp) (AllReadyH.cons (by (simp only [List.getElem?_toArray, List.getElem?_cons_succ, List.getElem?_cons_zero]; rfl)) (fun K hK => ?_) AllReadyH.nil)
      go_simp
      (go_at_call 32; with_reducible refine (HD.out _ _ _ (by first | exact .inl rfl | exact .inr rfl) (by first | exact .inl rfl | exact .inr rfl)).mono ?_)
      rintro e4 w6z ⟨d3, u3, rfl, hb, fd3, fu3, hr3⟩
      (try go_wp2_with fail)
      replace R := R.on hb
      replace Z := Z.on hb
      clear hb
      refine hK.out _ _ ⟨R.a0, R.a1, R.b0, R.b1⟩ (fun hHeld => ?_)
      clear hK
      (try simp only [Act.put, List.setIfInBounds_toArray, List.set_cons_zero, List.set_cons_succ])
      refine wpAnyH_take (i := 24) (v := ?_) (by (simp only [List.getElem?_toArray, List.getElem?_cons_succ, List.getElem?_cons_zero]; rfl)) (by kernel_rfl) (by kernel_rfl) (by kernel_rfl) (fun _ _ _ h => h) (Or.inl ⟨by rfl, ?_⟩) (by assumption) ?_
      rotate_left
      · intro wt hSw
        (try dsimp only at hSw)
        go_simp
        (try with_reducible rfl)
      (try simp only [Act.put, List.setIfInBounds_toArray, List.set_cons_zero, List.set_cons_succ])
      refine wpAnyH_take (i := 25) (v := ?_) (by (simp only [List.getElem?_toArray, List.getElem?_cons_succ, List.getElem?_cons_zero]; rfl)) (by kernel_rfl) (by kernel_rfl) (by kernel_rfl) (fun _ _ _ h => h) (Or.inl ⟨by rfl, ?_⟩) (by assumption) ?_
      rotate_left
      · intro wt hSw
        (try dsimp only at hSw)
        go_simp
        (try with_reducible rfl)
      (try simp only [Act.put, List.setIfInBounds_toArray, List.set_cons_zero, List.set_cons_succ])
      refine wpAnyH_ready (rs := [26]) (by kernel_rfl) (by simp) (AllReadyH.cons (by (simp only [List.getElem?_toArray, List.getElem?_cons_succ, List.getElem?_cons_zero]; rfl)) (fun K hK => ?_) AllReadyH.nil)
      go_simp
      (go_at_call 20; with_reducible refine (HB.out _ _ _).mono ?_)
      rintro e5 w7z ⟨rfl, hb⟩
      (try go_wp2_with fail)
      replace R := R.on hb
      replace Z := Z.on hb
      clear hb
      refine hK.out _ _ ⟨R.a0, R.a1, R.b0, R.b1⟩ (fun hHeld => ?_)
      clear hK
      (try simp only [Act.put, List.setIfInBounds_toArray, List.set_cons_zero, List.set_cons_succ])
      refine wpAnyH_ready (rs := [32]) (by kernel_rfl) (by simp) (AllReadyH.cons (by (simp only [List.getElem?_toArray, List.getElem?_cons_succ, List.getElem?_cons_zero]; rfl)) (fun K hK => ?_) AllReadyH.nil)
      go_simp
      (go_at_call 32; with_reducible refine (HD.out _ _ _ (by first | exact .inl rfl | exact .inr rfl) (by first | exact .inl rfl | exact .inr rfl)).mono ?_)
      rintro e6 w8z ⟨d4, u4, rfl, hb, fd4, fu4, hr4⟩
      (try go_wp2_with fail)
      replace R := R.on hb
      replace Z := Z.on hb
      clear hb
      refine hK.out _ _ ⟨R.a0, R.a1, R.b0, R.b1⟩ (fun hHeld => ?_)
      clear hK
      (try simp only [Act.put, List.setIfInBounds_toArray, List.set_cons_zero, List.set_cons_succ])
      refine wpAnyH_take (i := 33) (v := ?_) (by (simp only [List.getElem?_toArray, List.getElem?_cons_succ, List.getElem?_cons_zero]; rfl)) (by kernel_rfl) (by kernel_rfl) (by kernel_rfl) (fun _ _ _ h => h) (Or.inl ⟨by rfl, ?_⟩) (by assumption) ?_
      rotate_left
      · intro wt hSw
        (try dsimp only at hSw)
        go_simp
        (try with_reducible rfl)
      (try simp only [Act.put, List.setIfInBounds_toArray, List.set_cons_zero, List.set_cons_succ])
      refine wpAnyH_take (i := 34) (v := ?_) (by (simp only [List.getElem?_toArray, List.getElem?_cons_succ, List.getElem?_cons_zero]; rfl)) (by kernel_rfl) (by kernel_rfl) (by kernel_rfl) (fun _ _ _ h => h) (Or.inl ⟨by rfl, ?_⟩) (by assumption) ?_
      rotate_left
      · intro wt hSw
        (try dsimp only at hSw)
        go_simp
        (try with_reducible rfl)
      (try simp only [Act.put, List.setIfInBounds_toArray, List.set_cons_zero, List.set_cons_succ])
      refine wpAnyH_ready (rs := [35]) (by kernel_rfl) (by simp) (AllReadyH.cons (by (simp only [List.getElem?_toArray, List.getElem?_cons_succ, List.getElem?_cons_zero]; rfl)) (fun K hK => ?_) AllReadyH.nil)
      go_simp
      (go_at_call 20; with_reducible refine (HB.out _ _ _).mono ?_)
      rintro e7 w9z ⟨rfl, hb⟩
      (try go_wp2_with fail)
      replace R := R.on hb
      replace Z := Z.on hb
      clear hb
      refine hK.out _ _ ⟨R.a0, R.a1, R.b0, R.b1⟩ (fun hHeld => ?_)
      clear hK
      (try simp only [Act.put, List.setIfInBounds_toArray, List.set_cons_zero, List.set_cons_succ])
      refine wpAnyH_take (i := 36) (v := ?_) (by (simp only [List.getElem?_toArray, List.getElem?_cons_succ, List.getElem?_cons_zero]; rfl)) (by kernel_rfl) (by kernel_rfl) (by kernel_rfl) (fun _ _ _ h => h) (Or.inl ⟨by rfl, ?_⟩) (by assumption) ?_
      rotate_left
      · intro wt hSw
        (try dsimp only at hSw)
        go_simp
        (try with_reducible rfl)
      (try simp only [Act.put, List.setIfInBounds_toArray, List.set_cons_zero, List.set_cons_succ])
      have z0 := Z.c 0 (by decide)
      have z1 := Z.c 1 (by decide)
      have z2 := Z.c 2 (by decide)
      have z3 := Z.c 3 (by decide)
      have z4 := Z.c 4 (by decide)
      have z5 := Z.c 5 (by decide)
      have z6 := Z.c 6 (by decide)
      have z7 := Z.c 7 (by decide)
      have y0 := Z.f 0
      have y1 := Z.f 1
      have y2 := Z.f 2
      have y3 := Z.f 3
      have y4 := Z.f 4
      have y5 := Z.f 5
      have y6 := Z.f 6
      have y7 := Z.f 7
      refine wpAnyH_ready (rs := [38]) (by kernel_rfl) (by simp) (AllReadyH.cons (by (simp only [List.getElem?_toArray, List.getElem?_cons_succ, List.getElem?_cons_zero]; rfl)) (fun K hK => ?_) AllReadyH.nil)
      go_simp
      have hF := fill8 Z R hg d1 u1 d2 u2 d3 u3 d4 u4
      replace Z := hF.1
      replace R := hF.2
      clear hF z0 y0 z1 y1 z2 y2 z3 y3 z4 y4 z5 y5 z6 y6 z7 y7
      generalize ((((((((w9z.setCell ⟨gz, 0, none⟩ (.float .f64 d1)).setCell ⟨gz, 1, none⟩ (.float .f64 u1)).setCell ⟨gz, 2, none⟩ (.float .f64 d2)).setCell ⟨gz, 3, none⟩ (.float .f64 u2)).setCell ⟨gz, 4, none⟩ (.float .f64 d3)).setCell ⟨gz, 5, none⟩ (.float .f64 u3)).setCell ⟨gz, 6, none⟩ (.float .f64 d4)).setCell ⟨gz, 7, none⟩ (.float .f64 u4)) = Ws at *
      refine hK.out _ _ ⟨R.a0, R.a1, R.b0, R.b1⟩ (fun hHeld => ?_)
      clear hK
      (try simp only [Act.put, List.setIfInBounds_toArray, List.set_cons_zero, List.set_cons_succ])
      refine wpAnyH_done (by kernel_rfl) (NoPanic.normal ?_) _
      go_wp2
      go_meet
      exact ⟨_, _, _, _, _, _, _, _, _, ⟨hr1, hr2, hr3, hr4⟩, ⟨fd1, fu1, fd2, fu2, fd3, fu3, fd4, fu4⟩, rfl, hg, Z, R⟩
  case rest =>
    obtain ⟨g, d1, u1, d2, u2, d3, u3, d4, u4, hr, hfl, rfl, hg, Z, R⟩ := hcut
    have HR := Lib.hid hr
    have HF := Lib.hid hfl
    have HL : Hid (∀ W, Zr W g [d1, u1, d2, u2, d3, u3, d4, u4] → Calls Try.prog 14 #[spv d1 u1, .slice (some ⟨g, 2, none⟩) 3 3] W fun e w' => e = .returned (.tuple #[spv (leaLo d1 u1 [(d2, u2), (d3, u3), (d4, u4)]) (leaHi d1 u1 [(d2, u2), (d3, u3), (d4, u4)]), .int .i64 (leaE d1 u1 [(d2, u2), (d3, u3), (d4, u4)])]) ∧ Below W.heap.size W w') := Lib.hid fun W hZ =>
      least_any d1 u1 g 2 3 3 [(d2, u2), (d3, u3), (d4, u4)] W rfl (by decide) hfl.1 hfl.2.1 (flts3 hfl.2.2) hZ.lt (lies3 hZ)
    clear hr hfl HD HB
    go_wp2
    refine wp_region_noPanic ?_
    replace R := R.on (Below.drew (Below.refl _ _))
    replace Z := Z.on (Below.drew (Below.refl _ _))
    refine wp_region_held_drew (S := (fun wx => wx.cell? ⟨g, 0, none⟩ = some (.float .f64 d1) ∧ wx.cell? ⟨g, 1, none⟩ = some (.float .f64 u1))) (by kernel_rfl) ⟨Z.at_ 0 d1 rfl, Z.at_ 1 u1 rfl⟩ (fun hHeld => ?_)
    generalize wc.drew = Vd at *
    refine wpAnyH_take (i := 0) (v := ?_) (by (simp only [List.getElem?_toArray, List.getElem?_cons_zero]; rfl)) (by kernel_rfl) (by kernel_rfl) (by kernel_rfl) (fun _ _ _ h => h) (Or.inl ⟨by rfl, ?_⟩) (by assumption) ?_
    rotate_left
    · intro wt hSw
      (try dsimp only at hSw)
      go_simp
      (try with_reducible rfl)
    (try simp only [Act.put, List.setIfInBounds_toArray, List.set_cons_zero, List.set_cons_succ])
    refine wpAnyH_take (i := 1) (v := ?_) (by (simp only [List.getElem?_toArray, List.getElem?_cons_succ, List.getElem?_cons_zero]; rfl)) (by kernel_rfl) (by kernel_rfl) (by kernel_rfl) (fun _ _ _ h => h) (Or.inl ⟨by rfl, ?_⟩) (by assumption) ?_
    rotate_left
    · intro wt hSw
      (try dsimp only at hSw)
      go_simp
      (try with_reducible rfl)
    (try simp only [Act.put, List.setIfInBounds_toArray, List.set_cons_zero, List.set_cons_succ])
    refine wpAnyH_take (i := 2) (v := ?_) (by (simp only [List.getElem?_toArray, List.getElem?_cons_succ, List.getElem?_cons_zero]; rfl)) (by kernel_rfl) (by kernel_rfl) (by kernel_rfl) (fun _ _ _ h => h) (Or.inl ⟨by rfl, ?_⟩) (by assumption) ?_
    rotate_left
    · intro wt hSw
      (try dsimp only at hSw)
      go_simp
      (try with_reducible rfl)
    (try simp only [Act.put, List.setIfInBounds_toArray, List.set_cons_zero, List.set_cons_succ])
    refine wpAnyH_ready (rs := [3]) (by kernel_rfl) (by simp) (AllReadyH.cons (by (simp only [List.getElem?_toArray, List.getElem?_cons_succ, List.getElem?_cons_zero]; rfl)) (fun K hK => ?_) AllReadyH.nil)
    go_simp
    (go_at_call 14; with_reducible refine (HL.out _ Z).mono ?_)
    rintro e2 w2 ⟨rfl, hb⟩
    (try go_wp2_with fail)
    replace R := R.on hb
    replace Z := Z.on hb
    clear hb HL
    refine hK.out _ _ ⟨Z.at_ 0 d1 rfl, Z.at_ 1 u1 rfl⟩ (fun hHeld => ?_)
    clear hK
    (try simp only [Act.put, List.setIfInBounds_toArray, List.set_cons_zero, List.set_cons_succ])
    refine wpAnyH_take (i := 4) (v := ?_) (by (simp only [List.getElem?_toArray, List.getElem?_cons_succ, List.getElem?_cons_zero]; rfl)) (by kernel_rfl) (by kernel_rfl) (by kernel_rfl) (fun _ _ _ h => h) (Or.inl ⟨by rfl, ?_⟩) (by assumption) ?_
    rotate_left
    · intro wt hSw
      (try dsimp only at hSw)
      go_simp
      (try with_reducible rfl)
    (try simp only [Act.put, List.setIfInBounds_toArray, List.set_cons_zero, List.set_cons_succ])
    refine wpAnyH_take (i := 5) (v := ?_) (by (simp only [List.getElem?_toArray, List.getElem?_cons_succ, List.getElem?_cons_zero]; rfl)) (by kernel_rfl) (by kernel_rfl) (by kernel_rfl) (fun _ _ _ h => h) (Or.inl ⟨by rfl, ?_⟩) (by assumption) ?_
    rotate_left
    · intro wt hSw
      (try dsimp only at hSw)
      go_simp
      (try with_reducible rfl)
    (try simp only [Act.put, List.setIfInBounds_toArray, List.set_cons_zero, List.set_cons_succ])
    have r0 := R.r0
    have r1 := R.r1
    have r2 := R.f0
    have r3 := R.f1
    have r4 := R.lt
    have HB := R.below
    refine wpAnyH_ready (rs := [6]) (by kernel_rfl) (by simp) (AllReadyH.cons (by (simp only [List.getElem?_toArray, List.getElem?_cons_succ, List.getElem?_cons_zero]; rfl)) (fun K hK => ?_) AllReadyH.nil)
    go_simp
    have x0 := Z.at_ 0 d1 rfl
    have x1 := Z.at_ 1 u1 rfl
    refine hK.out _ _ ⟨by rw [far2 (by omega)]; exact x0, by rw [far2 (by omega)]; exact x1⟩ (fun hHeld => ?_)
    clear hK x0 x1
    (try simp only [Act.put, List.setIfInBounds_toArray, List.set_cons_zero, List.set_cons_succ])
    refine wpAnyH_take (i := 7) (v := ?_) (by (simp only [List.getElem?_toArray, List.getElem?_cons_succ, List.getElem?_cons_zero]; rfl)) (by kernel_rfl) (by kernel_rfl) (by kernel_rfl) (fun _ _ _ h => h) (Or.inl ⟨by rfl, ?_⟩) (by assumption) ?_
    rotate_left
    · intro wt hSw
      (try dsimp only at hSw)
      go_simp
      (try with_reducible rfl)
    (try simp only [Act.put, List.setIfInBounds_toArray, List.set_cons_zero, List.set_cons_succ])
    refine wpAnyH_done (by kernel_rfl) (NoPanic.normal ?_) _
    go_wp2
    exact bodyPost_ret (v := .tuple #[spv (leaLo d1 u1 [(d2, u2), (d3, u3), (d4, u4)]) (leaHi d1 u1 [(d2, u2), (d3, u3), (d4, u4)]), .int .i64 (leaE d1 u1 [(d2, u2), (d3, u3), (d4, u4)])]) (by simp [results, Try.results31, go_sem, r0, r1]) rfl ⟨d1, u1, d2, u2, d3, u3, d4, u4, HR.out, HF.out, rfl, by (repeat (first | exact below_self _ _ | assumption | refine below_dn ?_ _ | refine Below.drew ?_ | refine Below.setCell ?_ (by (try simp) <;> (try omega)) _ | refine Below.alloc ?_ (by (try simp) <;> (try omega)) _))⟩
end Go.Proofs.Ytghcoijinihlnaa.Fl
