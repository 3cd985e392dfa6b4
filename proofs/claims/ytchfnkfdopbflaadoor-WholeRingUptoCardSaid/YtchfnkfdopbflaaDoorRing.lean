/-
  What the statement on sums and products returns: yes. No conditions but that the lists are lists of limbs, and that the table of powers lies where it lies.
-/
import Derived.Test.YtchfnkfdopbflaaDoorRing1
import Derived.Test.YtchfnkfdopbflaaDoorGate
namespace Go.Proofs.YtchfnkfdopbflaaDoor
open Go.RowKit Nb

set_option maxHeartbeats 8000000 in
set_option maxRecDepth 20000 in
theorem ring_walk (n1 n2 n3 : Bool) (A B C : Option Addr) (xs ys zs : List Nat) (c d e : Nat) (w : World) (hr : Sl .u32 w w.heap.size A xs) (hs : Sl .u32 w w.heap.size B ys) (ht : Sl .u32 w w.heap.size C zs) (hx : Dig W32 xs) (hy : Dig W32 ys) (hz : Dig W32 zs) (htab : Tab w) :
    Calls Tryd.prog 4 #[big n1 A xs.length c, big n2 B ys.length d, big n3 C zs.length e] w fun e w' => e = .returned (.bool true) ∧ Below w.heap.size w w' := by
  obtain ⟨W, hW, hbW, hzW, R1, R2, R3⟩ := raw_three (n1 := n1) (n2 := n2) (n3 := n3) (c := c) (d := d) (e := e) hr hs ht
  have HT := Lib.hid htab
  have HW := Lib.hid hW
  obtain ⟨b1, hb1⟩ := is_bool (Ok n1 xs)
  obtain ⟨b2, hb2⟩ := is_bool (Ok n2 ys)
  obtain ⟨b3, hb3⟩ := is_bool (Ok n3 zs)
  have H1 := Lib.hid hb1
  have H2 := Lib.hid hb2
  have H3 := Lib.hid hb3
  clear htab hW hb1 hb2 hb3 hr hs ht
  go_enter Tryd.func4, Tryd.ntmps4
  go_wp2_with fail
  rw [← HW.out]
  refine (alive_any W (tab_below HT.out hbW)).mono ?_
  rintro e1 w1 ⟨rfl, q1⟩
  have R1 := R1.on q1
  have R2 := R2.on q1
  have R3 := R3.on q1
  have B1 := hbW.trans (q1.mono hbW.size)
  clear q1 hbW hzW HW
  have a0 := R1.c0
  have a1 := R1.c1
  have a2 := R2.c0
  have a3 := R2.c1
  have a4 := R3.c0
  have a5 := R3.c1
  go_wp2_with fail
  have hal : Below w1.heap.size w1 (w1.alloc (.cells #[.bool n1, .slice A xs.length c, .bool n2, .slice B ys.length d, .bool n3, .slice C zs.length e] 24)) := by go_grown
  have S1 := (R1.on hal).sl
  have S2 := (R2.on hal).sl
  have S3 := (R3.on hal).sl
  refine (may_3 w1.heap.size 3 n1 A xs.length c b1 n2 B ys.length d b2 n3 C zs.length e b3 _ (kind_of n1 A xs _ _ S1 b1 H1.out) (kind_of n2 B ys _ _ S2 b2 H2.out) (kind_of n3 C zs _ _ S3 b3 H3.out) (by go_cell) (by go_cell) (by go_cell) (by go_cell) (by go_cell) (by go_cell)).mono ?_
  rintro e2 w2 ⟨rfl, q2⟩
  have q2 := Below.trans hal (q2.mono hal.size)
  have R1 := R1.on q2
  have R2 := R2.on q2
  have R3 := R3.on q2
  have B2 := B1.trans (q2.mono B1.size)
  clear a0 a1 a2 a3 a4 a5 hal S1 S2 S3 q2 B1
  have FIN : ∀ W : World, Below w.heap.size w W → Tab W := fun W h => tab_below HT.out h
  by_cases ho : (b1 && b2 && b3) = true
  · have ho2 : b1 = true ∧ b2 = true ∧ b3 = true := by simpa [Bool.and_eq_true, and_assoc] using ho
    have T := Tri.mk B2 (R1.held hx (H1.out.1 ho2.1)) (R2.held hy (H2.out.1 ho2.2.1)) (R3.held hz (H3.out.1 ho2.2.2))
    rw [ho]
    clear ho ho2 H1 H2 H3 R1 R2 R3
    have a0 := T.x.c0
    have a1 := T.x.c1
    have a2 := T.y.c0
    have a3 := T.y.c1
    have a4 := T.z.c0
    have a5 := T.z.c1
    go_wp2_with fail
    have hal : Below w2.heap.size w2 (w2.alloc (.cells #[.bool n1, .slice A xs.length c, .bool n2, .slice B ys.length d, .bool n3, .slice C zs.length e] 24)) := by go_grown
    have l1 := T.x.lm.ok.len
    have l2 := T.y.lm.ok.len
    have l3 := T.z.lm.ok.len
    refine (small_3 w2.heap.size 3 A xs.length c B ys.length d C zs.length e _ (by go_cell) (by go_cell) (by go_cell) (by omega) (by omega) (by omega)).mono ?_
    rintro e3 w3 ⟨rfl, q3⟩
    have q3 := Below.trans hal (q3.mono hal.size)
    have T := T.on q3
    have B3 := B2.trans (q3.mono B2.size)
    clear a0 a1 a2 a3 a4 a5 hal q3 B2 l1 l2 l3
    by_cases hsm : xs.length + 1 + (ys.length + 1) + (zs.length + 1) ≤ 2048
    · have hsd : decide (xs.length + 1 + (ys.length + 1) + (zs.length + 1) ≤ 2048) = true := by simp [hsm]
      rw [hsd]
      clear hsd
      obtain ⟨V, hV, hbV, RG⟩ := mark_new T
      have HV := Lib.hid hV
      clear hV
      have HS0 := Lib.hid RG.all
      obtain ⟨X, hX⟩ : ∃ X : Int, sv n1 (val W32 xs) = X := ⟨_, rfl⟩
      obtain ⟨Y, hY⟩ : ∃ Y : Int, sv n2 (val W32 ys) = Y := ⟨_, rfl⟩
      obtain ⟨Z, hZ⟩ : ∃ Z : Int, sv n3 (val W32 zs) = Z := ⟨_, rfl⟩
      have fX : FitK xs.length X := hX ▸ fitk_sv hx
      have fY : FitK ys.length Y := hY ▸ fitk_sv hy
      have fZ : FitK zs.length Z := hZ ▸ fitk_sv hz
      have F1 := Lib.hid ((fX.add fY).fits (by omega))
      have F2 := Lib.hid (((fX.add fY).mul fZ).fits (by omega))
      have F3 := Lib.hid ((fX.mul fZ).fits (by omega))
      have F4 := Lib.hid ((fY.mul fZ).fits (by omega))
      have F6 := Lib.hid (((fX.add fY).add fZ).fits (by omega))
      have F7 := Lib.hid ((fZ.add fY).fits (by omega))
      have F8 := Lib.hid ((fX.add (fZ.add fY)).fits (by omega))
      have F9 := Lib.hid ((fY.add fX).fits (by omega))
      have F10 := Lib.hid ((fX.mul fY).fits (by omega))
      have F11 := Lib.hid (((fX.mul fY).mul fZ).fits (by omega))
      have F12 := Lib.hid ((fY.mul fX).fits (by omega))
      have F13 := Lib.hid ((fZ.mul (fY.mul fX)).fits (by omega))
      have F5 : Hid (Fits (X * Z + Y * Z)) := Lib.hid (by rw [← Int.add_mul]; exact F2.out)
      clear fX fY fZ T B3
      go_wp2_with fail
      rw [← HV.out]
      clear HV hbV
      go_cut [8] (fun s wx => ∃ (q : Nat) (m : Bool) (V : Option Addr) (l : List Nat) (k : Nat), s = .pointer (some ⟨q, 0, none⟩) ∧ Held wx q m V l k ∧ sv m (val W32 l) = (X + Y) * Z ∧ RngS w wx w3.heap.size n1 n2 n3 A B C xs ys zs c d e)
      case first =>
        have hall := HS0.out
        obtain ⟨_, a0, a1, a2, a3, a4, a5⟩ := hall
        refine wp_region_noPanic ?_
        have B0 : Below V.heap.size V V.drew := (Below.refl _ _).drew
        refine wp_region_held_drew (S := (fun wx => Below V.heap.size V wx ∧ wx.cell? ⟨w.heap.size, 0, none⟩ = some (.bool n1) ∧ wx.cell? ⟨w.heap.size, 1, none⟩ = some (.slice A xs.length c) ∧ wx.cell? ⟨w.heap.size + 1, 0, none⟩ = some (.bool n2) ∧ wx.cell? ⟨w.heap.size + 1, 1, none⟩ = some (.slice B ys.length d) ∧ wx.cell? ⟨w.heap.size + 1 + 1, 0, none⟩ = some (.bool n3) ∧ wx.cell? ⟨w.heap.size + 1 + 1, 1, none⟩ = some (.slice C zs.length e))) (by kernel_rfl) (stay_of HS0.out B0) (fun hHeld => ?_)
        generalize V.drew = Vd at *
        refine wpAnyH_take (i := 0) (v := ?_) (by (simp only [List.getElem?_toArray, List.getElem?_cons_succ, List.getElem?_cons_zero]; rfl)) (by kernel_rfl) (by kernel_rfl) (by kernel_rfl) (fun _ _ _ h => h) (Or.inl ⟨by rfl, ?_⟩) (by assumption) ?_
        rotate_left
        · intro wt hSw
          (try dsimp only at hSw)
          go_simp
          (try with_reducible rfl)
        (try simp only [Act.put, List.setIfInBounds_toArray, List.set_cons_zero, List.set_cons_succ])
        refine wpAnyH_take (i := 1) (v := ?_) (by (simp only [List.getElem?_toArray, List.getElem?_cons_succ, List.getElem?_cons_zero]; rfl)) (by kernel_rfl) (by kernel_rfl) (by kernel_rfl) (fun _ _ _ h => h) (Or.inl ⟨by rfl, ?_⟩) (by assumption) ?_
        rotate_left
        · intro wt hSw
          (try dsimp only at hSw)
          go_simp
          (try with_reducible rfl)
        (try simp only [Act.put, List.setIfInBounds_toArray, List.set_cons_zero, List.set_cons_succ])
        refine wpAnyH_take (i := 3) (v := ?_) (by (simp only [List.getElem?_toArray, List.getElem?_cons_succ, List.getElem?_cons_zero]; rfl)) (by kernel_rfl) (by kernel_rfl) (by kernel_rfl) (fun _ _ _ h => h) (Or.inl ⟨by rfl, ?_⟩) (by assumption) ?_
        rotate_left
        · intro wt hSw
          (try dsimp only at hSw)
          go_simp
          (try with_reducible rfl)
        (try simp only [Act.put, List.setIfInBounds_toArray, List.set_cons_zero, List.set_cons_succ])
        refine wpAnyH_ready (rs := [2, 5]) (by kernel_rfl) (by simp) (AllReadyH.cons (by (simp only [List.getElem?_toArray, List.getElem?_cons_succ, List.getElem?_cons_zero]; rfl)) (fun K hK => ?_) (AllReadyH.cons (by (simp only [List.getElem?_toArray, List.getElem?_cons_succ, List.getElem?_cons_zero]; rfl)) (fun K hK => ?_) AllReadyH.nil))
        · go_simp
          (go_at_call 24; (with_reducible refine (Rng.sum (Rng.keep HS0.out B0) ((Rng.keep HS0.out B0).1.tri.x.lm) ((Rng.keep HS0.out B0).1.tri.y.lm) hX hY F1.out).mono ?_))
          rintro e5 wc0 ⟨m0, V0, l0, c0, rfl, L0, v0, hb⟩
          (try go_wp2_with fail)
          have B1 := B0.trans (hb.mono B0.size)
          refine hK.out _ _ (stay_of HS0.out B1) (fun hHeld => ?_)
          clear hK
          (try simp only [Act.put, List.setIfInBounds_toArray, List.set_cons_zero, List.set_cons_succ])
          refine wpAnyH_ready (rs := [4, 5]) (by kernel_rfl) (by simp) (AllReadyH.cons (by (simp only [List.getElem?_toArray, List.getElem?_cons_succ, List.getElem?_cons_zero]; rfl)) (fun K hK => ?_) (AllReadyH.cons (by (simp only [List.getElem?_toArray, List.getElem?_cons_succ, List.getElem?_cons_zero]; rfl)) (fun K hK => ?_) AllReadyH.nil))
          · go_simp
            (go_at_call 23; (with_reducible refine (Rng.times (Rng.keep HS0.out B1) (L0) ((Rng.keep HS0.out B1).1.tri.z.lm) v0 hZ F2.out).mono ?_))
            rintro e5 wc1 ⟨m1, V1, l1, c1, rfl, L1, v1, hb⟩
            (try go_wp2_with fail)
            have B2 := B1.trans (hb.mono B1.size)
            have L0 := L0.below hb
            refine hK.out _ _ (stay_of HS0.out B2) (fun hHeld => ?_)
            clear hK
            (try simp only [Act.put, List.setIfInBounds_toArray, List.set_cons_zero, List.set_cons_succ])
            refine wpAnyH_ready (rs := [5]) (by kernel_rfl) (by simp) (AllReadyH.cons (by (simp only [List.getElem?_toArray, List.getElem?_cons_succ, List.getElem?_cons_zero]; rfl)) (fun K hK => ?_) AllReadyH.nil)
            have Lz := L1
            go_simp
            have B3 := B2.alloc B2.size (.cells #[.bool false, .slice none 0 0] 24)
            have hrm : Rest (wc1.alloc (.cells #[.bool false, .slice none 0 0] 24)) wc1.heap.size := Rest.newI wc1
            have hlr : V.heap.size ≤ wc1.heap.size := B2.size
            have L0 := L0.below (((Below.refl _ _).alloc (Nat.le_refl _) (.cells #[.bool false, .slice none 0 0] 24) : Below wc1.heap.size wc1 (wc1.alloc (.cells #[.bool false, .slice none 0 0] 24))))
            have L1 := L1.below (((Below.refl _ _).alloc (Nat.le_refl _) (.cells #[.bool false, .slice none 0 0] 24) : Below wc1.heap.size wc1 (wc1.alloc (.cells #[.bool false, .slice none 0 0] 24))))
            refine hK.out _ _ (stay_of HS0.out B3) (fun hHeld => ?_)
            clear hK
            (try simp only [Act.put, List.setIfInBounds_toArray, List.set_cons_zero, List.set_cons_succ])
            have g0 := hrm.r0
            have g1 := hrm.r1
            have g2 := hrm.f0
            have g3 := hrm.f1
            refine wpAnyH_ready (rs := [6]) (by kernel_rfl) (by simp) (AllReadyH.cons (by (simp only [List.getElem?_toArray, List.getElem?_cons_succ, List.getElem?_cons_zero]; rfl)) (fun K hK => ?_) AllReadyH.nil)
            go_simp
            have Bz := B2.alloc (o := .cells #[.bool m1, .slice V1 l1.length c1] 24) B2.size
            refine hK.out _ _ (stay_of HS0.out Bz) (fun hHeld => ?_)
            clear hK
            (try simp only [Act.put, List.setIfInBounds_toArray, List.set_cons_zero, List.set_cons_succ])
            refine wpAnyH_done (by kernel_rfl) (NoPanic.normal ?_) _
            go_wp2
            go_meet
            exact ⟨_, _, _, _, _, rfl, Held.fresh Lz, v1, Rng.keep HS0.out Bz⟩
          · go_simp
            have B2 := B1.alloc B1.size (.cells #[.bool false, .slice none 0 0] 24)
            have hrm : Rest (wc0.alloc (.cells #[.bool false, .slice none 0 0] 24)) wc0.heap.size := Rest.newI wc0
            have hlr : V.heap.size ≤ wc0.heap.size := B1.size
            have L0 := L0.below (((Below.refl _ _).alloc (Nat.le_refl _) (.cells #[.bool false, .slice none 0 0] 24) : Below wc0.heap.size wc0 (wc0.alloc (.cells #[.bool false, .slice none 0 0] 24))))
            refine hK.out _ _ (stay_of HS0.out B2) (fun hHeld => ?_)
            clear hK
            (try simp only [Act.put, List.setIfInBounds_toArray, List.set_cons_zero, List.set_cons_succ])
            refine wpAnyH_ready (rs := [4]) (by kernel_rfl) (by simp) (AllReadyH.cons (by (simp only [List.getElem?_toArray, List.getElem?_cons_succ, List.getElem?_cons_zero]; rfl)) (fun K hK => ?_) AllReadyH.nil)
            go_simp
            (go_at_call 23; (with_reducible refine (Rng.times (Rng.keep HS0.out B2) (L0) ((Rng.keep HS0.out B2).1.tri.z.lm) v0 hZ F2.out).mono ?_))
            rintro e5 wc1 ⟨m1, V1, l1, c1, rfl, L1, v1, hb⟩
            (try go_wp2_with fail)
            have B3 := B2.trans (hb.mono B2.size)
            have L0 := L0.below hb
            have hrm := hrm.on hb
            refine hK.out _ _ (stay_of HS0.out B3) (fun hHeld => ?_)
            clear hK
            (try simp only [Act.put, List.setIfInBounds_toArray, List.set_cons_zero, List.set_cons_succ])
            have g0 := hrm.r0
            have g1 := hrm.r1
            have g2 := hrm.f0
            have g3 := hrm.f1
            refine wpAnyH_ready (rs := [6]) (by kernel_rfl) (by simp) (AllReadyH.cons (by (simp only [List.getElem?_toArray, List.getElem?_cons_succ, List.getElem?_cons_zero]; rfl)) (fun K hK => ?_) AllReadyH.nil)
            go_simp
            have Bz := (B3.setCell (p := ⟨_, 0, none⟩) hlr (.bool m1)).setCell (p := ⟨_, 1, none⟩) hlr (.slice V1 l1.length c1)
            refine hK.out _ _ (stay_of HS0.out Bz) (fun hHeld => ?_)
            clear hK
            (try simp only [Act.put, List.setIfInBounds_toArray, List.set_cons_zero, List.set_cons_succ])
            refine wpAnyH_done (by kernel_rfl) (NoPanic.normal ?_) _
            go_wp2
            go_meet
            exact ⟨_, _, _, _, _, rfl, Held.new hrm L1, v1, Rng.keep HS0.out Bz⟩
        · go_simp
          have B1 := B0.alloc B0.size (.cells #[.bool false, .slice none 0 0] 24)
          have hrm : Rest (Vd.alloc (.cells #[.bool false, .slice none 0 0] 24)) Vd.heap.size := Rest.newI Vd
          have hlr : V.heap.size ≤ Vd.heap.size := B0.size
          refine hK.out _ _ (stay_of HS0.out B1) (fun hHeld => ?_)
          clear hK
          (try simp only [Act.put, List.setIfInBounds_toArray, List.set_cons_zero, List.set_cons_succ])
          refine wpAnyH_ready (rs := [2]) (by kernel_rfl) (by simp) (AllReadyH.cons (by (simp only [List.getElem?_toArray, List.getElem?_cons_succ, List.getElem?_cons_zero]; rfl)) (fun K hK => ?_) AllReadyH.nil)
          go_simp
          (go_at_call 24; (with_reducible refine (Rng.sum (Rng.keep HS0.out B1) ((Rng.keep HS0.out B1).1.tri.x.lm) ((Rng.keep HS0.out B1).1.tri.y.lm) hX hY F1.out).mono ?_))
          rintro e5 wc0 ⟨m0, V0, l0, c0, rfl, L0, v0, hb⟩
          (try go_wp2_with fail)
          have B2 := B1.trans (hb.mono B1.size)
          have hrm := hrm.on hb
          refine hK.out _ _ (stay_of HS0.out B2) (fun hHeld => ?_)
          clear hK
          (try simp only [Act.put, List.setIfInBounds_toArray, List.set_cons_zero, List.set_cons_succ])
          refine wpAnyH_ready (rs := [4]) (by kernel_rfl) (by simp) (AllReadyH.cons (by (simp only [List.getElem?_toArray, List.getElem?_cons_succ, List.getElem?_cons_zero]; rfl)) (fun K hK => ?_) AllReadyH.nil)
          go_simp
          (go_at_call 23; (with_reducible refine (Rng.times (Rng.keep HS0.out B2) (L0) ((Rng.keep HS0.out B2).1.tri.z.lm) v0 hZ F2.out).mono ?_))
          rintro e5 wc1 ⟨m1, V1, l1, c1, rfl, L1, v1, hb⟩
          (try go_wp2_with fail)
          have B3 := B2.trans (hb.mono B2.size)
          have L0 := L0.below hb
          have hrm := hrm.on hb
          refine hK.out _ _ (stay_of HS0.out B3) (fun hHeld => ?_)
          clear hK
          (try simp only [Act.put, List.setIfInBounds_toArray, List.set_cons_zero, List.set_cons_succ])
          have g0 := hrm.r0
          have g1 := hrm.r1
          have g2 := hrm.f0
          have g3 := hrm.f1
          refine wpAnyH_ready (rs := [6]) (by kernel_rfl) (by simp) (AllReadyH.cons (by (simp only [List.getElem?_toArray, List.getElem?_cons_succ, List.getElem?_cons_zero]; rfl)) (fun K hK => ?_) AllReadyH.nil)
          go_simp
          have Bz := (B3.setCell (p := ⟨_, 0, none⟩) hlr (.bool m1)).setCell (p := ⟨_, 1, none⟩) hlr (.slice V1 l1.length c1)
          refine hK.out _ _ (stay_of HS0.out Bz) (fun hHeld => ?_)
          clear hK
          (try simp only [Act.put, List.setIfInBounds_toArray, List.set_cons_zero, List.set_cons_succ])
          refine wpAnyH_done (by kernel_rfl) (NoPanic.normal ?_) _
          go_wp2
          go_meet
          exact ⟨_, _, _, _, _, rfl, Held.new hrm L1, v1, Rng.keep HS0.out Bz⟩
      case rest =>
        obtain ⟨q1, r1, V1', l1', k1, rfl, K1, e1, RG⟩ := hcut
        obtain ⟨W1, rfl, RG⟩ := rng_named RG
        have HS1 := Lib.hid RG
        clear RG
        go_wp2_with fail
        go_cut [9] (fun s wx => ∃ (q : Nat) (m : Bool) (V : Option Addr) (l : List Nat) (k : Nat), s = .pointer (some ⟨q, 0, none⟩) ∧ Held wx q m V l k ∧ sv m (val W32 l) = X * Z + Y * Z ∧ Held wx q1 r1 V1' l1' k1 ∧ RngS w wx w3.heap.size n1 n2 n3 A B C xs ys zs c d e)
        case first =>
          have hall := HS1.out
          obtain ⟨_, a0, a1, a2, a3, a4, a5⟩ := hall
          refine wp_region_noPanic ?_
          have B0 : Below W1.heap.size W1 W1.drew := (Below.refl _ _).drew
          refine wp_region_held_drew (S := (fun wx => Below W1.heap.size W1 wx ∧ wx.cell? ⟨w.heap.size, 0, none⟩ = some (.bool n1) ∧ wx.cell? ⟨w.heap.size, 1, none⟩ = some (.slice A xs.length c) ∧ wx.cell? ⟨w.heap.size + 1, 0, none⟩ = some (.bool n2) ∧ wx.cell? ⟨w.heap.size + 1, 1, none⟩ = some (.slice B ys.length d) ∧ wx.cell? ⟨w.heap.size + 1 + 1, 0, none⟩ = some (.bool n3) ∧ wx.cell? ⟨w.heap.size + 1 + 1, 1, none⟩ = some (.slice C zs.length e))) (by kernel_rfl) (stay_of HS1.out B0) (fun hHeld => ?_)
          generalize W1.drew = Vd at *
          refine wpAnyH_take (i := 0) (v := ?_) (by (simp only [List.getElem?_toArray, List.getElem?_cons_succ, List.getElem?_cons_zero]; rfl)) (by kernel_rfl) (by kernel_rfl) (by kernel_rfl) (fun _ _ _ h => h) (Or.inl ⟨by rfl, ?_⟩) (by assumption) ?_
          rotate_left
          · intro wt hSw
            (try dsimp only at hSw)
            go_simp
            (try with_reducible rfl)
          (try simp only [Act.put, List.setIfInBounds_toArray, List.set_cons_zero, List.set_cons_succ])
          refine wpAnyH_take (i := 1) (v := ?_) (by (simp only [List.getElem?_toArray, List.getElem?_cons_succ, List.getElem?_cons_zero]; rfl)) (by kernel_rfl) (by kernel_rfl) (by kernel_rfl) (fun _ _ _ h => h) (Or.inl ⟨by rfl, ?_⟩) (by assumption) ?_
          rotate_left
          · intro wt hSw
            (try dsimp only at hSw)
            go_simp
            (try with_reducible rfl)
          (try simp only [Act.put, List.setIfInBounds_toArray, List.set_cons_zero, List.set_cons_succ])
          refine wpAnyH_take (i := 3) (v := ?_) (by (simp only [List.getElem?_toArray, List.getElem?_cons_succ, List.getElem?_cons_zero]; rfl)) (by kernel_rfl) (by kernel_rfl) (by kernel_rfl) (fun _ _ _ h => h) (Or.inl ⟨by rfl, ?_⟩) (by assumption) ?_
          rotate_left
          · intro wt hSw
            (try dsimp only at hSw)
            go_simp
            (try with_reducible rfl)
          (try simp only [Act.put, List.setIfInBounds_toArray, List.set_cons_zero, List.set_cons_succ])
          refine wpAnyH_take (i := 4) (v := ?_) (by (simp only [List.getElem?_toArray, List.getElem?_cons_succ, List.getElem?_cons_zero]; rfl)) (by kernel_rfl) (by kernel_rfl) (by kernel_rfl) (fun _ _ _ h => h) (Or.inl ⟨by rfl, ?_⟩) (by assumption) ?_
          rotate_left
          · intro wt hSw
            (try dsimp only at hSw)
            go_simp
            (try with_reducible rfl)
          (try simp only [Act.put, List.setIfInBounds_toArray, List.set_cons_zero, List.set_cons_succ])
          refine wpAnyH_ready (rs := [2, 7]) (by kernel_rfl) (by simp) (AllReadyH.cons (by (simp only [List.getElem?_toArray, List.getElem?_cons_succ, List.getElem?_cons_zero]; rfl)) (fun K hK => ?_) (AllReadyH.cons (by (simp only [List.getElem?_toArray, List.getElem?_cons_succ, List.getElem?_cons_zero]; rfl)) (fun K hK => ?_) AllReadyH.nil))
          · go_simp
            (go_at_call 23; (with_reducible refine (Rng.times (Rng.keep HS1.out B0) ((Rng.keep HS1.out B0).1.tri.x.lm) ((Rng.keep HS1.out B0).1.tri.z.lm) hX hZ F3.out).mono ?_))
            rintro e5 wc0 ⟨m0, V0, l0, c0, rfl, L0, v0, hb⟩
            (try go_wp2_with fail)
            have B1 := B0.trans (hb.mono B0.size)
            refine hK.out _ _ (stay_of HS1.out B1) (fun hHeld => ?_)
            clear hK
            (try simp only [Act.put, List.setIfInBounds_toArray, List.set_cons_zero, List.set_cons_succ])
            refine wpAnyH_ready (rs := [5, 7]) (by kernel_rfl) (by simp) (AllReadyH.cons (by (simp only [List.getElem?_toArray, List.getElem?_cons_succ, List.getElem?_cons_zero]; rfl)) (fun K hK => ?_) (AllReadyH.cons (by (simp only [List.getElem?_toArray, List.getElem?_cons_succ, List.getElem?_cons_zero]; rfl)) (fun K hK => ?_) AllReadyH.nil))
            · go_simp
              (go_at_call 23; (with_reducible refine (Rng.times (Rng.keep HS1.out B1) ((Rng.keep HS1.out B1).1.tri.y.lm) ((Rng.keep HS1.out B1).1.tri.z.lm) hY hZ F4.out).mono ?_))
              rintro e5 wc1 ⟨m1, V1, l1, c1, rfl, L1, v1, hb⟩
              (try go_wp2_with fail)
              have B2 := B1.trans (hb.mono B1.size)
              have L0 := L0.below hb
              refine hK.out _ _ (stay_of HS1.out B2) (fun hHeld => ?_)
              clear hK
              (try simp only [Act.put, List.setIfInBounds_toArray, List.set_cons_zero, List.set_cons_succ])
              refine wpAnyH_ready (rs := [6, 7]) (by kernel_rfl) (by simp) (AllReadyH.cons (by (simp only [List.getElem?_toArray, List.getElem?_cons_succ, List.getElem?_cons_zero]; rfl)) (fun K hK => ?_) (AllReadyH.cons (by (simp only [List.getElem?_toArray, List.getElem?_cons_succ, List.getElem?_cons_zero]; rfl)) (fun K hK => ?_) AllReadyH.nil))
              · go_simp
                (go_at_call 24; (with_reducible refine (Rng.sum (Rng.keep HS1.out B2) (L0) (L1) v0 v1 F5.out).mono ?_))
                rintro e5 wc2 ⟨m2, V2, l2, c2, rfl, L2, v2, hb⟩
                (try go_wp2_with fail)
                have B3 := B2.trans (hb.mono B2.size)
                have L0 := L0.below hb
                have L1 := L1.below hb
                refine hK.out _ _ (stay_of HS1.out B3) (fun hHeld => ?_)
                clear hK
                (try simp only [Act.put, List.setIfInBounds_toArray, List.set_cons_zero, List.set_cons_succ])
                refine wpAnyH_ready (rs := [7]) (by kernel_rfl) (by simp) (AllReadyH.cons (by (simp only [List.getElem?_toArray, List.getElem?_cons_succ, List.getElem?_cons_zero]; rfl)) (fun K hK => ?_) AllReadyH.nil)
                have Lz := L2
                go_simp
                have B4 := B3.alloc B3.size (.cells #[.bool false, .slice none 0 0] 24)
                have hrm : Rest (wc2.alloc (.cells #[.bool false, .slice none 0 0] 24)) wc2.heap.size := Rest.newI wc2
                have hlr : W1.heap.size ≤ wc2.heap.size := B3.size
                have L0 := L0.below (((Below.refl _ _).alloc (Nat.le_refl _) (.cells #[.bool false, .slice none 0 0] 24) : Below wc2.heap.size wc2 (wc2.alloc (.cells #[.bool false, .slice none 0 0] 24))))
                have L1 := L1.below (((Below.refl _ _).alloc (Nat.le_refl _) (.cells #[.bool false, .slice none 0 0] 24) : Below wc2.heap.size wc2 (wc2.alloc (.cells #[.bool false, .slice none 0 0] 24))))
                have L2 := L2.below (((Below.refl _ _).alloc (Nat.le_refl _) (.cells #[.bool false, .slice none 0 0] 24) : Below wc2.heap.size wc2 (wc2.alloc (.cells #[.bool false, .slice none 0 0] 24))))
                refine hK.out _ _ (stay_of HS1.out B4) (fun hHeld => ?_)
                clear hK
                (try simp only [Act.put, List.setIfInBounds_toArray, List.set_cons_zero, List.set_cons_succ])
                have g0 := hrm.r0
                have g1 := hrm.r1
                have g2 := hrm.f0
                have g3 := hrm.f1
                refine wpAnyH_ready (rs := [8]) (by kernel_rfl) (by simp) (AllReadyH.cons (by (simp only [List.getElem?_toArray, List.getElem?_cons_succ, List.getElem?_cons_zero]; rfl)) (fun K hK => ?_) AllReadyH.nil)
                go_simp
                have Bz := B3.alloc (o := .cells #[.bool m2, .slice V2 l2.length c2] 24) B3.size
                refine hK.out _ _ (stay_of HS1.out Bz) (fun hHeld => ?_)
                clear hK
                (try simp only [Act.put, List.setIfInBounds_toArray, List.set_cons_zero, List.set_cons_succ])
                refine wpAnyH_done (by kernel_rfl) (NoPanic.normal ?_) _
                go_wp2
                go_meet
                exact ⟨_, _, _, _, _, rfl, Held.fresh Lz, v2, K1.on Bz, Rng.keep HS1.out Bz⟩
              · go_simp
                have B3 := B2.alloc B2.size (.cells #[.bool false, .slice none 0 0] 24)
                have hrm : Rest (wc1.alloc (.cells #[.bool false, .slice none 0 0] 24)) wc1.heap.size := Rest.newI wc1
                have hlr : W1.heap.size ≤ wc1.heap.size := B2.size
                have L0 := L0.below (((Below.refl _ _).alloc (Nat.le_refl _) (.cells #[.bool false, .slice none 0 0] 24) : Below wc1.heap.size wc1 (wc1.alloc (.cells #[.bool false, .slice none 0 0] 24))))
                have L1 := L1.below (((Below.refl _ _).alloc (Nat.le_refl _) (.cells #[.bool false, .slice none 0 0] 24) : Below wc1.heap.size wc1 (wc1.alloc (.cells #[.bool false, .slice none 0 0] 24))))
                refine hK.out _ _ (stay_of HS1.out B3) (fun hHeld => ?_)
                clear hK
                (try simp only [Act.put, List.setIfInBounds_toArray, List.set_cons_zero, List.set_cons_succ])
                refine wpAnyH_ready (rs := [6]) (by kernel_rfl) (by simp) (AllReadyH.cons (by (simp only [List.getElem?_toArray, List.getElem?_cons_succ, List.getElem?_cons_zero]; rfl)) (fun K hK => ?_) AllReadyH.nil)
                go_simp
                (go_at_call 24; (with_reducible refine (Rng.sum (Rng.keep HS1.out B3) (L0) (L1) v0 v1 F5.out).mono ?_))
                rintro e5 wc2 ⟨m2, V2, l2, c2, rfl, L2, v2, hb⟩
                (try go_wp2_with fail)
                have B4 := B3.trans (hb.mono B3.size)
                have L0 := L0.below hb
                have L1 := L1.below hb
                have hrm := hrm.on hb
                refine hK.out _ _ (stay_of HS1.out B4) (fun hHeld => ?_)
                clear hK
                (try simp only [Act.put, List.setIfInBounds_toArray, List.set_cons_zero, List.set_cons_succ])
                have g0 := hrm.r0
                have g1 := hrm.r1
                have g2 := hrm.f0
                have g3 := hrm.f1
                refine wpAnyH_ready (rs := [8]) (by kernel_rfl) (by simp) (AllReadyH.cons (by (simp only [List.getElem?_toArray, List.getElem?_cons_succ, List.getElem?_cons_zero]; rfl)) (fun K hK => ?_) AllReadyH.nil)
                go_simp
                have Bz := (B4.setCell (p := ⟨_, 0, none⟩) hlr (.bool m2)).setCell (p := ⟨_, 1, none⟩) hlr (.slice V2 l2.length c2)
                refine hK.out _ _ (stay_of HS1.out Bz) (fun hHeld => ?_)
                clear hK
                (try simp only [Act.put, List.setIfInBounds_toArray, List.set_cons_zero, List.set_cons_succ])
                refine wpAnyH_done (by kernel_rfl) (NoPanic.normal ?_) _
                go_wp2
                go_meet
                exact ⟨_, _, _, _, _, rfl, Held.new hrm L2, v2, K1.on Bz, Rng.keep HS1.out Bz⟩
            · go_simp
              have B2 := B1.alloc B1.size (.cells #[.bool false, .slice none 0 0] 24)
              have hrm : Rest (wc0.alloc (.cells #[.bool false, .slice none 0 0] 24)) wc0.heap.size := Rest.newI wc0
              have hlr : W1.heap.size ≤ wc0.heap.size := B1.size
              have L0 := L0.below (((Below.refl _ _).alloc (Nat.le_refl _) (.cells #[.bool false, .slice none 0 0] 24) : Below wc0.heap.size wc0 (wc0.alloc (.cells #[.bool false, .slice none 0 0] 24))))
              refine hK.out _ _ (stay_of HS1.out B2) (fun hHeld => ?_)
              clear hK
              (try simp only [Act.put, List.setIfInBounds_toArray, List.set_cons_zero, List.set_cons_succ])
              refine wpAnyH_ready (rs := [5]) (by kernel_rfl) (by simp) (AllReadyH.cons (by (simp only [List.getElem?_toArray, List.getElem?_cons_succ, List.getElem?_cons_zero]; rfl)) (fun K hK => ?_) AllReadyH.nil)
              go_simp
              (go_at_call 23; (with_reducible refine (Rng.times (Rng.keep HS1.out B2) ((Rng.keep HS1.out B2).1.tri.y.lm) ((Rng.keep HS1.out B2).1.tri.z.lm) hY hZ F4.out).mono ?_))
              rintro e5 wc1 ⟨m1, V1, l1, c1, rfl, L1, v1, hb⟩
              (try go_wp2_with fail)
              have B3 := B2.trans (hb.mono B2.size)
              have L0 := L0.below hb
              have hrm := hrm.on hb
              refine hK.out _ _ (stay_of HS1.out B3) (fun hHeld => ?_)
              clear hK
              (try simp only [Act.put, List.setIfInBounds_toArray, List.set_cons_zero, List.set_cons_succ])
              refine wpAnyH_ready (rs := [6]) (by kernel_rfl) (by simp) (AllReadyH.cons (by (simp only [List.getElem?_toArray, List.getElem?_cons_succ, List.getElem?_cons_zero]; rfl)) (fun K hK => ?_) AllReadyH.nil)
              go_simp
              (go_at_call 24; (with_reducible refine (Rng.sum (Rng.keep HS1.out B3) (L0) (L1) v0 v1 F5.out).mono ?_))
              rintro e5 wc2 ⟨m2, V2, l2, c2, rfl, L2, v2, hb⟩
              (try go_wp2_with fail)
              have B4 := B3.trans (hb.mono B3.size)
              have L0 := L0.below hb
              have L1 := L1.below hb
              have hrm := hrm.on hb
              refine hK.out _ _ (stay_of HS1.out B4) (fun hHeld => ?_)
              clear hK
              (try simp only [Act.put, List.setIfInBounds_toArray, List.set_cons_zero, List.set_cons_succ])
              have g0 := hrm.r0
              have g1 := hrm.r1
              have g2 := hrm.f0
              have g3 := hrm.f1
              refine wpAnyH_ready (rs := [8]) (by kernel_rfl) (by simp) (AllReadyH.cons (by (simp only [List.getElem?_toArray, List.getElem?_cons_succ, List.getElem?_cons_zero]; rfl)) (fun K hK => ?_) AllReadyH.nil)
              go_simp
              have Bz := (B4.setCell (p := ⟨_, 0, none⟩) hlr (.bool m2)).setCell (p := ⟨_, 1, none⟩) hlr (.slice V2 l2.length c2)
              refine hK.out _ _ (stay_of HS1.out Bz) (fun hHeld => ?_)
              clear hK
              (try simp only [Act.put, List.setIfInBounds_toArray, List.set_cons_zero, List.set_cons_succ])
              refine wpAnyH_done (by kernel_rfl) (NoPanic.normal ?_) _
              go_wp2
              go_meet
              exact ⟨_, _, _, _, _, rfl, Held.new hrm L2, v2, K1.on Bz, Rng.keep HS1.out Bz⟩
          · go_simp
            have B1 := B0.alloc B0.size (.cells #[.bool false, .slice none 0 0] 24)
            have hrm : Rest (Vd.alloc (.cells #[.bool false, .slice none 0 0] 24)) Vd.heap.size := Rest.newI Vd
            have hlr : W1.heap.size ≤ Vd.heap.size := B0.size
            refine hK.out _ _ (stay_of HS1.out B1) (fun hHeld => ?_)
            clear hK
            (try simp only [Act.put, List.setIfInBounds_toArray, List.set_cons_zero, List.set_cons_succ])
            refine wpAnyH_ready (rs := [2]) (by kernel_rfl) (by simp) (AllReadyH.cons (by (simp only [List.getElem?_toArray, List.getElem?_cons_succ, List.getElem?_cons_zero]; rfl)) (fun K hK => ?_) AllReadyH.nil)
            go_simp
            (go_at_call 23; (with_reducible refine (Rng.times (Rng.keep HS1.out B1) ((Rng.keep HS1.out B1).1.tri.x.lm) ((Rng.keep HS1.out B1).1.tri.z.lm) hX hZ F3.out).mono ?_))
            rintro e5 wc0 ⟨m0, V0, l0, c0, rfl, L0, v0, hb⟩
            (try go_wp2_with fail)
            have B2 := B1.trans (hb.mono B1.size)
            have hrm := hrm.on hb
            refine hK.out _ _ (stay_of HS1.out B2) (fun hHeld => ?_)
            clear hK
            (try simp only [Act.put, List.setIfInBounds_toArray, List.set_cons_zero, List.set_cons_succ])
            refine wpAnyH_ready (rs := [5]) (by kernel_rfl) (by simp) (AllReadyH.cons (by (simp only [List.getElem?_toArray, List.getElem?_cons_succ, List.getElem?_cons_zero]; rfl)) (fun K hK => ?_) AllReadyH.nil)
            go_simp
            (go_at_call 23; (with_reducible refine (Rng.times (Rng.keep HS1.out B2) ((Rng.keep HS1.out B2).1.tri.y.lm) ((Rng.keep HS1.out B2).1.tri.z.lm) hY hZ F4.out).mono ?_))
            rintro e5 wc1 ⟨m1, V1, l1, c1, rfl, L1, v1, hb⟩
            (try go_wp2_with fail)
            have B3 := B2.trans (hb.mono B2.size)
            have L0 := L0.below hb
            have hrm := hrm.on hb
            refine hK.out _ _ (stay_of HS1.out B3) (fun hHeld => ?_)
            clear hK
            (try simp only [Act.put, List.setIfInBounds_toArray, List.set_cons_zero, List.set_cons_succ])
            refine wpAnyH_ready (rs := [6]) (by kernel_rfl) (by simp) (AllReadyH.cons (by (simp only [List.getElem?_toArray, List.getElem?_cons_succ, List.getElem?_cons_zero]; rfl)) (fun K hK => ?_) AllReadyH.nil)
            go_simp
            (go_at_call 24; (with_reducible refine (Rng.sum (Rng.keep HS1.out B3) (L0) (L1) v0 v1 F5.out).mono ?_))
            rintro e5 wc2 ⟨m2, V2, l2, c2, rfl, L2, v2, hb⟩
            (try go_wp2_with fail)
            have B4 := B3.trans (hb.mono B3.size)
            have L0 := L0.below hb
            have L1 := L1.below hb
            have hrm := hrm.on hb
            refine hK.out _ _ (stay_of HS1.out B4) (fun hHeld => ?_)
            clear hK
            (try simp only [Act.put, List.setIfInBounds_toArray, List.set_cons_zero, List.set_cons_succ])
            have g0 := hrm.r0
            have g1 := hrm.r1
            have g2 := hrm.f0
            have g3 := hrm.f1
            refine wpAnyH_ready (rs := [8]) (by kernel_rfl) (by simp) (AllReadyH.cons (by (simp only [List.getElem?_toArray, List.getElem?_cons_succ, List.getElem?_cons_zero]; rfl)) (fun K hK => ?_) AllReadyH.nil)
            go_simp
            have Bz := (B4.setCell (p := ⟨_, 0, none⟩) hlr (.bool m2)).setCell (p := ⟨_, 1, none⟩) hlr (.slice V2 l2.length c2)
            refine hK.out _ _ (stay_of HS1.out Bz) (fun hHeld => ?_)
            clear hK
            (try simp only [Act.put, List.setIfInBounds_toArray, List.set_cons_zero, List.set_cons_succ])
            refine wpAnyH_done (by kernel_rfl) (NoPanic.normal ?_) _
            go_wp2
            go_meet
            exact ⟨_, _, _, _, _, rfl, Held.new hrm L2, v2, K1.on Bz, Rng.keep HS1.out Bz⟩
        case rest =>
          obtain ⟨q2, r2, V2', l2', k2, rfl, K2, e2, K1, RG⟩ := hcut
          obtain ⟨W2, rfl, RG⟩ := rng_named RG
          have HS2 := Lib.hid RG
          clear RG
          have eq12 : sv r1 (val W32 l1') = sv r2 (val W32 l2') := by rw [e1, e2, Int.add_mul]
          have o2 := HS2.out.1.on_
          have b1 := K1.c0
          have b2 := K1.c1
          have b3 := K2.c0
          have b4 := K2.c1
          have CS := Lib.hid (same_lm W2 K1.lm K2.lm eq12)
          clear eq12 e1 e2
          go_wp2_with fail
          refine (CS.out).mono ?_
          rintro e5 w5 ⟨rfl, hb⟩
          have RG := Rng.keep HS2.out hb
          clear o2 b1 b2 b3 b4 CS K1 K2 hb
          have HS3 := Lib.hid RG
          clear RG
          go_wp2_with fail
          go_cut [10] (fun s wx => ∃ (q : Nat) (m : Bool) (V : Option Addr) (l : List Nat) (k : Nat), s = .pointer (some ⟨q, 0, none⟩) ∧ Held wx q m V l k ∧ sv m (val W32 l) = X + Y + Z ∧ RngS w wx w3.heap.size n1 n2 n3 A B C xs ys zs c d e)
          case first =>
            have hall := HS3.out
            obtain ⟨_, a0, a1, a2, a3, a4, a5⟩ := hall
            refine wp_region_noPanic ?_
            have B0 : Below w5.heap.size w5 w5.drew := (Below.refl _ _).drew
            refine wp_region_held_drew (S := (fun wx => Below w5.heap.size w5 wx ∧ wx.cell? ⟨w.heap.size, 0, none⟩ = some (.bool n1) ∧ wx.cell? ⟨w.heap.size, 1, none⟩ = some (.slice A xs.length c) ∧ wx.cell? ⟨w.heap.size + 1, 0, none⟩ = some (.bool n2) ∧ wx.cell? ⟨w.heap.size + 1, 1, none⟩ = some (.slice B ys.length d) ∧ wx.cell? ⟨w.heap.size + 1 + 1, 0, none⟩ = some (.bool n3) ∧ wx.cell? ⟨w.heap.size + 1 + 1, 1, none⟩ = some (.slice C zs.length e))) (by kernel_rfl) (stay_of HS3.out B0) (fun hHeld => ?_)
            generalize w5.drew = Vd at *
            refine wpAnyH_take (i := 0) (v := ?_) (by (simp only [List.getElem?_toArray, List.getElem?_cons_succ, List.getElem?_cons_zero]; rfl)) (by kernel_rfl) (by kernel_rfl) (by kernel_rfl) (fun _ _ _ h => h) (Or.inl ⟨by rfl, ?_⟩) (by assumption) ?_
            rotate_left
            · intro wt hSw
              (try dsimp only at hSw)
              go_simp
              (try with_reducible rfl)
            (try simp only [Act.put, List.setIfInBounds_toArray, List.set_cons_zero, List.set_cons_succ])
            refine wpAnyH_take (i := 1) (v := ?_) (by (simp only [List.getElem?_toArray, List.getElem?_cons_succ, List.getElem?_cons_zero]; rfl)) (by kernel_rfl) (by kernel_rfl) (by kernel_rfl) (fun _ _ _ h => h) (Or.inl ⟨by rfl, ?_⟩) (by assumption) ?_
            rotate_left
            · intro wt hSw
              (try dsimp only at hSw)
              go_simp
              (try with_reducible rfl)
            (try simp only [Act.put, List.setIfInBounds_toArray, List.set_cons_zero, List.set_cons_succ])
            refine wpAnyH_take (i := 3) (v := ?_) (by (simp only [List.getElem?_toArray, List.getElem?_cons_succ, List.getElem?_cons_zero]; rfl)) (by kernel_rfl) (by kernel_rfl) (by kernel_rfl) (fun _ _ _ h => h) (Or.inl ⟨by rfl, ?_⟩) (by assumption) ?_
            rotate_left
            · intro wt hSw
              (try dsimp only at hSw)
              go_simp
              (try with_reducible rfl)
            (try simp only [Act.put, List.setIfInBounds_toArray, List.set_cons_zero, List.set_cons_succ])
            refine wpAnyH_ready (rs := [2, 5]) (by kernel_rfl) (by simp) (AllReadyH.cons (by (simp only [List.getElem?_toArray, List.getElem?_cons_succ, List.getElem?_cons_zero]; rfl)) (fun K hK => ?_) (AllReadyH.cons (by (simp only [List.getElem?_toArray, List.getElem?_cons_succ, List.getElem?_cons_zero]; rfl)) (fun K hK => ?_) AllReadyH.nil))
            · go_simp
              (go_at_call 24; (with_reducible refine (Rng.sum (Rng.keep HS3.out B0) ((Rng.keep HS3.out B0).1.tri.x.lm) ((Rng.keep HS3.out B0).1.tri.y.lm) hX hY F1.out).mono ?_))
              rintro e5 wc0 ⟨m0, V0, l0, c0, rfl, L0, v0, hb⟩
              (try go_wp2_with fail)
              have B1 := B0.trans (hb.mono B0.size)
              refine hK.out _ _ (stay_of HS3.out B1) (fun hHeld => ?_)
              clear hK
              (try simp only [Act.put, List.setIfInBounds_toArray, List.set_cons_zero, List.set_cons_succ])
              refine wpAnyH_ready (rs := [4, 5]) (by kernel_rfl) (by simp) (AllReadyH.cons (by (simp only [List.getElem?_toArray, List.getElem?_cons_succ, List.getElem?_cons_zero]; rfl)) (fun K hK => ?_) (AllReadyH.cons (by (simp only [List.getElem?_toArray, List.getElem?_cons_succ, List.getElem?_cons_zero]; rfl)) (fun K hK => ?_) AllReadyH.nil))
              · go_simp
                (go_at_call 24; (with_reducible refine (Rng.sum (Rng.keep HS3.out B1) (L0) ((Rng.keep HS3.out B1).1.tri.z.lm) v0 hZ F6.out).mono ?_))
                rintro e5 wc1 ⟨m1, V1, l1, c1, rfl, L1, v1, hb⟩
                (try go_wp2_with fail)
                have B2 := B1.trans (hb.mono B1.size)
                have L0 := L0.below hb
                refine hK.out _ _ (stay_of HS3.out B2) (fun hHeld => ?_)
                clear hK
                (try simp only [Act.put, List.setIfInBounds_toArray, List.set_cons_zero, List.set_cons_succ])
                refine wpAnyH_ready (rs := [5]) (by kernel_rfl) (by simp) (AllReadyH.cons (by (simp only [List.getElem?_toArray, List.getElem?_cons_succ, List.getElem?_cons_zero]; rfl)) (fun K hK => ?_) AllReadyH.nil)
                have Lz := L1
                go_simp
                have B3 := B2.alloc B2.size (.cells #[.bool false, .slice none 0 0] 24)
                have hrm : Rest (wc1.alloc (.cells #[.bool false, .slice none 0 0] 24)) wc1.heap.size := Rest.newI wc1
                have hlr : w5.heap.size ≤ wc1.heap.size := B2.size
                have L0 := L0.below (((Below.refl _ _).alloc (Nat.le_refl _) (.cells #[.bool false, .slice none 0 0] 24) : Below wc1.heap.size wc1 (wc1.alloc (.cells #[.bool false, .slice none 0 0] 24))))
                have L1 := L1.below (((Below.refl _ _).alloc (Nat.le_refl _) (.cells #[.bool false, .slice none 0 0] 24) : Below wc1.heap.size wc1 (wc1.alloc (.cells #[.bool false, .slice none 0 0] 24))))
                refine hK.out _ _ (stay_of HS3.out B3) (fun hHeld => ?_)
                clear hK
                (try simp only [Act.put, List.setIfInBounds_toArray, List.set_cons_zero, List.set_cons_succ])
                have g0 := hrm.r0
                have g1 := hrm.r1
                have g2 := hrm.f0
                have g3 := hrm.f1
                refine wpAnyH_ready (rs := [6]) (by kernel_rfl) (by simp) (AllReadyH.cons (by (simp only [List.getElem?_toArray, List.getElem?_cons_succ, List.getElem?_cons_zero]; rfl)) (fun K hK => ?_) AllReadyH.nil)
                go_simp
                have Bz := B2.alloc (o := .cells #[.bool m1, .slice V1 l1.length c1] 24) B2.size
                refine hK.out _ _ (stay_of HS3.out Bz) (fun hHeld => ?_)
                clear hK
                (try simp only [Act.put, List.setIfInBounds_toArray, List.set_cons_zero, List.set_cons_succ])
                refine wpAnyH_done (by kernel_rfl) (NoPanic.normal ?_) _
                go_wp2
                go_meet
                exact ⟨_, _, _, _, _, rfl, Held.fresh Lz, v1, Rng.keep HS3.out Bz⟩
              · go_simp
                have B2 := B1.alloc B1.size (.cells #[.bool false, .slice none 0 0] 24)
                have hrm : Rest (wc0.alloc (.cells #[.bool false, .slice none 0 0] 24)) wc0.heap.size := Rest.newI wc0
                have hlr : w5.heap.size ≤ wc0.heap.size := B1.size
                have L0 := L0.below (((Below.refl _ _).alloc (Nat.le_refl _) (.cells #[.bool false, .slice none 0 0] 24) : Below wc0.heap.size wc0 (wc0.alloc (.cells #[.bool false, .slice none 0 0] 24))))
                refine hK.out _ _ (stay_of HS3.out B2) (fun hHeld => ?_)
                clear hK
                (try simp only [Act.put, List.setIfInBounds_toArray, List.set_cons_zero, List.set_cons_succ])
                refine wpAnyH_ready (rs := [4]) (by kernel_rfl) (by simp) (AllReadyH.cons (by (simp only [List.getElem?_toArray, List.getElem?_cons_succ, List.getElem?_cons_zero]; rfl)) (fun K hK => ?_) AllReadyH.nil)
                go_simp
                (go_at_call 24; (with_reducible refine (Rng.sum (Rng.keep HS3.out B2) (L0) ((Rng.keep HS3.out B2).1.tri.z.lm) v0 hZ F6.out).mono ?_))
                rintro e5 wc1 ⟨m1, V1, l1, c1, rfl, L1, v1, hb⟩
                (try go_wp2_with fail)
                have B3 := B2.trans (hb.mono B2.size)
                have L0 := L0.below hb
                have hrm := hrm.on hb
                refine hK.out _ _ (stay_of HS3.out B3) (fun hHeld => ?_)
                clear hK
                (try simp only [Act.put, List.setIfInBounds_toArray, List.set_cons_zero, List.set_cons_succ])
                have g0 := hrm.r0
                have g1 := hrm.r1
                have g2 := hrm.f0
                have g3 := hrm.f1
                refine wpAnyH_ready (rs := [6]) (by kernel_rfl) (by simp) (AllReadyH.cons (by (simp only [List.getElem?_toArray, List.getElem?_cons_succ, List.getElem?_cons_zero]; rfl)) (fun K hK => ?_) AllReadyH.nil)
                go_simp
                have Bz := (B3.setCell (p := ⟨_, 0, none⟩) hlr (.bool m1)).setCell (p := ⟨_, 1, none⟩) hlr (.slice V1 l1.length c1)
                refine hK.out _ _ (stay_of HS3.out Bz) (fun hHeld => ?_)
                clear hK
                (try simp only [Act.put, List.setIfInBounds_toArray, List.set_cons_zero, List.set_cons_succ])
                refine wpAnyH_done (by kernel_rfl) (NoPanic.normal ?_) _
                go_wp2
                go_meet
                exact ⟨_, _, _, _, _, rfl, Held.new hrm L1, v1, Rng.keep HS3.out Bz⟩
            · go_simp
              have B1 := B0.alloc B0.size (.cells #[.bool false, .slice none 0 0] 24)
              have hrm : Rest (Vd.alloc (.cells #[.bool false, .slice none 0 0] 24)) Vd.heap.size := Rest.newI Vd
              have hlr : w5.heap.size ≤ Vd.heap.size := B0.size
              refine hK.out _ _ (stay_of HS3.out B1) (fun hHeld => ?_)
              clear hK
              (try simp only [Act.put, List.setIfInBounds_toArray, List.set_cons_zero, List.set_cons_succ])
              refine wpAnyH_ready (rs := [2]) (by kernel_rfl) (by simp) (AllReadyH.cons (by (simp only [List.getElem?_toArray, List.getElem?_cons_succ, List.getElem?_cons_zero]; rfl)) (fun K hK => ?_) AllReadyH.nil)
              go_simp
              (go_at_call 24; (with_reducible refine (Rng.sum (Rng.keep HS3.out B1) ((Rng.keep HS3.out B1).1.tri.x.lm) ((Rng.keep HS3.out B1).1.tri.y.lm) hX hY F1.out).mono ?_))
              rintro e5 wc0 ⟨m0, V0, l0, c0, rfl, L0, v0, hb⟩
              (try go_wp2_with fail)
              have B2 := B1.trans (hb.mono B1.size)
              have hrm := hrm.on hb
              refine hK.out _ _ (stay_of HS3.out B2) (fun hHeld => ?_)
              clear hK
              (try simp only [Act.put, List.setIfInBounds_toArray, List.set_cons_zero, List.set_cons_succ])
              refine wpAnyH_ready (rs := [4]) (by kernel_rfl) (by simp) (AllReadyH.cons (by (simp only [List.getElem?_toArray, List.getElem?_cons_succ, List.getElem?_cons_zero]; rfl)) (fun K hK => ?_) AllReadyH.nil)
              go_simp
              (go_at_call 24; (with_reducible refine (Rng.sum (Rng.keep HS3.out B2) (L0) ((Rng.keep HS3.out B2).1.tri.z.lm) v0 hZ F6.out).mono ?_))
              rintro e5 wc1 ⟨m1, V1, l1, c1, rfl, L1, v1, hb⟩
              (try go_wp2_with fail)
              have B3 := B2.trans (hb.mono B2.size)
              have L0 := L0.below hb
              have hrm := hrm.on hb
              refine hK.out _ _ (stay_of HS3.out B3) (fun hHeld => ?_)
              clear hK
              (try simp only [Act.put, List.setIfInBounds_toArray, List.set_cons_zero, List.set_cons_succ])
              have g0 := hrm.r0
              have g1 := hrm.r1
              have g2 := hrm.f0
              have g3 := hrm.f1
              refine wpAnyH_ready (rs := [6]) (by kernel_rfl) (by simp) (AllReadyH.cons (by (simp only [List.getElem?_toArray, List.getElem?_cons_succ, List.getElem?_cons_zero]; rfl)) (fun K hK => ?_) AllReadyH.nil)
              go_simp
              have Bz := (B3.setCell (p := ⟨_, 0, none⟩) hlr (.bool m1)).setCell (p := ⟨_, 1, none⟩) hlr (.slice V1 l1.length c1)
              refine hK.out _ _ (stay_of HS3.out Bz) (fun hHeld => ?_)
              clear hK
              (try simp only [Act.put, List.setIfInBounds_toArray, List.set_cons_zero, List.set_cons_succ])
              refine wpAnyH_done (by kernel_rfl) (NoPanic.normal ?_) _
              go_wp2
              go_meet
              exact ⟨_, _, _, _, _, rfl, Held.new hrm L1, v1, Rng.keep HS3.out Bz⟩
          case rest =>
            obtain ⟨q4, r4, V4', l4', k4, rfl, K4, e4, RG⟩ := hcut
            obtain ⟨W4, rfl, RG⟩ := rng_named RG
            have HS4 := Lib.hid RG
            clear RG
            go_wp2_with fail
            go_cut [11] (fun s wx => ∃ (q : Nat) (m : Bool) (V : Option Addr) (l : List Nat) (k : Nat), s = .pointer (some ⟨q, 0, none⟩) ∧ Held wx q m V l k ∧ sv m (val W32 l) = X + (Z + Y) ∧ Held wx q4 r4 V4' l4' k4 ∧ RngS w wx w3.heap.size n1 n2 n3 A B C xs ys zs c d e)
            case first =>
              have hall := HS4.out
              obtain ⟨_, a0, a1, a2, a3, a4, a5⟩ := hall
              refine wp_region_noPanic ?_
              have B0 : Below W4.heap.size W4 W4.drew := (Below.refl _ _).drew
              refine wp_region_held_drew (S := (fun wx => Below W4.heap.size W4 wx ∧ wx.cell? ⟨w.heap.size, 0, none⟩ = some (.bool n1) ∧ wx.cell? ⟨w.heap.size, 1, none⟩ = some (.slice A xs.length c) ∧ wx.cell? ⟨w.heap.size + 1, 0, none⟩ = some (.bool n2) ∧ wx.cell? ⟨w.heap.size + 1, 1, none⟩ = some (.slice B ys.length d) ∧ wx.cell? ⟨w.heap.size + 1 + 1, 0, none⟩ = some (.bool n3) ∧ wx.cell? ⟨w.heap.size + 1 + 1, 1, none⟩ = some (.slice C zs.length e))) (by kernel_rfl) (stay_of HS4.out B0) (fun hHeld => ?_)
              generalize W4.drew = Vd at *
              refine wpAnyH_take (i := 0) (v := ?_) (by (simp only [List.getElem?_toArray, List.getElem?_cons_succ, List.getElem?_cons_zero]; rfl)) (by kernel_rfl) (by kernel_rfl) (by kernel_rfl) (fun _ _ _ h => h) (Or.inl ⟨by rfl, ?_⟩) (by assumption) ?_
              rotate_left
              · intro wt hSw
                (try dsimp only at hSw)
                go_simp
                (try with_reducible rfl)
              (try simp only [Act.put, List.setIfInBounds_toArray, List.set_cons_zero, List.set_cons_succ])
              refine wpAnyH_take (i := 1) (v := ?_) (by (simp only [List.getElem?_toArray, List.getElem?_cons_succ, List.getElem?_cons_zero]; rfl)) (by kernel_rfl) (by kernel_rfl) (by kernel_rfl) (fun _ _ _ h => h) (Or.inl ⟨by rfl, ?_⟩) (by assumption) ?_
              rotate_left
              · intro wt hSw
                (try dsimp only at hSw)
                go_simp
                (try with_reducible rfl)
              (try simp only [Act.put, List.setIfInBounds_toArray, List.set_cons_zero, List.set_cons_succ])
              refine wpAnyH_take (i := 2) (v := ?_) (by (simp only [List.getElem?_toArray, List.getElem?_cons_succ, List.getElem?_cons_zero]; rfl)) (by kernel_rfl) (by kernel_rfl) (by kernel_rfl) (fun _ _ _ h => h) (Or.inl ⟨by rfl, ?_⟩) (by assumption) ?_
              rotate_left
              · intro wt hSw
                (try dsimp only at hSw)
                go_simp
                (try with_reducible rfl)
              (try simp only [Act.put, List.setIfInBounds_toArray, List.set_cons_zero, List.set_cons_succ])
              refine wpAnyH_ready (rs := [3, 5]) (by kernel_rfl) (by simp) (AllReadyH.cons (by (simp only [List.getElem?_toArray, List.getElem?_cons_succ, List.getElem?_cons_zero]; rfl)) (fun K hK => ?_) (AllReadyH.cons (by (simp only [List.getElem?_toArray, List.getElem?_cons_succ, List.getElem?_cons_zero]; rfl)) (fun K hK => ?_) AllReadyH.nil))
              · go_simp
                (go_at_call 24; (with_reducible refine (Rng.sum (Rng.keep HS4.out B0) ((Rng.keep HS4.out B0).1.tri.z.lm) ((Rng.keep HS4.out B0).1.tri.y.lm) hZ hY F7.out).mono ?_))
                rintro e5 wc0 ⟨m0, V0, l0, c0, rfl, L0, v0, hb⟩
                (try go_wp2_with fail)
                have B1 := B0.trans (hb.mono B0.size)
                refine hK.out _ _ (stay_of HS4.out B1) (fun hHeld => ?_)
                clear hK
                (try simp only [Act.put, List.setIfInBounds_toArray, List.set_cons_zero, List.set_cons_succ])
                refine wpAnyH_ready (rs := [4, 5]) (by kernel_rfl) (by simp) (AllReadyH.cons (by (simp only [List.getElem?_toArray, List.getElem?_cons_succ, List.getElem?_cons_zero]; rfl)) (fun K hK => ?_) (AllReadyH.cons (by (simp only [List.getElem?_toArray, List.getElem?_cons_succ, List.getElem?_cons_zero]; rfl)) (fun K hK => ?_) AllReadyH.nil))
                · go_simp
                  (go_at_call 24; (with_reducible refine (Rng.sum (Rng.keep HS4.out B1) ((Rng.keep HS4.out B1).1.tri.x.lm) (L0) hX v0 F8.out).mono ?_))
                  rintro e5 wc1 ⟨m1, V1, l1, c1, rfl, L1, v1, hb⟩
                  (try go_wp2_with fail)
                  have B2 := B1.trans (hb.mono B1.size)
                  have L0 := L0.below hb
                  refine hK.out _ _ (stay_of HS4.out B2) (fun hHeld => ?_)
                  clear hK
                  (try simp only [Act.put, List.setIfInBounds_toArray, List.set_cons_zero, List.set_cons_succ])
                  refine wpAnyH_ready (rs := [5]) (by kernel_rfl) (by simp) (AllReadyH.cons (by (simp only [List.getElem?_toArray, List.getElem?_cons_succ, List.getElem?_cons_zero]; rfl)) (fun K hK => ?_) AllReadyH.nil)
                  have Lz := L1
                  go_simp
                  have B3 := B2.alloc B2.size (.cells #[.bool false, .slice none 0 0] 24)
                  have hrm : Rest (wc1.alloc (.cells #[.bool false, .slice none 0 0] 24)) wc1.heap.size := Rest.newI wc1
                  have hlr : W4.heap.size ≤ wc1.heap.size := B2.size
                  have L0 := L0.below (((Below.refl _ _).alloc (Nat.le_refl _) (.cells #[.bool false, .slice none 0 0] 24) : Below wc1.heap.size wc1 (wc1.alloc (.cells #[.bool false, .slice none 0 0] 24))))
                  have L1 := L1.below (((Below.refl _ _).alloc (Nat.le_refl _) (.cells #[.bool false, .slice none 0 0] 24) : Below wc1.heap.size wc1 (wc1.alloc (.cells #[.bool false, .slice none 0 0] 24))))
                  refine hK.out _ _ (stay_of HS4.out B3) (fun hHeld => ?_)
                  clear hK
                  (try simp only [Act.put, List.setIfInBounds_toArray, List.set_cons_zero, List.set_cons_succ])
                  have g0 := hrm.r0
                  have g1 := hrm.r1
                  have g2 := hrm.f0
                  have g3 := hrm.f1
                  refine wpAnyH_ready (rs := [6]) (by kernel_rfl) (by simp) (AllReadyH.cons (by (simp only [List.getElem?_toArray, List.getElem?_cons_succ, List.getElem?_cons_zero]; rfl)) (fun K hK => ?_) AllReadyH.nil)
                  go_simp
                  have Bz := B2.alloc (o := .cells #[.bool m1, .slice V1 l1.length c1] 24) B2.size
                  refine hK.out _ _ (stay_of HS4.out Bz) (fun hHeld => ?_)
                  clear hK
                  (try simp only [Act.put, List.setIfInBounds_toArray, List.set_cons_zero, List.set_cons_succ])
                  refine wpAnyH_done (by kernel_rfl) (NoPanic.normal ?_) _
                  go_wp2
                  go_meet
                  exact ⟨_, _, _, _, _, rfl, Held.fresh Lz, v1, K4.on Bz, Rng.keep HS4.out Bz⟩
                · go_simp
                  have B2 := B1.alloc B1.size (.cells #[.bool false, .slice none 0 0] 24)
                  have hrm : Rest (wc0.alloc (.cells #[.bool false, .slice none 0 0] 24)) wc0.heap.size := Rest.newI wc0
                  have hlr : W4.heap.size ≤ wc0.heap.size := B1.size
                  have L0 := L0.below (((Below.refl _ _).alloc (Nat.le_refl _) (.cells #[.bool false, .slice none 0 0] 24) : Below wc0.heap.size wc0 (wc0.alloc (.cells #[.bool false, .slice none 0 0] 24))))
                  refine hK.out _ _ (stay_of HS4.out B2) (fun hHeld => ?_)
                  clear hK
                  (try simp only [Act.put, List.setIfInBounds_toArray, List.set_cons_zero, List.set_cons_succ])
                  refine wpAnyH_ready (rs := [4]) (by kernel_rfl) (by simp) (AllReadyH.cons (by (simp only [List.getElem?_toArray, List.getElem?_cons_succ, List.getElem?_cons_zero]; rfl)) (fun K hK => ?_) AllReadyH.nil)
                  go_simp
                  (go_at_call 24; (with_reducible refine (Rng.sum (Rng.keep HS4.out B2) ((Rng.keep HS4.out B2).1.tri.x.lm) (L0) hX v0 F8.out).mono ?_))
                  rintro e5 wc1 ⟨m1, V1, l1, c1, rfl, L1, v1, hb⟩
                  (try go_wp2_with fail)
                  have B3 := B2.trans (hb.mono B2.size)
                  have L0 := L0.below hb
                  have hrm := hrm.on hb
                  refine hK.out _ _ (stay_of HS4.out B3) (fun hHeld => ?_)
                  clear hK
                  (try simp only [Act.put, List.setIfInBounds_toArray, List.set_cons_zero, List.set_cons_succ])
                  have g0 := hrm.r0
                  have g1 := hrm.r1
                  have g2 := hrm.f0
                  have g3 := hrm.f1
                  refine wpAnyH_ready (rs := [6]) (by kernel_rfl) (by simp) (AllReadyH.cons (by (simp only [List.getElem?_toArray, List.getElem?_cons_succ, List.getElem?_cons_zero]; rfl)) (fun K hK => ?_) AllReadyH.nil)
                  go_simp
                  have Bz := (B3.setCell (p := ⟨_, 0, none⟩) hlr (.bool m1)).setCell (p := ⟨_, 1, none⟩) hlr (.slice V1 l1.length c1)
                  refine hK.out _ _ (stay_of HS4.out Bz) (fun hHeld => ?_)
                  clear hK
                  (try simp only [Act.put, List.setIfInBounds_toArray, List.set_cons_zero, List.set_cons_succ])
                  refine wpAnyH_done (by kernel_rfl) (NoPanic.normal ?_) _
                  go_wp2
                  go_meet
                  exact ⟨_, _, _, _, _, rfl, Held.new hrm L1, v1, K4.on Bz, Rng.keep HS4.out Bz⟩
              · go_simp
                have B1 := B0.alloc B0.size (.cells #[.bool false, .slice none 0 0] 24)
                have hrm : Rest (Vd.alloc (.cells #[.bool false, .slice none 0 0] 24)) Vd.heap.size := Rest.newI Vd
                have hlr : W4.heap.size ≤ Vd.heap.size := B0.size
                refine hK.out _ _ (stay_of HS4.out B1) (fun hHeld => ?_)
                clear hK
                (try simp only [Act.put, List.setIfInBounds_toArray, List.set_cons_zero, List.set_cons_succ])
                refine wpAnyH_ready (rs := [3]) (by kernel_rfl) (by simp) (AllReadyH.cons (by (simp only [List.getElem?_toArray, List.getElem?_cons_succ, List.getElem?_cons_zero]; rfl)) (fun K hK => ?_) AllReadyH.nil)
                go_simp
                (go_at_call 24; (with_reducible refine (Rng.sum (Rng.keep HS4.out B1) ((Rng.keep HS4.out B1).1.tri.z.lm) ((Rng.keep HS4.out B1).1.tri.y.lm) hZ hY F7.out).mono ?_))
                rintro e5 wc0 ⟨m0, V0, l0, c0, rfl, L0, v0, hb⟩
                (try go_wp2_with fail)
                have B2 := B1.trans (hb.mono B1.size)
                have hrm := hrm.on hb
                refine hK.out _ _ (stay_of HS4.out B2) (fun hHeld => ?_)
                clear hK
                (try simp only [Act.put, List.setIfInBounds_toArray, List.set_cons_zero, List.set_cons_succ])
                refine wpAnyH_ready (rs := [4]) (by kernel_rfl) (by simp) (AllReadyH.cons (by (simp only [List.getElem?_toArray, List.getElem?_cons_succ, List.getElem?_cons_zero]; rfl)) (fun K hK => ?_) AllReadyH.nil)
                go_simp
                (go_at_call 24; (with_reducible refine (Rng.sum (Rng.keep HS4.out B2) ((Rng.keep HS4.out B2).1.tri.x.lm) (L0) hX v0 F8.out).mono ?_))
                rintro e5 wc1 ⟨m1, V1, l1, c1, rfl, L1, v1, hb⟩
                (try go_wp2_with fail)
                have B3 := B2.trans (hb.mono B2.size)
                have L0 := L0.below hb
                have hrm := hrm.on hb
                refine hK.out _ _ (stay_of HS4.out B3) (fun hHeld => ?_)
                clear hK
                (try simp only [Act.put, List.setIfInBounds_toArray, List.set_cons_zero, List.set_cons_succ])
                have g0 := hrm.r0
                have g1 := hrm.r1
                have g2 := hrm.f0
                have g3 := hrm.f1
                refine wpAnyH_ready (rs := [6]) (by kernel_rfl) (by simp) (AllReadyH.cons (by (simp only [List.getElem?_toArray, List.getElem?_cons_succ, List.getElem?_cons_zero]; rfl)) (fun K hK => ?_) AllReadyH.nil)
                go_simp
                have Bz := (B3.setCell (p := ⟨_, 0, none⟩) hlr (.bool m1)).setCell (p := ⟨_, 1, none⟩) hlr (.slice V1 l1.length c1)
                refine hK.out _ _ (stay_of HS4.out Bz) (fun hHeld => ?_)
                clear hK
                (try simp only [Act.put, List.setIfInBounds_toArray, List.set_cons_zero, List.set_cons_succ])
                refine wpAnyH_done (by kernel_rfl) (NoPanic.normal ?_) _
                go_wp2
                go_meet
                exact ⟨_, _, _, _, _, rfl, Held.new hrm L1, v1, K4.on Bz, Rng.keep HS4.out Bz⟩
            case rest =>
              obtain ⟨q5, r5, V5', l5', k5, rfl, K5, e5, K4, RG⟩ := hcut
              obtain ⟨W5, rfl, RG⟩ := rng_named RG
              have HS5 := Lib.hid RG
              clear RG
              have z0 := HS5.out.1.tri.z.c0
              have z1 := HS5.out.1.tri.z.c1
              have b1 := K4.c0
              have b2 := K4.c1
              have DV : sv r4 (val W32 l4') - sv n3 (val W32 zs) = X + Y := by rw [e4, hZ]; omega
              have CD := wsub_any r4 n3 V4' C l4' zs k4 e W5 K4.lm.sl HS5.out.1.tri.z.lm.sl K4.lm.dig HS5.out.1.tri.z.lm.dig K4.lm.sz HS5.out.1.tri.z.lm.sz
              rw [DV] at CD
              have CD := Lib.hid CD
              clear DV
              go_wp2_with fail
              refine (CD.out).mono ?_
              intro e6 w6 hR
              obtain ⟨md, Vd', ld, cd, rfl, LD, vd, bd⟩ := reck_fit hR ⟨K4.lm.ok, HS5.out.1.tri.z.lm.ok⟩ F1.out
              have b7 : Below W5.heap.size W5 (w6.alloc (.cells #[.bool md, .slice Vd' ld.length cd] 24)) := bd.alloc bd.size _
              have K4 := K4.on b7
              have K5 := K5.on b7
              have KD := Held.fresh LD
              have RG := Rng.keep HS5.out b7
              clear hR CD z0 z1 b1 b2 bd b7 LD
              go_wp2_with fail
              generalize (w6.alloc (.cells #[.bool md, .slice Vd' ld.length cd] 24)) = W7 at *
              have HS7 := Lib.hid RG
              clear RG
              have eq45 : sv r4 (val W32 l4') = sv r5 (val W32 l5') := by rw [e4, e5]; omega
              refine wp_region_noPanic ?_
              have B0 : Below W7.heap.size W7 W7.drew := (Below.refl _ _).drew
              refine wp_region_held_drew (S := (fun wx => Below W7.heap.size W7 wx ∧ wx.cell? ⟨w3.heap.size, 0, none⟩ = some (.bool true) ∧ wx.cell? ⟨w.heap.size, 0, none⟩ = some (.bool n1) ∧ wx.cell? ⟨w.heap.size, 1, none⟩ = some (.slice A xs.length c) ∧ wx.cell? ⟨w.heap.size + 1, 0, none⟩ = some (.bool n2) ∧ wx.cell? ⟨w.heap.size + 1, 1, none⟩ = some (.slice B ys.length d) ∧ wx.cell? ⟨q4, 0, none⟩ = some (.bool r4) ∧ wx.cell? ⟨q4, 1, none⟩ = some (.slice V4' l4'.length k4) ∧ wx.cell? ⟨q5, 0, none⟩ = some (.bool r5) ∧ wx.cell? ⟨q5, 1, none⟩ = some (.slice V5' l5'.length k5) ∧ wx.cell? ⟨w6.heap.size, 0, none⟩ = some (.bool md) ∧ wx.cell? ⟨w6.heap.size, 1, none⟩ = some (.slice Vd' ld.length cd))) (by kernel_rfl) ⟨B0, (Rng.keep HS7.out B0).1.on_, (Rng.keep HS7.out B0).1.tri.x.c0, (Rng.keep HS7.out B0).1.tri.x.c1, (Rng.keep HS7.out B0).1.tri.y.c0, (Rng.keep HS7.out B0).1.tri.y.c1, (K4.on B0).c0, (K4.on B0).c1, (K5.on B0).c0, (K5.on B0).c1, (KD.on B0).c0, (KD.on B0).c1⟩ (fun hHeld => ?_)
              generalize W7.drew = Vd at *
              refine wpAnyH_take (i := 0) (v := ?_) (by (simp only [List.getElem?_toArray, List.getElem?_cons_succ, List.getElem?_cons_zero]; rfl)) (by kernel_rfl) (by kernel_rfl) (by kernel_rfl) (fun _ _ _ h => h) (Or.inl ⟨by rfl, ?_⟩) (by assumption) ?_
              rotate_left
              · intro wt hSw
                (try dsimp only at hSw)
                go_simp
                (try with_reducible rfl)
              (try simp only [Act.put, List.setIfInBounds_toArray, List.set_cons_zero, List.set_cons_succ])
              refine wpAnyH_take (i := 1) (v := ?_) (by (simp only [List.getElem?_toArray, List.getElem?_cons_succ, List.getElem?_cons_zero]; rfl)) (by kernel_rfl) (by kernel_rfl) (by kernel_rfl) (fun _ _ _ h => h) (Or.inl ⟨by rfl, ?_⟩) (by assumption) ?_
              rotate_left
              · intro wt hSw
                (try dsimp only at hSw)
                go_simp
                (try with_reducible rfl)
              (try simp only [Act.put, List.setIfInBounds_toArray, List.set_cons_zero, List.set_cons_succ])
              refine wpAnyH_take (i := 2) (v := ?_) (by (simp only [List.getElem?_toArray, List.getElem?_cons_succ, List.getElem?_cons_zero]; rfl)) (by kernel_rfl) (by kernel_rfl) (by kernel_rfl) (fun _ _ _ h => h) (Or.inl ⟨by rfl, ?_⟩) (by assumption) ?_
              rotate_left
              · intro wt hSw
                (try dsimp only at hSw)
                go_simp
                (try with_reducible rfl)
              (try simp only [Act.put, List.setIfInBounds_toArray, List.set_cons_zero, List.set_cons_succ])
              refine wpAnyH_take (i := 3) (v := ?_) (by (simp only [List.getElem?_toArray, List.getElem?_cons_succ, List.getElem?_cons_zero]; rfl)) (by kernel_rfl) (by kernel_rfl) (by kernel_rfl) (fun _ _ _ h => h) (Or.inl ⟨by rfl, ?_⟩) (by assumption) ?_
              rotate_left
              · intro wt hSw
                (try dsimp only at hSw)
                go_simp
                (try with_reducible rfl)
              (try simp only [Act.put, List.setIfInBounds_toArray, List.set_cons_zero, List.set_cons_succ])
              refine wpAnyH_take (i := 4) (v := ?_) (by (simp only [List.getElem?_toArray, List.getElem?_cons_succ, List.getElem?_cons_zero]; rfl)) (by kernel_rfl) (by kernel_rfl) (by kernel_rfl) (fun _ _ _ h => h) (Or.inl ⟨by rfl, ?_⟩) (by assumption) ?_
              rotate_left
              · intro wt hSw
                (try dsimp only at hSw)
                go_simp
                (try with_reducible rfl)
              (try simp only [Act.put, List.setIfInBounds_toArray, List.set_cons_zero, List.set_cons_succ])
              refine wpAnyH_take (i := 5) (v := ?_) (by (simp only [List.getElem?_toArray, List.getElem?_cons_succ, List.getElem?_cons_zero]; rfl)) (by kernel_rfl) (by kernel_rfl) (by kernel_rfl) (fun _ _ _ h => h) (Or.inl ⟨by rfl, ?_⟩) (by assumption) ?_
              rotate_left
              · intro wt hSw
                (try dsimp only at hSw)
                go_simp
                (try with_reducible rfl)
              (try simp only [Act.put, List.setIfInBounds_toArray, List.set_cons_zero, List.set_cons_succ])
              refine wpAnyH_take (i := 6) (v := ?_) (by (simp only [List.getElem?_toArray, List.getElem?_cons_succ, List.getElem?_cons_zero]; rfl)) (by kernel_rfl) (by kernel_rfl) (by kernel_rfl) (fun _ _ _ h => h) (Or.inl ⟨by rfl, ?_⟩) (by assumption) ?_
              rotate_left
              · intro wt hSw
                (try dsimp only at hSw)
                go_simp
                (try with_reducible rfl)
              (try simp only [Act.put, List.setIfInBounds_toArray, List.set_cons_zero, List.set_cons_succ])
              refine wpAnyH_take (i := 7) (v := ?_) (by (simp only [List.getElem?_toArray, List.getElem?_cons_succ, List.getElem?_cons_zero]; rfl)) (by kernel_rfl) (by kernel_rfl) (by kernel_rfl) (fun _ _ _ h => h) (Or.inl ⟨by rfl, ?_⟩) (by assumption) ?_
              rotate_left
              · intro wt hSw
                (try dsimp only at hSw)
                go_simp
                (try with_reducible rfl)
              (try simp only [Act.put, List.setIfInBounds_toArray, List.set_cons_zero, List.set_cons_succ])
              refine wpAnyH_take (i := 8) (v := ?_) (by (simp only [List.getElem?_toArray, List.getElem?_cons_succ, List.getElem?_cons_zero]; rfl)) (by kernel_rfl) (by kernel_rfl) (by kernel_rfl) (fun _ _ _ h => h) (Or.inl ⟨by rfl, ?_⟩) (by assumption) ?_
              rotate_left
              · intro wt hSw
                (try dsimp only at hSw)
                go_simp
                (try with_reducible rfl)
              (try simp only [Act.put, List.setIfInBounds_toArray, List.set_cons_zero, List.set_cons_succ])
              refine wpAnyH_ready (rs := [9]) (by kernel_rfl) (by simp) (AllReadyH.cons (by (simp only [List.getElem?_toArray, List.getElem?_cons_succ, List.getElem?_cons_zero]; rfl)) (fun K hK => ?_) AllReadyH.nil)
              go_simp
              (go_at_call 25; (with_reducible refine (same_lm Vd (K4.on B0).lm (K5.on B0).lm eq45).mono ?_))
              rintro e7 wa ⟨rfl, hb⟩
              have B1 := B0.trans (hb.mono B0.size)
              (try go_wp2_with fail)
              refine hK.out _ _ ⟨B1, (Rng.keep HS7.out B1).1.on_, (Rng.keep HS7.out B1).1.tri.x.c0, (Rng.keep HS7.out B1).1.tri.x.c1, (Rng.keep HS7.out B1).1.tri.y.c0, (Rng.keep HS7.out B1).1.tri.y.c1, (K4.on B1).c0, (K4.on B1).c1, (K5.on B1).c0, (K5.on B1).c1, (KD.on B1).c0, (KD.on B1).c1⟩ (fun hHeld => ?_)
              clear hK
              (try simp only [Act.put, List.setIfInBounds_toArray, List.set_cons_zero, List.set_cons_succ])
              refine wpAnyH_take (i := 10) (v := ?_) (by (simp only [List.getElem?_toArray, List.getElem?_cons_succ, List.getElem?_cons_zero]; rfl)) (by kernel_rfl) (by kernel_rfl) (by kernel_rfl) (fun _ _ _ h => h) (Or.inl ⟨by rfl, ?_⟩) (by assumption) ?_
              rotate_left
              · intro wt hSw
                (try dsimp only at hSw)
                go_simp
                (try with_reducible rfl)
              (try simp only [Act.put, List.setIfInBounds_toArray, List.set_cons_zero, List.set_cons_succ])
              refine wpAnyH_take (i := 11) (v := ?_) (by (simp only [List.getElem?_toArray, List.getElem?_cons_succ, List.getElem?_cons_zero]; rfl)) (by kernel_rfl) (by kernel_rfl) (by kernel_rfl) (fun _ _ _ h => h) (Or.inl ⟨by rfl, ?_⟩) (by assumption) ?_
              rotate_left
              · intro wt hSw
                (try dsimp only at hSw)
                go_simp
                (try with_reducible rfl)
              (try simp only [Act.put, List.setIfInBounds_toArray, List.set_cons_zero, List.set_cons_succ])
              refine wpAnyH_take (i := 12) (v := ?_) (by (simp only [List.getElem?_toArray, List.getElem?_cons_succ, List.getElem?_cons_zero]; rfl)) (by kernel_rfl) (by kernel_rfl) (by kernel_rfl) (fun _ _ _ h => h) (Or.inl ⟨by rfl, ?_⟩) (by assumption) ?_
              rotate_left
              · intro wt hSw
                (try dsimp only at hSw)
                go_simp
                (try with_reducible rfl)
              (try simp only [Act.put, List.setIfInBounds_toArray, List.set_cons_zero, List.set_cons_succ])
              refine wpAnyH_take (i := 13) (v := ?_) (by (simp only [List.getElem?_toArray, List.getElem?_cons_succ, List.getElem?_cons_zero]; rfl)) (by kernel_rfl) (by kernel_rfl) (by kernel_rfl) (fun _ _ _ h => h) (Or.inl ⟨by rfl, ?_⟩) (by assumption) ?_
              rotate_left
              · intro wt hSw
                (try dsimp only at hSw)
                go_simp
                (try with_reducible rfl)
              (try simp only [Act.put, List.setIfInBounds_toArray, List.set_cons_zero, List.set_cons_succ])
              refine wpAnyH_take (i := 14) (v := ?_) (by (simp only [List.getElem?_toArray, List.getElem?_cons_succ, List.getElem?_cons_zero]; rfl)) (by kernel_rfl) (by kernel_rfl) (by kernel_rfl) (fun _ _ _ h => h) (Or.inl ⟨by rfl, ?_⟩) (by assumption) ?_
              rotate_left
              · intro wt hSw
                (try dsimp only at hSw)
                go_simp
                (try with_reducible rfl)
              (try simp only [Act.put, List.setIfInBounds_toArray, List.set_cons_zero, List.set_cons_succ])
              refine wpAnyH_take (i := 15) (v := ?_) (by (simp only [List.getElem?_toArray, List.getElem?_cons_succ, List.getElem?_cons_zero]; rfl)) (by kernel_rfl) (by kernel_rfl) (by kernel_rfl) (fun _ _ _ h => h) (Or.inl ⟨by rfl, ?_⟩) (by assumption) ?_
              rotate_left
              · intro wt hSw
                (try dsimp only at hSw)
                go_simp
                (try with_reducible rfl)
              (try simp only [Act.put, List.setIfInBounds_toArray, List.set_cons_zero, List.set_cons_succ])
              refine wpAnyH_ready (rs := [16]) (by kernel_rfl) (by simp) (AllReadyH.cons (by (simp only [List.getElem?_toArray, List.getElem?_cons_succ, List.getElem?_cons_zero]; rfl)) (fun K hK => ?_) AllReadyH.nil)
              go_simp
              (go_at_call 24; (with_reducible refine (Rng.sum (Rng.keep HS7.out B1) (Rng.keep HS7.out B1).1.tri.y.lm (Rng.keep HS7.out B1).1.tri.x.lm hY hX F9.out).mono ?_))
              rintro e7 wb ⟨m0, V0, l0, c0, rfl, L0, v0, hb⟩
              have B2 := B1.trans (hb.mono B1.size)
              (try go_wp2_with fail)
              refine hK.out _ _ ⟨B2, (Rng.keep HS7.out B2).1.on_, (Rng.keep HS7.out B2).1.tri.x.c0, (Rng.keep HS7.out B2).1.tri.x.c1, (Rng.keep HS7.out B2).1.tri.y.c0, (Rng.keep HS7.out B2).1.tri.y.c1, (K4.on B2).c0, (K4.on B2).c1, (K5.on B2).c0, (K5.on B2).c1, (KD.on B2).c0, (KD.on B2).c1⟩ (fun hHeld => ?_)
              clear hK
              (try simp only [Act.put, List.setIfInBounds_toArray, List.set_cons_zero, List.set_cons_succ])
              have eqd : sv md (val W32 ld) = sv m0 (val W32 l0) := by rw [vd, v0]; omega
              refine wpAnyH_ready (rs := [17]) (by kernel_rfl) (by simp) (AllReadyH.cons (by (simp only [List.getElem?_toArray, List.getElem?_cons_succ, List.getElem?_cons_zero]; rfl)) (fun K hK => ?_) AllReadyH.nil)
              go_simp
              (go_at_call 25; (with_reducible refine (same_lm wb (KD.on B2).lm L0 eqd).mono ?_))
              rintro e7 wc ⟨rfl, hb⟩
              have B3 := B2.trans (hb.mono B2.size)
              (try go_wp2_with fail)
              refine hK.out _ _ ⟨B3, (Rng.keep HS7.out B3).1.on_, (Rng.keep HS7.out B3).1.tri.x.c0, (Rng.keep HS7.out B3).1.tri.x.c1, (Rng.keep HS7.out B3).1.tri.y.c0, (Rng.keep HS7.out B3).1.tri.y.c1, (K4.on B3).c0, (K4.on B3).c1, (K5.on B3).c0, (K5.on B3).c1, (KD.on B3).c0, (KD.on B3).c1⟩ (fun hHeld => ?_)
              clear hK
              (try simp only [Act.put, List.setIfInBounds_toArray, List.set_cons_zero, List.set_cons_succ])
              refine wpAnyH_take (i := 18) (v := ?_) (by (simp only [List.getElem?_toArray, List.getElem?_cons_succ, List.getElem?_cons_zero]; rfl)) (by kernel_rfl) (by kernel_rfl) (by kernel_rfl) (fun _ _ _ h => h) (Or.inl ⟨by rfl, ?_⟩) (by assumption) ?_
              rotate_left
              · intro wt hSw
                (try dsimp only at hSw)
                go_simp
                (try with_reducible rfl)
              (try simp only [Act.put, List.setIfInBounds_toArray, List.set_cons_zero, List.set_cons_succ])
              refine wpAnyH_take (i := 19) (v := ?_) (by (simp only [List.getElem?_toArray, List.getElem?_cons_succ, List.getElem?_cons_zero]; rfl)) (by kernel_rfl) (by kernel_rfl) (by kernel_rfl) (fun _ _ _ h => h) (Or.inl ⟨by rfl, ?_⟩) (by assumption) ?_
              rotate_left
              · intro wt hSw
                (try dsimp only at hSw)
                go_simp
                (try with_reducible rfl)
              (try simp only [Act.put, List.setIfInBounds_toArray, List.set_cons_zero, List.set_cons_succ])
              refine wpAnyH_done (by kernel_rfl) (NoPanic.normal ?_) _
              have RG := Rng.keep HS7.out B3
              clear hHeld B0 B1 B2 B3 eqd eq45 K4 K5 KD L0 v0 vd e4 e5 HS7 HS5
              have HS8 := Lib.hid RG
              clear RG
              go_wp2_with fail
              go_cut [14] (fun s wx => ∃ (q : Nat) (m : Bool) (V : Option Addr) (l : List Nat) (k : Nat), s = .pointer (some ⟨q, 0, none⟩) ∧ Held wx q m V l k ∧ sv m (val W32 l) = X * Y * Z ∧ RngS w wx w3.heap.size n1 n2 n3 A B C xs ys zs c d e)
              case first =>
                have hall := HS8.out
                obtain ⟨_, a0, a1, a2, a3, a4, a5⟩ := hall
                refine wp_region_noPanic ?_
                have B0 : Below wc.heap.size wc wc.drew := (Below.refl _ _).drew
                refine wp_region_held_drew (S := (fun wx => Below wc.heap.size wc wx ∧ wx.cell? ⟨w.heap.size, 0, none⟩ = some (.bool n1) ∧ wx.cell? ⟨w.heap.size, 1, none⟩ = some (.slice A xs.length c) ∧ wx.cell? ⟨w.heap.size + 1, 0, none⟩ = some (.bool n2) ∧ wx.cell? ⟨w.heap.size + 1, 1, none⟩ = some (.slice B ys.length d) ∧ wx.cell? ⟨w.heap.size + 1 + 1, 0, none⟩ = some (.bool n3) ∧ wx.cell? ⟨w.heap.size + 1 + 1, 1, none⟩ = some (.slice C zs.length e))) (by kernel_rfl) (stay_of HS8.out B0) (fun hHeld => ?_)
                generalize wc.drew = Vd at *
                refine wpAnyH_take (i := 0) (v := ?_) (by (simp only [List.getElem?_toArray, List.getElem?_cons_succ, List.getElem?_cons_zero]; rfl)) (by kernel_rfl) (by kernel_rfl) (by kernel_rfl) (fun _ _ _ h => h) (Or.inl ⟨by rfl, ?_⟩) (by assumption) ?_
                rotate_left
                · intro wt hSw
                  (try dsimp only at hSw)
                  go_simp
                  (try with_reducible rfl)
                (try simp only [Act.put, List.setIfInBounds_toArray, List.set_cons_zero, List.set_cons_succ])
                refine wpAnyH_take (i := 1) (v := ?_) (by (simp only [List.getElem?_toArray, List.getElem?_cons_succ, List.getElem?_cons_zero]; rfl)) (by kernel_rfl) (by kernel_rfl) (by kernel_rfl) (fun _ _ _ h => h) (Or.inl ⟨by rfl, ?_⟩) (by assumption) ?_
                rotate_left
                · intro wt hSw
                  (try dsimp only at hSw)
                  go_simp
                  (try with_reducible rfl)
                (try simp only [Act.put, List.setIfInBounds_toArray, List.set_cons_zero, List.set_cons_succ])
                refine wpAnyH_take (i := 3) (v := ?_) (by (simp only [List.getElem?_toArray, List.getElem?_cons_succ, List.getElem?_cons_zero]; rfl)) (by kernel_rfl) (by kernel_rfl) (by kernel_rfl) (fun _ _ _ h => h) (Or.inl ⟨by rfl, ?_⟩) (by assumption) ?_
                rotate_left
                · intro wt hSw
                  (try dsimp only at hSw)
                  go_simp
                  (try with_reducible rfl)
                (try simp only [Act.put, List.setIfInBounds_toArray, List.set_cons_zero, List.set_cons_succ])
                refine wpAnyH_ready (rs := [2, 5]) (by kernel_rfl) (by simp) (AllReadyH.cons (by (simp only [List.getElem?_toArray, List.getElem?_cons_succ, List.getElem?_cons_zero]; rfl)) (fun K hK => ?_) (AllReadyH.cons (by (simp only [List.getElem?_toArray, List.getElem?_cons_succ, List.getElem?_cons_zero]; rfl)) (fun K hK => ?_) AllReadyH.nil))
                · go_simp
                  (go_at_call 23; (with_reducible refine (Rng.times (Rng.keep HS8.out B0) ((Rng.keep HS8.out B0).1.tri.x.lm) ((Rng.keep HS8.out B0).1.tri.y.lm) hX hY F10.out).mono ?_))
                  rintro e5 wc0 ⟨m0, V0, l0, c0, rfl, L0, v0, hb⟩
                  (try go_wp2_with fail)
                  have B1 := B0.trans (hb.mono B0.size)
                  refine hK.out _ _ (stay_of HS8.out B1) (fun hHeld => ?_)
                  clear hK
                  (try simp only [Act.put, List.setIfInBounds_toArray, List.set_cons_zero, List.set_cons_succ])
                  refine wpAnyH_ready (rs := [4, 5]) (by kernel_rfl) (by simp) (AllReadyH.cons (by (simp only [List.getElem?_toArray, List.getElem?_cons_succ, List.getElem?_cons_zero]; rfl)) (fun K hK => ?_) (AllReadyH.cons (by (simp only [List.getElem?_toArray, List.getElem?_cons_succ, List.getElem?_cons_zero]; rfl)) (fun K hK => ?_) AllReadyH.nil))
                  · go_simp
                    (go_at_call 23; (with_reducible refine (Rng.times (Rng.keep HS8.out B1) (L0) ((Rng.keep HS8.out B1).1.tri.z.lm) v0 hZ F11.out).mono ?_))
                    rintro e5 wc1 ⟨m1, V1, l1, c1, rfl, L1, v1, hb⟩
                    (try go_wp2_with fail)
                    have B2 := B1.trans (hb.mono B1.size)
                    have L0 := L0.below hb
                    refine hK.out _ _ (stay_of HS8.out B2) (fun hHeld => ?_)
                    clear hK
                    (try simp only [Act.put, List.setIfInBounds_toArray, List.set_cons_zero, List.set_cons_succ])
                    refine wpAnyH_ready (rs := [5]) (by kernel_rfl) (by simp) (AllReadyH.cons (by (simp only [List.getElem?_toArray, List.getElem?_cons_succ, List.getElem?_cons_zero]; rfl)) (fun K hK => ?_) AllReadyH.nil)
                    have Lz := L1
                    go_simp
                    have B3 := B2.alloc B2.size (.cells #[.bool false, .slice none 0 0] 24)
                    have hrm : Rest (wc1.alloc (.cells #[.bool false, .slice none 0 0] 24)) wc1.heap.size := Rest.newI wc1
                    have hlr : wc.heap.size ≤ wc1.heap.size := B2.size
                    have L0 := L0.below (((Below.refl _ _).alloc (Nat.le_refl _) (.cells #[.bool false, .slice none 0 0] 24) : Below wc1.heap.size wc1 (wc1.alloc (.cells #[.bool false, .slice none 0 0] 24))))
                    have L1 := L1.below (((Below.refl _ _).alloc (Nat.le_refl _) (.cells #[.bool false, .slice none 0 0] 24) : Below wc1.heap.size wc1 (wc1.alloc (.cells #[.bool false, .slice none 0 0] 24))))
                    refine hK.out _ _ (stay_of HS8.out B3) (fun hHeld => ?_)
                    clear hK
                    (try simp only [Act.put, List.setIfInBounds_toArray, List.set_cons_zero, List.set_cons_succ])
                    have g0 := hrm.r0
                    have g1 := hrm.r1
                    have g2 := hrm.f0
                    have g3 := hrm.f1
                    refine wpAnyH_ready (rs := [6]) (by kernel_rfl) (by simp) (AllReadyH.cons (by (simp only [List.getElem?_toArray, List.getElem?_cons_succ, List.getElem?_cons_zero]; rfl)) (fun K hK => ?_) AllReadyH.nil)
                    go_simp
                    have Bz := B2.alloc (o := .cells #[.bool m1, .slice V1 l1.length c1] 24) B2.size
                    refine hK.out _ _ (stay_of HS8.out Bz) (fun hHeld => ?_)
                    clear hK
                    (try simp only [Act.put, List.setIfInBounds_toArray, List.set_cons_zero, List.set_cons_succ])
                    refine wpAnyH_done (by kernel_rfl) (NoPanic.normal ?_) _
                    go_wp2
                    go_meet
                    exact ⟨_, _, _, _, _, rfl, Held.fresh Lz, v1, Rng.keep HS8.out Bz⟩
                  · go_simp
                    have B2 := B1.alloc B1.size (.cells #[.bool false, .slice none 0 0] 24)
                    have hrm : Rest (wc0.alloc (.cells #[.bool false, .slice none 0 0] 24)) wc0.heap.size := Rest.newI wc0
                    have hlr : wc.heap.size ≤ wc0.heap.size := B1.size
                    have L0 := L0.below (((Below.refl _ _).alloc (Nat.le_refl _) (.cells #[.bool false, .slice none 0 0] 24) : Below wc0.heap.size wc0 (wc0.alloc (.cells #[.bool false, .slice none 0 0] 24))))
                    refine hK.out _ _ (stay_of HS8.out B2) (fun hHeld => ?_)
                    clear hK
                    (try simp only [Act.put, List.setIfInBounds_toArray, List.set_cons_zero, List.set_cons_succ])
                    refine wpAnyH_ready (rs := [4]) (by kernel_rfl) (by simp) (AllReadyH.cons (by (simp only [List.getElem?_toArray, List.getElem?_cons_succ, List.getElem?_cons_zero]; rfl)) (fun K hK => ?_) AllReadyH.nil)
                    go_simp
                    (go_at_call 23; (with_reducible refine (Rng.times (Rng.keep HS8.out B2) (L0) ((Rng.keep HS8.out B2).1.tri.z.lm) v0 hZ F11.out).mono ?_))
                    rintro e5 wc1 ⟨m1, V1, l1, c1, rfl, L1, v1, hb⟩
                    (try go_wp2_with fail)
                    have B3 := B2.trans (hb.mono B2.size)
                    have L0 := L0.below hb
                    have hrm := hrm.on hb
                    refine hK.out _ _ (stay_of HS8.out B3) (fun hHeld => ?_)
                    clear hK
                    (try simp only [Act.put, List.setIfInBounds_toArray, List.set_cons_zero, List.set_cons_succ])
                    have g0 := hrm.r0
                    have g1 := hrm.r1
                    have g2 := hrm.f0
                    have g3 := hrm.f1
                    refine wpAnyH_ready (rs := [6]) (by kernel_rfl) (by simp) (AllReadyH.cons (by (simp only [List.getElem?_toArray, List.getElem?_cons_succ, List.getElem?_cons_zero]; rfl)) (fun K hK => ?_) AllReadyH.nil)
                    go_simp
                    have Bz := (B3.setCell (p := ⟨_, 0, none⟩) hlr (.bool m1)).setCell (p := ⟨_, 1, none⟩) hlr (.slice V1 l1.length c1)
                    refine hK.out _ _ (stay_of HS8.out Bz) (fun hHeld => ?_)
                    clear hK
                    (try simp only [Act.put, List.setIfInBounds_toArray, List.set_cons_zero, List.set_cons_succ])
                    refine wpAnyH_done (by kernel_rfl) (NoPanic.normal ?_) _
                    go_wp2
                    go_meet
                    exact ⟨_, _, _, _, _, rfl, Held.new hrm L1, v1, Rng.keep HS8.out Bz⟩
                · go_simp
                  have B1 := B0.alloc B0.size (.cells #[.bool false, .slice none 0 0] 24)
                  have hrm : Rest (Vd.alloc (.cells #[.bool false, .slice none 0 0] 24)) Vd.heap.size := Rest.newI Vd
                  have hlr : wc.heap.size ≤ Vd.heap.size := B0.size
                  refine hK.out _ _ (stay_of HS8.out B1) (fun hHeld => ?_)
                  clear hK
                  (try simp only [Act.put, List.setIfInBounds_toArray, List.set_cons_zero, List.set_cons_succ])
                  refine wpAnyH_ready (rs := [2]) (by kernel_rfl) (by simp) (AllReadyH.cons (by (simp only [List.getElem?_toArray, List.getElem?_cons_succ, List.getElem?_cons_zero]; rfl)) (fun K hK => ?_) AllReadyH.nil)
                  go_simp
                  (go_at_call 23; (with_reducible refine (Rng.times (Rng.keep HS8.out B1) ((Rng.keep HS8.out B1).1.tri.x.lm) ((Rng.keep HS8.out B1).1.tri.y.lm) hX hY F10.out).mono ?_))
                  rintro e5 wc0 ⟨m0, V0, l0, c0, rfl, L0, v0, hb⟩
                  (try go_wp2_with fail)
                  have B2 := B1.trans (hb.mono B1.size)
                  have hrm := hrm.on hb
                  refine hK.out _ _ (stay_of HS8.out B2) (fun hHeld => ?_)
                  clear hK
                  (try simp only [Act.put, List.setIfInBounds_toArray, List.set_cons_zero, List.set_cons_succ])
                  refine wpAnyH_ready (rs := [4]) (by kernel_rfl) (by simp) (AllReadyH.cons (by (simp only [List.getElem?_toArray, List.getElem?_cons_succ, List.getElem?_cons_zero]; rfl)) (fun K hK => ?_) AllReadyH.nil)
                  go_simp
                  (go_at_call 23; (with_reducible refine (Rng.times (Rng.keep HS8.out B2) (L0) ((Rng.keep HS8.out B2).1.tri.z.lm) v0 hZ F11.out).mono ?_))
                  rintro e5 wc1 ⟨m1, V1, l1, c1, rfl, L1, v1, hb⟩
                  (try go_wp2_with fail)
                  have B3 := B2.trans (hb.mono B2.size)
                  have L0 := L0.below hb
                  have hrm := hrm.on hb
                  refine hK.out _ _ (stay_of HS8.out B3) (fun hHeld => ?_)
                  clear hK
                  (try simp only [Act.put, List.setIfInBounds_toArray, List.set_cons_zero, List.set_cons_succ])
                  have g0 := hrm.r0
                  have g1 := hrm.r1
                  have g2 := hrm.f0
                  have g3 := hrm.f1
                  refine wpAnyH_ready (rs := [6]) (by kernel_rfl) (by simp) (AllReadyH.cons (by (simp only [List.getElem?_toArray, List.getElem?_cons_succ, List.getElem?_cons_zero]; rfl)) (fun K hK => ?_) AllReadyH.nil)
                  go_simp
                  have Bz := (B3.setCell (p := ⟨_, 0, none⟩) hlr (.bool m1)).setCell (p := ⟨_, 1, none⟩) hlr (.slice V1 l1.length c1)
                  refine hK.out _ _ (stay_of HS8.out Bz) (fun hHeld => ?_)
                  clear hK
                  (try simp only [Act.put, List.setIfInBounds_toArray, List.set_cons_zero, List.set_cons_succ])
                  refine wpAnyH_done (by kernel_rfl) (NoPanic.normal ?_) _
                  go_wp2
                  go_meet
                  exact ⟨_, _, _, _, _, rfl, Held.new hrm L1, v1, Rng.keep HS8.out Bz⟩
              case rest =>
                obtain ⟨q9, r9, V9', l9', k9, rfl, K9, e9, RG⟩ := hcut
                obtain ⟨W9, rfl, RG⟩ := rng_named RG
                have HS9 := Lib.hid RG
                clear RG
                go_wp2_with fail
                go_cut [15] (fun s wx => ∃ (q : Nat) (m : Bool) (V : Option Addr) (l : List Nat) (k : Nat), s = .pointer (some ⟨q, 0, none⟩) ∧ Held wx q m V l k ∧ sv m (val W32 l) = Z * (Y * X) ∧ Held wx q9 r9 V9' l9' k9 ∧ RngS w wx w3.heap.size n1 n2 n3 A B C xs ys zs c d e)
                case first =>
                  have hall := HS9.out
                  obtain ⟨_, a0, a1, a2, a3, a4, a5⟩ := hall
                  refine wp_region_noPanic ?_
                  have B0 : Below W9.heap.size W9 W9.drew := (Below.refl _ _).drew
                  refine wp_region_held_drew (S := (fun wx => Below W9.heap.size W9 wx ∧ wx.cell? ⟨w.heap.size, 0, none⟩ = some (.bool n1) ∧ wx.cell? ⟨w.heap.size, 1, none⟩ = some (.slice A xs.length c) ∧ wx.cell? ⟨w.heap.size + 1, 0, none⟩ = some (.bool n2) ∧ wx.cell? ⟨w.heap.size + 1, 1, none⟩ = some (.slice B ys.length d) ∧ wx.cell? ⟨w.heap.size + 1 + 1, 0, none⟩ = some (.bool n3) ∧ wx.cell? ⟨w.heap.size + 1 + 1, 1, none⟩ = some (.slice C zs.length e))) (by kernel_rfl) (stay_of HS9.out B0) (fun hHeld => ?_)
                  generalize W9.drew = Vd at *
                  refine wpAnyH_take (i := 0) (v := ?_) (by (simp only [List.getElem?_toArray, List.getElem?_cons_succ, List.getElem?_cons_zero]; rfl)) (by kernel_rfl) (by kernel_rfl) (by kernel_rfl) (fun _ _ _ h => h) (Or.inl ⟨by rfl, ?_⟩) (by assumption) ?_
                  rotate_left
                  · intro wt hSw
                    (try dsimp only at hSw)
                    go_simp
                    (try with_reducible rfl)
                  (try simp only [Act.put, List.setIfInBounds_toArray, List.set_cons_zero, List.set_cons_succ])
                  refine wpAnyH_take (i := 1) (v := ?_) (by (simp only [List.getElem?_toArray, List.getElem?_cons_succ, List.getElem?_cons_zero]; rfl)) (by kernel_rfl) (by kernel_rfl) (by kernel_rfl) (fun _ _ _ h => h) (Or.inl ⟨by rfl, ?_⟩) (by assumption) ?_
                  rotate_left
                  · intro wt hSw
                    (try dsimp only at hSw)
                    go_simp
                    (try with_reducible rfl)
                  (try simp only [Act.put, List.setIfInBounds_toArray, List.set_cons_zero, List.set_cons_succ])
                  refine wpAnyH_take (i := 2) (v := ?_) (by (simp only [List.getElem?_toArray, List.getElem?_cons_succ, List.getElem?_cons_zero]; rfl)) (by kernel_rfl) (by kernel_rfl) (by kernel_rfl) (fun _ _ _ h => h) (Or.inl ⟨by rfl, ?_⟩) (by assumption) ?_
                  rotate_left
                  · intro wt hSw
                    (try dsimp only at hSw)
                    go_simp
                    (try with_reducible rfl)
                  (try simp only [Act.put, List.setIfInBounds_toArray, List.set_cons_zero, List.set_cons_succ])
                  refine wpAnyH_ready (rs := [3, 5]) (by kernel_rfl) (by simp) (AllReadyH.cons (by (simp only [List.getElem?_toArray, List.getElem?_cons_succ, List.getElem?_cons_zero]; rfl)) (fun K hK => ?_) (AllReadyH.cons (by (simp only [List.getElem?_toArray, List.getElem?_cons_succ, List.getElem?_cons_zero]; rfl)) (fun K hK => ?_) AllReadyH.nil))
                  · go_simp
                    (go_at_call 23; (with_reducible refine (Rng.times (Rng.keep HS9.out B0) ((Rng.keep HS9.out B0).1.tri.y.lm) ((Rng.keep HS9.out B0).1.tri.x.lm) hY hX F12.out).mono ?_))
                    rintro e5 wc0 ⟨m0, V0, l0, c0, rfl, L0, v0, hb⟩
                    (try go_wp2_with fail)
                    have B1 := B0.trans (hb.mono B0.size)
                    refine hK.out _ _ (stay_of HS9.out B1) (fun hHeld => ?_)
                    clear hK
                    (try simp only [Act.put, List.setIfInBounds_toArray, List.set_cons_zero, List.set_cons_succ])
                    refine wpAnyH_ready (rs := [4, 5]) (by kernel_rfl) (by simp) (AllReadyH.cons (by (simp only [List.getElem?_toArray, List.getElem?_cons_succ, List.getElem?_cons_zero]; rfl)) (fun K hK => ?_) (AllReadyH.cons (by (simp only [List.getElem?_toArray, List.getElem?_cons_succ, List.getElem?_cons_zero]; rfl)) (fun K hK => ?_) AllReadyH.nil))
                    · go_simp
                      (go_at_call 23; (with_reducible refine (Rng.times (Rng.keep HS9.out B1) ((Rng.keep HS9.out B1).1.tri.z.lm) (L0) hZ v0 F13.out).mono ?_))
                      rintro e5 wc1 ⟨m1, V1, l1, c1, rfl, L1, v1, hb⟩
                      (try go_wp2_with fail)
                      have B2 := B1.trans (hb.mono B1.size)
                      have L0 := L0.below hb
                      refine hK.out _ _ (stay_of HS9.out B2) (fun hHeld => ?_)
                      clear hK
                      (try simp only [Act.put, List.setIfInBounds_toArray, List.set_cons_zero, List.set_cons_succ])
                      refine wpAnyH_ready (rs := [5]) (by kernel_rfl) (by simp) (AllReadyH.cons (by (simp only [List.getElem?_toArray, List.getElem?_cons_succ, List.getElem?_cons_zero]; rfl)) (fun K hK => ?_) AllReadyH.nil)
                      have Lz := L1
                      go_simp
                      have B3 := B2.alloc B2.size (.cells #[.bool false, .slice none 0 0] 24)
                      have hrm : Rest (wc1.alloc (.cells #[.bool false, .slice none 0 0] 24)) wc1.heap.size := Rest.newI wc1
                      have hlr : W9.heap.size ≤ wc1.heap.size := B2.size
                      have L0 := L0.below (((Below.refl _ _).alloc (Nat.le_refl _) (.cells #[.bool false, .slice none 0 0] 24) : Below wc1.heap.size wc1 (wc1.alloc (.cells #[.bool false, .slice none 0 0] 24))))
                      have L1 := L1.below (((Below.refl _ _).alloc (Nat.le_refl _) (.cells #[.bool false, .slice none 0 0] 24) : Below wc1.heap.size wc1 (wc1.alloc (.cells #[.bool false, .slice none 0 0] 24))))
                      refine hK.out _ _ (stay_of HS9.out B3) (fun hHeld => ?_)
                      clear hK
                      (try simp only [Act.put, List.setIfInBounds_toArray, List.set_cons_zero, List.set_cons_succ])
                      have g0 := hrm.r0
                      have g1 := hrm.r1
                      have g2 := hrm.f0
                      have g3 := hrm.f1
                      refine wpAnyH_ready (rs := [6]) (by kernel_rfl) (by simp) (AllReadyH.cons (by (simp only [List.getElem?_toArray, List.getElem?_cons_succ, List.getElem?_cons_zero]; rfl)) (fun K hK => ?_) AllReadyH.nil)
                      go_simp
                      have Bz := B2.alloc (o := .cells #[.bool m1, .slice V1 l1.length c1] 24) B2.size
                      refine hK.out _ _ (stay_of HS9.out Bz) (fun hHeld => ?_)
                      clear hK
                      (try simp only [Act.put, List.setIfInBounds_toArray, List.set_cons_zero, List.set_cons_succ])
                      refine wpAnyH_done (by kernel_rfl) (NoPanic.normal ?_) _
                      go_wp2
                      go_meet
                      exact ⟨_, _, _, _, _, rfl, Held.fresh Lz, v1, K9.on Bz, Rng.keep HS9.out Bz⟩
                    · go_simp
                      have B2 := B1.alloc B1.size (.cells #[.bool false, .slice none 0 0] 24)
                      have hrm : Rest (wc0.alloc (.cells #[.bool false, .slice none 0 0] 24)) wc0.heap.size := Rest.newI wc0
                      have hlr : W9.heap.size ≤ wc0.heap.size := B1.size
                      have L0 := L0.below (((Below.refl _ _).alloc (Nat.le_refl _) (.cells #[.bool false, .slice none 0 0] 24) : Below wc0.heap.size wc0 (wc0.alloc (.cells #[.bool false, .slice none 0 0] 24))))
                      refine hK.out _ _ (stay_of HS9.out B2) (fun hHeld => ?_)
                      clear hK
                      (try simp only [Act.put, List.setIfInBounds_toArray, List.set_cons_zero, List.set_cons_succ])
                      refine wpAnyH_ready (rs := [4]) (by kernel_rfl) (by simp) (AllReadyH.cons (by (simp only [List.getElem?_toArray, List.getElem?_cons_succ, List.getElem?_cons_zero]; rfl)) (fun K hK => ?_) AllReadyH.nil)
                      go_simp
                      (go_at_call 23; (with_reducible refine (Rng.times (Rng.keep HS9.out B2) ((Rng.keep HS9.out B2).1.tri.z.lm) (L0) hZ v0 F13.out).mono ?_))
                      rintro e5 wc1 ⟨m1, V1, l1, c1, rfl, L1, v1, hb⟩
                      (try go_wp2_with fail)
                      have B3 := B2.trans (hb.mono B2.size)
                      have L0 := L0.below hb
                      have hrm := hrm.on hb
                      refine hK.out _ _ (stay_of HS9.out B3) (fun hHeld => ?_)
                      clear hK
                      (try simp only [Act.put, List.setIfInBounds_toArray, List.set_cons_zero, List.set_cons_succ])
                      have g0 := hrm.r0
                      have g1 := hrm.r1
                      have g2 := hrm.f0
                      have g3 := hrm.f1
                      refine wpAnyH_ready (rs := [6]) (by kernel_rfl) (by simp) (AllReadyH.cons (by (simp only [List.getElem?_toArray, List.getElem?_cons_succ, List.getElem?_cons_zero]; rfl)) (fun K hK => ?_) AllReadyH.nil)
                      go_simp
                      have Bz := (B3.setCell (p := ⟨_, 0, none⟩) hlr (.bool m1)).setCell (p := ⟨_, 1, none⟩) hlr (.slice V1 l1.length c1)
                      refine hK.out _ _ (stay_of HS9.out Bz) (fun hHeld => ?_)
                      clear hK
                      (try simp only [Act.put, List.setIfInBounds_toArray, List.set_cons_zero, List.set_cons_succ])
                      refine wpAnyH_done (by kernel_rfl) (NoPanic.normal ?_) _
                      go_wp2
                      go_meet
                      exact ⟨_, _, _, _, _, rfl, Held.new hrm L1, v1, K9.on Bz, Rng.keep HS9.out Bz⟩
                  · go_simp
                    have B1 := B0.alloc B0.size (.cells #[.bool false, .slice none 0 0] 24)
                    have hrm : Rest (Vd.alloc (.cells #[.bool false, .slice none 0 0] 24)) Vd.heap.size := Rest.newI Vd
                    have hlr : W9.heap.size ≤ Vd.heap.size := B0.size
                    refine hK.out _ _ (stay_of HS9.out B1) (fun hHeld => ?_)
                    clear hK
                    (try simp only [Act.put, List.setIfInBounds_toArray, List.set_cons_zero, List.set_cons_succ])
                    refine wpAnyH_ready (rs := [3]) (by kernel_rfl) (by simp) (AllReadyH.cons (by (simp only [List.getElem?_toArray, List.getElem?_cons_succ, List.getElem?_cons_zero]; rfl)) (fun K hK => ?_) AllReadyH.nil)
                    go_simp
                    (go_at_call 23; (with_reducible refine (Rng.times (Rng.keep HS9.out B1) ((Rng.keep HS9.out B1).1.tri.y.lm) ((Rng.keep HS9.out B1).1.tri.x.lm) hY hX F12.out).mono ?_))
                    rintro e5 wc0 ⟨m0, V0, l0, c0, rfl, L0, v0, hb⟩
                    (try go_wp2_with fail)
                    have B2 := B1.trans (hb.mono B1.size)
                    have hrm := hrm.on hb
                    refine hK.out _ _ (stay_of HS9.out B2) (fun hHeld => ?_)
                    clear hK
                    (try simp only [Act.put, List.setIfInBounds_toArray, List.set_cons_zero, List.set_cons_succ])
                    refine wpAnyH_ready (rs := [4]) (by kernel_rfl) (by simp) (AllReadyH.cons (by (simp only [List.getElem?_toArray, List.getElem?_cons_succ, List.getElem?_cons_zero]; rfl)) (fun K hK => ?_) AllReadyH.nil)
                    go_simp
                    (go_at_call 23; (with_reducible refine (Rng.times (Rng.keep HS9.out B2) ((Rng.keep HS9.out B2).1.tri.z.lm) (L0) hZ v0 F13.out).mono ?_))
                    rintro e5 wc1 ⟨m1, V1, l1, c1, rfl, L1, v1, hb⟩
                    (try go_wp2_with fail)
                    have B3 := B2.trans (hb.mono B2.size)
                    have L0 := L0.below hb
                    have hrm := hrm.on hb
                    refine hK.out _ _ (stay_of HS9.out B3) (fun hHeld => ?_)
                    clear hK
                    (try simp only [Act.put, List.setIfInBounds_toArray, List.set_cons_zero, List.set_cons_succ])
                    have g0 := hrm.r0
                    have g1 := hrm.r1
                    have g2 := hrm.f0
                    have g3 := hrm.f1
                    refine wpAnyH_ready (rs := [6]) (by kernel_rfl) (by simp) (AllReadyH.cons (by (simp only [List.getElem?_toArray, List.getElem?_cons_succ, List.getElem?_cons_zero]; rfl)) (fun K hK => ?_) AllReadyH.nil)
                    go_simp
                    have Bz := (B3.setCell (p := ⟨_, 0, none⟩) hlr (.bool m1)).setCell (p := ⟨_, 1, none⟩) hlr (.slice V1 l1.length c1)
                    refine hK.out _ _ (stay_of HS9.out Bz) (fun hHeld => ?_)
                    clear hK
                    (try simp only [Act.put, List.setIfInBounds_toArray, List.set_cons_zero, List.set_cons_succ])
                    refine wpAnyH_done (by kernel_rfl) (NoPanic.normal ?_) _
                    go_wp2
                    go_meet
                    exact ⟨_, _, _, _, _, rfl, Held.new hrm L1, v1, K9.on Bz, Rng.keep HS9.out Bz⟩
                case rest =>
                  obtain ⟨q10, r10, V10', l10', k10, rfl, K10, e10, K9, RG⟩ := hcut
                  obtain ⟨W10, rfl, RG⟩ := rng_named RG
                  have HS10 := Lib.hid RG
                  clear RG
                  have eq78 : sv r9 (val W32 l9') = sv r10 (val W32 l10') := by rw [e9, e10, Int.mul_comm Y X, Int.mul_comm Z]
                  have o2 := HS10.out.1.on_
                  have b1 := K9.c0
                  have b2 := K9.c1
                  have b3 := K10.c0
                  have b4 := K10.c1
                  have CS := Lib.hid (same_lm W10 K9.lm K10.lm eq78)
                  clear e9 e10
                  have hcm := cmpI_eq eq78
                  go_wp2_with fail
                  refine (CS.out).mono ?_
                  rintro e7 w9 ⟨rfl, hb⟩
                  have K9 := K9.on hb
                  have K10 := K10.on hb
                  have BF := (Rng.keep HS10.out hb).1.tri.below
                  have b1 := K9.c0
                  have b2 := K9.c1
                  have b3 := K10.c0
                  have b4 := K10.c1
                  have CC := Lib.hid (wcmp_lm w9 K9.lm K10.lm 0 hcm)
                  clear CS hcm eq78 o2
                  go_wp2_with fail
                  refine (CC.out).mono ?_
                  rintro e8 w10 ⟨rfl, hb2⟩
                  go_wp2
                  go_ret
                  exact ⟨rfl, BF.trans (hb2.mono BF.size)⟩
    · have hsd : decide (xs.length + 1 + (ys.length + 1) + (zs.length + 1) ≤ 2048) = false := by simp [hsm]
      rw [hsd]
      clear hsm hsd T
      go_wp2_with fail
      refine (alive_any w3 (FIN _ B3)).mono ?_
      rintro e3 w4 ⟨rfl, q3⟩
      go_wp2
      go_ret
      exact ⟨rfl, B3.trans (q3.mono B3.size)⟩
  · rw [Bool.not_eq_true] at ho
    rw [ho]
    clear ho H1 H2 H3 R1 R2 R3
    go_wp2_with fail
    refine (alive_any w2 (FIN _ B2)).mono ?_
    rintro e3 w3 ⟨rfl, q3⟩
    go_wp2
    go_ret
    exact ⟨rfl, B2.trans (q3.mono B2.size)⟩
end Go.Proofs.YtchfnkfdopbflaaDoor
