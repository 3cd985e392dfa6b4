/-
  What the statement on roots returns: yes. No conditions but that the list is a list of limbs, and that the table of powers lies where it lies.
-/
import Derived.Test.YtchfnkfdopbflaaDoorCom0
namespace Go.Proofs.YtchfnkfdopbflaaDoor
open Go.RowKit Nb
set_option linter.unusedSimpArgs false

set_option maxHeartbeats 4000000 in
set_option maxRecDepth 20000 in
theorem squares_walk (n1 : Bool) (A : Option Addr) (xs : List Nat) (c : Nat) (w : World) (hr : Sl .u32 w w.heap.size A xs) (hx : Dig W32 xs) (htab : Tab w) :
    Calls Tryd.prog 8 #[big n1 A xs.length c] w fun e w' => e = .returned (.bool true) ∧ Below w.heap.size w w' := by
  obtain ⟨W, hW, hbW, hzW, R1⟩ := raw_one (n1 := n1) (c := c) hr
  have HT := Lib.hid htab
  have HW := Lib.hid hW
  obtain ⟨b1, hb1⟩ := is_bool (Ok n1 xs)
  have H1 := Lib.hid hb1
  clear htab hW hb1 hr
  go_enter Tryd.func8, Tryd.ntmps8
  go_wp2_with fail
  rw [← HW.out]
  refine (alive_any W (tab_below HT.out hbW)).mono ?_
  rintro e1 w1 ⟨rfl, q1⟩
  have R1 := R1.on q1
  have B1 := hbW.trans (q1.mono hbW.size)
  clear q1 hbW hzW HW
  have a0 := R1.c0
  have a1 := R1.c1
  go_wp2_with fail
  have hal : Below w1.heap.size w1 (w1.alloc (.cells #[.bool n1, .slice A xs.length c] 24)) := by go_grown
  have S1 := (R1.on hal).sl
  refine (may_1 w1.heap.size 1 n1 A xs.length c b1 _ (kind_of n1 A xs _ _ S1 b1 H1.out) (by go_cell) (by go_cell)).mono ?_
  rintro e2 w2 ⟨rfl, q2⟩
  have q2 := Below.trans hal (q2.mono hal.size)
  have R1 := R1.on q2
  have B2 := B1.trans (q2.mono B1.size)
  clear a0 a1 hal S1 q2 B1
  by_cases ho : b1 = true
  · have o1 := H1.out.1 ho
    have KX := R1.held hx o1
    rw [ho]
    clear ho H1 R1
    have hlX : xs.length ≤ 2048 := o1.len
    cases n1
    · have C1 := Lib.hid (wroot_any A xs c (val W32 xs) w2 KX.lm rfl)
      have HO := Lib.hid o1
      clear o1
      have a0 := KX.c0
      have a1 := KX.c1
      go_wp2_with fail
      refine (C1.out).mono ?_
      rintro e3 w3 ⟨Vr, lr, kr, r, rfl, mr, vr, e1, e2, b3⟩
      obtain ⟨X, hX⟩ : ∃ X, val W32 xs = X := ⟨_, rfl⟩
      rw [hX] at e1 e2
      have HX := Lib.hid hX
      have HE := Lib.hid (And.intro e1 e2)
      have HVR := Lib.hid vr
      have hFX : Fits ((X : Nat) : Int) := by rw [← hX]; exact fits_val hx HO.out
      have HFX := Lib.hid hFX
      have HFN := Lib.hid (next_fits hFX e1)
      obtain ⟨sq, hsq⟩ : ∃ sq, decide (r * r = val W32 xs) = sq := ⟨_, rfl⟩
      rw [hsq]
      have HSQ := Lib.hid hsq
      have BF := B2
      clear a0 a1 hX e1 e2 vr hFX hsq B2 C1
      have bb : Below w2.heap.size w2 (w3.alloc (.cells #[.bool false, .slice Vr lr.length kr] 24)) := b3.alloc b3.size _
      have KX := KX.on bb
      have KR : Held (w3.alloc (.cells #[.bool false, .slice Vr lr.length kr] 24)) w3.heap.size false Vr lr kr := Held.fresh mr
      have BF := BF.trans (bb.mono BF.size)
      clear bb b3 mr
      have a0 := KX.c0
      have a1 := KX.c1
      have a2 := KR.c0
      have a3 := KR.c1
      have hlR : lr.length ≤ 2048 := KR.lm.ok.len
      go_wp2_with fail
      have hz3 : (w3.alloc (.cells #[.bool false, .slice Vr lr.length kr] 24)).heap.size = w3.heap.size + 1 := by go_size
      generalize (w3.alloc (.cells #[.bool false, .slice Vr lr.length kr] 24)) = W4 at *
      have hal : Below W4.heap.size W4 (W4.alloc (.cells #[.bool false, .slice Vr lr.length kr] 24)) := by go_grown
      rw [← hz3]
      refine (may_1 W4.heap.size 1 false Vr lr.length kr true _ (kind_of false Vr lr _ _ (KR.on hal).lm.sl true (ok_yes KR.lm.ok)) (by go_cell) (by go_cell)).mono ?_
      rintro e5 w5 ⟨rfl, q5⟩
      have q5 := hal.trans (q5.mono hal.size)
      have KX := KX.on q5
      have KR := KR.on q5
      have BF := BF.trans (q5.mono BF.size)
      clear a0 a1 a2 a3 hal q5 hz3
      have a0 := KR.c0
      have a1 := KR.c1
      go_wp2_with fail
      clear a0 a1
      refine (mul_told Vr Vr lr lr kr kr (r * r) w5 KR.lm KR.lm (by rw [HVR.out]) (fits_nat HFX.out HE.out.1)).mono ?_
      rintro e9 w9 ⟨Vp, lp, kp, rfl, mp, vp, b9⟩
      have HVP := Lib.hid vp
      clear vp
      have bb : Below w5.heap.size w5 (w9.alloc (.cells #[.bool false, .slice Vp lp.length kp] 24)) := b9.alloc b9.size _
      have KX := KX.on bb
      have KR := KR.on bb
      have KP : Held (w9.alloc (.cells #[.bool false, .slice Vp lp.length kp] 24)) w9.heap.size false Vp lp kp := Held.fresh mp
      have BF := BF.trans (bb.mono BF.size)
      clear bb b9 mp
      have F1 := Lib.hid (fun w => of_fix 1 false w (by omega) (by omega) rfl)
      go_upto_region 7 with fail
      generalize (w9.alloc (.cells #[.bool false, .slice Vp lp.length kp] 24)) = W10 at *
      go_cut [8, 9] (fun s8 s9 wx => ∃ (p : Nat) (V : Option Addr) (l : List Nat) (k : Nat), s8 = .pointer (some ⟨p, 0, none⟩) ∧ s9 = .int .i64 0 ∧ Held wx p false V l k ∧ val W32 l = r + 1 ∧ Held wx w.heap.size false A xs c ∧ Held wx w3.heap.size false Vr lr kr ∧ Held wx w9.heap.size false Vp lp kp ∧ Below w.heap.size w wx)
      case first =>
        have a0 := KR.c0
        have a1 := KR.c1
        refine wp_region_noPanic ?_
        have B0 : Below W10.heap.size W10 W10.drew := (Below.refl _ _).drew
        refine wp_region_held_drew (S := (fun wx => Below W10.heap.size W10 wx ∧ wx.cell? ⟨w3.heap.size, 0, none⟩ = some (.bool false) ∧ wx.cell? ⟨w3.heap.size, 1, none⟩ = some (.slice Vr lr.length kr))) (by kernel_rfl) ⟨B0, (KR.on B0).c0, (KR.on B0).c1⟩ (fun hHeld => ?_)
        generalize W10.drew = Vd at *
        refine wpAnyH_take (i := 0) (v := ?_) (by (simp only [List.getElem?_toArray, List.getElem?_cons_succ, List.getElem?_cons_zero]; rfl)) (by kernel_rfl) (by kernel_rfl) (by kernel_rfl) (fun _ _ _ h => h) (Or.inl ⟨by rfl, ?_⟩) (by assumption) ?_
        rotate_left
        · intro wt hSw
          (try dsimp only at hSw)
          go_simp
          (try with_reducible rfl)
        (try simp only [Act.put, List.setIfInBounds_toArray, List.set_cons_zero, List.set_cons_succ])
        refine wpAnyH_ready (rs := [1, 6]) (by kernel_rfl) (by simp) (AllReadyH.cons (by (simp only [List.getElem?_toArray, List.getElem?_cons_succ, List.getElem?_cons_zero]; rfl)) (fun K hK => ?_) (AllReadyH.cons (by (simp only [List.getElem?_toArray, List.getElem?_cons_succ, List.getElem?_cons_zero]; rfl)) (fun K hK => ?_) AllReadyH.nil))
        · go_simp
          (go_at_call 32; with_reducible refine (F1.out _).mono ?_)
          rintro e5 wc0 ⟨A1, c1, l1, rfl, m1, v1, z1, hb⟩
          (try go_wp2_with fail)
          have B1 := B0.trans (hb.mono B0.size)
          have HV1 : Hid (val W32 l1 = 1) := Lib.hid (Int.ofNat_inj.1 v1)
          clear v1
          clear hb
          refine hK.out _ _ ⟨B1, (KR.on B1).c0, (KR.on B1).c1⟩ (fun hHeld => ?_)
          clear hK
          (try simp only [Act.put, List.setIfInBounds_toArray, List.set_cons_zero, List.set_cons_succ])
          refine wpAnyH_ready (rs := [2, 6]) (by kernel_rfl) (by simp) (AllReadyH.cons (by (simp only [List.getElem?_toArray, List.getElem?_cons_succ, List.getElem?_cons_zero]; rfl)) (fun K hK => ?_) (AllReadyH.cons (by (simp only [List.getElem?_toArray, List.getElem?_cons_succ, List.getElem?_cons_zero]; rfl)) (fun K hK => ?_) AllReadyH.nil))
          · go_simp
            (go_at_call 35; with_reducible refine (add_told Vr A1 lr l1 kr c1 (r + 1) _ (KR.on B1).lm m1 (by rw [HVR.out, HV1.out]) HFN.out).mono ?_)
            rintro e6 wc1 ⟨Vn, ln, kn, rfl, mn, vn, hb⟩
            (try go_wp2_with fail)
            have B2 := B1.trans (hb.mono B1.size)
            clear hb
            refine hK.out _ _ ⟨B2, (KR.on B2).c0, (KR.on B2).c1⟩ (fun hHeld => ?_)
            clear hK
            (try simp only [Act.put, List.setIfInBounds_toArray, List.set_cons_zero, List.set_cons_succ])
            refine wpAnyH_take (i := 3) (v := ?_) (by (simp only [List.getElem?_toArray, List.getElem?_cons_succ, List.getElem?_cons_zero]; rfl)) (by kernel_rfl) (by kernel_rfl) (by kernel_rfl) (fun _ _ _ h => h) (Or.inl ⟨by rfl, ?_⟩) (by assumption) ?_
            rotate_left
            · intro wt hSw
              (try dsimp only at hSw)
              go_simp
              (try with_reducible rfl)
            (try simp only [Act.put, List.setIfInBounds_toArray, List.set_cons_zero, List.set_cons_succ])
            refine wpAnyH_take (i := 4) (v := ?_) (by (simp only [List.getElem?_toArray, List.getElem?_cons_succ, List.getElem?_cons_zero]; rfl)) (by kernel_rfl) (by kernel_rfl) (by kernel_rfl) (fun _ _ _ h => h) (Or.inl ⟨by rfl, ?_⟩) (by assumption) ?_
            rotate_left
            · intro wt hSw
              (try dsimp only at hSw)
              go_simp
              (try with_reducible rfl)
            (try simp only [Act.put, List.setIfInBounds_toArray, List.set_cons_zero, List.set_cons_succ])
            refine wpAnyH_take (i := 5) (v := ?_) (by (simp only [List.getElem?_toArray, List.getElem?_cons_succ, List.getElem?_cons_zero]; rfl)) (by kernel_rfl) (by kernel_rfl) (by kernel_rfl) (fun _ _ _ h => h) (Or.inl ⟨by rfl, ?_⟩) (by assumption) ?_
            rotate_left
            · intro wt hSw
              (try dsimp only at hSw)
              go_simp
              (try with_reducible rfl)
            (try simp only [Act.put, List.setIfInBounds_toArray, List.set_cons_zero, List.set_cons_succ])
            refine wpAnyH_ready (rs := [6]) (by kernel_rfl) (by simp) (AllReadyH.cons (by (simp only [List.getElem?_toArray, List.getElem?_cons_succ, List.getElem?_cons_zero]; rfl)) (fun K hK => ?_) AllReadyH.nil)
            go_simp
            have B3 := B2.alloc (o := (.cells #[.bool false, .slice none 0 0] 24)) B2.size
            have hrm : Rest (wc1.alloc (.cells #[.bool false, .slice none 0 0] 24)) wc1.heap.size := Rest.newI wc1
            have hv8 : W10.heap.size ≤ wc1.heap.size := B2.size
            have hbz : Below wc1.heap.size wc1 (wc1.alloc (.cells #[.bool false, .slice none 0 0] 24)) := (Below.refl _ _).alloc (Nat.le_refl _) _
            have mn := mn.below hbz
            clear hbz
            generalize (wc1.alloc (.cells #[.bool false, .slice none 0 0] 24)) = Wn2 at *
            refine hK.out _ _ ⟨B3, (KR.on B3).c0, (KR.on B3).c1⟩ (fun hHeld => ?_)
            clear hK
            (try simp only [Act.put, List.setIfInBounds_toArray, List.set_cons_zero, List.set_cons_succ])
            have g0 := hrm.r0
            have g1 := hrm.r1
            have g2 := hrm.f0
            have g3 := hrm.f1
            refine wpAnyH_ready (rs := [7]) (by kernel_rfl) (by simp) (AllReadyH.cons (by (simp only [List.getElem?_toArray, List.getElem?_cons_succ, List.getElem?_cons_zero]; rfl)) (fun K hK => ?_) AllReadyH.nil)
            go_simp
            have Bz : Below W10.heap.size W10 ((Wn2.setCell ⟨wc1.heap.size, 0, none⟩ (.bool false)).setCell ⟨wc1.heap.size, 1, none⟩ (.slice Vn ln.length kn)) := (B3.setCell (p := ⟨_, 0, none⟩) hv8 _).setCell (p := ⟨_, 1, none⟩) hv8 _
            have KN := Held.new hrm mn
            clear g0 g1 g2 g3 hrm mn
            generalize ((Wn2.setCell ⟨wc1.heap.size, 0, none⟩ (.bool false)).setCell ⟨wc1.heap.size, 1, none⟩ (.slice Vn ln.length kn)) = Ws at *
            refine hK.out _ _ ⟨Bz, (KR.on Bz).c0, (KR.on Bz).c1⟩ (fun hHeld => ?_)
            clear hK
            (try simp only [Act.put, List.setIfInBounds_toArray, List.set_cons_zero, List.set_cons_succ])
            refine wpAnyH_take (i := 8) (v := ?_) (by (simp only [List.getElem?_toArray, List.getElem?_cons_succ, List.getElem?_cons_zero]; rfl)) (by kernel_rfl) (by kernel_rfl) (by kernel_rfl) (fun _ _ _ h => h) (Or.inl ⟨by rfl, ?_⟩) (by assumption) ?_
            rotate_left
            · intro wt hSw
              (try dsimp only at hSw)
              go_simp
              (try with_reducible rfl)
            (try simp only [Act.put, List.setIfInBounds_toArray, List.set_cons_zero, List.set_cons_succ])
            refine wpAnyH_done (by kernel_rfl) (NoPanic.normal ?_) _
            go_wp2
            go_meet
            exact ⟨_, _, _, _, rfl, rfl, KN, vn, KX.on Bz, KR.on Bz, KP.on Bz, BF.trans (Bz.mono BF.size)⟩
          · go_simp
            have B2 := B1.alloc (o := (.cells #[.bool false, .slice none 0 0] 24)) B1.size
            have hrm : Rest (wc0.alloc (.cells #[.bool false, .slice none 0 0] 24)) wc0.heap.size := Rest.newI wc0
            have hv8 : W10.heap.size ≤ wc0.heap.size := B1.size
            have hbz : Below wc0.heap.size wc0 (wc0.alloc (.cells #[.bool false, .slice none 0 0] 24)) := (Below.refl _ _).alloc (Nat.le_refl _) _
            have m1 := m1.below hbz
            clear hbz
            generalize (wc0.alloc (.cells #[.bool false, .slice none 0 0] 24)) = Wn1 at *
            refine hK.out _ _ ⟨B2, (KR.on B2).c0, (KR.on B2).c1⟩ (fun hHeld => ?_)
            clear hK
            (try simp only [Act.put, List.setIfInBounds_toArray, List.set_cons_zero, List.set_cons_succ])
            refine wpAnyH_ready (rs := [2]) (by kernel_rfl) (by simp) (AllReadyH.cons (by (simp only [List.getElem?_toArray, List.getElem?_cons_succ, List.getElem?_cons_zero]; rfl)) (fun K hK => ?_) AllReadyH.nil)
            go_simp
            (go_at_call 35; with_reducible refine (add_told Vr A1 lr l1 kr c1 (r + 1) _ (KR.on B2).lm m1 (by rw [HVR.out, HV1.out]) HFN.out).mono ?_)
            rintro e6 wc1 ⟨Vn, ln, kn, rfl, mn, vn, hb⟩
            (try go_wp2_with fail)
            have B3 := B2.trans (hb.mono B2.size)
            have hrm := hrm.on hb
            clear hb
            refine hK.out _ _ ⟨B3, (KR.on B3).c0, (KR.on B3).c1⟩ (fun hHeld => ?_)
            clear hK
            (try simp only [Act.put, List.setIfInBounds_toArray, List.set_cons_zero, List.set_cons_succ])
            refine wpAnyH_take (i := 3) (v := ?_) (by (simp only [List.getElem?_toArray, List.getElem?_cons_succ, List.getElem?_cons_zero]; rfl)) (by kernel_rfl) (by kernel_rfl) (by kernel_rfl) (fun _ _ _ h => h) (Or.inl ⟨by rfl, ?_⟩) (by assumption) ?_
            rotate_left
            · intro wt hSw
              (try dsimp only at hSw)
              go_simp
              (try with_reducible rfl)
            (try simp only [Act.put, List.setIfInBounds_toArray, List.set_cons_zero, List.set_cons_succ])
            refine wpAnyH_take (i := 4) (v := ?_) (by (simp only [List.getElem?_toArray, List.getElem?_cons_succ, List.getElem?_cons_zero]; rfl)) (by kernel_rfl) (by kernel_rfl) (by kernel_rfl) (fun _ _ _ h => h) (Or.inl ⟨by rfl, ?_⟩) (by assumption) ?_
            rotate_left
            · intro wt hSw
              (try dsimp only at hSw)
              go_simp
              (try with_reducible rfl)
            (try simp only [Act.put, List.setIfInBounds_toArray, List.set_cons_zero, List.set_cons_succ])
            refine wpAnyH_take (i := 5) (v := ?_) (by (simp only [List.getElem?_toArray, List.getElem?_cons_succ, List.getElem?_cons_zero]; rfl)) (by kernel_rfl) (by kernel_rfl) (by kernel_rfl) (fun _ _ _ h => h) (Or.inl ⟨by rfl, ?_⟩) (by assumption) ?_
            rotate_left
            · intro wt hSw
              (try dsimp only at hSw)
              go_simp
              (try with_reducible rfl)
            (try simp only [Act.put, List.setIfInBounds_toArray, List.set_cons_zero, List.set_cons_succ])
            have g0 := hrm.r0
            have g1 := hrm.r1
            have g2 := hrm.f0
            have g3 := hrm.f1
            refine wpAnyH_ready (rs := [7]) (by kernel_rfl) (by simp) (AllReadyH.cons (by (simp only [List.getElem?_toArray, List.getElem?_cons_succ, List.getElem?_cons_zero]; rfl)) (fun K hK => ?_) AllReadyH.nil)
            go_simp
            have Bz : Below W10.heap.size W10 ((wc1.setCell ⟨wc0.heap.size, 0, none⟩ (.bool false)).setCell ⟨wc0.heap.size, 1, none⟩ (.slice Vn ln.length kn)) := (B3.setCell (p := ⟨_, 0, none⟩) hv8 _).setCell (p := ⟨_, 1, none⟩) hv8 _
            have KN := Held.new hrm mn
            clear g0 g1 g2 g3 hrm mn
            generalize ((wc1.setCell ⟨wc0.heap.size, 0, none⟩ (.bool false)).setCell ⟨wc0.heap.size, 1, none⟩ (.slice Vn ln.length kn)) = Ws at *
            refine hK.out _ _ ⟨Bz, (KR.on Bz).c0, (KR.on Bz).c1⟩ (fun hHeld => ?_)
            clear hK
            (try simp only [Act.put, List.setIfInBounds_toArray, List.set_cons_zero, List.set_cons_succ])
            refine wpAnyH_take (i := 8) (v := ?_) (by (simp only [List.getElem?_toArray, List.getElem?_cons_succ, List.getElem?_cons_zero]; rfl)) (by kernel_rfl) (by kernel_rfl) (by kernel_rfl) (fun _ _ _ h => h) (Or.inl ⟨by rfl, ?_⟩) (by assumption) ?_
            rotate_left
            · intro wt hSw
              (try dsimp only at hSw)
              go_simp
              (try with_reducible rfl)
            (try simp only [Act.put, List.setIfInBounds_toArray, List.set_cons_zero, List.set_cons_succ])
            refine wpAnyH_done (by kernel_rfl) (NoPanic.normal ?_) _
            go_wp2
            go_meet
            exact ⟨_, _, _, _, rfl, rfl, KN, vn, KX.on Bz, KR.on Bz, KP.on Bz, BF.trans (Bz.mono BF.size)⟩
        · go_simp
          have B1 := B0.alloc (o := (.cells #[.bool false, .slice none 0 0] 24)) B0.size
          have hrm : Rest (Vd.alloc (.cells #[.bool false, .slice none 0 0] 24)) Vd.heap.size := Rest.newI Vd
          have hv8 : W10.heap.size ≤ Vd.heap.size := B0.size
          have hbz : Below Vd.heap.size Vd (Vd.alloc (.cells #[.bool false, .slice none 0 0] 24)) := (Below.refl _ _).alloc (Nat.le_refl _) _
          clear hbz
          generalize (Vd.alloc (.cells #[.bool false, .slice none 0 0] 24)) = Wn0 at *
          refine hK.out _ _ ⟨B1, (KR.on B1).c0, (KR.on B1).c1⟩ (fun hHeld => ?_)
          clear hK
          (try simp only [Act.put, List.setIfInBounds_toArray, List.set_cons_zero, List.set_cons_succ])
          refine wpAnyH_ready (rs := [1]) (by kernel_rfl) (by simp) (AllReadyH.cons (by (simp only [List.getElem?_toArray, List.getElem?_cons_succ, List.getElem?_cons_zero]; rfl)) (fun K hK => ?_) AllReadyH.nil)
          go_simp
          (go_at_call 32; with_reducible refine (F1.out _).mono ?_)
          rintro e5 wc0 ⟨A1, c1, l1, rfl, m1, v1, z1, hb⟩
          (try go_wp2_with fail)
          have B2 := B1.trans (hb.mono B1.size)
          have hrm := hrm.on hb
          have HV1 : Hid (val W32 l1 = 1) := Lib.hid (Int.ofNat_inj.1 v1)
          clear v1
          clear hb
          refine hK.out _ _ ⟨B2, (KR.on B2).c0, (KR.on B2).c1⟩ (fun hHeld => ?_)
          clear hK
          (try simp only [Act.put, List.setIfInBounds_toArray, List.set_cons_zero, List.set_cons_succ])
          refine wpAnyH_ready (rs := [2]) (by kernel_rfl) (by simp) (AllReadyH.cons (by (simp only [List.getElem?_toArray, List.getElem?_cons_succ, List.getElem?_cons_zero]; rfl)) (fun K hK => ?_) AllReadyH.nil)
          go_simp
          (go_at_call 35; with_reducible refine (add_told Vr A1 lr l1 kr c1 (r + 1) _ (KR.on B2).lm m1 (by rw [HVR.out, HV1.out]) HFN.out).mono ?_)
          rintro e6 wc1 ⟨Vn, ln, kn, rfl, mn, vn, hb⟩
          (try go_wp2_with fail)
          have B3 := B2.trans (hb.mono B2.size)
          have hrm := hrm.on hb
          clear hb
          refine hK.out _ _ ⟨B3, (KR.on B3).c0, (KR.on B3).c1⟩ (fun hHeld => ?_)
          clear hK
          (try simp only [Act.put, List.setIfInBounds_toArray, List.set_cons_zero, List.set_cons_succ])
          refine wpAnyH_take (i := 3) (v := ?_) (by (simp only [List.getElem?_toArray, List.getElem?_cons_succ, List.getElem?_cons_zero]; rfl)) (by kernel_rfl) (by kernel_rfl) (by kernel_rfl) (fun _ _ _ h => h) (Or.inl ⟨by rfl, ?_⟩) (by assumption) ?_
          rotate_left
          · intro wt hSw
            (try dsimp only at hSw)
            go_simp
            (try with_reducible rfl)
          (try simp only [Act.put, List.setIfInBounds_toArray, List.set_cons_zero, List.set_cons_succ])
          refine wpAnyH_take (i := 4) (v := ?_) (by (simp only [List.getElem?_toArray, List.getElem?_cons_succ, List.getElem?_cons_zero]; rfl)) (by kernel_rfl) (by kernel_rfl) (by kernel_rfl) (fun _ _ _ h => h) (Or.inl ⟨by rfl, ?_⟩) (by assumption) ?_
          rotate_left
          · intro wt hSw
            (try dsimp only at hSw)
            go_simp
            (try with_reducible rfl)
          (try simp only [Act.put, List.setIfInBounds_toArray, List.set_cons_zero, List.set_cons_succ])
          refine wpAnyH_take (i := 5) (v := ?_) (by (simp only [List.getElem?_toArray, List.getElem?_cons_succ, List.getElem?_cons_zero]; rfl)) (by kernel_rfl) (by kernel_rfl) (by kernel_rfl) (fun _ _ _ h => h) (Or.inl ⟨by rfl, ?_⟩) (by assumption) ?_
          rotate_left
          · intro wt hSw
            (try dsimp only at hSw)
            go_simp
            (try with_reducible rfl)
          (try simp only [Act.put, List.setIfInBounds_toArray, List.set_cons_zero, List.set_cons_succ])
          have g0 := hrm.r0
          have g1 := hrm.r1
          have g2 := hrm.f0
          have g3 := hrm.f1
          refine wpAnyH_ready (rs := [7]) (by kernel_rfl) (by simp) (AllReadyH.cons (by (simp only [List.getElem?_toArray, List.getElem?_cons_succ, List.getElem?_cons_zero]; rfl)) (fun K hK => ?_) AllReadyH.nil)
          go_simp
          have Bz : Below W10.heap.size W10 ((wc1.setCell ⟨Vd.heap.size, 0, none⟩ (.bool false)).setCell ⟨Vd.heap.size, 1, none⟩ (.slice Vn ln.length kn)) := (B3.setCell (p := ⟨_, 0, none⟩) hv8 _).setCell (p := ⟨_, 1, none⟩) hv8 _
          have KN := Held.new hrm mn
          clear g0 g1 g2 g3 hrm mn
          generalize ((wc1.setCell ⟨Vd.heap.size, 0, none⟩ (.bool false)).setCell ⟨Vd.heap.size, 1, none⟩ (.slice Vn ln.length kn)) = Ws at *
          refine hK.out _ _ ⟨Bz, (KR.on Bz).c0, (KR.on Bz).c1⟩ (fun hHeld => ?_)
          clear hK
          (try simp only [Act.put, List.setIfInBounds_toArray, List.set_cons_zero, List.set_cons_succ])
          refine wpAnyH_take (i := 8) (v := ?_) (by (simp only [List.getElem?_toArray, List.getElem?_cons_succ, List.getElem?_cons_zero]; rfl)) (by kernel_rfl) (by kernel_rfl) (by kernel_rfl) (fun _ _ _ h => h) (Or.inl ⟨by rfl, ?_⟩) (by assumption) ?_
          rotate_left
          · intro wt hSw
            (try dsimp only at hSw)
            go_simp
            (try with_reducible rfl)
          (try simp only [Act.put, List.setIfInBounds_toArray, List.set_cons_zero, List.set_cons_succ])
          refine wpAnyH_done (by kernel_rfl) (NoPanic.normal ?_) _
          go_wp2
          go_meet
          exact ⟨_, _, _, _, rfl, rfl, KN, vn, KX.on Bz, KR.on Bz, KP.on Bz, BF.trans (Bz.mono BF.size)⟩
      case rest =>
        clear KX KR KP BF
        obtain ⟨p, Vn, ln, kn, rfl, rfl, KN, vn, KX, KR, KP, BF⟩ := hcut
        have HVN := Lib.hid vn
        clear vn
        obtain ⟨z, hz, hz1, hz2⟩ : ∃ z : Int, cmpI ((r * r : Nat) : Int) ((X : Nat) : Int) = z ∧ ¬ 0 < z ∧ (z == 0) = sq := by
          refine ⟨_, rfl, ?_, ?_⟩
          · have := HE.out.1
            rcases Nat.lt_or_ge (r * r) X with h | h
            · rw [cmpI_lt (by omega)]; decide
            · rw [cmpI_eq (by omega)]; decide
          · rw [cmpI_zero, ← HSQ.out, HX.out]
        have CC : Hid (∀ wx, Below wc.heap.size wc wx → Calls Tryd.prog 27 #[big false Vp lp.length kp, big false A xs.length c] wx fun e w' => e = .returned (.int .i64 z) ∧ Below wx.heap.size wx w') := Lib.hid (fun wx h => wcmp_lm wx (KP.on h).lm (KX.on h).lm z (by show cmpI ((val W32 lp : Nat) : Int) ((val W32 xs : Nat) : Int) = z; rw [HVP.out, HX.out]; exact hz))
        have HZ := Lib.hid hz
        clear hz
        have a0 := KP.c0
        have a1 := KP.c1
        have a2 := KX.c0
        have a3 := KX.c1
        go_wp2_with fail
        refine (CC.out _ (Below.refl _ _)).mono ?_
        rintro e11 w11 ⟨rfl, b11⟩
        have KX := KX.on b11
        have KR := KR.on b11
        have KP := KP.on b11
        have KN := KN.on b11
        have BF := BF.trans (b11.mono BF.size)
        clear a0 a1 a2 a3
        have a0 := KP.c0
        have a1 := KP.c1
        have a2 := KX.c0
        have a3 := KX.c1
        go_wp2_with fail
        refine (CC.out _ b11).mono ?_
        rintro e12 w12 ⟨rfl, b12⟩
        have KX := KX.on b12
        have KR := KR.on b12
        have KP := KP.on b12
        have KN := KN.on b12
        have BF := BF.trans (b12.mono BF.size)
        clear a0 a1 a2 a3 b11 b12 CC
        have a0 := KN.c0
        have a1 := KN.c1
        go_wp2_with fail
        clear a0 a1
        refine (mul_maybe Vn Vn ln ln kn kn ((r + 1) * (r + 1)) w12 KN.lm KN.lm (by rw [HVN.out])).mono ?_
        rintro e13 w13 ⟨Va, la, ka, er, rfl, ma, sa, b13⟩
        have bb : Below w12.heap.size w12 (w13.alloc (.cells #[.bool false, .slice Va la.length ka] 24)) := b13.alloc b13.size _
        have KX := KX.on bb
        have KR := KR.on bb
        have KP := KP.on bb
        have KN := KN.on bb
        have KQ : Held (w13.alloc (.cells #[.bool false, .slice Va la.length ka] 24)) w13.heap.size false Va la ka := Held.fresh ma
        have BF := BF.trans (bb.mono BF.size)
        clear bb b13 ma
        go_upto_region 11 with fail
        generalize (w13.alloc (.cells #[.bool false, .slice Va la.length ka] 24)) = W14 at *
        go_cut [103] (fun s wx => s = .bool false ∧ Held wx w.heap.size false A xs c ∧ Below w.heap.size w wx)
        case first =>
          have a0 := KQ.c0
          have a1 := KQ.c1
          have a2 := KX.c0
          have a3 := KX.c1
          rcases sa with ⟨rfl, hva⟩ | ⟨rfl, hf⟩
          · have hc : cmpI (sv false (val W32 la)) (sv false (val W32 xs)) = 1 := cmpI_gt (by show ((val W32 xs : Nat) : Int) < ((val W32 la : Nat) : Int); rw [hva, HX.out]; have := HE.out.2; omega)
            have C2 := Lib.hid (wcmp_lm W14 KQ.lm KX.lm 1 hc)
            clear hc hva
            go_wp2_with fail
            refine (C2.out).mono ?_
            rintro e15 w15 ⟨rfl, b15⟩
            go_wp2
            go_meet
            exact ⟨rfl, KX.on b15, BF.trans (b15.mono BF.size)⟩
          · have h1 : W32 ^ 2048 ≤ (r + 1) * (r + 1) := Nat.le_of_not_lt (fun h => hf (fits_iff.2 h))
            rw [show 2048 = 2 * 1024 from rfl] at h1
            have h2 := long_next (B := W32) (k := 1024) (l := xs.length) (by decide) (by decide) HE.out.1 h1 (by rw [← HX.out]; exact val_lt hx)
            have h3 : ¬ (xs.length : Int) < 2048 := by omega
            clear h1 h2 hf
            go_wp2
            go_meet
            exact ⟨rfl, KX, BF⟩
        case rest =>
          clear KX KR KP KN KQ BF sa
          obtain ⟨rfl, KX, BF⟩ := hcut
          have a0 := KX.c0
          have a1 := KX.c1
          go_wp2_with fail
          clear a0 a1
          refine (mul_maybe A A xs xs c c (X * X) wc KX.lm KX.lm (by rw [HX.out])).mono ?_
          rintro e16 w16 ⟨Vs, ls, ks, er2, rfl, ms, ss, b16⟩
          have bb : Below wc.heap.size wc (w16.alloc (.cells #[.bool false, .slice Vs ls.length ks] 24)) := b16.alloc b16.size _
          have KX := KX.on bb
          have KS : Held (w16.alloc (.cells #[.bool false, .slice Vs ls.length ks] 24)) w16.heap.size false Vs ls ks := Held.fresh ms
          have BF := BF.trans (bb.mono BF.size)
          clear bb b16 ms
          rcases ss with ⟨rfl, hvs⟩ | ⟨rfl, hf⟩
          · have HVS := Lib.hid hvs
            clear hvs
            have a0 := KS.c0
            have a1 := KS.c1
            go_wp2_with fail
            generalize (w16.alloc (.cells #[.bool false, .slice Vs ls.length ks] 24)) = W17 at *
            clear a0 a1
            refine (wroot_any Vs ls ks (X * X) W17 KS.lm HVS.out).mono ?_
            rintro e18 w18 ⟨Vt, lt, kt, r2, rfl, mt, vt, e3, e4, b18⟩
            have hrr := root_of_square e3 e4
            have HVT : Hid (val W32 lt = X) := Lib.hid (vt.trans hrr)
            rw [show decide (r2 * r2 = X * X) = true from by rw [hrr]; exact decide_eq_true rfl]
            clear e3 e4 vt hrr
            have bb : Below W17.heap.size W17 (w18.alloc (.cells #[.bool false, .slice Vt lt.length kt] 24)) := b18.alloc b18.size _
            have KX := KX.on bb
            have KS := KS.on bb
            have KT : Held (w18.alloc (.cells #[.bool false, .slice Vt lt.length kt] 24)) w18.heap.size false Vt lt kt := Held.fresh mt
            have BF := BF.trans (bb.mono BF.size)
            clear bb b18 mt
            have a0 := KT.c0
            have a1 := KT.c1
            have a2 := KX.c0
            have a3 := KX.c1
            go_wp2_with fail
            generalize (w18.alloc (.cells #[.bool false, .slice Vt lt.length kt] 24)) = W19 at *
            clear a0 a1 a2 a3
            refine (same_lm W19 KT.lm KX.lm (by show ((val W32 lt : Nat) : Int) = ((val W32 xs : Nat) : Int); rw [HVT.out, HX.out])).mono ?_
            rintro e20 w20 ⟨rfl, b20⟩
            go_wp2
            go_ret
            exact ⟨rfl, BF.trans (b20.mono BF.size)⟩
          · have h1 : W32 ^ 2048 ≤ X * X := Nat.le_of_not_lt (fun h => hf (fits_iff.2 h))
            rw [show 2048 = 2 * 1024 from rfl] at h1
            have h2 := long_square (B := W32) (k := 1024) (l := xs.length) (by decide) h1 (by rw [← HX.out]; exact val_lt hx)
            have h3 : (1024 : Int) < (xs.length : Int) := by omega
            clear h1 h2 hf
            have a0 := KX.c0
            have a1 := KX.c1
            go_wp2
            go_ret
            exact ⟨rfl, BF⟩
    · clear o1
      have a0 := KX.c0
      have a1 := KX.c1
      go_wp2_with fail
      refine (alive_any w2 (tab_below HT.out B2)).mono ?_
      rintro e3 w3 ⟨rfl, q3⟩
      go_wp2
      go_ret
      exact ⟨rfl, B2.trans (q3.mono B2.size)⟩
  · rw [Bool.not_eq_true] at ho
    rw [ho]
    clear ho H1 R1
    go_wp2_with fail
    refine (alive_any w2 (tab_below HT.out B2)).mono ?_
    rintro e3 w3 ⟨rfl, q3⟩
    go_wp2
    go_ret
    exact ⟨rfl, B2.trans (q3.mono B2.size)⟩
end Go.Proofs.YtchfnkfdopbflaaDoor
