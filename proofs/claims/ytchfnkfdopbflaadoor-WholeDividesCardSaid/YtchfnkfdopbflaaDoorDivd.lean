/-
  What the statement on quotients returns: yes. No conditions but that the lists are lists of limbs, and that the table of powers lies where it lies.
-/
import Derived.Test.YtchfnkfdopbflaaDoorDu
import Derived.Deep.RegionHeld3
namespace Go.Proofs.YtchfnkfdopbflaaDoor
open Go.RowKit Nb

set_option maxHeartbeats 8000000 in
set_option maxRecDepth 20000 in
theorem divides_walk (n1 n2 : Bool) (A B : Option Addr) (xs ys : List Nat) (c d : Nat) (w : World) (hr : Sl .u32 w w.heap.size A xs) (hs : Sl .u32 w w.heap.size B ys) (hx : Dig W32 xs) (hy : Dig W32 ys) (htab : Tab w) :
    Calls Tryd.prog 6 #[big n1 A xs.length c, big n2 B ys.length d] w fun e w' => e = .returned (.bool true) ∧ Below w.heap.size w w' := by
  obtain ⟨W, hW, hbW, hzW, R1, R2⟩ := raw_two (n1 := n1) (n2 := n2) (c := c) (d := d) hr hs
  have HT := Lib.hid htab
  have HW := Lib.hid hW
  obtain ⟨b1, hb1⟩ := is_bool (Ok n1 xs)
  obtain ⟨b2, hb2⟩ := is_bool (Ok n2 ys)
  have H1 := Lib.hid hb1
  have H2 := Lib.hid hb2
  clear htab hW hb1 hb2 hr hs
  go_enter Tryd.func6, Tryd.ntmps6
  go_wp2_with fail
  rw [← HW.out]
  refine (alive_any W (tab_below HT.out hbW)).mono ?_
  rintro e1 w1 ⟨rfl, q1⟩
  have R1 := R1.on q1
  have R2 := R2.on q1
  have B1 := hbW.trans (q1.mono hbW.size)
  clear q1 hbW hzW HW
  have a0 := R1.c0
  have a1 := R1.c1
  have a2 := R2.c0
  have a3 := R2.c1
  go_wp2_with fail
  have hal : Below w1.heap.size w1 (w1.alloc (.cells #[.bool n1, .slice A xs.length c, .bool n2, .slice B ys.length d] 24)) := by go_grown
  have S1 := (R1.on hal).sl
  have S2 := (R2.on hal).sl
  refine (may_2 w1.heap.size 2 n1 A xs.length c b1 n2 B ys.length d b2 _ (kind_of n1 A xs _ _ S1 b1 H1.out) (kind_of n2 B ys _ _ S2 b2 H2.out) (by go_cell) (by go_cell) (by go_cell) (by go_cell)).mono ?_
  rintro e2 w2 ⟨rfl, q2⟩
  have q2 := Below.trans hal (q2.mono hal.size)
  have R1 := R1.on q2
  have R2 := R2.on q2
  have B2 := B1.trans (q2.mono B1.size)
  clear a0 a1 a2 a3 hal S1 S2 q2 B1
  by_cases ho : (b1 && b2) = true
  · have ho2 : b1 = true ∧ b2 = true := by simpa [Bool.and_eq_true] using ho
    have o1 := H1.out.1 ho2.1
    have o2 := H2.out.1 ho2.2
    have KX := R1.held hx o1
    have KY := R2.held hy o2
    rw [ho]
    clear ho ho2 H1 H2 R1 R2
    obtain ⟨X, hX⟩ : ∃ X : Int, sv n1 (val W32 xs) = X := ⟨_, rfl⟩
    obtain ⟨Y, hY⟩ : ∃ Y : Int, sv n2 (val W32 ys) = Y := ⟨_, rfl⟩
    have FX := Lib.hid (fits_lm (n := n1) hx o1)
    rw [hX] at FX
    have HX := Lib.hid (And.intro hX hY)
    have a0 := KX.c0
    have a1 := KX.c1
    have a2 := KY.c0
    have a3 := KY.c1
    have hlY : ys.length ≤ 2048 := o2.len
    have CQ := wquorem_any n1 n2 A B xs ys c d w2 KX.lm.sl KY.lm.sl hx hy KX.lm.sz KY.lm.sz (hq_any hx hy)
    rw [hX, hY] at CQ
    have CQ := Lib.hid CQ
    have HO := Lib.hid (And.intro o1 o2)
    clear hX hY o1 o2
    go_wp2_with fail
    refine (CQ.out).mono ?_
    rintro e3 w3 ⟨nq, Aq, lq, cq, nr, Ar, lr, cr, er, rfl, mq, mr, hs3, b3⟩
    clear CQ a0 a1 a2 a3
    have b4 : Below w2.heap.size w2 ((w3.alloc (.cells #[.bool nq, .slice Aq lq.length cq] 24)).alloc (.cells #[.bool nr, .slice Ar lr.length cr] 24)) := (b3.alloc b3.size _).alloc (by have := b3.size; simp; omega) _
    have KQ : Held ((w3.alloc (.cells #[.bool nq, .slice Aq lq.length cq] 24)).alloc (.cells #[.bool nr, .slice Ar lr.length cr] 24)) w3.heap.size nq Aq lq cq := (Held.fresh mq).on (by go_grown)
    have KR : Held ((w3.alloc (.cells #[.bool nq, .slice Aq lq.length cq] 24)).alloc (.cells #[.bool nr, .slice Ar lr.length cr] 24)) (w3.heap.size + 1) nr Ar lr cr := by
      have h := Held.fresh (W := w3.alloc (.cells #[.bool nq, .slice Aq lq.length cq] 24)) (mr.below (by go_grown))
      rw [World.size_alloc] at h
      exact h
    have KX := KX.on b4
    have KY := KY.on b4
    have B4 := B2.trans (b4.mono B2.size)
    clear b3 b4 mq mr B2
    have a2 := KY.c0
    have a3 := KY.c1
    have a4 := KQ.c0
    have a5 := KQ.c1
    have a6 := KR.c0
    have a7 := KR.c1
    have a0 := KX.c0
    have a1 := KX.c1
    by_cases hne : ys = []
    · subst hne
      obtain ⟨her, rfl, rfl, rfl, rfl⟩ : er = 3 ∧ lq = [] ∧ nq = false ∧ lr = [] ∧ nr = false := by
        rcases hs3 with ⟨h, _⟩ | ⟨_, h, h2, h3, h4, h5⟩
        · exact absurd rfl h.2.2
        · exact ⟨h.1 HO.out, h2, h3, h4, h5⟩
      subst her
      clear hs3
      simp only [List.length_nil] at a2 a3 a4 a5 a6 a7 B4 ⊢
      go_wp2
      go_ret
      exact ⟨rfl, B4⟩
    · have hlp : ((ys.length : Int) == 0) = false := beq_false_of_ne (by have := List.length_pos_iff.2 hne; omega)
      obtain ⟨her, hvq, hvr⟩ : er = 0 ∧ sv nq (val W32 lq) = X.tdiv Y ∧ sv nr (val W32 lr) = X.tmod Y := by
        rcases hs3 with ⟨_, h⟩ | ⟨h, _⟩
        · exact h
        · exact absurd ⟨HO.out.1, HO.out.2, hne⟩ h
      subst her
      clear hs3
      have hsz := rem_size (n1 := n1) (n2 := n2) (xs := xs) (ys := ys) (m := nr) (ms := lr) (by rw [hvr, HX.out.1, HX.out.2])
      have hsg := rem_sign (n1 := n1) (n2 := n2) (xs := xs) (ys := ys) (m := nr) (ms := lr) (by rw [hvr, HX.out.1, HX.out.2])
      have hyp : 0 < val W32 ys := Nat.pos_of_ne_zero fun h => hne ((norm_zero (B := W32) (by decide) HO.out.2.norm).1 h)
      have hlt : val W32 lr < val W32 ys := by rw [hsz]; exact Nat.mod_lt _ hyp
      have hlt' : cmpI (sv false (val W32 lr)) (sv false (val W32 ys)) = -1 := cmpI_lt (by show ((val W32 lr : Nat) : Int) < ((val W32 ys : Nat) : Int); omega)
      have HB4 := Lib.hid B4
      clear B4
      go_wp2_with fail
      have hz3 : ((w3.alloc (.cells #[.bool nq, .slice Aq lq.length cq] 24)).alloc (.cells #[.bool nr, .slice Ar lr.length cr] 24)).heap.size = w3.heap.size + 1 + 1 := by go_size
      generalize ((w3.alloc (.cells #[.bool nq, .slice Aq lq.length cq] 24)).alloc (.cells #[.bool nr, .slice Ar lr.length cr] 24)) = W3 at *
      rw [← hz3]
      have CC := Lib.hid (fun (V : World) (h : Below W3.heap.size W3 V) => wcmp_lm V (KR.on h).lm.size_ (KY.on h).lm.size_ (-1) hlt')
      have CS := Lib.hid (fun (V : World) (h : Below W3.heap.size W3 V) => wsign_u nr Ar lr cr V (KR.on h).lm.sl (KR.on h).lm.dig (KR.on h).lm.sz)
      have hF1 : Fits (X.tdiv Y * Y) := fits_abs FX.out (quo_le X Y)
      have hF2 : Fits (X.tdiv Y * Y + X.tmod Y) := by rw [quo_back]; exact FX.out
      have F1 := Lib.hid hF1
      have F2 := Lib.hid hF2
      have HVQ := Lib.hid hvq
      have HVR := Lib.hid hvr
      have HLE := Lib.hid (And.intro hsg hne)
      have hlr : lr.length ≤ 2048 := KR.lm.ok.len
      clear hsz hsg hyp hlt hlt' hF1 hF2 hvq hvr hne
      have hal : Below W3.heap.size W3 (W3.alloc (.cells #[.bool nq, .slice Aq lq.length cq, .bool nr, .slice Ar lr.length cr] 24)) := by go_grown
      refine (may_2 W3.heap.size 2 nq Aq lq.length cq true nr Ar lr.length cr true _ (kind_of nq Aq lq _ _ (KQ.on hal).lm.sl true (ok_yes KQ.lm.ok)) (kind_of nr Ar lr _ _ (KR.on hal).lm.sl true (ok_yes KR.lm.ok)) (by go_cell) (by go_cell) (by go_cell) (by go_cell)).mono ?_
      rintro e4 w4 ⟨rfl, q4⟩
      have q4 := hal.trans (q4.mono hal.size)
      have KX4 := KX.on q4
      have KY4 := KY.on q4
      have KR4 := KR.on q4
      clear a0 a1 a2 a3 a4 a5 a6 a7 hal
      have a0 := KX4.c0
      have a6 := KR4.c0
      have a7 := KR4.c1
      have CS4 := CS.out w4 q4
      have hfr : sgnV nr lr = 0 ∧ lr = [] ∨ (sgnV nr lr == 0) = false ∧ nr = n1 := by
        by_cases h0 : val W32 lr = 0
        · left
          have h1 := (norm_zero (B := W32) (by decide) KR.lm.ok.norm).1 h0
          refine ⟨?_, h1⟩
          rw [sgn_cmp KR.lm.ok KR.lm.dig, h1]
          exact cmpI_eq (by cases nr <;> rfl)
        · right
          refine ⟨beq_false_of_ne ?_, HLE.out.1 h0⟩
          rw [sgn_cmp KR.lm.ok KR.lm.dig]
          cases nr
          · rw [cmpI_gt (show (0 : Int) < sv false (val W32 lr) from by show (0 : Int) < ((val W32 lr : Nat) : Int); omega)]
            decide
          · rw [cmpI_lt (show sv true (val W32 lr) < 0 from by show -((val W32 lr : Nat) : Int) < 0; omega)]
            decide
      obtain ⟨sg, hsg⟩ : ∃ sg, sgnV nr lr = sg := ⟨_, rfl⟩
      rw [hsg] at CS4 hfr
      have CS4 := Lib.hid CS4
      clear hsg
      have KK := Lib.hid (And.intro KX4 (And.intro KY4 KR4))
      clear KX4 KY4 KR4
      have Q4 := Lib.hid q4
      clear q4
      go_wp2_with fail
      refine (CS4.out).mono ?_
      rintro e5 w5 ⟨rfl, q5⟩
      have q5 := (Q4.out).trans (q5.mono (Q4.out).size)
      have KX5 := KX.on q5
      have KY5 := KY.on q5
      have KR5 := KR.on q5
      clear a0 a6 a7
      have a0 := KX5.c0
      have a3 := KY5.c1
      have a6 := KR5.c0
      have a7 := KR5.c1
      have CC5 := Lib.hid (CC.out w5 q5)
      have Q5 := Lib.hid q5
      clear q5 KX5 KY5 KR5
      rcases hfr with ⟨rfl, hr0⟩ | ⟨hr0, hr1⟩
      · have HR0 := Lib.hid hr0
        clear hr0
        go_wp2_with fail
        refine (CC5.out).mono ?_
        rintro e6 w6 ⟨rfl, q6⟩
        have q6 := (Q5.out).trans (q6.mono (Q5.out).size)
        have b7 : Below W3.heap.size W3 (w6.alloc (.cells #[.bool true] 4)) := q6.alloc q6.size _
        have KX7 := KX.on b7
        have KY7 := KY.on b7
        have KQ7 := KQ.on b7
        have KR7 := KR.on b7
        have MK := Mk.new w6
        have BF := (HB4.out).trans (b7.mono (HB4.out).size)
        clear a0 a3 a6 a7 q6 b7 CC5 Q5
        go_wp2_with fail
        generalize w6.alloc (.cells #[.bool true] 4) = W7 at *
        go_cut [9] (fun s wx => ∃ (q : Nat) (m : Bool) (V : Option Addr) (l : List Nat) (k : Nat), s = .pointer (some ⟨q, 0, none⟩) ∧ Held wx q m V l k ∧ sv m (val W32 l) = X ∧ Mk wx w6.heap.size ∧ Held wx w.heap.size n1 A xs c ∧ Below w.heap.size w wx)
        case first =>
          have a0 := KQ7.c0
          have a1 := KQ7.c1
          have a2 := KY7.c0
          have a3 := KY7.c1
          have a4 := KR7.c0
          have a5 := KR7.c1
          refine wp_region_noPanic ?_
          have B0 : Below W7.heap.size W7 W7.drew := (Below.refl _ _).drew
          refine wp_region_held_drew (S := (fun wx => Below W7.heap.size W7 wx ∧ wx.cell? ⟨w3.heap.size, 0, none⟩ = some (.bool nq) ∧ wx.cell? ⟨w3.heap.size, 1, none⟩ = some (.slice Aq lq.length cq) ∧ wx.cell? ⟨w.heap.size + 1, 0, none⟩ = some (.bool n2) ∧ wx.cell? ⟨w.heap.size + 1, 1, none⟩ = some (.slice B ys.length d) ∧ wx.cell? ⟨w3.heap.size + 1, 0, none⟩ = some (.bool nr) ∧ wx.cell? ⟨w3.heap.size + 1, 1, none⟩ = some (.slice Ar lr.length cr))) (by kernel_rfl) ⟨B0, (KQ7.on B0).c0, (KQ7.on B0).c1, (KY7.on B0).c0, (KY7.on B0).c1, (KR7.on B0).c0, (KR7.on B0).c1⟩ (fun hHeld => ?_)
          generalize W7.drew = Vd at *
          refine wpAnyH_take (i := 0) (v := ?_) (by (simp only [List.getElem?_toArray, List.getElem?_cons_succ, List.getElem?_cons_zero]; rfl)) (by kernel_rfl) (by kernel_rfl) (by kernel_rfl) (fun _ _ _ h => h) (Or.inl ⟨by rfl, ?_⟩) (by assumption) ?_
          rotate_left
          · intro wt hSw
            (try dsimp only at hSw)
            go_simp
            (try with_reducible rfl)
          (try simp only [Act.put, List.setIfInBounds_toArray, List.set_cons_zero, List.set_cons_succ])
          refine wpAnyH_take (i := 1) (v := ?_) (by (simp only [List.getElem?_toArray, List.getElem?_cons_succ, List.getElem?_cons_zero]; rfl)) (by kernel_rfl) (by kernel_rfl) (by kernel_rfl) (fun _ _ _ h => h) (Or.inl ⟨by rfl, ?_⟩) (by assumption) ?_
          rotate_left
          · intro wt hSw
            (try dsimp only at hSw)
            go_simp
            (try with_reducible rfl)
          (try simp only [Act.put, List.setIfInBounds_toArray, List.set_cons_zero, List.set_cons_succ])
          refine wpAnyH_take (i := 3) (v := ?_) (by (simp only [List.getElem?_toArray, List.getElem?_cons_succ, List.getElem?_cons_zero]; rfl)) (by kernel_rfl) (by kernel_rfl) (by kernel_rfl) (fun _ _ _ h => h) (Or.inl ⟨by rfl, ?_⟩) (by assumption) ?_
          rotate_left
          · intro wt hSw
            (try dsimp only at hSw)
            go_simp
            (try with_reducible rfl)
          (try simp only [Act.put, List.setIfInBounds_toArray, List.set_cons_zero, List.set_cons_succ])
          refine wpAnyH_ready (rs := [2, 5]) (by kernel_rfl) (by simp) (AllReadyH.cons (by (simp only [List.getElem?_toArray, List.getElem?_cons_succ, List.getElem?_cons_zero]; rfl)) (fun K hK => ?_) (AllReadyH.cons (by (simp only [List.getElem?_toArray, List.getElem?_cons_succ, List.getElem?_cons_zero]; rfl)) (fun K hK => ?_) AllReadyH.nil))
          · go_simp
            (go_at_call 23; (with_reducible refine (Mk.times (MK.on B0) ((KQ7.on B0).lm) ((KY7.on B0).lm) HVQ.out HX.out.2 F1.out).mono ?_))
            rintro e5 wc0 ⟨m0, V0, l0, c0, rfl, L0, v0, hb⟩
            (try go_wp2_with fail)
            have B1 := B0.trans (hb.mono B0.size)
            refine hK.out _ _ ⟨B1, (KQ7.on B1).c0, (KQ7.on B1).c1, (KY7.on B1).c0, (KY7.on B1).c1, (KR7.on B1).c0, (KR7.on B1).c1⟩ (fun hHeld => ?_)
            clear hK
            (try simp only [Act.put, List.setIfInBounds_toArray, List.set_cons_zero, List.set_cons_succ])
            refine wpAnyH_ready (rs := [4, 5]) (by kernel_rfl) (by simp) (AllReadyH.cons (by (simp only [List.getElem?_toArray, List.getElem?_cons_succ, List.getElem?_cons_zero]; rfl)) (fun K hK => ?_) (AllReadyH.cons (by (simp only [List.getElem?_toArray, List.getElem?_cons_succ, List.getElem?_cons_zero]; rfl)) (fun K hK => ?_) AllReadyH.nil))
            · go_simp
              (go_at_call 24; (with_reducible refine (Mk.sum (MK.on B1) (L0) ((KR7.on B1).lm) v0 HVR.out F2.out).mono ?_))
              rintro e5 wc1 ⟨m1, V1, l1, c1, rfl, L1, v1, hb⟩
              (try go_wp2_with fail)
              have B2 := B1.trans (hb.mono B1.size)
              have L0 := L0.below hb
              refine hK.out _ _ ⟨B2, (KQ7.on B2).c0, (KQ7.on B2).c1, (KY7.on B2).c0, (KY7.on B2).c1, (KR7.on B2).c0, (KR7.on B2).c1⟩ (fun hHeld => ?_)
              clear hK
              (try simp only [Act.put, List.setIfInBounds_toArray, List.set_cons_zero, List.set_cons_succ])
              refine wpAnyH_ready (rs := [5]) (by kernel_rfl) (by simp) (AllReadyH.cons (by (simp only [List.getElem?_toArray, List.getElem?_cons_succ, List.getElem?_cons_zero]; rfl)) (fun K hK => ?_) AllReadyH.nil)
              have Lz := L1
              go_simp
              have B3 := B2.alloc B2.size (.cells #[.bool false, .slice none 0 0] 24)
              have hrm : Rest (wc1.alloc (.cells #[.bool false, .slice none 0 0] 24)) wc1.heap.size := Rest.newI wc1
              have hlr : W7.heap.size ≤ wc1.heap.size := B2.size
              have L0 := L0.below (((Below.refl _ _).alloc (Nat.le_refl _) (.cells #[.bool false, .slice none 0 0] 24) : Below wc1.heap.size wc1 (wc1.alloc (.cells #[.bool false, .slice none 0 0] 24))))
              have L1 := L1.below (((Below.refl _ _).alloc (Nat.le_refl _) (.cells #[.bool false, .slice none 0 0] 24) : Below wc1.heap.size wc1 (wc1.alloc (.cells #[.bool false, .slice none 0 0] 24))))
              refine hK.out _ _ ⟨B3, (KQ7.on B3).c0, (KQ7.on B3).c1, (KY7.on B3).c0, (KY7.on B3).c1, (KR7.on B3).c0, (KR7.on B3).c1⟩ (fun hHeld => ?_)
              clear hK
              (try simp only [Act.put, List.setIfInBounds_toArray, List.set_cons_zero, List.set_cons_succ])
              have g0 := hrm.r0
              have g1 := hrm.r1
              have g2 := hrm.f0
              have g3 := hrm.f1
              refine wpAnyH_ready (rs := [6]) (by kernel_rfl) (by simp) (AllReadyH.cons (by (simp only [List.getElem?_toArray, List.getElem?_cons_succ, List.getElem?_cons_zero]; rfl)) (fun K hK => ?_) AllReadyH.nil)
              go_simp
              have Bz := B2.alloc (o := .cells #[.bool m1, .slice V1 l1.length c1] 24) B2.size
              refine hK.out _ _ ⟨Bz, (KQ7.on Bz).c0, (KQ7.on Bz).c1, (KY7.on Bz).c0, (KY7.on Bz).c1, (KR7.on Bz).c0, (KR7.on Bz).c1⟩ (fun hHeld => ?_)
              clear hK
              (try simp only [Act.put, List.setIfInBounds_toArray, List.set_cons_zero, List.set_cons_succ])
              refine wpAnyH_done (by kernel_rfl) (NoPanic.normal ?_) _
              go_wp2
              go_meet
              exact ⟨_, _, _, _, _, rfl, Held.fresh Lz, by rw [v1]; exact quo_back X Y, MK.on Bz, KX7.on Bz, BF.trans (Bz.mono BF.size)⟩
            · go_simp
              have B2 := B1.alloc B1.size (.cells #[.bool false, .slice none 0 0] 24)
              have hrm : Rest (wc0.alloc (.cells #[.bool false, .slice none 0 0] 24)) wc0.heap.size := Rest.newI wc0
              have hlr : W7.heap.size ≤ wc0.heap.size := B1.size
              have L0 := L0.below (((Below.refl _ _).alloc (Nat.le_refl _) (.cells #[.bool false, .slice none 0 0] 24) : Below wc0.heap.size wc0 (wc0.alloc (.cells #[.bool false, .slice none 0 0] 24))))
              refine hK.out _ _ ⟨B2, (KQ7.on B2).c0, (KQ7.on B2).c1, (KY7.on B2).c0, (KY7.on B2).c1, (KR7.on B2).c0, (KR7.on B2).c1⟩ (fun hHeld => ?_)
              clear hK
              (try simp only [Act.put, List.setIfInBounds_toArray, List.set_cons_zero, List.set_cons_succ])
              refine wpAnyH_ready (rs := [4]) (by kernel_rfl) (by simp) (AllReadyH.cons (by (simp only [List.getElem?_toArray, List.getElem?_cons_succ, List.getElem?_cons_zero]; rfl)) (fun K hK => ?_) AllReadyH.nil)
              go_simp
              (go_at_call 24; (with_reducible refine (Mk.sum (MK.on B2) (L0) ((KR7.on B2).lm) v0 HVR.out F2.out).mono ?_))
              rintro e5 wc1 ⟨m1, V1, l1, c1, rfl, L1, v1, hb⟩
              (try go_wp2_with fail)
              have B3 := B2.trans (hb.mono B2.size)
              have L0 := L0.below hb
              have hrm := hrm.on hb
              refine hK.out _ _ ⟨B3, (KQ7.on B3).c0, (KQ7.on B3).c1, (KY7.on B3).c0, (KY7.on B3).c1, (KR7.on B3).c0, (KR7.on B3).c1⟩ (fun hHeld => ?_)
              clear hK
              (try simp only [Act.put, List.setIfInBounds_toArray, List.set_cons_zero, List.set_cons_succ])
              have g0 := hrm.r0
              have g1 := hrm.r1
              have g2 := hrm.f0
              have g3 := hrm.f1
              refine wpAnyH_ready (rs := [6]) (by kernel_rfl) (by simp) (AllReadyH.cons (by (simp only [List.getElem?_toArray, List.getElem?_cons_succ, List.getElem?_cons_zero]; rfl)) (fun K hK => ?_) AllReadyH.nil)
              go_simp
              have Bz := (B3.setCell (p := ⟨_, 0, none⟩) hlr (.bool m1)).setCell (p := ⟨_, 1, none⟩) hlr (.slice V1 l1.length c1)
              refine hK.out _ _ ⟨Bz, (KQ7.on Bz).c0, (KQ7.on Bz).c1, (KY7.on Bz).c0, (KY7.on Bz).c1, (KR7.on Bz).c0, (KR7.on Bz).c1⟩ (fun hHeld => ?_)
              clear hK
              (try simp only [Act.put, List.setIfInBounds_toArray, List.set_cons_zero, List.set_cons_succ])
              refine wpAnyH_done (by kernel_rfl) (NoPanic.normal ?_) _
              go_wp2
              go_meet
              exact ⟨_, _, _, _, _, rfl, Held.new hrm L1, by rw [v1]; exact quo_back X Y, MK.on Bz, KX7.on Bz, BF.trans (Bz.mono BF.size)⟩
          · go_simp
            have B1 := B0.alloc B0.size (.cells #[.bool false, .slice none 0 0] 24)
            have hrm : Rest (Vd.alloc (.cells #[.bool false, .slice none 0 0] 24)) Vd.heap.size := Rest.newI Vd
            have hlr : W7.heap.size ≤ Vd.heap.size := B0.size
            refine hK.out _ _ ⟨B1, (KQ7.on B1).c0, (KQ7.on B1).c1, (KY7.on B1).c0, (KY7.on B1).c1, (KR7.on B1).c0, (KR7.on B1).c1⟩ (fun hHeld => ?_)
            clear hK
            (try simp only [Act.put, List.setIfInBounds_toArray, List.set_cons_zero, List.set_cons_succ])
            refine wpAnyH_ready (rs := [2]) (by kernel_rfl) (by simp) (AllReadyH.cons (by (simp only [List.getElem?_toArray, List.getElem?_cons_succ, List.getElem?_cons_zero]; rfl)) (fun K hK => ?_) AllReadyH.nil)
            go_simp
            (go_at_call 23; (with_reducible refine (Mk.times (MK.on B1) ((KQ7.on B1).lm) ((KY7.on B1).lm) HVQ.out HX.out.2 F1.out).mono ?_))
            rintro e5 wc0 ⟨m0, V0, l0, c0, rfl, L0, v0, hb⟩
            (try go_wp2_with fail)
            have B2 := B1.trans (hb.mono B1.size)
            have hrm := hrm.on hb
            refine hK.out _ _ ⟨B2, (KQ7.on B2).c0, (KQ7.on B2).c1, (KY7.on B2).c0, (KY7.on B2).c1, (KR7.on B2).c0, (KR7.on B2).c1⟩ (fun hHeld => ?_)
            clear hK
            (try simp only [Act.put, List.setIfInBounds_toArray, List.set_cons_zero, List.set_cons_succ])
            refine wpAnyH_ready (rs := [4]) (by kernel_rfl) (by simp) (AllReadyH.cons (by (simp only [List.getElem?_toArray, List.getElem?_cons_succ, List.getElem?_cons_zero]; rfl)) (fun K hK => ?_) AllReadyH.nil)
            go_simp
            (go_at_call 24; (with_reducible refine (Mk.sum (MK.on B2) (L0) ((KR7.on B2).lm) v0 HVR.out F2.out).mono ?_))
            rintro e5 wc1 ⟨m1, V1, l1, c1, rfl, L1, v1, hb⟩
            (try go_wp2_with fail)
            have B3 := B2.trans (hb.mono B2.size)
            have L0 := L0.below hb
            have hrm := hrm.on hb
            refine hK.out _ _ ⟨B3, (KQ7.on B3).c0, (KQ7.on B3).c1, (KY7.on B3).c0, (KY7.on B3).c1, (KR7.on B3).c0, (KR7.on B3).c1⟩ (fun hHeld => ?_)
            clear hK
            (try simp only [Act.put, List.setIfInBounds_toArray, List.set_cons_zero, List.set_cons_succ])
            have g0 := hrm.r0
            have g1 := hrm.r1
            have g2 := hrm.f0
            have g3 := hrm.f1
            refine wpAnyH_ready (rs := [6]) (by kernel_rfl) (by simp) (AllReadyH.cons (by (simp only [List.getElem?_toArray, List.getElem?_cons_succ, List.getElem?_cons_zero]; rfl)) (fun K hK => ?_) AllReadyH.nil)
            go_simp
            have Bz := (B3.setCell (p := ⟨_, 0, none⟩) hlr (.bool m1)).setCell (p := ⟨_, 1, none⟩) hlr (.slice V1 l1.length c1)
            refine hK.out _ _ ⟨Bz, (KQ7.on Bz).c0, (KQ7.on Bz).c1, (KY7.on Bz).c0, (KY7.on Bz).c1, (KR7.on Bz).c0, (KR7.on Bz).c1⟩ (fun hHeld => ?_)
            clear hK
            (try simp only [Act.put, List.setIfInBounds_toArray, List.set_cons_zero, List.set_cons_succ])
            refine wpAnyH_done (by kernel_rfl) (NoPanic.normal ?_) _
            go_wp2
            go_meet
            exact ⟨_, _, _, _, _, rfl, Held.new hrm L1, by rw [v1]; exact quo_back X Y, MK.on Bz, KX7.on Bz, BF.trans (Bz.mono BF.size)⟩
        case rest =>
          obtain ⟨q9, m9, V9, l9, k9, rfl, K9, e9, M9, KX9, BF9⟩ := hcut
          have CS9 := Lib.hid (same_lm _ K9.lm KX9.lm (e9.trans HX.out.1.symm))
          have o9 := M9.on_
          have b1 := K9.c0
          have b2 := K9.c1
          have b3 := KX9.c0
          have b4 := KX9.c1
          go_wp2_with fail
          refine (CS9.out).mono ?_
          rintro e7 w9 ⟨rfl, hb⟩
          go_wp2
          go_ret
          exact ⟨rfl, BF9.trans (hb.mono BF9.size)⟩
      · have hr2 : ¬ sg = 0 := by simpa using hr0
        have hr3 : (sg != 0) = true := by simpa using hr0
        have hr4 : decide (sg = 0) = false := by simpa using hr0
        rw [hr1] at a6
        have HR0 := Lib.hid hr1
        clear hr1
        go_wp2_with fail
        refine (CC5.out).mono ?_
        rintro e6 w6 ⟨rfl, q6⟩
        have q6 := (Q5.out).trans (q6.mono (Q5.out).size)
        have b7 : Below W3.heap.size W3 (w6.alloc (.cells #[.bool true] 4)) := q6.alloc q6.size _
        have KX7 := KX.on b7
        have KY7 := KY.on b7
        have KQ7 := KQ.on b7
        have KR7 := KR.on b7
        have MK := Mk.new w6
        have BF := (HB4.out).trans (b7.mono (HB4.out).size)
        clear a0 a3 a6 a7 q6 b7 CC5 Q5
        go_wp2_with fail
        generalize w6.alloc (.cells #[.bool true] 4) = W7 at *
        go_cut [9] (fun s wx => ∃ (q : Nat) (m : Bool) (V : Option Addr) (l : List Nat) (k : Nat), s = .pointer (some ⟨q, 0, none⟩) ∧ Held wx q m V l k ∧ sv m (val W32 l) = X ∧ Mk wx w6.heap.size ∧ Held wx w.heap.size n1 A xs c ∧ Below w.heap.size w wx)
        case first =>
          have a0 := KQ7.c0
          have a1 := KQ7.c1
          have a2 := KY7.c0
          have a3 := KY7.c1
          have a4 := KR7.c0
          have a5 := KR7.c1
          refine wp_region_noPanic ?_
          have B0 : Below W7.heap.size W7 W7.drew := (Below.refl _ _).drew
          refine wp_region_held_drew (S := (fun wx => Below W7.heap.size W7 wx ∧ wx.cell? ⟨w3.heap.size, 0, none⟩ = some (.bool nq) ∧ wx.cell? ⟨w3.heap.size, 1, none⟩ = some (.slice Aq lq.length cq) ∧ wx.cell? ⟨w.heap.size + 1, 0, none⟩ = some (.bool n2) ∧ wx.cell? ⟨w.heap.size + 1, 1, none⟩ = some (.slice B ys.length d) ∧ wx.cell? ⟨w3.heap.size + 1, 0, none⟩ = some (.bool nr) ∧ wx.cell? ⟨w3.heap.size + 1, 1, none⟩ = some (.slice Ar lr.length cr))) (by kernel_rfl) ⟨B0, (KQ7.on B0).c0, (KQ7.on B0).c1, (KY7.on B0).c0, (KY7.on B0).c1, (KR7.on B0).c0, (KR7.on B0).c1⟩ (fun hHeld => ?_)
          generalize W7.drew = Vd at *
          refine wpAnyH_take (i := 0) (v := ?_) (by (simp only [List.getElem?_toArray, List.getElem?_cons_succ, List.getElem?_cons_zero]; rfl)) (by kernel_rfl) (by kernel_rfl) (by kernel_rfl) (fun _ _ _ h => h) (Or.inl ⟨by rfl, ?_⟩) (by assumption) ?_
          rotate_left
          · intro wt hSw
            (try dsimp only at hSw)
            go_simp
            (try with_reducible rfl)
          (try simp only [Act.put, List.setIfInBounds_toArray, List.set_cons_zero, List.set_cons_succ])
          refine wpAnyH_take (i := 1) (v := ?_) (by (simp only [List.getElem?_toArray, List.getElem?_cons_succ, List.getElem?_cons_zero]; rfl)) (by kernel_rfl) (by kernel_rfl) (by kernel_rfl) (fun _ _ _ h => h) (Or.inl ⟨by rfl, ?_⟩) (by assumption) ?_
          rotate_left
          · intro wt hSw
            (try dsimp only at hSw)
            go_simp
            (try with_reducible rfl)
          (try simp only [Act.put, List.setIfInBounds_toArray, List.set_cons_zero, List.set_cons_succ])
          refine wpAnyH_take (i := 3) (v := ?_) (by (simp only [List.getElem?_toArray, List.getElem?_cons_succ, List.getElem?_cons_zero]; rfl)) (by kernel_rfl) (by kernel_rfl) (by kernel_rfl) (fun _ _ _ h => h) (Or.inl ⟨by rfl, ?_⟩) (by assumption) ?_
          rotate_left
          · intro wt hSw
            (try dsimp only at hSw)
            go_simp
            (try with_reducible rfl)
          (try simp only [Act.put, List.setIfInBounds_toArray, List.set_cons_zero, List.set_cons_succ])
          refine wpAnyH_ready (rs := [2, 5]) (by kernel_rfl) (by simp) (AllReadyH.cons (by (simp only [List.getElem?_toArray, List.getElem?_cons_succ, List.getElem?_cons_zero]; rfl)) (fun K hK => ?_) (AllReadyH.cons (by (simp only [List.getElem?_toArray, List.getElem?_cons_succ, List.getElem?_cons_zero]; rfl)) (fun K hK => ?_) AllReadyH.nil))
          · go_simp
            (go_at_call 23; (with_reducible refine (Mk.times (MK.on B0) ((KQ7.on B0).lm) ((KY7.on B0).lm) HVQ.out HX.out.2 F1.out).mono ?_))
            rintro e5 wc0 ⟨m0, V0, l0, c0, rfl, L0, v0, hb⟩
            (try go_wp2_with fail)
            have B1 := B0.trans (hb.mono B0.size)
            refine hK.out _ _ ⟨B1, (KQ7.on B1).c0, (KQ7.on B1).c1, (KY7.on B1).c0, (KY7.on B1).c1, (KR7.on B1).c0, (KR7.on B1).c1⟩ (fun hHeld => ?_)
            clear hK
            (try simp only [Act.put, List.setIfInBounds_toArray, List.set_cons_zero, List.set_cons_succ])
            refine wpAnyH_ready (rs := [4, 5]) (by kernel_rfl) (by simp) (AllReadyH.cons (by (simp only [List.getElem?_toArray, List.getElem?_cons_succ, List.getElem?_cons_zero]; rfl)) (fun K hK => ?_) (AllReadyH.cons (by (simp only [List.getElem?_toArray, List.getElem?_cons_succ, List.getElem?_cons_zero]; rfl)) (fun K hK => ?_) AllReadyH.nil))
            · go_simp
              (go_at_call 24; (with_reducible refine (Mk.sum (MK.on B1) (L0) ((KR7.on B1).lm) v0 HVR.out F2.out).mono ?_))
              rintro e5 wc1 ⟨m1, V1, l1, c1, rfl, L1, v1, hb⟩
              (try go_wp2_with fail)
              have B2 := B1.trans (hb.mono B1.size)
              have L0 := L0.below hb
              refine hK.out _ _ ⟨B2, (KQ7.on B2).c0, (KQ7.on B2).c1, (KY7.on B2).c0, (KY7.on B2).c1, (KR7.on B2).c0, (KR7.on B2).c1⟩ (fun hHeld => ?_)
              clear hK
              (try simp only [Act.put, List.setIfInBounds_toArray, List.set_cons_zero, List.set_cons_succ])
              refine wpAnyH_ready (rs := [5]) (by kernel_rfl) (by simp) (AllReadyH.cons (by (simp only [List.getElem?_toArray, List.getElem?_cons_succ, List.getElem?_cons_zero]; rfl)) (fun K hK => ?_) AllReadyH.nil)
              have Lz := L1
              go_simp
              have B3 := B2.alloc B2.size (.cells #[.bool false, .slice none 0 0] 24)
              have hrm : Rest (wc1.alloc (.cells #[.bool false, .slice none 0 0] 24)) wc1.heap.size := Rest.newI wc1
              have hlr : W7.heap.size ≤ wc1.heap.size := B2.size
              have L0 := L0.below (((Below.refl _ _).alloc (Nat.le_refl _) (.cells #[.bool false, .slice none 0 0] 24) : Below wc1.heap.size wc1 (wc1.alloc (.cells #[.bool false, .slice none 0 0] 24))))
              have L1 := L1.below (((Below.refl _ _).alloc (Nat.le_refl _) (.cells #[.bool false, .slice none 0 0] 24) : Below wc1.heap.size wc1 (wc1.alloc (.cells #[.bool false, .slice none 0 0] 24))))
              refine hK.out _ _ ⟨B3, (KQ7.on B3).c0, (KQ7.on B3).c1, (KY7.on B3).c0, (KY7.on B3).c1, (KR7.on B3).c0, (KR7.on B3).c1⟩ (fun hHeld => ?_)
              clear hK
              (try simp only [Act.put, List.setIfInBounds_toArray, List.set_cons_zero, List.set_cons_succ])
              have g0 := hrm.r0
              have g1 := hrm.r1
              have g2 := hrm.f0
              have g3 := hrm.f1
              refine wpAnyH_ready (rs := [6]) (by kernel_rfl) (by simp) (AllReadyH.cons (by (simp only [List.getElem?_toArray, List.getElem?_cons_succ, List.getElem?_cons_zero]; rfl)) (fun K hK => ?_) AllReadyH.nil)
              go_simp
              have Bz := B2.alloc (o := .cells #[.bool m1, .slice V1 l1.length c1] 24) B2.size
              refine hK.out _ _ ⟨Bz, (KQ7.on Bz).c0, (KQ7.on Bz).c1, (KY7.on Bz).c0, (KY7.on Bz).c1, (KR7.on Bz).c0, (KR7.on Bz).c1⟩ (fun hHeld => ?_)
              clear hK
              (try simp only [Act.put, List.setIfInBounds_toArray, List.set_cons_zero, List.set_cons_succ])
              refine wpAnyH_done (by kernel_rfl) (NoPanic.normal ?_) _
              go_wp2
              go_meet
              exact ⟨_, _, _, _, _, rfl, Held.fresh Lz, by rw [v1]; exact quo_back X Y, MK.on Bz, KX7.on Bz, BF.trans (Bz.mono BF.size)⟩
            · go_simp
              have B2 := B1.alloc B1.size (.cells #[.bool false, .slice none 0 0] 24)
              have hrm : Rest (wc0.alloc (.cells #[.bool false, .slice none 0 0] 24)) wc0.heap.size := Rest.newI wc0
              have hlr : W7.heap.size ≤ wc0.heap.size := B1.size
              have L0 := L0.below (((Below.refl _ _).alloc (Nat.le_refl _) (.cells #[.bool false, .slice none 0 0] 24) : Below wc0.heap.size wc0 (wc0.alloc (.cells #[.bool false, .slice none 0 0] 24))))
              refine hK.out _ _ ⟨B2, (KQ7.on B2).c0, (KQ7.on B2).c1, (KY7.on B2).c0, (KY7.on B2).c1, (KR7.on B2).c0, (KR7.on B2).c1⟩ (fun hHeld => ?_)
              clear hK
              (try simp only [Act.put, List.setIfInBounds_toArray, List.set_cons_zero, List.set_cons_succ])
              refine wpAnyH_ready (rs := [4]) (by kernel_rfl) (by simp) (AllReadyH.cons (by (simp only [List.getElem?_toArray, List.getElem?_cons_succ, List.getElem?_cons_zero]; rfl)) (fun K hK => ?_) AllReadyH.nil)
              go_simp
              (go_at_call 24; (with_reducible refine (Mk.sum (MK.on B2) (L0) ((KR7.on B2).lm) v0 HVR.out F2.out).mono ?_))
              rintro e5 wc1 ⟨m1, V1, l1, c1, rfl, L1, v1, hb⟩
              (try go_wp2_with fail)
              have B3 := B2.trans (hb.mono B2.size)
              have L0 := L0.below hb
              have hrm := hrm.on hb
              refine hK.out _ _ ⟨B3, (KQ7.on B3).c0, (KQ7.on B3).c1, (KY7.on B3).c0, (KY7.on B3).c1, (KR7.on B3).c0, (KR7.on B3).c1⟩ (fun hHeld => ?_)
              clear hK
              (try simp only [Act.put, List.setIfInBounds_toArray, List.set_cons_zero, List.set_cons_succ])
              have g0 := hrm.r0
              have g1 := hrm.r1
              have g2 := hrm.f0
              have g3 := hrm.f1
              refine wpAnyH_ready (rs := [6]) (by kernel_rfl) (by simp) (AllReadyH.cons (by (simp only [List.getElem?_toArray, List.getElem?_cons_succ, List.getElem?_cons_zero]; rfl)) (fun K hK => ?_) AllReadyH.nil)
              go_simp
              have Bz := (B3.setCell (p := ⟨_, 0, none⟩) hlr (.bool m1)).setCell (p := ⟨_, 1, none⟩) hlr (.slice V1 l1.length c1)
              refine hK.out _ _ ⟨Bz, (KQ7.on Bz).c0, (KQ7.on Bz).c1, (KY7.on Bz).c0, (KY7.on Bz).c1, (KR7.on Bz).c0, (KR7.on Bz).c1⟩ (fun hHeld => ?_)
              clear hK
              (try simp only [Act.put, List.setIfInBounds_toArray, List.set_cons_zero, List.set_cons_succ])
              refine wpAnyH_done (by kernel_rfl) (NoPanic.normal ?_) _
              go_wp2
              go_meet
              exact ⟨_, _, _, _, _, rfl, Held.new hrm L1, by rw [v1]; exact quo_back X Y, MK.on Bz, KX7.on Bz, BF.trans (Bz.mono BF.size)⟩
          · go_simp
            have B1 := B0.alloc B0.size (.cells #[.bool false, .slice none 0 0] 24)
            have hrm : Rest (Vd.alloc (.cells #[.bool false, .slice none 0 0] 24)) Vd.heap.size := Rest.newI Vd
            have hlr : W7.heap.size ≤ Vd.heap.size := B0.size
            refine hK.out _ _ ⟨B1, (KQ7.on B1).c0, (KQ7.on B1).c1, (KY7.on B1).c0, (KY7.on B1).c1, (KR7.on B1).c0, (KR7.on B1).c1⟩ (fun hHeld => ?_)
            clear hK
            (try simp only [Act.put, List.setIfInBounds_toArray, List.set_cons_zero, List.set_cons_succ])
            refine wpAnyH_ready (rs := [2]) (by kernel_rfl) (by simp) (AllReadyH.cons (by (simp only [List.getElem?_toArray, List.getElem?_cons_succ, List.getElem?_cons_zero]; rfl)) (fun K hK => ?_) AllReadyH.nil)
            go_simp
            (go_at_call 23; (with_reducible refine (Mk.times (MK.on B1) ((KQ7.on B1).lm) ((KY7.on B1).lm) HVQ.out HX.out.2 F1.out).mono ?_))
            rintro e5 wc0 ⟨m0, V0, l0, c0, rfl, L0, v0, hb⟩
            (try go_wp2_with fail)
            have B2 := B1.trans (hb.mono B1.size)
            have hrm := hrm.on hb
            refine hK.out _ _ ⟨B2, (KQ7.on B2).c0, (KQ7.on B2).c1, (KY7.on B2).c0, (KY7.on B2).c1, (KR7.on B2).c0, (KR7.on B2).c1⟩ (fun hHeld => ?_)
            clear hK
            (try simp only [Act.put, List.setIfInBounds_toArray, List.set_cons_zero, List.set_cons_succ])
            refine wpAnyH_ready (rs := [4]) (by kernel_rfl) (by simp) (AllReadyH.cons (by (simp only [List.getElem?_toArray, List.getElem?_cons_succ, List.getElem?_cons_zero]; rfl)) (fun K hK => ?_) AllReadyH.nil)
            go_simp
            (go_at_call 24; (with_reducible refine (Mk.sum (MK.on B2) (L0) ((KR7.on B2).lm) v0 HVR.out F2.out).mono ?_))
            rintro e5 wc1 ⟨m1, V1, l1, c1, rfl, L1, v1, hb⟩
            (try go_wp2_with fail)
            have B3 := B2.trans (hb.mono B2.size)
            have L0 := L0.below hb
            have hrm := hrm.on hb
            refine hK.out _ _ ⟨B3, (KQ7.on B3).c0, (KQ7.on B3).c1, (KY7.on B3).c0, (KY7.on B3).c1, (KR7.on B3).c0, (KR7.on B3).c1⟩ (fun hHeld => ?_)
            clear hK
            (try simp only [Act.put, List.setIfInBounds_toArray, List.set_cons_zero, List.set_cons_succ])
            have g0 := hrm.r0
            have g1 := hrm.r1
            have g2 := hrm.f0
            have g3 := hrm.f1
            refine wpAnyH_ready (rs := [6]) (by kernel_rfl) (by simp) (AllReadyH.cons (by (simp only [List.getElem?_toArray, List.getElem?_cons_succ, List.getElem?_cons_zero]; rfl)) (fun K hK => ?_) AllReadyH.nil)
            go_simp
            have Bz := (B3.setCell (p := ⟨_, 0, none⟩) hlr (.bool m1)).setCell (p := ⟨_, 1, none⟩) hlr (.slice V1 l1.length c1)
            refine hK.out _ _ ⟨Bz, (KQ7.on Bz).c0, (KQ7.on Bz).c1, (KY7.on Bz).c0, (KY7.on Bz).c1, (KR7.on Bz).c0, (KR7.on Bz).c1⟩ (fun hHeld => ?_)
            clear hK
            (try simp only [Act.put, List.setIfInBounds_toArray, List.set_cons_zero, List.set_cons_succ])
            refine wpAnyH_done (by kernel_rfl) (NoPanic.normal ?_) _
            go_wp2
            go_meet
            exact ⟨_, _, _, _, _, rfl, Held.new hrm L1, by rw [v1]; exact quo_back X Y, MK.on Bz, KX7.on Bz, BF.trans (Bz.mono BF.size)⟩
        case rest =>
          obtain ⟨q9, m9, V9, l9, k9, rfl, K9, e9, M9, KX9, BF9⟩ := hcut
          have CS9 := Lib.hid (same_lm _ K9.lm KX9.lm (e9.trans HX.out.1.symm))
          have o9 := M9.on_
          have b1 := K9.c0
          have b2 := K9.c1
          have b3 := KX9.c0
          have b4 := KX9.c1
          go_wp2_with fail
          refine (CS9.out).mono ?_
          rintro e7 w9 ⟨rfl, hb⟩
          go_wp2
          go_ret
          exact ⟨rfl, BF9.trans (hb.mono BF9.size)⟩
  · rw [Bool.not_eq_true] at ho
    rw [ho]
    clear ho H1 H2 R1 R2
    go_wp2_with fail
    refine (alive_any w2 (tab_below HT.out B2)).mono ?_
    rintro e3 w3 ⟨rfl, q3⟩
    go_wp2
    go_ret
    exact ⟨rfl, B2.trans (q3.mono B2.size)⟩
end Go.Proofs.YtchfnkfdopbflaaDoor
