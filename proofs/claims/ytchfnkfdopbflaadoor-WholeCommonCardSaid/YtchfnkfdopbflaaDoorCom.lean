/-
  What the statement on the number that goes into both returns: yes. No conditions but that the lists are lists of limbs, and that the table of powers lies where it lies.
-/
import Derived.Test.YtchfnkfdopbflaaDoorCom0
import Derived.Deep.RegionHeld3
namespace Go.Proofs.YtchfnkfdopbflaaDoor
open Go.RowKit Nb

theorem lm_none {W : World} {n : Bool} {A : Option Addr} {ls : List Nat} {c : Nat} (h : Lm W n A ls c) : val W32 ls = 0 ↔ ls = [] := norm_zero (by decide) h.ok.norm
theorem held_none {W : World} {p : Nat} {n : Bool} {A : Option Addr} {ls : List Nat} {c : Nat} (h : Held W p n A ls c) : val W32 ls = 0 ↔ ls = [] := lm_none h.lm

set_option maxHeartbeats 1000000 in
set_option maxRecDepth 20000 in
theorem common_walk (n1 n2 : Bool) (A B : Option Addr) (xs ys : List Nat) (c d : Nat) (w : World) (hr : Sl .u32 w w.heap.size A xs) (hs : Sl .u32 w w.heap.size B ys) (hx : Dig W32 xs) (hy : Dig W32 ys) (htab : Tab w) :
    Calls Tryd.prog 7 #[big n1 A xs.length c, big n2 B ys.length d] w fun e w' => e = .returned (.bool true) ∧ Below w.heap.size w w' := by
  obtain ⟨W, hW, hbW, hzW, R1, R2⟩ := raw_two (n1 := n1) (n2 := n2) (c := c) (d := d) hr hs
  have HT := Lib.hid htab
  have HW := Lib.hid hW
  obtain ⟨b1, hb1⟩ := is_bool (Ok n1 xs)
  obtain ⟨b2, hb2⟩ := is_bool (Ok n2 ys)
  have H1 := Lib.hid hb1
  have H2 := Lib.hid hb2
  clear htab hW hb1 hb2 hr hs
  go_enter Tryd.func7, Tryd.ntmps7
  go_wp2_with fail
  rw [← HW.out]
  refine (alive_any W (tab_below HT.out hbW)).mono ?_
  rintro e1 w1 ⟨rfl, q1⟩
  have R1 := R1.on q1
  have R2 := R2.on q1
  have B1 := hbW.trans (q1.mono hbW.size)
  clear q1 hbW hzW HW
  have a0 := R1.c0
  have a1 := R1.c1
  have a2 := R2.c0
  have a3 := R2.c1
  go_wp2_with fail
  have hal : Below w1.heap.size w1 (w1.alloc (.cells #[.bool n1, .slice A xs.length c, .bool n2, .slice B ys.length d] 24)) := by go_grown
  have S1 := (R1.on hal).sl
  have S2 := (R2.on hal).sl
  refine (may_2 w1.heap.size 2 n1 A xs.length c b1 n2 B ys.length d b2 _ (kind_of n1 A xs _ _ S1 b1 H1.out) (kind_of n2 B ys _ _ S2 b2 H2.out) (by go_cell) (by go_cell) (by go_cell) (by go_cell)).mono ?_
  rintro e2 w2 ⟨rfl, q2⟩
  have q2 := Below.trans hal (q2.mono hal.size)
  have R1 := R1.on q2
  have R2 := R2.on q2
  have B2 := B1.trans (q2.mono B1.size)
  clear a0 a1 a2 a3 hal S1 S2 q2 B1
  by_cases ho : (b1 && b2) = true
  · have ho2 : b1 = true ∧ b2 = true := by simpa [Bool.and_eq_true] using ho
    have o1 := H1.out.1 ho2.1
    have o2 := H2.out.1 ho2.2
    have KX := R1.held hx o1
    have KY := R2.held hy o2
    rw [ho]
    clear ho ho2 H1 H2 R1 R2
    have hlX : xs.length ≤ 2048 := o1.len
    have hlY : ys.length ≤ 2048 := o2.len
    obtain ⟨G, hG⟩ : ∃ G, Nat.gcd (val W32 xs) (val W32 ys) = G := ⟨_, rfl⟩
    have C1 := Lib.hid (gcd_told n1 n2 A B xs ys c d G w2 KX.lm KY.lm hG)
    have HG := Lib.hid hG
    clear o1 o2 hG
    have a0 := KX.c0
    have a1 := KX.c1
    have a2 := KY.c0
    have a3 := KY.c1
    go_wp2_with fail
    refine (C1.out).mono ?_
    rintro e3 w3 ⟨Vg, lg, kg, rfl, mg, vg, b3⟩
    have b4 : Below w2.heap.size w2 (w3.alloc (.cells #[.bool false, .slice Vg lg.length kg] 24)) := b3.alloc b3.size _
    have KG : Held (w3.alloc (.cells #[.bool false, .slice Vg lg.length kg] 24)) w3.heap.size false Vg lg kg := Held.fresh mg
    have KX := KX.on b4
    have KY := KY.on b4
    have B4 := B2.trans (b4.mono B2.size)
    have HV := Lib.hid vg
    have HB4 := Lib.hid B4
    clear a0 a1 a2 a3 b3 b4 mg B2 C1 vg B4
    have a0 := KX.c0
    have a1 := KX.c1
    have a2 := KY.c0
    have a3 := KY.c1
    have a4 := KG.c0
    have a5 := KG.c1
    have hlG : lg.length ≤ 2048 := KG.lm.ok.len
    go_wp2_with fail
    have hz3 : (w3.alloc (.cells #[.bool false, .slice Vg lg.length kg] 24)).heap.size = w3.heap.size + 1 := by go_size
    generalize (w3.alloc (.cells #[.bool false, .slice Vg lg.length kg] 24)) = W3 at *
    have hal : Below W3.heap.size W3 (W3.alloc (.cells #[.bool false, .slice Vg lg.length kg] 24)) := by go_grown
    rw [← hz3]
    refine (may_1 W3.heap.size 1 false Vg lg.length kg true _ (kind_of false Vg lg _ _ (KG.on hal).lm.sl true (ok_yes KG.lm.ok)) (by go_cell) (by go_cell)).mono ?_
    rintro e4 w4 ⟨rfl, q4⟩
    have q4 := hal.trans (q4.mono hal.size)
    have KX := KX.on q4
    have KY := KY.on q4
    have KG := KG.on q4
    have B5 := (HB4.out).trans (q4.mono (HB4.out).size)
    have HB5 := Lib.hid B5
    clear a0 a1 a2 a3 a4 a5 hal q4 HB4 B5 hz3
    have a0 := KX.c0
    have a1 := KX.c1
    have a2 := KY.c0
    have a3 := KY.c1
    have a4 := KG.c0
    have a5 := KG.c1
    rcases Nat.eq_zero_or_pos G with hG0 | hG0
    · have gx : val W32 xs = 0 := Nat.eq_zero_of_gcd_eq_zero_left (HG.out.trans hG0)
      have gy : val W32 ys = 0 := Nat.eq_zero_of_gcd_eq_zero_right (HG.out.trans hG0)
      have ex := (held_none KX).1 gx
      have ey := (held_none KY).1 gy
      have eg := (held_none KG).1 (HV.out.trans hG0)
      subst ex; subst ey; subst eg
      simp only [List.length_nil] at a1 a3 a5
      clear KX KY KG HG HV gx gy hG0
      go_wp2
      go_ret
      exact ⟨rfl, HB5.out⟩
    · have hgne : lg ≠ [] := fun h => by
        have := HV.out
        rw [(held_none KG).2 h] at this
        omega
      have hg1 : ((lg.length : Int) == 0) = false := beq_false_of_ne (by have := List.length_pos_iff.2 hgne; omega)
      have hxy : ((xs.length : Int) + (ys.length : Int) == 0) = false := by
        refine beq_false_of_ne fun h => ?_
        have e1 : xs = [] := List.eq_nil_of_length_eq_zero (by omega)
        have e2 : ys = [] := List.eq_nil_of_length_eq_zero (by omega)
        have := HG.out
        rw [(held_none KX).2 e1, (held_none KY).2 e2] at this
        simp at this
        omega
      have HN := Lib.hid hgne
      have C5 := Lib.hid (parted_told n1 false A Vg xs lg c kg (val W32 xs / G) (val W32 xs % G) w4 KX.lm KG.lm hgne (by rw [HV.out]) (by rw [HV.out]))
      clear hgne
      go_wp2_with fail
      refine (C5.out).mono ?_
      rintro e5 w5 ⟨na, Va, la, ka, nr, Vr, lr, kr, rfl, ma, mr, va, vr, b5⟩
      have BF := HB5.out
      clear C5 a0 a1 a2 a3 a4 a5 HB5
      have HVA := Lib.hid va
      have hr0 := (lm_none mr).1 (vr.trans (Nat.mod_eq_zero_of_dvd (by have := Nat.gcd_dvd_left (val W32 xs) (val W32 ys); rwa [HG.out] at this)))
      subst hr0
      clear va vr
      simp only [List.length_nil]
      have bb : Below w4.heap.size w4 ((w5.alloc (.cells #[.bool na, .slice Va la.length ka] 24)).alloc (.cells #[.bool nr, .slice Vr 0 kr] 24)) := (b5.alloc b5.size _).alloc (by have := b5.size; simp; omega) _
      have KX := KX.on bb
      have KY := KY.on bb
      have KG := KG.on bb
      have KA : Held ((w5.alloc (.cells #[.bool na, .slice Va la.length ka] 24)).alloc (.cells #[.bool nr, .slice Vr 0 kr] 24)) w5.heap.size na Va la ka := (Held.fresh ma).on (by go_grown)
      have KR : Held ((w5.alloc (.cells #[.bool na, .slice Va la.length ka] 24)).alloc (.cells #[.bool nr, .slice Vr 0 kr] 24)) (w5.heap.size + 1) nr Vr ([] : List Nat) kr := by
        have h := Held.fresh (W := (w5.alloc (.cells #[.bool na, .slice Va la.length ka] 24))) (mr.below (by go_grown))
        rw [World.size_alloc] at h
        exact h
      have BF := BF.trans (bb.mono BF.size)
      clear bb b5 ma mr
      have a0 := KY.c0
      have a1 := KY.c1
      have a2 := KG.c0
      have a3 := KG.c1
      go_wp2_with fail
      generalize ((w5.alloc (.cells #[.bool na, .slice Va la.length ka] 24)).alloc (.cells #[.bool nr, .slice Vr 0 kr] 24)) = W6 at *
      clear a0 a1 a2 a3
      refine (parted_told n2 false B Vg ys lg d kg (val W32 ys / G) (val W32 ys % G) W6 KY.lm KG.lm HN.out (by rw [HV.out]) (by rw [HV.out])).mono ?_
      rintro e7 w7 ⟨nb, Vb, lb, kb, ns, Vs, ls, ks, rfl, mb, ms, vb, vs, b7⟩
      have HVB := Lib.hid vb
      have hs0 := (lm_none ms).1 (vs.trans (Nat.mod_eq_zero_of_dvd (by have := Nat.gcd_dvd_right (val W32 xs) (val W32 ys); rwa [HG.out] at this)))
      subst hs0
      clear vb vs
      have bb : Below W6.heap.size W6 ((w7.alloc (.cells #[.bool nb, .slice Vb lb.length kb] 24)).alloc (.cells #[.bool ns, .slice Vs 0 ks] 24)) := (b7.alloc b7.size _).alloc (by have := b7.size; simp; omega) _
      have KX := KX.on bb
      have KY := KY.on bb
      have KG := KG.on bb
      have KA := KA.on bb
      have KR := KR.on bb
      have KB : Held ((w7.alloc (.cells #[.bool nb, .slice Vb lb.length kb] 24)).alloc (.cells #[.bool ns, .slice Vs 0 ks] 24)) w7.heap.size nb Vb lb kb := (Held.fresh mb).on (by go_grown)
      have KS : Held ((w7.alloc (.cells #[.bool nb, .slice Vb lb.length kb] 24)).alloc (.cells #[.bool ns, .slice Vs 0 ks] 24)) (w7.heap.size + 1) ns Vs ([] : List Nat) ks := by
        have h := Held.fresh (W := (w7.alloc (.cells #[.bool nb, .slice Vb lb.length kb] 24))) (ms.below (by go_grown))
        rw [World.size_alloc] at h
        exact h
      have BF := BF.trans (bb.mono BF.size)
      clear bb b7 mb ms
      have a0 := KA.c0
      have a1 := KA.c1
      have a2 := KB.c0
      have a3 := KB.c1
      go_wp2_with fail
      generalize ((w7.alloc (.cells #[.bool nb, .slice Vb lb.length kb] 24)).alloc (.cells #[.bool ns, .slice Vs 0 ks] 24)) = W8 at *
      clear a0 a1 a2 a3
      have hone : Nat.gcd (val W32 la) (val W32 lb) = 1 := by
        rw [HVA.out, HVB.out, ← HG.out]
        rw [Nat.gcd_div (Nat.gcd_dvd_left _ _) (Nat.gcd_dvd_right _ _), HG.out]
        exact Nat.div_self hG0
      refine (gcd_told na nb Va Vb la lb ka kb 1 W8 KA.lm KB.lm hone).mono ?_
      rintro e9 w9 ⟨Vo, lo, ko, rfl, mo, vo, b9⟩
      have HVO := Lib.hid vo
      clear hone vo
      have bb : Below W8.heap.size W8 (w9.alloc (.cells #[.bool false, .slice Vo lo.length ko] 24)) := b9.alloc b9.size _
      have KX := KX.on bb
      have KY := KY.on bb
      have KG := KG.on bb
      have KA := KA.on bb
      have KR := KR.on bb
      have KB := KB.on bb
      have KS := KS.on bb
      have KO : Held (w9.alloc (.cells #[.bool false, .slice Vo lo.length ko] 24)) w9.heap.size false Vo lo ko := Held.fresh mo
      have BF := BF.trans (bb.mono BF.size)
      clear bb b9 mo
      have a0 := KR.c0
      have a1 := KR.c1
      simp only [List.length_nil] at a1
      have a2 := KS.c0
      have a3 := KS.c1
      simp only [List.length_nil] at a3
      have a4 := KO.c0
      have a5 := KO.c1
      have F1 := Lib.hid (fun w => of_fix 1 false w (by omega) (by omega) rfl)
      go_upto_region 11 with fail
      generalize (w9.alloc (.cells #[.bool false, .slice Vo lo.length ko] 24)) = W10 at *
      have B0 : Below W10.heap.size W10 W10.drew := (Below.refl _ _).drew
      have keep : Hid (∀ wx, Below W10.heap.size W10 wx → (fun wx => wx.cell? ⟨w5.heap.size + 1, 1, none⟩ = some (.slice Vr 0 kr) ∧ wx.cell? ⟨w7.heap.size + 1, 1, none⟩ = some (.slice Vs 0 ks) ∧ wx.cell? ⟨w9.heap.size, 0, none⟩ = some (.bool false) ∧ wx.cell? ⟨w9.heap.size, 1, none⟩ = some (.slice Vo lo.length ko)) wx) := Lib.hid (fun wx h => ⟨(KR.on h).c1, (KS.on h).c1, (KO.on h).c0, (KO.on h).c1⟩)
      have CC := Lib.hid (fun (wx : World) (h : Below W10.heap.size W10 wx) (A1 : Option Addr) (l1 : List Nat) (k1 : Nat) (m1 : Lm wx false A1 l1 k1) (v1 : sv false (val W32 l1) = 1) => wcmp_lm wx (KO.on h).lm m1 0 (cmpI_eq (by rw [v1]; show ((val W32 lo : Nat) : Int) = 1; rw [HVO.out]; rfl)))
      go_region_held3 (fun wx => wx.cell? ⟨w5.heap.size + 1, 1, none⟩ = some (.slice Vr 0 kr) ∧ wx.cell? ⟨w7.heap.size + 1, 1, none⟩ = some (.slice Vs 0 ks) ∧ wx.cell? ⟨w9.heap.size, 0, none⟩ = some (.bool false) ∧ wx.cell? ⟨w9.heap.size, 1, none⟩ = some (.slice Vo lo.length ko)) (first | exact keep.out _ B0 | exact keep.out _ Bo | exact keep.out _ Bc)
        (first
        | (go_at_call 32; (with_reducible refine (F1.out _).mono ?_); rintro e5 wo ⟨A1, k1, l1, rfl, m1, v1, z1, hbo⟩
           have Bo := B0.trans (hbo.mono B0.size)
           have HV1 := Lib.hid v1
           clear v1 hbo)
        | (go_at_call 27; (with_reducible refine (CC.out _ Bo A1 l1 k1 m1 HV1.out).mono ?_); rintro e6 w11 ⟨rfl, hbc⟩
           have Bc := Bo.trans (hbc.mono Bo.size)))
      have KX := KX.on Bc
      have KY := KY.on Bc
      have KG := KG.on Bc
      have KA := KA.on Bc
      have KR := KR.on Bc
      have KB := KB.on Bc
      have KS := KS.on Bc
      have KO := KO.on Bc
      have BF := BF.trans (Bc.mono BF.size)
      clear a0 a1 a2 a3 a4 a5 B0 Bo Bc hbc keep CC F1 HV1 z1 m1
      have a0 := KX.c0
      have a1 := KX.c1
      have a2 := KY.c0
      have a3 := KY.c1
      go_wp2_with fail
      clear a0 a1 a2 a3
      refine (gcd_told n2 n1 B A ys xs d c G w11 KY.lm KX.lm (by rw [Nat.gcd_comm]; exact HG.out)).mono ?_
      rintro e12 w12 ⟨Vu, lu, ku, rfl, mu, vu, b12⟩
      have HVU := Lib.hid vu
      clear vu
      have bb : Below w11.heap.size w11 (w12.alloc (.cells #[.bool false, .slice Vu lu.length ku] 24)) := b12.alloc b12.size _
      have KX := KX.on bb
      have KY := KY.on bb
      have KG := KG.on bb
      have KA := KA.on bb
      have KR := KR.on bb
      have KB := KB.on bb
      have KS := KS.on bb
      have KO := KO.on bb
      have KU : Held (w12.alloc (.cells #[.bool false, .slice Vu lu.length ku] 24)) w12.heap.size false Vu lu ku := Held.fresh mu
      have BF := BF.trans (bb.mono BF.size)
      clear bb b12 mu
      have a0 := KU.c0
      have a1 := KU.c1
      have a2 := KG.c0
      have a3 := KG.c1
      go_wp2_with fail
      generalize (w12.alloc (.cells #[.bool false, .slice Vu lu.length ku] 24)) = W13 at *
      clear a0 a1 a2 a3
      refine (same_lm W13 KU.lm KG.lm (by show ((val W32 lu : Nat) : Int) = ((val W32 lg : Nat) : Int); rw [HVU.out, HV.out])).mono ?_
      rintro e14 w14 ⟨rfl, b14⟩
      have KX := KX.on b14
      have KY := KY.on b14
      have KG := KG.on b14
      have KA := KA.on b14
      have KR := KR.on b14
      have KB := KB.on b14
      have KS := KS.on b14
      have KO := KO.on b14
      have KU := KU.on b14
      have BF := BF.trans (b14.mono BF.size)
      clear b14
      by_cases hye : ys = []
      · have hy1 : ((ys.length : Int) == 0) = true := by simp [hye]
        have HYE := Lib.hid hye
        clear hye
        have a0 := KY.c0
        have a1 := KY.c1
        have a2 := KU.c0
        have a3 := KU.c1
        have a4 := KG.c0
        have a5 := KG.c1
        go_wp2_with fail
        refine (same_lm w14 KU.lm KG.lm (by show ((val W32 lu : Nat) : Int) = ((val W32 lg : Nat) : Int); rw [HVU.out, HV.out])).mono ?_
        rintro e15 w15 ⟨rfl, b15⟩
        go_wp2
        go_ret
        exact ⟨rfl, BF.trans (b15.mono BF.size)⟩
      · have hy1 : ((ys.length : Int) == 0) = false := beq_false_of_ne (by have := List.length_pos_iff.2 hye; omega)
        have HYE := Lib.hid hye
        clear hye
        have a0 := KX.c0
        have a1 := KX.c1
        have a2 := KY.c0
        have a3 := KY.c1
        go_wp2_with fail
        clear a0 a1 a2 a3
        refine (parted_told n1 n2 A B xs ys c d (val W32 xs / val W32 ys) (val W32 xs % val W32 ys) w14 KX.lm KY.lm HYE.out rfl rfl).mono ?_
        rintro e16 w16 ⟨nq, Vq, lq, kq, nt, Vt, lt, kt, rfl, mq, mt, vq, vt, b16⟩
        have HVT := Lib.hid vt
        clear vq vt
        have bb : Below w14.heap.size w14 ((w16.alloc (.cells #[.bool nq, .slice Vq lq.length kq] 24)).alloc (.cells #[.bool nt, .slice Vt lt.length kt] 24)) := (b16.alloc b16.size _).alloc (by have := b16.size; simp; omega) _
        have KX := KX.on bb
        have KY := KY.on bb
        have KG := KG.on bb
        have KA := KA.on bb
        have KR := KR.on bb
        have KB := KB.on bb
        have KS := KS.on bb
        have KO := KO.on bb
        have KU := KU.on bb
        have KQ : Held ((w16.alloc (.cells #[.bool nq, .slice Vq lq.length kq] 24)).alloc (.cells #[.bool nt, .slice Vt lt.length kt] 24)) w16.heap.size nq Vq lq kq := (Held.fresh mq).on (by go_grown)
        have KT : Held ((w16.alloc (.cells #[.bool nq, .slice Vq lq.length kq] 24)).alloc (.cells #[.bool nt, .slice Vt lt.length kt] 24)) (w16.heap.size + 1) nt Vt lt kt := by
          have h := Held.fresh (W := (w16.alloc (.cells #[.bool nq, .slice Vq lq.length kq] 24))) (mt.below (by go_grown))
          rw [World.size_alloc] at h
          exact h
        have BF := BF.trans (bb.mono BF.size)
        clear bb b16 mq mt
        have a0 := KY.c0
        have a1 := KY.c1
        have a2 := KT.c0
        have a3 := KT.c1
        go_wp2_with fail
        generalize ((w16.alloc (.cells #[.bool nq, .slice Vq lq.length kq] 24)).alloc (.cells #[.bool nt, .slice Vt lt.length kt] 24)) = W17 at *
        clear a0 a1 a2 a3
        refine (gcd_told n2 nt B Vt ys lt d kt G W17 KY.lm KT.lm (by rw [HVT.out, ← HG.out, Nat.gcd_comm (val W32 ys), ← Nat.gcd_rec, Nat.gcd_comm])).mono ?_
        rintro e18 w18 ⟨Vn, ln, kn, rfl, mn, vn, b18⟩
        have HVN := Lib.hid vn
        clear vn
        have bb : Below W17.heap.size W17 (w18.alloc (.cells #[.bool false, .slice Vn ln.length kn] 24)) := b18.alloc b18.size _
        have KX := KX.on bb
        have KY := KY.on bb
        have KG := KG.on bb
        have KA := KA.on bb
        have KR := KR.on bb
        have KB := KB.on bb
        have KS := KS.on bb
        have KO := KO.on bb
        have KU := KU.on bb
        have KQ := KQ.on bb
        have KT := KT.on bb
        have KN : Held (w18.alloc (.cells #[.bool false, .slice Vn ln.length kn] 24)) w18.heap.size false Vn ln kn := Held.fresh mn
        have BF := BF.trans (bb.mono BF.size)
        clear bb b18 mn
        have a0 := KN.c0
        have a1 := KN.c1
        have a2 := KG.c0
        have a3 := KG.c1
        go_wp2_with fail
        generalize (w18.alloc (.cells #[.bool false, .slice Vn ln.length kn] 24)) = W19 at *
        clear a0 a1 a2 a3
        refine (same_lm W19 KN.lm KG.lm (by show ((val W32 ln : Nat) : Int) = ((val W32 lg : Nat) : Int); rw [HVN.out, HV.out])).mono ?_
        rintro e20 w20 ⟨rfl, b20⟩
        go_wp2
        go_ret
        exact ⟨rfl, BF.trans (b20.mono BF.size)⟩
  · rw [Bool.not_eq_true] at ho
    rw [ho]
    clear ho H1 H2 R1 R2
    go_wp2_with fail
    refine (alive_any w2 (tab_below HT.out B2)).mono ?_
    rintro e3 w3 ⟨rfl, q3⟩
    go_wp2
    go_ret
    exact ⟨rfl, B2.trans (q3.mono B2.size)⟩
end Go.Proofs.YtchfnkfdopbflaaDoor
