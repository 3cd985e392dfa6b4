/-
  What the sum of two fractions in words, the opposite, the sign, the order, the lengths, FromFrac, Frac, Sub, Fit return. Conditions: that they are fractions, and no longer than memory.
-/
import Derived.Test.YtjamfkafgfpobaaGreatFqe
import Derived.Deep.RegionHeld3
import Derived.Deep.DeepCutAuto
import Derived.BigRegion
namespace Go.Proofs.YtjamfkafgfpobaaGreat
open Go.RowKit Nb
set_option maxHeartbeats 8000000 in
set_option maxRecDepth 20000 in
theorem fadd_any (q p : Rat) (n n' : Bool) (A B A' B' : Option Addr) (xs ds ys es : List Nat) (c d c' d' C : Nat) (w : World) (h : Lq w q n A xs c B ds d C) (k : Lq w p n' A' ys c' B' es d' C) (hC : C ≤ 1759218604390) :
  Calls Tryz.prog 66 #[frq n A xs.length c false B ds.length d, frq n' A' ys.length c' false B' es.length d'] w (GivesQ w (q + p) (2 * C + 4)) := by
 obtain ⟨G, hG⟩ : ∃ G, Nat.gcd q.den p.den = G := ⟨_, rfl⟩
 obtain ⟨L, hL⟩ : ∃ L, q.den / G = L := ⟨_, rfl⟩
 obtain ⟨N, hN⟩ : ∃ N, q.num * ((p.den / G : Nat) : Int) + p.num * (L : Int) = N := ⟨_, rfl⟩
 obtain ⟨H, hH⟩ : ∃ H, Nat.gcd N.natAbs G = H := ⟨_, rfl⟩
 have hG1 : 0 < G := by rw [← hG]; exact Nat.gcd_pos_of_pos_left _ q.den_pos
 have hG0 : (G : Int) ≠ 0 := by omega
 have hH1 : 0 < H := by rw [← hH]; exact Nat.gcd_pos_of_pos_right _ hG1
 have hH0 : (H : Int) ≠ 0 := by omega
 have hsum := rat_sum q p G L N H hG.symm hL.symm hN.symm hH.symm
 have eL : (q.den : Int).tdiv (G : Int) = (L : Int) := by rw [← hL, Int.ofNat_tdiv]
 have eP : (p.den : Int).tdiv (G : Int) = ((p.den / G : Nat) : Int) := by rw [Int.ofNat_tdiv]
 have eN : q.num * (p.den : Int).tdiv (G : Int) + p.num * (L : Int) = N := by rw [eP, hN]
 have eA : N.tdiv (H : Int) = (q + p).num := hsum.1.symm
 have eB : (L : Int) * (p.den : Int).tdiv (H : Int) = ((q + p).den : Int) := by rw [hsum.2, Int.natCast_mul, Int.ofNat_tdiv]
 have HE := Lib.hid (And.intro eL (And.intro eN (And.intro eA eB)))
 have HG := Lib.hid hG
 have HH := Lib.hid hH
 have HG0 := Lib.hid hG0
 have HH0 := Lib.hid hH0
 obtain ⟨V, hV, BW, hz, RR, ⟨c0, c1, c2, c3⟩, ⟨e0, e1, e2, e3⟩⟩ := box_two w n A xs.length c false B ds.length d n' A' ys.length c' false B' es.length d' 74 74 74
 have KX := Box.of4 (by omega) c0 c1 c2 c3
 have KY := Box.of4 (by omega) e0 e1 e2 e3
 have Xn := h.x.on BW
 have Xd := h.y.on BW
 have Yn := k.x.on BW
 have Yd := k.y.on BW
 have lXd := Xd.len
 have lYd := Yd.len
 have lXn := Xn.len
 have lYn := Yn.len
 have HC := Lib.hid hC
 have HL := Lib.hid (And.intro lXn (And.intro lXd (And.intro lYn lYd)))
 clear hC lXn lXd lYn lYd hG hL hN hH hG0 hH0 hG1 hH1 hsum eL eP eN eA eB c0 c1 c2 c3 e0 e1 e2 e3 hz h k
 have KX_0 := KX.c 0 _ rfl
 have KX_1 := KX.c 1 _ rfl
 have KX_2 := KX.c 2 _ rfl
 have KX_3 := KX.c 3 _ rfl
 have KY_0 := KY.c 0 _ rfl
 have KY_1 := KY.c 1 _ rfl
 have KY_2 := KY.c 2 _ rfl
 have KY_3 := KY.c 3 _ rfl
 go_enter Tryz.func66, Tryz.ntmps66
 go_wp2_with fail
 clear KX_0 KX_1 KX_2 KX_3 KY_0 KY_1 KY_2 KY_3
 rw [← hV]
 clear hV
 refine (gcd_n (L := C) Xd Yd HL.out.2.1 HL.out.2.2.2 (by have := HC.out; omega) HG.out).mono ?_
 rintro _ w1 ⟨gn, gA, gz, gk, rfl, Ng, gl, hb⟩
 replace KX := KX.on hb
 replace KY := KY.on hb
 replace Xn := Xn.on hb
 replace Xd := Xd.on hb
 replace Yn := Yn.on hb
 replace Yd := Yd.on hb
 replace RR := RR.on hb
 replace BW := BW.trans (hb.mono BW.size)
 clear hb
 have hb : Below w1.heap.size w1 (w1.alloc (.cells #[.bool gn, .slice gA gz.length gk] 72)) := by go_grown
 have KG := Box.new w1 [.bool gn, .slice gA gz.length gk] 72
 have nGKX : w.heap.size ≠ w1.heap.size := Nat.ne_of_lt KX.lt
 have nGKY : w.heap.size + 1 ≠ w1.heap.size := Nat.ne_of_lt KY.lt
 have nGRR : w.heap.size + 1 + 1 ≠ w1.heap.size := Nat.ne_of_lt RR.lr
 replace KX := KX.on hb
 replace KY := KY.on hb
 replace Xn := Xn.on hb
 replace Xd := Xd.on hb
 replace Yn := Yn.on hb
 replace Yd := Yd.on hb
 replace Ng := Ng.on hb
 replace RR := RR.on hb
 replace BW := BW.trans (hb.mono BW.size)
 clear hb
 have KX_0 := KX.c 0 _ rfl
 have KX_1 := KX.c 1 _ rfl
 have KX_2 := KX.c 2 _ rfl
 have KX_3 := KX.c 3 _ rfl
 have KY_0 := KY.c 0 _ rfl
 have KY_1 := KY.c 1 _ rfl
 have KY_2 := KY.c 2 _ rfl
 have KY_3 := KY.c 3 _ rfl
 have KG_0 := KG.c 0 _ rfl
 have KG_1 := KG.c 1 _ rfl
 go_wp2_with fail
 clear KX_0 KX_1 KX_2 KX_3 KY_0 KY_1 KY_2 KY_3 KG_0 KG_1
 generalize (w1.alloc (.cells #[.bool gn, .slice gA gz.length gk] 72)) = VG at *
 generalize w1.heap.size = pG at *
 refine (over_n Xd Ng HG0.out (by have := HC.out; omega) (by have := HC.out; omega)).mono ?_
 rintro _ w2 ⟨ln, lA, lz, lk, rfl, Nl, hb⟩
 replace KX := KX.on hb
 replace KY := KY.on hb
 replace KG := KG.on hb
 replace Xn := Xn.on hb
 replace Xd := Xd.on hb
 replace Yn := Yn.on hb
 replace Yd := Yd.on hb
 replace Ng := Ng.on hb
 replace RR := RR.on hb
 replace BW := BW.trans (hb.mono BW.size)
 clear hb
 replace Nl := Nl.eq HE.out.1
 have hb : Below w2.heap.size w2 (w2.alloc (.cells #[.bool ln, .slice lA lz.length lk] 72)) := by go_grown
 have KL := Box.new w2 [.bool ln, .slice lA lz.length lk] 72
 have nLKX : w.heap.size ≠ w2.heap.size := Nat.ne_of_lt KX.lt
 have nLKY : w.heap.size + 1 ≠ w2.heap.size := Nat.ne_of_lt KY.lt
 have nLKG : pG ≠ w2.heap.size := Nat.ne_of_lt KG.lt
 have nLRR : w.heap.size + 1 + 1 ≠ w2.heap.size := Nat.ne_of_lt RR.lr
 replace KX := KX.on hb
 replace KY := KY.on hb
 replace KG := KG.on hb
 replace Xn := Xn.on hb
 replace Xd := Xd.on hb
 replace Yn := Yn.on hb
 replace Yd := Yd.on hb
 replace Ng := Ng.on hb
 replace Nl := Nl.on hb
 replace RR := RR.on hb
 replace BW := BW.trans (hb.mono BW.size)
 clear hb
 have KX_0 := KX.c 0 _ rfl
 have KX_1 := KX.c 1 _ rfl
 have KX_2 := KX.c 2 _ rfl
 have KX_3 := KX.c 3 _ rfl
 have KY_0 := KY.c 0 _ rfl
 have KY_1 := KY.c 1 _ rfl
 have KY_2 := KY.c 2 _ rfl
 have KY_3 := KY.c 3 _ rfl
 have KG_0 := KG.c 0 _ rfl
 have KG_1 := KG.c 1 _ rfl
 have KL_0 := KL.c 0 _ rfl
 have KL_1 := KL.c 1 _ rfl
 go_wp2_with fail
 clear KX_0 KX_1 KX_2 KX_3 KY_0 KY_1 KY_2 KY_3 KG_0 KG_1 KL_0 KL_1
 generalize (w2.alloc (.cells #[.bool ln, .slice lA lz.length lk] 72)) = VL at *
 generalize w2.heap.size = pL at *
 go_cut [7] (fun s7 wx => ∃ (pM : Nat) (mn : Bool) (mA : Option Addr) (mz : List Nat) (mk : Nat), s7 = .pointer (some ⟨pM, 0, none⟩) ∧ w.heap.size + 1 + 1 ≠ pM ∧ Below w.heap.size w wx ∧ Box wx w.heap.size [.bool n, .slice A xs.length c, .bool false, .slice B ds.length d] ∧ Box wx (w.heap.size + 1) [.bool n', .slice A' ys.length c', .bool false, .slice B' es.length d'] ∧ Box wx pG [.bool gn, .slice gA gz.length gk] ∧ Box wx pL [.bool ln, .slice lA lz.length lk] ∧ Box wx pM [.bool mn, .slice mA mz.length mk] ∧ RestQ wx (w.heap.size + 1 + 1) ∧ Nw wx q.num C n A xs c ∧ Nw wx q.den C false B ds d ∧ Nw wx p.num C n' A' ys c' ∧ Nw wx p.den C false B' es d' ∧ Nw wx G maxLen gn gA gz gk ∧ Nw wx L (C + 1) ln lA lz lk ∧ Nw wx N (2 * C + 2) mn mA mz mk)
 case first =>
  refine wp_region_noPanic ?_
  have hb : Below VL.heap.size VL VL.drew := (Below.refl _ _).drew
  replace KX := KX.on hb
  replace KY := KY.on hb
  replace KG := KG.on hb
  replace KL := KL.on hb
  replace Xn := Xn.on hb
  replace Xd := Xd.on hb
  replace Yn := Yn.on hb
  replace Yd := Yd.on hb
  replace Ng := Ng.on hb
  replace Nl := Nl.on hb
  replace RR := RR.on hb
  replace BW := BW.trans (hb.mono BW.size)
  clear hb
  refine wp_region_held_drew (S := (fun wx => wx.cell? ⟨w.heap.size, 0, none⟩ = some (.bool n) ∧ wx.cell? ⟨w.heap.size, 1, none⟩ = some (.slice A xs.length c) ∧ wx.cell? ⟨w.heap.size, 2, none⟩ = some (.bool false) ∧ wx.cell? ⟨w.heap.size, 3, none⟩ = some (.slice B ds.length d) ∧ wx.cell? ⟨w.heap.size + 1, 0, none⟩ = some (.bool n') ∧ wx.cell? ⟨w.heap.size + 1, 1, none⟩ = some (.slice A' ys.length c') ∧ wx.cell? ⟨w.heap.size + 1, 2, none⟩ = some (.bool false) ∧ wx.cell? ⟨w.heap.size + 1, 3, none⟩ = some (.slice B' es.length d') ∧ wx.cell? ⟨pG, 0, none⟩ = some (.bool gn) ∧ wx.cell? ⟨pG, 1, none⟩ = some (.slice gA gz.length gk) ∧ wx.cell? ⟨pL, 0, none⟩ = some (.bool ln) ∧ wx.cell? ⟨pL, 1, none⟩ = some (.slice lA lz.length lk))) (by kernel_rfl) (by exact KX.a4 (KY.a4 (KG.a2 KL.b2))) (fun hHeld => ?_)
  generalize VL.drew = Vd at *
  refine pT 0 ?_
  (try simp only [p0, p1, p2, p3])
  refine pT 1 ?_
  (try simp only [p0, p1, p2, p3])
  refine pT 2 ?_
  (try simp only [p0, p1, p2, p3])
  refine pT 3 ?_
  (try simp only [p0, p1, p2, p3])
  refine pT 4 ?_
  (try simp only [p0, p1, p2, p3])
  refine pT 7 ?_
  (try simp only [p0, p1, p2, p3])
  refine pT 8 ?_
  (try simp only [p0, p1, p2, p3])
  refine pT 9 ?_
  (try simp only [p0, p1, p2, p3])
  refine pR2 5 12 (fun K hK => ?_) (fun K hK => ?_)
  ·go_simp
   (go_at_call 107; with_reducible refine (over_n Yd Ng HG0.out (by have := HC.out; omega) (by have := HC.out; omega)).mono ?_)
   rintro _ wc0 ⟨on, oA, oz, ok, rfl, No, hb⟩
   (try go_wp2_with fail)
   replace KX := KX.on hb
   replace KY := KY.on hb
   replace KG := KG.on hb
   replace KL := KL.on hb
   replace Xn := Xn.on hb
   replace Xd := Xd.on hb
   replace Yn := Yn.on hb
   replace Yd := Yd.on hb
   replace Ng := Ng.on hb
   replace Nl := Nl.on hb
   replace RR := RR.on hb
   replace BW := BW.trans (hb.mono BW.size)
   clear hb
   refine hK.out _ _ (by exact KX.a4 (KY.a4 (KG.a2 KL.b2))) (fun hHeld => ?_)
   clear hK
   (try simp only [p0, p1, p2, p3])
   refine pR2 6 12 (fun K hK => ?_) (fun K hK => ?_)
   ·go_simp
    (go_at_call 88; with_reducible refine (mul_n Xn No (by have := HC.out; omega)).mono ?_)
    rintro _ wc1 ⟨an, aA, az, ak, rfl, Na, hb⟩
    (try go_wp2_with fail)
    replace KX := KX.on hb
    replace KY := KY.on hb
    replace KG := KG.on hb
    replace KL := KL.on hb
    replace Xn := Xn.on hb
    replace Xd := Xd.on hb
    replace Yn := Yn.on hb
    replace Yd := Yd.on hb
    replace Ng := Ng.on hb
    replace Nl := Nl.on hb
    replace No := No.on hb
    replace RR := RR.on hb
    replace BW := BW.trans (hb.mono BW.size)
    clear hb
    refine hK.out _ _ (by exact KX.a4 (KY.a4 (KG.a2 KL.b2))) (fun hHeld => ?_)
    clear hK
    (try simp only [p0, p1, p2, p3])
    refine pR2 10 12 (fun K hK => ?_) (fun K hK => ?_)
    ·go_simp
     (go_at_call 88; with_reducible refine (mul_n Yn Nl (by have := HC.out; omega)).mono ?_)
     rintro _ wc2 ⟨bn, bA, bz, bk, rfl, Nb', hb⟩
     (try go_wp2_with fail)
     replace KX := KX.on hb
     replace KY := KY.on hb
     replace KG := KG.on hb
     replace KL := KL.on hb
     replace Xn := Xn.on hb
     replace Xd := Xd.on hb
     replace Yn := Yn.on hb
     replace Yd := Yd.on hb
     replace Ng := Ng.on hb
     replace Nl := Nl.on hb
     replace No := No.on hb
     replace Na := Na.on hb
     replace RR := RR.on hb
     replace BW := BW.trans (hb.mono BW.size)
     clear hb
     refine hK.out _ _ (by exact KX.a4 (KY.a4 (KG.a2 KL.b2))) (fun hHeld => ?_)
     clear hK
     (try simp only [p0, p1, p2, p3])
     refine pR2 11 12 (fun K hK => ?_) (fun K hK => ?_)
     ·go_simp
      (go_at_call 108; with_reducible refine (add_n Na Nb' (by have := HC.out; omega) (by have := HC.out; omega)).mono ?_)
      rintro _ wc3 ⟨mn, mA, mz, mk, rfl, Nm, hb⟩
      (try go_wp2_with fail)
      replace KX := KX.on hb
      replace KY := KY.on hb
      replace KG := KG.on hb
      replace KL := KL.on hb
      replace Xn := Xn.on hb
      replace Xd := Xd.on hb
      replace Yn := Yn.on hb
      replace Yd := Yd.on hb
      replace Ng := Ng.on hb
      replace Nl := Nl.on hb
      replace No := No.on hb
      replace Na := Na.on hb
      replace Nb' := Nb'.on hb
      replace RR := RR.on hb
      replace BW := BW.trans (hb.mono BW.size)
      clear hb
      refine hK.out _ _ (by exact KX.a4 (KY.a4 (KG.a2 KL.b2))) (fun hHeld => ?_)
      clear hK
      (try simp only [p0, p1, p2, p3])
      refine pR1 12 (fun K hK => ?_)
      go_simp
      have hb : Below wc3.heap.size wc3 (wc3.alloc (.cells #[.bool false, .slice none 0 0] 72)) := Below.alloc (Below.refl _ _) (Nat.le_refl _) _
      have RM : Rest (wc3.alloc (.cells #[.bool false, .slice none 0 0] 72)) wc3.heap.size := Rest.new wc3
      have gM : w.heap.size ≤ wc3.heap.size := BW.size
      have nMKX : w.heap.size ≠ wc3.heap.size := Nat.ne_of_lt KX.lt
      have nMKY : w.heap.size + 1 ≠ wc3.heap.size := Nat.ne_of_lt KY.lt
      have nMKG : pG ≠ wc3.heap.size := Nat.ne_of_lt KG.lt
      have nMKL : pL ≠ wc3.heap.size := Nat.ne_of_lt KL.lt
      have nMRR : w.heap.size + 1 + 1 ≠ wc3.heap.size := Nat.ne_of_lt RR.lr
      replace KX := KX.on hb
      replace KY := KY.on hb
      replace KG := KG.on hb
      replace KL := KL.on hb
      replace Xn := Xn.on hb
      replace Xd := Xd.on hb
      replace Yn := Yn.on hb
      replace Yd := Yd.on hb
      replace Ng := Ng.on hb
      replace Nl := Nl.on hb
      replace No := No.on hb
      replace Na := Na.on hb
      replace Nb' := Nb'.on hb
      replace Nm := Nm.on hb
      replace RR := RR.on hb
      replace BW := BW.trans (hb.mono BW.size)
      clear hb
      generalize wc3.heap.size = pM at *
      generalize (wc3.alloc (.cells #[.bool false, .slice none 0 0] 72)) = wzM4 at *
      refine hK.out _ _ (by exact KX.a4 (KY.a4 (KG.a2 KL.b2))) (fun hHeld => ?_)
      clear hK
      (try simp only [p0, p1, p2, p3])
      replace Nm := (Nm.eq HE.out.2.1).mono (C' := 2 * C + 2) (by omega)
      have y0 := RM.r0
      have y1 := RM.r1
      have y2 := RM.f0
      have y3 := RM.f1
      refine pR1 13 (fun K hK => ?_)
      go_simp
      have KM := Box.laid RM (.bool mn) (.slice mA mz.length mk)
      replace KX := KX.far2 nMKX (.bool mn) (.slice mA mz.length mk)
      replace KY := KY.far2 nMKY (.bool mn) (.slice mA mz.length mk)
      replace KG := KG.far2 nMKG (.bool mn) (.slice mA mz.length mk)
      replace KL := KL.far2 nMKL (.bool mn) (.slice mA mz.length mk)
      replace RR := RR.far2 (by first | exact nMRR | exact (nRRM).symm) (.bool mn) (.slice mA mz.length mk)
      replace Xn := Xn.put2 RM (.bool mn) (.slice mA mz.length mk)
      replace Xd := Xd.put2 RM (.bool mn) (.slice mA mz.length mk)
      replace Yn := Yn.put2 RM (.bool mn) (.slice mA mz.length mk)
      replace Yd := Yd.put2 RM (.bool mn) (.slice mA mz.length mk)
      replace Ng := Ng.put2 RM (.bool mn) (.slice mA mz.length mk)
      replace Nl := Nl.put2 RM (.bool mn) (.slice mA mz.length mk)
      replace No := No.put2 RM (.bool mn) (.slice mA mz.length mk)
      replace Na := Na.put2 RM (.bool mn) (.slice mA mz.length mk)
      replace Nb' := Nb'.put2 RM (.bool mn) (.slice mA mz.length mk)
      replace Nm := Nm.put2 RM (.bool mn) (.slice mA mz.length mk)
      replace BW := (BW.setCell (p := ⟨pM, 0, none⟩) gM (.bool mn)).setCell (p := ⟨pM, 1, none⟩) gM (.slice mA mz.length mk)
      clear RM y0 y1 y2 y3
      generalize ((wzM4.setCell ⟨pM, 0, none⟩ (.bool mn)).setCell ⟨pM, 1, none⟩ (.slice mA mz.length mk)) = wsM at *
      refine hK.out _ _ (by exact KX.a4 (KY.a4 (KG.a2 KL.b2))) (fun hHeld => ?_)
      clear hK
      (try simp only [p0, p1, p2, p3])
      refine wpAnyH_done (by kernel_rfl) (NoPanic.normal ?_) _
      go_wp2
      go_meet
      exact ⟨pM, mn, mA, mz, mk, rfl, nMRR, BW, KX, KY, KG, KL, KM, RR, Xn, Xd, Yn, Yd, Ng, Nl, Nm⟩
     ·go_simp
      have hb : Below wc2.heap.size wc2 (wc2.alloc (.cells #[.bool false, .slice none 0 0] 72)) := Below.alloc (Below.refl _ _) (Nat.le_refl _) _
      have RM : Rest (wc2.alloc (.cells #[.bool false, .slice none 0 0] 72)) wc2.heap.size := Rest.new wc2
      have gM : w.heap.size ≤ wc2.heap.size := BW.size
      have nMKX : w.heap.size ≠ wc2.heap.size := Nat.ne_of_lt KX.lt
      have nMKY : w.heap.size + 1 ≠ wc2.heap.size := Nat.ne_of_lt KY.lt
      have nMKG : pG ≠ wc2.heap.size := Nat.ne_of_lt KG.lt
      have nMKL : pL ≠ wc2.heap.size := Nat.ne_of_lt KL.lt
      have nMRR : w.heap.size + 1 + 1 ≠ wc2.heap.size := Nat.ne_of_lt RR.lr
      replace KX := KX.on hb
      replace KY := KY.on hb
      replace KG := KG.on hb
      replace KL := KL.on hb
      replace Xn := Xn.on hb
      replace Xd := Xd.on hb
      replace Yn := Yn.on hb
      replace Yd := Yd.on hb
      replace Ng := Ng.on hb
      replace Nl := Nl.on hb
      replace No := No.on hb
      replace Na := Na.on hb
      replace Nb' := Nb'.on hb
      replace RR := RR.on hb
      replace BW := BW.trans (hb.mono BW.size)
      clear hb
      generalize wc2.heap.size = pM at *
      generalize (wc2.alloc (.cells #[.bool false, .slice none 0 0] 72)) = wzM3 at *
      refine hK.out _ _ (by exact KX.a4 (KY.a4 (KG.a2 KL.b2))) (fun hHeld => ?_)
      clear hK
      (try simp only [p0, p1, p2, p3])
      refine pR1 11 (fun K hK => ?_)
      go_simp
      (go_at_call 108; with_reducible refine (add_n Na Nb' (by have := HC.out; omega) (by have := HC.out; omega)).mono ?_)
      rintro _ wc312 ⟨mn, mA, mz, mk, rfl, Nm, hb⟩
      (try go_wp2_with fail)
      replace KX := KX.on hb
      replace KY := KY.on hb
      replace KG := KG.on hb
      replace KL := KL.on hb
      replace Xn := Xn.on hb
      replace Xd := Xd.on hb
      replace Yn := Yn.on hb
      replace Yd := Yd.on hb
      replace Ng := Ng.on hb
      replace Nl := Nl.on hb
      replace No := No.on hb
      replace Na := Na.on hb
      replace Nb' := Nb'.on hb
      replace RR := RR.on hb
      replace RM := RM.on hb
      replace BW := BW.trans (hb.mono BW.size)
      clear hb
      refine hK.out _ _ (by exact KX.a4 (KY.a4 (KG.a2 KL.b2))) (fun hHeld => ?_)
      clear hK
      (try simp only [p0, p1, p2, p3])
      replace Nm := (Nm.eq HE.out.2.1).mono (C' := 2 * C + 2) (by omega)
      have y0 := RM.r0
      have y1 := RM.r1
      have y2 := RM.f0
      have y3 := RM.f1
      refine pR1 13 (fun K hK => ?_)
      go_simp
      have KM := Box.laid RM (.bool mn) (.slice mA mz.length mk)
      replace KX := KX.far2 nMKX (.bool mn) (.slice mA mz.length mk)
      replace KY := KY.far2 nMKY (.bool mn) (.slice mA mz.length mk)
      replace KG := KG.far2 nMKG (.bool mn) (.slice mA mz.length mk)
      replace KL := KL.far2 nMKL (.bool mn) (.slice mA mz.length mk)
      replace RR := RR.far2 (by first | exact nMRR | exact (nRRM).symm) (.bool mn) (.slice mA mz.length mk)
      replace Xn := Xn.put2 RM (.bool mn) (.slice mA mz.length mk)
      replace Xd := Xd.put2 RM (.bool mn) (.slice mA mz.length mk)
      replace Yn := Yn.put2 RM (.bool mn) (.slice mA mz.length mk)
      replace Yd := Yd.put2 RM (.bool mn) (.slice mA mz.length mk)
      replace Ng := Ng.put2 RM (.bool mn) (.slice mA mz.length mk)
      replace Nl := Nl.put2 RM (.bool mn) (.slice mA mz.length mk)
      replace No := No.put2 RM (.bool mn) (.slice mA mz.length mk)
      replace Na := Na.put2 RM (.bool mn) (.slice mA mz.length mk)
      replace Nb' := Nb'.put2 RM (.bool mn) (.slice mA mz.length mk)
      replace Nm := Nm.put2 RM (.bool mn) (.slice mA mz.length mk)
      replace BW := (BW.setCell (p := ⟨pM, 0, none⟩) gM (.bool mn)).setCell (p := ⟨pM, 1, none⟩) gM (.slice mA mz.length mk)
      clear RM y0 y1 y2 y3
      generalize ((wc312.setCell ⟨pM, 0, none⟩ (.bool mn)).setCell ⟨pM, 1, none⟩ (.slice mA mz.length mk)) = wsM at *
      refine hK.out _ _ (by exact KX.a4 (KY.a4 (KG.a2 KL.b2))) (fun hHeld => ?_)
      clear hK
      (try simp only [p0, p1, p2, p3])
      refine wpAnyH_done (by kernel_rfl) (NoPanic.normal ?_) _
      go_wp2
      go_meet
      exact ⟨pM, mn, mA, mz, mk, rfl, nMRR, BW, KX, KY, KG, KL, KM, RR, Xn, Xd, Yn, Yd, Ng, Nl, Nm⟩
    ·go_simp
     have hb : Below wc1.heap.size wc1 (wc1.alloc (.cells #[.bool false, .slice none 0 0] 72)) := Below.alloc (Below.refl _ _) (Nat.le_refl _) _
     have RM : Rest (wc1.alloc (.cells #[.bool false, .slice none 0 0] 72)) wc1.heap.size := Rest.new wc1
     have gM : w.heap.size ≤ wc1.heap.size := BW.size
     have nMKX : w.heap.size ≠ wc1.heap.size := Nat.ne_of_lt KX.lt
     have nMKY : w.heap.size + 1 ≠ wc1.heap.size := Nat.ne_of_lt KY.lt
     have nMKG : pG ≠ wc1.heap.size := Nat.ne_of_lt KG.lt
     have nMKL : pL ≠ wc1.heap.size := Nat.ne_of_lt KL.lt
     have nMRR : w.heap.size + 1 + 1 ≠ wc1.heap.size := Nat.ne_of_lt RR.lr
     replace KX := KX.on hb
     replace KY := KY.on hb
     replace KG := KG.on hb
     replace KL := KL.on hb
     replace Xn := Xn.on hb
     replace Xd := Xd.on hb
     replace Yn := Yn.on hb
     replace Yd := Yd.on hb
     replace Ng := Ng.on hb
     replace Nl := Nl.on hb
     replace No := No.on hb
     replace Na := Na.on hb
     replace RR := RR.on hb
     replace BW := BW.trans (hb.mono BW.size)
     clear hb
     generalize wc1.heap.size = pM at *
     generalize (wc1.alloc (.cells #[.bool false, .slice none 0 0] 72)) = wzM2 at *
     refine hK.out _ _ (by exact KX.a4 (KY.a4 (KG.a2 KL.b2))) (fun hHeld => ?_)
     clear hK
     (try simp only [p0, p1, p2, p3])
     refine pR1 10 (fun K hK => ?_)
     go_simp
     (go_at_call 88; with_reducible refine (mul_n Yn Nl (by have := HC.out; omega)).mono ?_)
     rintro _ wc212 ⟨bn, bA, bz, bk, rfl, Nb', hb⟩
     (try go_wp2_with fail)
     replace KX := KX.on hb
     replace KY := KY.on hb
     replace KG := KG.on hb
     replace KL := KL.on hb
     replace Xn := Xn.on hb
     replace Xd := Xd.on hb
     replace Yn := Yn.on hb
     replace Yd := Yd.on hb
     replace Ng := Ng.on hb
     replace Nl := Nl.on hb
     replace No := No.on hb
     replace Na := Na.on hb
     replace RR := RR.on hb
     replace RM := RM.on hb
     replace BW := BW.trans (hb.mono BW.size)
     clear hb
     refine hK.out _ _ (by exact KX.a4 (KY.a4 (KG.a2 KL.b2))) (fun hHeld => ?_)
     clear hK
     (try simp only [p0, p1, p2, p3])
     refine pR1 11 (fun K hK => ?_)
     go_simp
     (go_at_call 108; with_reducible refine (add_n Na Nb' (by have := HC.out; omega) (by have := HC.out; omega)).mono ?_)
     rintro _ wc312 ⟨mn, mA, mz, mk, rfl, Nm, hb⟩
     (try go_wp2_with fail)
     replace KX := KX.on hb
     replace KY := KY.on hb
     replace KG := KG.on hb
     replace KL := KL.on hb
     replace Xn := Xn.on hb
     replace Xd := Xd.on hb
     replace Yn := Yn.on hb
     replace Yd := Yd.on hb
     replace Ng := Ng.on hb
     replace Nl := Nl.on hb
     replace No := No.on hb
     replace Na := Na.on hb
     replace Nb' := Nb'.on hb
     replace RR := RR.on hb
     replace RM := RM.on hb
     replace BW := BW.trans (hb.mono BW.size)
     clear hb
     refine hK.out _ _ (by exact KX.a4 (KY.a4 (KG.a2 KL.b2))) (fun hHeld => ?_)
     clear hK
     (try simp only [p0, p1, p2, p3])
     replace Nm := (Nm.eq HE.out.2.1).mono (C' := 2 * C + 2) (by omega)
     have y0 := RM.r0
     have y1 := RM.r1
     have y2 := RM.f0
     have y3 := RM.f1
     refine pR1 13 (fun K hK => ?_)
     go_simp
     have KM := Box.laid RM (.bool mn) (.slice mA mz.length mk)
     replace KX := KX.far2 nMKX (.bool mn) (.slice mA mz.length mk)
     replace KY := KY.far2 nMKY (.bool mn) (.slice mA mz.length mk)
     replace KG := KG.far2 nMKG (.bool mn) (.slice mA mz.length mk)
     replace KL := KL.far2 nMKL (.bool mn) (.slice mA mz.length mk)
     replace RR := RR.far2 (by first | exact nMRR | exact (nRRM).symm) (.bool mn) (.slice mA mz.length mk)
     replace Xn := Xn.put2 RM (.bool mn) (.slice mA mz.length mk)
     replace Xd := Xd.put2 RM (.bool mn) (.slice mA mz.length mk)
     replace Yn := Yn.put2 RM (.bool mn) (.slice mA mz.length mk)
     replace Yd := Yd.put2 RM (.bool mn) (.slice mA mz.length mk)
     replace Ng := Ng.put2 RM (.bool mn) (.slice mA mz.length mk)
     replace Nl := Nl.put2 RM (.bool mn) (.slice mA mz.length mk)
     replace No := No.put2 RM (.bool mn) (.slice mA mz.length mk)
     replace Na := Na.put2 RM (.bool mn) (.slice mA mz.length mk)
     replace Nb' := Nb'.put2 RM (.bool mn) (.slice mA mz.length mk)
     replace Nm := Nm.put2 RM (.bool mn) (.slice mA mz.length mk)
     replace BW := (BW.setCell (p := ⟨pM, 0, none⟩) gM (.bool mn)).setCell (p := ⟨pM, 1, none⟩) gM (.slice mA mz.length mk)
     clear RM y0 y1 y2 y3
     generalize ((wc312.setCell ⟨pM, 0, none⟩ (.bool mn)).setCell ⟨pM, 1, none⟩ (.slice mA mz.length mk)) = wsM at *
     refine hK.out _ _ (by exact KX.a4 (KY.a4 (KG.a2 KL.b2))) (fun hHeld => ?_)
     clear hK
     (try simp only [p0, p1, p2, p3])
     refine wpAnyH_done (by kernel_rfl) (NoPanic.normal ?_) _
     go_wp2
     go_meet
     exact ⟨pM, mn, mA, mz, mk, rfl, nMRR, BW, KX, KY, KG, KL, KM, RR, Xn, Xd, Yn, Yd, Ng, Nl, Nm⟩
   ·go_simp
    have hb : Below wc0.heap.size wc0 (wc0.alloc (.cells #[.bool false, .slice none 0 0] 72)) := Below.alloc (Below.refl _ _) (Nat.le_refl _) _
    have RM : Rest (wc0.alloc (.cells #[.bool false, .slice none 0 0] 72)) wc0.heap.size := Rest.new wc0
    have gM : w.heap.size ≤ wc0.heap.size := BW.size
    have nMKX : w.heap.size ≠ wc0.heap.size := Nat.ne_of_lt KX.lt
    have nMKY : w.heap.size + 1 ≠ wc0.heap.size := Nat.ne_of_lt KY.lt
    have nMKG : pG ≠ wc0.heap.size := Nat.ne_of_lt KG.lt
    have nMKL : pL ≠ wc0.heap.size := Nat.ne_of_lt KL.lt
    have nMRR : w.heap.size + 1 + 1 ≠ wc0.heap.size := Nat.ne_of_lt RR.lr
    replace KX := KX.on hb
    replace KY := KY.on hb
    replace KG := KG.on hb
    replace KL := KL.on hb
    replace Xn := Xn.on hb
    replace Xd := Xd.on hb
    replace Yn := Yn.on hb
    replace Yd := Yd.on hb
    replace Ng := Ng.on hb
    replace Nl := Nl.on hb
    replace No := No.on hb
    replace RR := RR.on hb
    replace BW := BW.trans (hb.mono BW.size)
    clear hb
    generalize wc0.heap.size = pM at *
    generalize (wc0.alloc (.cells #[.bool false, .slice none 0 0] 72)) = wzM1 at *
    refine hK.out _ _ (by exact KX.a4 (KY.a4 (KG.a2 KL.b2))) (fun hHeld => ?_)
    clear hK
    (try simp only [p0, p1, p2, p3])
    refine pR1 6 (fun K hK => ?_)
    go_simp
    (go_at_call 88; with_reducible refine (mul_n Xn No (by have := HC.out; omega)).mono ?_)
    rintro _ wc112 ⟨an, aA, az, ak, rfl, Na, hb⟩
    (try go_wp2_with fail)
    replace KX := KX.on hb
    replace KY := KY.on hb
    replace KG := KG.on hb
    replace KL := KL.on hb
    replace Xn := Xn.on hb
    replace Xd := Xd.on hb
    replace Yn := Yn.on hb
    replace Yd := Yd.on hb
    replace Ng := Ng.on hb
    replace Nl := Nl.on hb
    replace No := No.on hb
    replace RR := RR.on hb
    replace RM := RM.on hb
    replace BW := BW.trans (hb.mono BW.size)
    clear hb
    refine hK.out _ _ (by exact KX.a4 (KY.a4 (KG.a2 KL.b2))) (fun hHeld => ?_)
    clear hK
    (try simp only [p0, p1, p2, p3])
    refine pR1 10 (fun K hK => ?_)
    go_simp
    (go_at_call 88; with_reducible refine (mul_n Yn Nl (by have := HC.out; omega)).mono ?_)
    rintro _ wc212 ⟨bn, bA, bz, bk, rfl, Nb', hb⟩
    (try go_wp2_with fail)
    replace KX := KX.on hb
    replace KY := KY.on hb
    replace KG := KG.on hb
    replace KL := KL.on hb
    replace Xn := Xn.on hb
    replace Xd := Xd.on hb
    replace Yn := Yn.on hb
    replace Yd := Yd.on hb
    replace Ng := Ng.on hb
    replace Nl := Nl.on hb
    replace No := No.on hb
    replace Na := Na.on hb
    replace RR := RR.on hb
    replace RM := RM.on hb
    replace BW := BW.trans (hb.mono BW.size)
    clear hb
    refine hK.out _ _ (by exact KX.a4 (KY.a4 (KG.a2 KL.b2))) (fun hHeld => ?_)
    clear hK
    (try simp only [p0, p1, p2, p3])
    refine pR1 11 (fun K hK => ?_)
    go_simp
    (go_at_call 108; with_reducible refine (add_n Na Nb' (by have := HC.out; omega) (by have := HC.out; omega)).mono ?_)
    rintro _ wc312 ⟨mn, mA, mz, mk, rfl, Nm, hb⟩
    (try go_wp2_with fail)
    replace KX := KX.on hb
    replace KY := KY.on hb
    replace KG := KG.on hb
    replace KL := KL.on hb
    replace Xn := Xn.on hb
    replace Xd := Xd.on hb
    replace Yn := Yn.on hb
    replace Yd := Yd.on hb
    replace Ng := Ng.on hb
    replace Nl := Nl.on hb
    replace No := No.on hb
    replace Na := Na.on hb
    replace Nb' := Nb'.on hb
    replace RR := RR.on hb
    replace RM := RM.on hb
    replace BW := BW.trans (hb.mono BW.size)
    clear hb
    refine hK.out _ _ (by exact KX.a4 (KY.a4 (KG.a2 KL.b2))) (fun hHeld => ?_)
    clear hK
    (try simp only [p0, p1, p2, p3])
    replace Nm := (Nm.eq HE.out.2.1).mono (C' := 2 * C + 2) (by omega)
    have y0 := RM.r0
    have y1 := RM.r1
    have y2 := RM.f0
    have y3 := RM.f1
    refine pR1 13 (fun K hK => ?_)
    go_simp
    have KM := Box.laid RM (.bool mn) (.slice mA mz.length mk)
    replace KX := KX.far2 nMKX (.bool mn) (.slice mA mz.length mk)
    replace KY := KY.far2 nMKY (.bool mn) (.slice mA mz.length mk)
    replace KG := KG.far2 nMKG (.bool mn) (.slice mA mz.length mk)
    replace KL := KL.far2 nMKL (.bool mn) (.slice mA mz.length mk)
    replace RR := RR.far2 (by first | exact nMRR | exact (nRRM).symm) (.bool mn) (.slice mA mz.length mk)
    replace Xn := Xn.put2 RM (.bool mn) (.slice mA mz.length mk)
    replace Xd := Xd.put2 RM (.bool mn) (.slice mA mz.length mk)
    replace Yn := Yn.put2 RM (.bool mn) (.slice mA mz.length mk)
    replace Yd := Yd.put2 RM (.bool mn) (.slice mA mz.length mk)
    replace Ng := Ng.put2 RM (.bool mn) (.slice mA mz.length mk)
    replace Nl := Nl.put2 RM (.bool mn) (.slice mA mz.length mk)
    replace No := No.put2 RM (.bool mn) (.slice mA mz.length mk)
    replace Na := Na.put2 RM (.bool mn) (.slice mA mz.length mk)
    replace Nb' := Nb'.put2 RM (.bool mn) (.slice mA mz.length mk)
    replace Nm := Nm.put2 RM (.bool mn) (.slice mA mz.length mk)
    replace BW := (BW.setCell (p := ⟨pM, 0, none⟩) gM (.bool mn)).setCell (p := ⟨pM, 1, none⟩) gM (.slice mA mz.length mk)
    clear RM y0 y1 y2 y3
    generalize ((wc312.setCell ⟨pM, 0, none⟩ (.bool mn)).setCell ⟨pM, 1, none⟩ (.slice mA mz.length mk)) = wsM at *
    refine hK.out _ _ (by exact KX.a4 (KY.a4 (KG.a2 KL.b2))) (fun hHeld => ?_)
    clear hK
    (try simp only [p0, p1, p2, p3])
    refine wpAnyH_done (by kernel_rfl) (NoPanic.normal ?_) _
    go_wp2
    go_meet
    exact ⟨pM, mn, mA, mz, mk, rfl, nMRR, BW, KX, KY, KG, KL, KM, RR, Xn, Xd, Yn, Yd, Ng, Nl, Nm⟩
  ·go_simp
   have hb : Below Vd.heap.size Vd (Vd.alloc (.cells #[.bool false, .slice none 0 0] 72)) := Below.alloc (Below.refl _ _) (Nat.le_refl _) _
   have RM : Rest (Vd.alloc (.cells #[.bool false, .slice none 0 0] 72)) Vd.heap.size := Rest.new Vd
   have gM : w.heap.size ≤ Vd.heap.size := BW.size
   have nMKX : w.heap.size ≠ Vd.heap.size := Nat.ne_of_lt KX.lt
   have nMKY : w.heap.size + 1 ≠ Vd.heap.size := Nat.ne_of_lt KY.lt
   have nMKG : pG ≠ Vd.heap.size := Nat.ne_of_lt KG.lt
   have nMKL : pL ≠ Vd.heap.size := Nat.ne_of_lt KL.lt
   have nMRR : w.heap.size + 1 + 1 ≠ Vd.heap.size := Nat.ne_of_lt RR.lr
   replace KX := KX.on hb
   replace KY := KY.on hb
   replace KG := KG.on hb
   replace KL := KL.on hb
   replace Xn := Xn.on hb
   replace Xd := Xd.on hb
   replace Yn := Yn.on hb
   replace Yd := Yd.on hb
   replace Ng := Ng.on hb
   replace Nl := Nl.on hb
   replace RR := RR.on hb
   replace BW := BW.trans (hb.mono BW.size)
   clear hb
   generalize Vd.heap.size = pM at *
   generalize (Vd.alloc (.cells #[.bool false, .slice none 0 0] 72)) = wzM0 at *
   refine hK.out _ _ (by exact KX.a4 (KY.a4 (KG.a2 KL.b2))) (fun hHeld => ?_)
   clear hK
   (try simp only [p0, p1, p2, p3])
   refine pR1 5 (fun K hK => ?_)
   go_simp
   (go_at_call 107; with_reducible refine (over_n Yd Ng HG0.out (by have := HC.out; omega) (by have := HC.out; omega)).mono ?_)
   rintro _ wc012 ⟨on, oA, oz, ok, rfl, No, hb⟩
   (try go_wp2_with fail)
   replace KX := KX.on hb
   replace KY := KY.on hb
   replace KG := KG.on hb
   replace KL := KL.on hb
   replace Xn := Xn.on hb
   replace Xd := Xd.on hb
   replace Yn := Yn.on hb
   replace Yd := Yd.on hb
   replace Ng := Ng.on hb
   replace Nl := Nl.on hb
   replace RR := RR.on hb
   replace RM := RM.on hb
   replace BW := BW.trans (hb.mono BW.size)
   clear hb
   refine hK.out _ _ (by exact KX.a4 (KY.a4 (KG.a2 KL.b2))) (fun hHeld => ?_)
   clear hK
   (try simp only [p0, p1, p2, p3])
   refine pR1 6 (fun K hK => ?_)
   go_simp
   (go_at_call 88; with_reducible refine (mul_n Xn No (by have := HC.out; omega)).mono ?_)
   rintro _ wc112 ⟨an, aA, az, ak, rfl, Na, hb⟩
   (try go_wp2_with fail)
   replace KX := KX.on hb
   replace KY := KY.on hb
   replace KG := KG.on hb
   replace KL := KL.on hb
   replace Xn := Xn.on hb
   replace Xd := Xd.on hb
   replace Yn := Yn.on hb
   replace Yd := Yd.on hb
   replace Ng := Ng.on hb
   replace Nl := Nl.on hb
   replace No := No.on hb
   replace RR := RR.on hb
   replace RM := RM.on hb
   replace BW := BW.trans (hb.mono BW.size)
   clear hb
   refine hK.out _ _ (by exact KX.a4 (KY.a4 (KG.a2 KL.b2))) (fun hHeld => ?_)
   clear hK
   (try simp only [p0, p1, p2, p3])
   refine pR1 10 (fun K hK => ?_)
   go_simp
   (go_at_call 88; with_reducible refine (mul_n Yn Nl (by have := HC.out; omega)).mono ?_)
   rintro _ wc212 ⟨bn, bA, bz, bk, rfl, Nb', hb⟩
   (try go_wp2_with fail)
   replace KX := KX.on hb
   replace KY := KY.on hb
   replace KG := KG.on hb
   replace KL := KL.on hb
   replace Xn := Xn.on hb
   replace Xd := Xd.on hb
   replace Yn := Yn.on hb
   replace Yd := Yd.on hb
   replace Ng := Ng.on hb
   replace Nl := Nl.on hb
   replace No := No.on hb
   replace Na := Na.on hb
   replace RR := RR.on hb
   replace RM := RM.on hb
   replace BW := BW.trans (hb.mono BW.size)
   clear hb
   refine hK.out _ _ (by exact KX.a4 (KY.a4 (KG.a2 KL.b2))) (fun hHeld => ?_)
   clear hK
   (try simp only [p0, p1, p2, p3])
   refine pR1 11 (fun K hK => ?_)
   go_simp
   (go_at_call 108; with_reducible refine (add_n Na Nb' (by have := HC.out; omega) (by have := HC.out; omega)).mono ?_)
   rintro _ wc312 ⟨mn, mA, mz, mk, rfl, Nm, hb⟩
   (try go_wp2_with fail)
   replace KX := KX.on hb
   replace KY := KY.on hb
   replace KG := KG.on hb
   replace KL := KL.on hb
   replace Xn := Xn.on hb
   replace Xd := Xd.on hb
   replace Yn := Yn.on hb
   replace Yd := Yd.on hb
   replace Ng := Ng.on hb
   replace Nl := Nl.on hb
   replace No := No.on hb
   replace Na := Na.on hb
   replace Nb' := Nb'.on hb
   replace RR := RR.on hb
   replace RM := RM.on hb
   replace BW := BW.trans (hb.mono BW.size)
   clear hb
   refine hK.out _ _ (by exact KX.a4 (KY.a4 (KG.a2 KL.b2))) (fun hHeld => ?_)
   clear hK
   (try simp only [p0, p1, p2, p3])
   replace Nm := (Nm.eq HE.out.2.1).mono (C' := 2 * C + 2) (by omega)
   have y0 := RM.r0
   have y1 := RM.r1
   have y2 := RM.f0
   have y3 := RM.f1
   refine pR1 13 (fun K hK => ?_)
   go_simp
   have KM := Box.laid RM (.bool mn) (.slice mA mz.length mk)
   replace KX := KX.far2 nMKX (.bool mn) (.slice mA mz.length mk)
   replace KY := KY.far2 nMKY (.bool mn) (.slice mA mz.length mk)
   replace KG := KG.far2 nMKG (.bool mn) (.slice mA mz.length mk)
   replace KL := KL.far2 nMKL (.bool mn) (.slice mA mz.length mk)
   replace RR := RR.far2 (by first | exact nMRR | exact (nRRM).symm) (.bool mn) (.slice mA mz.length mk)
   replace Xn := Xn.put2 RM (.bool mn) (.slice mA mz.length mk)
   replace Xd := Xd.put2 RM (.bool mn) (.slice mA mz.length mk)
   replace Yn := Yn.put2 RM (.bool mn) (.slice mA mz.length mk)
   replace Yd := Yd.put2 RM (.bool mn) (.slice mA mz.length mk)
   replace Ng := Ng.put2 RM (.bool mn) (.slice mA mz.length mk)
   replace Nl := Nl.put2 RM (.bool mn) (.slice mA mz.length mk)
   replace No := No.put2 RM (.bool mn) (.slice mA mz.length mk)
   replace Na := Na.put2 RM (.bool mn) (.slice mA mz.length mk)
   replace Nb' := Nb'.put2 RM (.bool mn) (.slice mA mz.length mk)
   replace Nm := Nm.put2 RM (.bool mn) (.slice mA mz.length mk)
   replace BW := (BW.setCell (p := ⟨pM, 0, none⟩) gM (.bool mn)).setCell (p := ⟨pM, 1, none⟩) gM (.slice mA mz.length mk)
   clear RM y0 y1 y2 y3
   generalize ((wc312.setCell ⟨pM, 0, none⟩ (.bool mn)).setCell ⟨pM, 1, none⟩ (.slice mA mz.length mk)) = wsM at *
   refine hK.out _ _ (by exact KX.a4 (KY.a4 (KG.a2 KL.b2))) (fun hHeld => ?_)
   clear hK
   (try simp only [p0, p1, p2, p3])
   refine wpAnyH_done (by kernel_rfl) (NoPanic.normal ?_) _
   go_wp2
   go_meet
   exact ⟨pM, mn, mA, mz, mk, rfl, nMRR, BW, KX, KY, KG, KL, KM, RR, Xn, Xd, Yn, Yd, Ng, Nl, Nm⟩
 case rest =>
  obtain ⟨pM, mn, mA, mz, mk, rfl, nMRR, BW, KX, KY, KG, KL, KM, RR, Xn, Xd, Yn, Yd, Ng, Nl, Nm⟩ := hcut
  have KX_0 := KX.c 0 _ rfl
  have KX_1 := KX.c 1 _ rfl
  have KX_2 := KX.c 2 _ rfl
  have KX_3 := KX.c 3 _ rfl
  have KY_0 := KY.c 0 _ rfl
  have KY_1 := KY.c 1 _ rfl
  have KY_2 := KY.c 2 _ rfl
  have KY_3 := KY.c 3 _ rfl
  have KG_0 := KG.c 0 _ rfl
  have KG_1 := KG.c 1 _ rfl
  have KL_0 := KL.c 0 _ rfl
  have KL_1 := KL.c 1 _ rfl
  have KM_0 := KM.c 0 _ rfl
  have KM_1 := KM.c 1 _ rfl
  go_wp2_with fail
  clear KX_0 KX_1 KX_2 KX_3 KY_0 KY_1 KY_2 KY_3 KG_0 KG_1 KL_0 KL_1 KM_0 KM_1
  have lm := Nm.len
  refine (gcd_n (L := 2 * C + 2) Nm Ng lm (by omega) (by have := HC.out; omega) HH.out).mono ?_
  rintro _ w4 ⟨hn, hA, hz, hk, rfl, Nh, hl, hb⟩
  replace KX := KX.on hb
  replace KY := KY.on hb
  replace KG := KG.on hb
  replace KL := KL.on hb
  replace KM := KM.on hb
  replace Yd := Yd.on hb
  replace Nl := Nl.on hb
  replace Nm := Nm.on hb
  replace RR := RR.on hb
  replace BW := BW.trans (hb.mono BW.size)
  clear hb
  have hb : Below w4.heap.size w4 (w4.alloc (.cells #[.bool hn, .slice hA hz.length hk] 72)) := by go_grown
  have KH := Box.new w4 [.bool hn, .slice hA hz.length hk] 72
  have nHKX : w.heap.size ≠ w4.heap.size := Nat.ne_of_lt KX.lt
  have nHKY : w.heap.size + 1 ≠ w4.heap.size := Nat.ne_of_lt KY.lt
  have nHKG : pG ≠ w4.heap.size := Nat.ne_of_lt KG.lt
  have nHKL : pL ≠ w4.heap.size := Nat.ne_of_lt KL.lt
  have nHKM : pM ≠ w4.heap.size := Nat.ne_of_lt KM.lt
  have nHRR : w.heap.size + 1 + 1 ≠ w4.heap.size := Nat.ne_of_lt RR.lr
  replace KX := KX.on hb
  replace KY := KY.on hb
  replace KG := KG.on hb
  replace KL := KL.on hb
  replace KM := KM.on hb
  replace Yd := Yd.on hb
  replace Nl := Nl.on hb
  replace Nm := Nm.on hb
  replace Nh := Nh.on hb
  replace RR := RR.on hb
  replace BW := BW.trans (hb.mono BW.size)
  clear hb
  have KX_0 := KX.c 0 _ rfl
  have KX_1 := KX.c 1 _ rfl
  have KX_2 := KX.c 2 _ rfl
  have KX_3 := KX.c 3 _ rfl
  have KY_0 := KY.c 0 _ rfl
  have KY_1 := KY.c 1 _ rfl
  have KY_2 := KY.c 2 _ rfl
  have KY_3 := KY.c 3 _ rfl
  have KG_0 := KG.c 0 _ rfl
  have KG_1 := KG.c 1 _ rfl
  have KL_0 := KL.c 0 _ rfl
  have KL_1 := KL.c 1 _ rfl
  have KM_0 := KM.c 0 _ rfl
  have KM_1 := KM.c 1 _ rfl
  have KH_0 := KH.c 0 _ rfl
  have KH_1 := KH.c 1 _ rfl
  go_wp2_with fail
  clear KX_0 KX_1 KX_2 KX_3 KY_0 KY_1 KY_2 KY_3 KG_0 KG_1 KL_0 KL_1 KM_0 KM_1 KH_0 KH_1
  generalize (w4.alloc (.cells #[.bool hn, .slice hA hz.length hk] 72)) = VH at *
  generalize w4.heap.size = pH at *
  refine wp_region_noPanic ?_
  have hb : Below VH.heap.size VH VH.drew := (Below.refl _ _).drew
  replace KX := KX.on hb
  replace KY := KY.on hb
  replace KG := KG.on hb
  replace KL := KL.on hb
  replace KM := KM.on hb
  replace KH := KH.on hb
  replace Yd := Yd.on hb
  replace Nl := Nl.on hb
  replace Nm := Nm.on hb
  replace Nh := Nh.on hb
  replace RR := RR.on hb
  replace BW := BW.trans (hb.mono BW.size)
  clear hb
  refine wp_region_held_drew (S := (fun wx => wx.cell? ⟨w.heap.size, 0, none⟩ = some (.bool n) ∧ wx.cell? ⟨w.heap.size, 1, none⟩ = some (.slice A xs.length c) ∧ wx.cell? ⟨w.heap.size, 2, none⟩ = some (.bool false) ∧ wx.cell? ⟨w.heap.size, 3, none⟩ = some (.slice B ds.length d) ∧ wx.cell? ⟨w.heap.size + 1, 0, none⟩ = some (.bool n') ∧ wx.cell? ⟨w.heap.size + 1, 1, none⟩ = some (.slice A' ys.length c') ∧ wx.cell? ⟨w.heap.size + 1, 2, none⟩ = some (.bool false) ∧ wx.cell? ⟨w.heap.size + 1, 3, none⟩ = some (.slice B' es.length d') ∧ wx.cell? ⟨pG, 0, none⟩ = some (.bool gn) ∧ wx.cell? ⟨pG, 1, none⟩ = some (.slice gA gz.length gk) ∧ wx.cell? ⟨pL, 0, none⟩ = some (.bool ln) ∧ wx.cell? ⟨pL, 1, none⟩ = some (.slice lA lz.length lk) ∧ wx.cell? ⟨pM, 0, none⟩ = some (.bool mn) ∧ wx.cell? ⟨pM, 1, none⟩ = some (.slice mA mz.length mk) ∧ wx.cell? ⟨pH, 0, none⟩ = some (.bool hn) ∧ wx.cell? ⟨pH, 1, none⟩ = some (.slice hA hz.length hk))) (by kernel_rfl) (by exact KX.a4 (KY.a4 (KG.a2 (KL.a2 (KM.a2 KH.b2))))) (fun hHeld => ?_)
  generalize VH.drew = Vd at *
  refine pT 0 ?_
  (try simp only [p0, p1, p2, p3])
  refine pT 1 ?_
  (try simp only [p0, p1, p2, p3])
  refine pT 3 ?_
  (try simp only [p0, p1, p2, p3])
  refine pT 4 ?_
  (try simp only [p0, p1, p2, p3])
  refine pT 5 ?_
  (try simp only [p0, p1, p2, p3])
  refine pT 6 ?_
  (try simp only [p0, p1, p2, p3])
  refine pR1 2 (fun K hK => ?_)
  go_simp
  (go_at_call 107; with_reducible refine (over_n Nm Nh HH0.out (by have := HC.out; omega) (by have := HC.out; omega)).mono ?_)
  rintro _ wc0 ⟨un, uA, uz, uk, rfl, Nu, hb⟩
  (try go_wp2_with fail)
  replace KX := KX.on hb
  replace KY := KY.on hb
  replace KG := KG.on hb
  replace KL := KL.on hb
  replace KM := KM.on hb
  replace KH := KH.on hb
  replace Yd := Yd.on hb
  replace Nl := Nl.on hb
  replace Nh := Nh.on hb
  replace RR := RR.on hb
  replace BW := BW.trans (hb.mono BW.size)
  clear hb
  refine hK.out _ _ (by exact KX.a4 (KY.a4 (KG.a2 (KL.a2 (KM.a2 KH.b2))))) (fun hHeld => ?_)
  clear hK
  (try simp only [p0, p1, p2, p3])
  refine pR1 7 (fun K hK => ?_)
  go_simp
  (go_at_call 107; with_reducible refine (over_n Yd Nh HH0.out (by have := HC.out; omega) (by have := HC.out; omega)).mono ?_)
  rintro _ wc1 ⟨tn, tA, tz, tk, rfl, Nt, hb⟩
  (try go_wp2_with fail)
  replace KX := KX.on hb
  replace KY := KY.on hb
  replace KG := KG.on hb
  replace KL := KL.on hb
  replace KM := KM.on hb
  replace KH := KH.on hb
  replace Nl := Nl.on hb
  replace Nu := Nu.on hb
  replace RR := RR.on hb
  replace BW := BW.trans (hb.mono BW.size)
  clear hb
  refine hK.out _ _ (by exact KX.a4 (KY.a4 (KG.a2 (KL.a2 (KM.a2 KH.b2))))) (fun hHeld => ?_)
  clear hK
  (try simp only [p0, p1, p2, p3])
  refine pR1 8 (fun K hK => ?_)
  go_simp
  (go_at_call 88; with_reducible refine (mul_n Nl Nt (by have := HC.out; omega)).mono ?_)
  rintro _ wc2 ⟨vn, vA, vz, vk, rfl, Nv, hb⟩
  (try go_wp2_with fail)
  replace KX := KX.on hb
  replace KY := KY.on hb
  replace KG := KG.on hb
  replace KL := KL.on hb
  replace KM := KM.on hb
  replace KH := KH.on hb
  replace Nu := Nu.on hb
  replace RR := RR.on hb
  replace BW := BW.trans (hb.mono BW.size)
  clear hb
  refine hK.out _ _ (by exact KX.a4 (KY.a4 (KG.a2 (KL.a2 (KM.a2 KH.b2))))) (fun hHeld => ?_)
  clear hK
  (try simp only [p0, p1, p2, p3])
  refine pT 9 ?_
  (try simp only [p0, p1, p2, p3])
  replace Nu := (Nu.eq HE.out.2.2.1).mono (C' := 2 * C + 4) (by omega)
  replace Nv := (Nv.eq HE.out.2.2.2).mono (C' := 2 * C + 4) (by omega)
  obtain ⟨rfl, HQ⟩ := Lq.mk' Nu Nv
  clear HQ
  have y0 := RR.r0
  have y1 := RR.r1
  have y2 := RR.r2
  have y3 := RR.r3
  have y4 := RR.f0
  have y5 := RR.f1
  have y6 := RR.f2
  have y7 := RR.f3
  refine pR1 10 (fun K hK => ?_)
  go_simp
  replace KX := KX.far4 (g := w.heap.size + 1 + 1) (by first | omega | exact nXRR.symm) (.bool un) (.slice uA uz.length uk) (.bool false) (.slice vA vz.length vk)
  replace KY := KY.far4 (g := w.heap.size + 1 + 1) (by first | omega | exact nYRR.symm) (.bool un) (.slice uA uz.length uk) (.bool false) (.slice vA vz.length vk)
  replace KG := KG.far4 (g := w.heap.size + 1 + 1) (by first | omega | exact nGRR.symm) (.bool un) (.slice uA uz.length uk) (.bool false) (.slice vA vz.length vk)
  replace KL := KL.far4 (g := w.heap.size + 1 + 1) (by first | omega | exact nLRR.symm) (.bool un) (.slice uA uz.length uk) (.bool false) (.slice vA vz.length vk)
  replace KM := KM.far4 (g := w.heap.size + 1 + 1) (by first | omega | exact nMRR.symm) (.bool un) (.slice uA uz.length uk) (.bool false) (.slice vA vz.length vk)
  replace KH := KH.far4 (g := w.heap.size + 1 + 1) (by first | omega | exact nHRR.symm) (.bool un) (.slice uA uz.length uk) (.bool false) (.slice vA vz.length vk)
  replace Nu := Nu.put4 RR (.bool un) (.slice uA uz.length uk) (.bool false) (.slice vA vz.length vk)
  replace Nv := Nv.put4 RR (.bool un) (.slice uA uz.length uk) (.bool false) (.slice vA vz.length vk)
  replace BW := Below.putq BW (r := w.heap.size + 1 + 1) (by omega) (.bool un) (.slice uA uz.length uk) (.bool false) (.slice vA vz.length vk)
  have KR := Box.laidQ RR (.bool un) (.slice uA uz.length uk) (.bool false) (.slice vA vz.length vk)
  clear RR y0 y1 y2 y3 y4 y5 y6 y7
  generalize ((((wc2.setCell ⟨w.heap.size + 1 + 1, 0, none⟩ (.bool un)).setCell ⟨w.heap.size + 1 + 1, 1, none⟩ (.slice uA uz.length uk)).setCell ⟨w.heap.size + 1 + 1, 2, none⟩ (.bool false)).setCell ⟨w.heap.size + 1 + 1, 3, none⟩ (.slice vA vz.length vk)) = wsR at *
  refine hK.out _ _ (by exact KX.a4 (KY.a4 (KG.a2 (KL.a2 (KM.a2 KH.b2))))) (fun hHeld => ?_)
  clear hK
  (try simp only [p0, p1, p2, p3])
  have y0 := KR.c 0 _ rfl
  have y1 := KR.c 1 _ rfl
  have y2 := KR.c 2 _ rfl
  have y3 := KR.c 3 _ rfl
  refine wpAnyH_done (by kernel_rfl) (NoPanic.normal ?_) _
  go_wp2
  exact bodyPost_ret (v := frq un uA uz.length uk false vA vz.length vk) (by simp [results, Tryz.results66, go_sem, y0, y1, y2, y3]) rfl ⟨_, _, _, _, _, _, _, rfl, (Lq.mk' Nu Nv).2, BW⟩
end Go.Proofs.YtjamfkafgfpobaaGreat
namespace Go.Proofs.YtjamfkafgfpobaaGreat
open Go.RowKit Nb
set_option maxHeartbeats 4000000 in
theorem fneg_any (q : Rat) (n : Bool) (A B : Option Addr) (xs ds : List Nat) (c d C : Nat) (w : World) (h : Lq w q n A xs c B ds d C) (hC : C ≤ 17592186043904) :
    Calls Tryz.prog 86 #[frq n A xs.length c false B ds.length d] w (GivesQ w (-q) C) := by
  obtain ⟨V, hV, hB, hz, hr, c0, c1, c2, c3⟩ := box_one w n A xs.length c false B ds.length d 74 74
  have l1 : xs.length ≤ C := by have := h.num.len; have := h.num.cap; omega
  have l2 : ds.length ≤ C := by have := h.den.len; have := h.den.cap; omega
  have l5 : xs.length * 8 ≤ 140737488351232 := by omega
  have HS := Lib.hid (fun (W : World) (hb : Bex (w.heap.size + 1) V W) => (⟨hb, hb.at (by omega) (by omega) c0, hb.at (by omega) (by omega) c1, hb.at (by omega) (by omega) c2, hb.at (by omega) (by omega) c3⟩ :
    Bex (w.heap.size + 1) V W ∧ W.cell? ⟨w.heap.size, 0, none⟩ = some (.bool n) ∧ W.cell? ⟨w.heap.size, 1, none⟩ = some (.slice A xs.length c) ∧ W.cell? ⟨w.heap.size, 2, none⟩ = some (.bool false) ∧ W.cell? ⟨w.heap.size, 3, none⟩ = some (.slice B ds.length d)))
  have HD := Lib.hid hB
  have HZ := Lib.hid hz
  clear hB hz c0 c1 c2 c3
  go_enter Tryz.func86, Tryz.ntmps86
  go_wp2_with fail
  rw [← hV]
  clear hV
  go_region_held3 (fun W => Bex (w.heap.size + 1) V W ∧ W.cell? ⟨w.heap.size, 0, none⟩ = some (.bool n) ∧ W.cell? ⟨w.heap.size, 1, none⟩ = some (.slice A xs.length c) ∧ W.cell? ⟨w.heap.size, 2, none⟩ = some (.bool false) ∧ W.cell? ⟨w.heap.size, 3, none⟩ = some (.slice B ds.length d))
    (first | exact HS.out _ (Bex.of (Below.refl _ _)) | exact HS.out _ (Bex.of ((Below.refl _ _).drew)) | exact HS.out _ (Bex.of (by assumption)) | exact HS.out _ (Bex.of (Below.drew (by assumption))) | exact HS.out _ (Bex.putq (Bex.of (by assumption)) _ _ _ _))
    (first
      | (go_at_call 117; refine (lneg_any n A xs c C _ (h.num.below (HD.out.trans (Below.mono (by first | assumption | exact (Below.refl _ _).drew | exact Below.refl _ _) HD.out.size))) l5).mono ?_; rintro e w2 ⟨rfl, hM, hb⟩
         have hk := keep_n (Nat.le_refl _) (by first | assumption | exact (Below.refl _ _).drew | exact Below.refl _ _) hb
         have hre := RestQ.on (by first | exact hr | exact RestQ.drew hr) hb
         have g0 := hre.r0
         have g1 := hre.r1
         have g2 := hre.r2
         have g3 := hre.r3
         have g4 := hre.f0
         have g5 := hre.f1
         have g6 := hre.f2
         have g7 := hre.f3))
  have hbw := HD.out.trans (hk.mono HD.out.size)
  have hL : Lq w2 (-q) (!n && decide (0 < xs.length)) A xs c B ds d C := ⟨hM, h.den.below hbw, by rw [sv_neg, h.vn]; rfl, h.vd⟩
  have HL := Lib.hid (And.intro (hL.putq hre (.bool (!n && decide (0 < xs.length))) (.slice A xs.length c) (.bool false) (.slice B ds.length d)) (Below.putq hbw (r := w.heap.size + 1) (by omega) (.bool (!n && decide (0 < xs.length))) (.slice A xs.length c) (.bool false) (.slice B ds.length d)))
  clear hL hbw hre hM
  go_wp2
  exact bodyPost_ret (v := frq (!n && decide (0 < xs.length)) A xs.length c false B ds.length d) (by simp [results, Tryz.results86, go_sem, g0, g1, g2, g3]) rfl ⟨_, A, xs, c, B, ds, d, rfl, HL.out.1, HL.out.2⟩
set_option maxHeartbeats 4000000 in
set_option maxRecDepth 20000 in
theorem fcmp_any (q p : Rat) (n n' : Bool) (A B A' B' : Option Addr) (xs ds ys es : List Nat) (c d c' d' C : Nat) (w : World) (h : Lq w q n A xs c B ds d C) (k : Lq w p n' A' ys c' B' es d' C) (hC : C ≤ 1759218604390) :
    Calls Tryz.prog 44 #[frq n A xs.length c false B ds.length d, frq n' A' ys.length c' false B' es.length d'] w fun e w' => e = .returned (.int .i64 (cmpI (q.num * p.den) (p.num * q.den))) ∧ Below w.heap.size w w' := by
  have l1 : xs.length ≤ C := by have := h.num.len; have := h.num.cap; omega
  have l2 : ds.length ≤ C := by have := h.den.len; have := h.den.cap; omega
  have l3 : ys.length ≤ C := by have := k.num.len; have := k.num.cap; omega
  have l4 : es.length ≤ C := by have := k.den.len; have := k.den.cap; omega
  obtain ⟨V, hV⟩ : ∃ V, V = ((w.alloc (.cells #[.bool n, .slice A xs.length c, .bool false, .slice B ds.length d] 74)).alloc (.cells #[.bool n', .slice A' ys.length c', .bool false, .slice B' es.length d'] 74)) := ⟨_, rfl⟩
  have hB : Below w.heap.size w V := by rw [hV]; go_grown
  have hz : V.heap.size = w.heap.size + 1 + 1 := by rw [hV]; go_size
  have c0 : V.cell? ⟨w.heap.size, 0, none⟩ = some (.bool n) := by rw [hV]; go_cell
  have c1 : V.cell? ⟨w.heap.size, 1, none⟩ = some (.slice A xs.length c) := by rw [hV]; go_cell
  have c2 : V.cell? ⟨w.heap.size, 2, none⟩ = some (.bool false) := by rw [hV]; go_cell
  have c3 : V.cell? ⟨w.heap.size, 3, none⟩ = some (.slice B ds.length d) := by rw [hV]; go_cell
  have e0 : V.cell? ⟨w.heap.size + 1, 0, none⟩ = some (.bool n') := by rw [hV]; go_cell
  have e1 : V.cell? ⟨w.heap.size + 1, 1, none⟩ = some (.slice A' ys.length c') := by rw [hV]; go_cell
  have e2 : V.cell? ⟨w.heap.size + 1, 2, none⟩ = some (.bool false) := by rw [hV]; go_cell
  have e3 : V.cell? ⟨w.heap.size + 1, 3, none⟩ = some (.slice B' es.length d') := by rw [hV]; go_cell
  have hne : w.heap.size ≠ w.heap.size + 1 + 1 ∧ w.heap.size + 1 ≠ w.heap.size + 1 + 1 := by omega
  have HS := Lib.hid (fun (W : World) (hb : Bex (w.heap.size + 1 + 1) V W) => (⟨hb, hb.at (by omega) (by omega) c0, hb.at (by omega) (by omega) c1, hb.at (by omega) (by omega) c2, hb.at (by omega) (by omega) c3, hb.at (by omega) (by omega) e0, hb.at (by omega) (by omega) e1, hb.at (by omega) (by omega) e2, hb.at (by omega) (by omega) e3⟩ :
    Bex (w.heap.size + 1 + 1) V W ∧ W.cell? ⟨w.heap.size, 0, none⟩ = some (.bool n) ∧ W.cell? ⟨w.heap.size, 1, none⟩ = some (.slice A xs.length c) ∧ W.cell? ⟨w.heap.size, 2, none⟩ = some (.bool false) ∧ W.cell? ⟨w.heap.size, 3, none⟩ = some (.slice B ds.length d) ∧ W.cell? ⟨w.heap.size + 1, 0, none⟩ = some (.bool n') ∧ W.cell? ⟨w.heap.size + 1, 1, none⟩ = some (.slice A' ys.length c') ∧ W.cell? ⟨w.heap.size + 1, 2, none⟩ = some (.bool false) ∧ W.cell? ⟨w.heap.size + 1, 3, none⟩ = some (.slice B' es.length d')))
  have HD := Lib.hid hB
  have HC := Lib.hid (fun (W : World) (m1 m2 : Bool) (V1 V2 : Option Addr) (z1 z2 : List Nat) (k1 k2 : Nat) (b1 : Bg W m1 V1 z1 k1 (xs.length + es.length)) (b2 : Bg W m2 V2 z2 k2 (ys.length + ds.length)) (v1 : sv m1 (val W64 z1) = q.num * p.den) (v2 : sv m2 (val W64 z2) = p.num * q.den) => (by
    have := lcmp_any m1 m2 V1 V2 z1 z2 k1 k2 W b1.sl b2.sl b1.dig b2.dig b1.norm b2.norm (by have := b1.len; have := b1.cap; omega) (by have := b2.len; have := b2.cap; omega) (bg_pos b1) (bg_pos b2)
    rw [v1, v2] at this
    exact this : Calls Tryz.prog 89 #[big m1 V1 z1.length k1, big m2 V2 z2.length k2] W fun e w' => e = .returned (.int .i64 (cmpI (q.num * p.den) (p.num * q.den))) ∧ Below W.heap.size W w'))
  have l5 : (xs.length + es.length) * 8 ≤ 140737488351232 := by omega
  have l6 : (ys.length + ds.length) * 8 ≤ 140737488351232 := by omega
  have H1 := Lib.hid (fun (W : World) (hW : Below V.heap.size V W) => (by
    have b1 := h.num.below (HD.out.trans (hW.mono HD.out.size))
    have b2 := k.den.below (HD.out.trans (hW.mono HD.out.size))
    have := lmul_any n false A B' xs es c d' W b1.sl b2.sl b1.dig b2.dig l5
    rw [h.vn, k.svd] at this
    exact this : Calls Tryz.prog 88 #[big n A xs.length c, big false B' es.length d'] W (Gives W (q.num * p.den) (xs.length + es.length))))
  have H2 := Lib.hid (fun (W : World) (hW : Below V.heap.size V W) => (by
    have b1 := k.num.below (HD.out.trans (hW.mono HD.out.size))
    have b2 := h.den.below (HD.out.trans (hW.mono HD.out.size))
    have := lmul_any n' false A' B ys ds c' d W b1.sl b2.sl b1.dig b2.dig l6
    rw [k.vn, h.svd] at this
    exact this : Calls Tryz.prog 88 #[big n' A' ys.length c', big false B ds.length d] W (Gives W (p.num * q.den) (ys.length + ds.length))))
  clear hz hne hB h k l1 l2 l3 l4 l5 l6 hC c0 c1 c2 c3 e0 e1 e2 e3
  go_enter Tryz.func44, Tryz.ntmps44
  go_wp2_with fail
  rw [← hV]
  clear hV
  go_region_held3 (fun W => Bex (w.heap.size + 1 + 1) V W ∧ W.cell? ⟨w.heap.size, 0, none⟩ = some (.bool n) ∧ W.cell? ⟨w.heap.size, 1, none⟩ = some (.slice A xs.length c) ∧ W.cell? ⟨w.heap.size, 2, none⟩ = some (.bool false) ∧ W.cell? ⟨w.heap.size, 3, none⟩ = some (.slice B ds.length d) ∧ W.cell? ⟨w.heap.size + 1, 0, none⟩ = some (.bool n') ∧ W.cell? ⟨w.heap.size + 1, 1, none⟩ = some (.slice A' ys.length c') ∧ W.cell? ⟨w.heap.size + 1, 2, none⟩ = some (.bool false) ∧ W.cell? ⟨w.heap.size + 1, 3, none⟩ = some (.slice B' es.length d'))
    (first | exact HS.out _ (Bex.of (Below.refl _ _)) | exact HS.out _ (Bex.of ((Below.refl _ _).drew)) | exact HS.out _ (Bex.of (by assumption)) | exact HS.out _ (Bex.of (Below.drew (by assumption))) | exact HS.out _ (Bex.putq (Bex.of (by assumption)) _ _ _ _))
    (first
      | (go_at_call 89; (with_reducible refine (HC.out _ _ _ _ _ _ _ _ _ hM1 hM2 hv1 hv2).mono ?_); rintro e w4 ⟨rfl, hb⟩
         have hk := keep_n (Nat.le_refl _) hk2 hb)
      | (go_at_call 88; (with_reducible refine (H2.out _ ?hx).mono ?_); (case hx => assumption); rintro e w3 ⟨m2, V2, z2, k2, rfl, hM2, hv2, hb⟩
         have hM1 := hM.below hb
         have hk2 := keep_n (Nat.le_refl _) hk hb)
      | (go_at_call 88; (with_reducible refine (H1.out _ ?hx).mono ?_); (case hx => first | assumption | exact (Below.refl _ _).drew | exact Below.refl _ _); rintro e w2 ⟨m1, V1, z1, k1, rfl, hM, hv1, hb⟩
         have hk := keep_n (Nat.le_refl _) (by first | assumption | exact (Below.refl _ _).drew | exact Below.refl _ _) hb))
  go_wp2
  go_ret
  exact ⟨rfl, HD.out.trans (hk.mono HD.out.size)⟩
end Go.Proofs.YtjamfkafgfpobaaGreat
/-! ### Fq5 -/
namespace Go.Proofs.YtjamfkafgfpobaaGreat
open Go.RowKit Nb
set_option maxHeartbeats 8000000 in
set_option maxRecDepth 20000 in
theorem ffrom_any (q : Rat) (n : Bool) (A B : Option Addr) (xs ds : List Nat) (c d : Nat) (w : World) (h : Lf w q n A xs c B ds d) :
    Calls Tryz.prog 45 #[frq n A xs.length c false B ds.length d] w (GivesQ w q 1024) := by
  obtain ⟨V, hV, BW, hz, RR, c0, c1, c2, c3⟩ := box_one w n A xs.length c false B ds.length d 29 74
  have KX := Box.of4 (by omega) c0 c1 c2 c3
  have Xn := h.num.on BW
  have Xd := h.den.on BW
  clear h c0 c1 c2 c3 hz
  have KX_0 := KX.c 0 _ rfl
  have KX_1 := KX.c 1 _ rfl
  have KX_2 := KX.c 2 _ rfl
  have KX_3 := KX.c 3 _ rfl
  go_enter Tryz.func45, Tryz.ntmps45
  go_wp2_with fail
  clear KX_0 KX_1 KX_2 KX_3
  rw [← hV]
  clear hV
  refine wp_region_noPanic ?_
  have hb : Below V.heap.size V V.drew := (Below.refl _ _).drew
  replace KX := KX.on hb
  replace Xn := Xn.on hb
  replace Xd := Xd.on hb
  replace RR := RR.on hb
  replace BW := BW.trans (hb.mono BW.size)
  clear hb
  refine wp_region_held_drew (S := (fun wx => wx.cell? ⟨w.heap.size, 0, none⟩ = some (.bool n) ∧ wx.cell? ⟨w.heap.size, 1, none⟩ = some (.slice A xs.length c) ∧ wx.cell? ⟨w.heap.size, 2, none⟩ = some (.bool false) ∧ wx.cell? ⟨w.heap.size, 3, none⟩ = some (.slice B ds.length d))) (by kernel_rfl) (by exact KX.b4) (fun hHeld => ?_)
  generalize V.drew = Vd at *
  refine pT 0 ?_
  (try simp only [p0, p1, p2, p3])
  refine pT 1 ?_
  (try simp only [p0, p1, p2, p3])
  refine pT 3 ?_
  (try simp only [p0, p1, p2, p3])
  refine pT 4 ?_
  (try simp only [p0, p1, p2, p3])
  refine pR1 2 (fun K hK => ?_)
  go_simp
  (go_at_call 90; with_reducible refine (from_n Xn).mono ?_)
  rintro _ wc0 ⟨un, uA, uz, uk, rfl, Nu, hb⟩
  (try go_wp2_with fail)
  replace KX := KX.on hb
  replace Xn := Xn.on hb
  replace Xd := Xd.on hb
  replace RR := RR.on hb
  replace BW := BW.trans (hb.mono BW.size)
  clear hb
  refine hK.out _ _ (by exact KX.b4) (fun hHeld => ?_)
  clear hK
  (try simp only [p0, p1, p2, p3])
  refine pR1 5 (fun K hK => ?_)
  go_simp
  (go_at_call 90; with_reducible refine (from_n Xd).mono ?_)
  rintro _ wc1 ⟨vn, vA, vz, vk, rfl, Nv, hb⟩
  (try go_wp2_with fail)
  replace KX := KX.on hb
  replace Xn := Xn.on hb
  replace Xd := Xd.on hb
  replace Nu := Nu.on hb
  replace RR := RR.on hb
  replace BW := BW.trans (hb.mono BW.size)
  clear hb
  refine hK.out _ _ (by exact KX.b4) (fun hHeld => ?_)
  clear hK
  (try simp only [p0, p1, p2, p3])
  refine pT 6 ?_
  (try simp only [p0, p1, p2, p3])
  obtain ⟨rfl, HQ⟩ := Lq.mk' Nu Nv
  clear HQ
  have y0 := RR.r0
  have y1 := RR.r1
  have y2 := RR.r2
  have y3 := RR.r3
  have y4 := RR.f0
  have y5 := RR.f1
  have y6 := RR.f2
  have y7 := RR.f3
  refine pR1 7 (fun K hK => ?_)
  go_simp
  replace KX := KX.far4 (g := w.heap.size + 1) (by first | omega | exact nXRR.symm) (.bool un) (.slice uA uz.length uk) (.bool false) (.slice vA vz.length vk)
  replace Xn := Xn.put4 RR (.bool un) (.slice uA uz.length uk) (.bool false) (.slice vA vz.length vk)
  replace Xd := Xd.put4 RR (.bool un) (.slice uA uz.length uk) (.bool false) (.slice vA vz.length vk)
  replace Nu := Nu.put4 RR (.bool un) (.slice uA uz.length uk) (.bool false) (.slice vA vz.length vk)
  replace Nv := Nv.put4 RR (.bool un) (.slice uA uz.length uk) (.bool false) (.slice vA vz.length vk)
  replace BW := Below.putq BW (r := w.heap.size + 1) (by omega) (.bool un) (.slice uA uz.length uk) (.bool false) (.slice vA vz.length vk)
  have KR := Box.laidQ RR (.bool un) (.slice uA uz.length uk) (.bool false) (.slice vA vz.length vk)
  clear RR y0 y1 y2 y3 y4 y5 y6 y7
  generalize ((((wc1.setCell ⟨w.heap.size + 1, 0, none⟩ (.bool un)).setCell ⟨w.heap.size + 1, 1, none⟩ (.slice uA uz.length uk)).setCell ⟨w.heap.size + 1, 2, none⟩ (.bool false)).setCell ⟨w.heap.size + 1, 3, none⟩ (.slice vA vz.length vk)) = wsR at *
  refine hK.out _ _ (by exact KX.b4) (fun hHeld => ?_)
  clear hK
  (try simp only [p0, p1, p2, p3])
  have y0 := KR.c 0 _ rfl
  have y1 := KR.c 1 _ rfl
  have y2 := KR.c 2 _ rfl
  have y3 := KR.c 3 _ rfl
  refine wpAnyH_done (by kernel_rfl) (NoPanic.normal ?_) _
  go_wp2
  exact bodyPost_ret (v := frq un uA uz.length uk false vA vz.length vk) (by simp [results, Tryz.results45, go_sem, y0, y1, y2, y3]) rfl ⟨_, _, _, _, _, _, _, rfl, (Lq.mk' Nu Nv).2, BW⟩
set_option maxHeartbeats 8000000 in
set_option maxRecDepth 20000 in
theorem ffrac_any (q : Rat) (n : Bool) (A B : Option Addr) (xs ds : List Nat) (c d C : Nat) (w : World) (h : Lq w q n A xs c B ds d C) (hF : FitsQ q) (hC : C ≤ 1759218604390) :
    Calls Tryz.prog 87 #[frq n A xs.length c false B ds.length d] w (GivesF w q) := by
  obtain ⟨V, hV, BW, hz, RR, c0, c1, c2, c3⟩ := box_one w n A xs.length c false B ds.length d 74 29
  have KX := Box.of4 (by omega) c0 c1 c2 c3
  have Xn := h.x.on BW
  have Xd := h.y.on BW
  have HF := Lib.hid (show Fits q.num ∧ Fits (q.den : Int) from hF)
  have HC := Lib.hid hC
  clear h c0 c1 c2 c3 hz hF hC
  have KX_0 := KX.c 0 _ rfl
  have KX_1 := KX.c 1 _ rfl
  have KX_2 := KX.c 2 _ rfl
  have KX_3 := KX.c 3 _ rfl
  go_enter Tryz.func87, Tryz.ntmps87
  go_wp2_with fail
  clear KX_0 KX_1 KX_2 KX_3
  rw [← hV]
  clear hV
  refine wp_region_noPanic ?_
  have hb : Below V.heap.size V V.drew := (Below.refl _ _).drew
  replace KX := KX.on hb
  replace Xn := Xn.on hb
  replace Xd := Xd.on hb
  replace RR := RR.on hb
  replace BW := BW.trans (hb.mono BW.size)
  clear hb
  refine wp_region_held_drew (S := (fun wx => wx.cell? ⟨w.heap.size, 0, none⟩ = some (.bool n) ∧ wx.cell? ⟨w.heap.size, 1, none⟩ = some (.slice A xs.length c) ∧ wx.cell? ⟨w.heap.size, 2, none⟩ = some (.bool false) ∧ wx.cell? ⟨w.heap.size, 3, none⟩ = some (.slice B ds.length d))) (by kernel_rfl) (by exact KX.b4) (fun hHeld => ?_)
  generalize V.drew = Vd at *
  refine pT 0 ?_
  (try simp only [p0, p1, p2, p3])
  refine pT 1 ?_
  (try simp only [p0, p1, p2, p3])
  refine pT 3 ?_
  (try simp only [p0, p1, p2, p3])
  refine pT 4 ?_
  (try simp only [p0, p1, p2, p3])
  refine pR1 2 (fun K hK => ?_)
  go_simp
  (go_at_call 116; with_reducible refine (int_n Xn HF.out.1 (by have := HC.out; omega)).mono ?_)
  rintro _ wc0 ⟨un, uA, uz, uk, rfl, Nu, hb⟩
  (try go_wp2_with fail)
  replace KX := KX.on hb
  replace Xn := Xn.on hb
  replace Xd := Xd.on hb
  replace RR := RR.on hb
  replace BW := BW.trans (hb.mono BW.size)
  clear hb
  refine hK.out _ _ (by exact KX.b4) (fun hHeld => ?_)
  clear hK
  (try simp only [p0, p1, p2, p3])
  refine pR1 5 (fun K hK => ?_)
  go_simp
  (go_at_call 116; with_reducible refine (int_n Xd HF.out.2 (by have := HC.out; omega)).mono ?_)
  rintro _ wc1 ⟨vn, vA, vz, vk, rfl, Nv, hb⟩
  (try go_wp2_with fail)
  replace KX := KX.on hb
  replace Xn := Xn.on hb
  replace Xd := Xd.on hb
  replace Nu := Nu.on hb
  replace RR := RR.on hb
  replace BW := BW.trans (hb.mono BW.size)
  clear hb
  refine hK.out _ _ (by exact KX.b4) (fun hHeld => ?_)
  clear hK
  (try simp only [p0, p1, p2, p3])
  refine pT 6 ?_
  (try simp only [p0, p1, p2, p3])
  obtain ⟨rfl, HQ⟩ := Lf.mk' Nu Nv
  clear HQ
  have y0 := RR.r0
  have y1 := RR.r1
  have y2 := RR.r2
  have y3 := RR.r3
  have y4 := RR.f0
  have y5 := RR.f1
  have y6 := RR.f2
  have y7 := RR.f3
  refine pR1 7 (fun K hK => ?_)
  go_simp
  replace KX := KX.far4 (g := w.heap.size + 1) (by first | omega | exact nXRR.symm) (.bool un) (.slice uA uz.length uk) (.bool false) (.slice vA vz.length vk)
  replace Xn := Xn.put4 RR (.bool un) (.slice uA uz.length uk) (.bool false) (.slice vA vz.length vk)
  replace Xd := Xd.put4 RR (.bool un) (.slice uA uz.length uk) (.bool false) (.slice vA vz.length vk)
  replace Nu := Nu.put4 RR (.bool un) (.slice uA uz.length uk) (.bool false) (.slice vA vz.length vk)
  replace Nv := Nv.put4 RR (.bool un) (.slice uA uz.length uk) (.bool false) (.slice vA vz.length vk)
  replace BW := Below.putq BW (r := w.heap.size + 1) (by omega) (.bool un) (.slice uA uz.length uk) (.bool false) (.slice vA vz.length vk)
  have KR := Box.laidQ RR (.bool un) (.slice uA uz.length uk) (.bool false) (.slice vA vz.length vk)
  clear RR y0 y1 y2 y3 y4 y5 y6 y7
  generalize ((((wc1.setCell ⟨w.heap.size + 1, 0, none⟩ (.bool un)).setCell ⟨w.heap.size + 1, 1, none⟩ (.slice uA uz.length uk)).setCell ⟨w.heap.size + 1, 2, none⟩ (.bool false)).setCell ⟨w.heap.size + 1, 3, none⟩ (.slice vA vz.length vk)) = wsR at *
  refine hK.out _ _ (by exact KX.b4) (fun hHeld => ?_)
  clear hK
  (try simp only [p0, p1, p2, p3])
  have y0 := KR.c 0 _ rfl
  have y1 := KR.c 1 _ rfl
  have y2 := KR.c 2 _ rfl
  have y3 := KR.c 3 _ rfl
  refine wpAnyH_done (by kernel_rfl) (NoPanic.normal ?_) _
  go_wp2
  exact bodyPost_ret (v := frq un uA uz.length uk false vA vz.length vk) (by simp [results, Tryz.results87, go_sem, y0, y1, y2, y3]) rfl ⟨_, _, _, _, _, _, _, rfl, (Lf.mk' Nu Nv).2, BW⟩
set_option maxHeartbeats 8000000 in
set_option maxRecDepth 20000 in
theorem fsub_any (q p : Rat) (n n' : Bool) (A B A' B' : Option Addr) (xs ds ys es : List Nat) (c d c' d' C : Nat) (w : World) (h : Lq w q n A xs c B ds d C) (k : Lq w p n' A' ys c' B' es d' C) (hC : C ≤ 1759218604390) :
    Calls Tryz.prog 57 #[frq n A xs.length c false B ds.length d, frq n' A' ys.length c' false B' es.length d'] w (GivesQ w (q - p) (2 * C + 4)) := by
  obtain ⟨V, hV, BW, hz, RR, ⟨c0, c1, c2, c3⟩, ⟨e0, e1, e2, e3⟩⟩ := box_two w n A xs.length c false B ds.length d n' A' ys.length c' false B' es.length d' 74 74 74
  have KX := Box.of4 (by omega) c0 c1 c2 c3
  have KY := Box.of4 (by omega) e0 e1 e2 e3
  have LX := h.on BW
  have LY := k.on BW
  have HC := Lib.hid hC
  clear h k hC c0 c1 c2 c3 e0 e1 e2 e3 hz
  have KX_0 := KX.c 0 _ rfl
  have KX_1 := KX.c 1 _ rfl
  have KX_2 := KX.c 2 _ rfl
  have KX_3 := KX.c 3 _ rfl
  have KY_0 := KY.c 0 _ rfl
  have KY_1 := KY.c 1 _ rfl
  have KY_2 := KY.c 2 _ rfl
  have KY_3 := KY.c 3 _ rfl
  go_enter Tryz.func57, Tryz.ntmps57
  go_wp2_with fail
  clear KX_0 KX_1 KX_2 KX_3 KY_0 KY_1 KY_2 KY_3
  rw [← hV]
  clear hV
  refine wp_region_noPanic ?_
  have hb : Below V.heap.size V V.drew := (Below.refl _ _).drew
  replace KX := KX.on hb
  replace KY := KY.on hb
  replace LX := LX.on hb
  replace LY := LY.on hb
  replace RR := RR.on hb
  replace BW := BW.trans (hb.mono BW.size)
  clear hb
  refine wp_region_held_drew (S := (fun wx => wx.cell? ⟨w.heap.size, 0, none⟩ = some (.bool n) ∧ wx.cell? ⟨w.heap.size, 1, none⟩ = some (.slice A xs.length c) ∧ wx.cell? ⟨w.heap.size, 2, none⟩ = some (.bool false) ∧ wx.cell? ⟨w.heap.size, 3, none⟩ = some (.slice B ds.length d) ∧ wx.cell? ⟨w.heap.size + 1, 0, none⟩ = some (.bool n') ∧ wx.cell? ⟨w.heap.size + 1, 1, none⟩ = some (.slice A' ys.length c') ∧ wx.cell? ⟨w.heap.size + 1, 2, none⟩ = some (.bool false) ∧ wx.cell? ⟨w.heap.size + 1, 3, none⟩ = some (.slice B' es.length d'))) (by kernel_rfl) (by exact KX.a4 KY.b4) (fun hHeld => ?_)
  generalize V.drew = Vd at *
  refine pT 0 ?_
  (try simp only [p0, p1, p2, p3])
  refine pT 1 ?_
  (try simp only [p0, p1, p2, p3])
  refine pR1 2 (fun K hK => ?_)
  go_simp
  (go_at_call 86; with_reducible refine (fneg_any p _ _ _ _ _ _ _ C _ LY (by have := HC.out; omega)).mono ?_)
  rintro _ wc0 ⟨un, uA, uz, uk, uB, ud, ul, rfl, Lu, hb⟩
  (try go_wp2_with fail)
  replace KX := KX.on hb
  replace KY := KY.on hb
  replace LX := LX.on hb
  replace RR := RR.on hb
  replace BW := BW.trans (hb.mono BW.size)
  clear hb
  refine hK.out _ _ (by exact KX.a4 KY.b4) (fun hHeld => ?_)
  clear hK
  (try simp only [p0, p1, p2, p3])
  refine pR1 3 (fun K hK => ?_)
  go_simp
  (go_at_call 66; with_reducible refine (fadd_any q (-p) _ _ _ _ _ _ _ _ _ _ _ _ _ _ C _ LX Lu HC.out).mono ?_)
  rintro _ wc1 ⟨sn, sA, sz, sk, sB, sd, sl, rfl, Ls, hb⟩
  (try go_wp2_with fail)
  replace KX := KX.on hb
  replace KY := KY.on hb
  replace RR := RR.on hb
  replace BW := BW.trans (hb.mono BW.size)
  clear hb
  refine hK.out _ _ (by exact KX.a4 KY.b4) (fun hHeld => ?_)
  clear hK
  (try simp only [p0, p1, p2, p3])
  rw [← Rat.sub_eq_add_neg] at Ls
  have y0 := RR.r0
  have y1 := RR.r1
  have y2 := RR.r2
  have y3 := RR.r3
  have y4 := RR.f0
  have y5 := RR.f1
  have y6 := RR.f2
  have y7 := RR.f3
  refine pR1 4 (fun K hK => ?_)
  go_simp
  replace KX := KX.far4 (g := w.heap.size + 1 + 1) (by first | omega | exact nXRR.symm) (.bool sn) (.slice sA sz.length sk) (.bool false) (.slice sB sd.length sl)
  replace KY := KY.far4 (g := w.heap.size + 1 + 1) (by first | omega | exact nYRR.symm) (.bool sn) (.slice sA sz.length sk) (.bool false) (.slice sB sd.length sl)
  replace Ls := Ls.put4 RR (.bool sn) (.slice sA sz.length sk) (.bool false) (.slice sB sd.length sl)
  replace BW := Below.putq BW (r := w.heap.size + 1 + 1) (by omega) (.bool sn) (.slice sA sz.length sk) (.bool false) (.slice sB sd.length sl)
  have KR := Box.laidQ RR (.bool sn) (.slice sA sz.length sk) (.bool false) (.slice sB sd.length sl)
  clear RR y0 y1 y2 y3 y4 y5 y6 y7
  generalize ((((wc1.setCell ⟨w.heap.size + 1 + 1, 0, none⟩ (.bool sn)).setCell ⟨w.heap.size + 1 + 1, 1, none⟩ (.slice sA sz.length sk)).setCell ⟨w.heap.size + 1 + 1, 2, none⟩ (.bool false)).setCell ⟨w.heap.size + 1 + 1, 3, none⟩ (.slice sB sd.length sl)) = wsR at *
  refine hK.out _ _ (by exact KX.a4 KY.b4) (fun hHeld => ?_)
  clear hK
  (try simp only [p0, p1, p2, p3])
  have y0 := KR.c 0 _ rfl
  have y1 := KR.c 1 _ rfl
  have y2 := KR.c 2 _ rfl
  have y3 := KR.c 3 _ rfl
  refine wpAnyH_done (by kernel_rfl) (NoPanic.normal ?_) _
  go_wp2
  exact bodyPost_ret (v := frq sn sA sz.length sk false sB sd.length sl) (by simp [results, Tryz.results57, go_sem, y0, y1, y2, y3]) rfl ⟨_, _, _, _, _, _, _, rfl, Ls, BW⟩
end Go.Proofs.YtjamfkafgfpobaaGreat
/-! ### Fq6 -/
namespace Go.Proofs.YtjamfkafgfpobaaGreat
open Go.RowKit Nb
set_option maxHeartbeats 8000000 in
set_option maxRecDepth 20000 in
theorem flimbs_any (q : Rat) (n : Bool) (A B : Option Addr) (xs ds : List Nat) (c d C : Nat) (w : World) (h : Lq w q n A xs c B ds d C) (hC : C ≤ 1759218604390) :
    Calls Tryz.prog 110 #[frq n A xs.length c false B ds.length d] w (fun e w' => (∃ k : Nat, e = .returned (.int .i64 k) ∧ (k ≤ 2048 ↔ FitsQ q) ∧ k ≤ 2 * C + 1) ∧ Below w.heap.size w w') := by
  obtain ⟨V, hV⟩ : ∃ V, V = (w.alloc (.cells #[.bool n, .slice A xs.length c, .bool false, .slice B ds.length d] 74)) := ⟨_, rfl⟩
  have BW : Below w.heap.size w V := by rw [hV]; go_grown
  have KX : Box V w.heap.size [.bool n, .slice A xs.length c, .bool false, .slice B ds.length d] := by rw [hV]; exact Box.new w _ _
  have Xn := h.x.on BW
  have Xd := h.y.on BW
  have HC := Lib.hid hC
  clear h hC
  have KX_0 := KX.c 0 _ rfl
  have KX_1 := KX.c 1 _ rfl
  have KX_2 := KX.c 2 _ rfl
  have KX_3 := KX.c 3 _ rfl
  go_enter Tryz.func110, Tryz.ntmps110
  go_wp2_with fail
  clear KX_0 KX_1 KX_2 KX_3
  rw [← hV]
  clear hV
  refine wp_region_noPanic ?_
  have hb : Below V.heap.size V V.drew := (Below.refl _ _).drew
  replace KX := KX.on hb
  replace Xn := Xn.on hb
  replace Xd := Xd.on hb
  replace BW := BW.trans (hb.mono BW.size)
  clear hb
  refine wp_region_held_drew (S := (fun wx => wx.cell? ⟨w.heap.size, 0, none⟩ = some (.bool n) ∧ wx.cell? ⟨w.heap.size, 1, none⟩ = some (.slice A xs.length c) ∧ wx.cell? ⟨w.heap.size, 2, none⟩ = some (.bool false) ∧ wx.cell? ⟨w.heap.size, 3, none⟩ = some (.slice B ds.length d))) (by kernel_rfl) (by exact KX.b4) (fun hHeld => ?_)
  generalize V.drew = Vd at *
  refine pT 0 ?_
  (try simp only [p0, p1, p2, p3])
  refine pT 1 ?_
  (try simp only [p0, p1, p2, p3])
  refine pT 3 ?_
  (try simp only [p0, p1, p2, p3])
  refine pT 4 ?_
  (try simp only [p0, p1, p2, p3])
  refine pR1 2 (fun K hK => ?_)
  go_simp
  (go_at_call 127; with_reducible refine (limbs_n Xn (by have := HC.out; omega)).mono ?_)
  rintro _ wc0 ⟨⟨k1, rfl, hk1, hl1⟩, hb⟩
  (try go_wp2_with fail)
  replace KX := KX.on hb
  replace Xd := Xd.on hb
  replace BW := BW.trans (hb.mono BW.size)
  clear hb
  refine hK.out _ _ (by exact KX.b4) (fun hHeld => ?_)
  clear hK
  (try simp only [p0, p1, p2, p3])
  refine pR1 5 (fun K hK => ?_)
  go_simp
  (go_at_call 127; with_reducible refine (limbs_n Xd (by have := HC.out; omega)).mono ?_)
  rintro _ wc1 ⟨⟨k2, rfl, hk2, hl2⟩, hb⟩
  (try go_wp2_with fail)
  replace KX := KX.on hb
  replace BW := BW.trans (hb.mono BW.size)
  clear hb
  refine hK.out _ _ (by exact KX.b4) (fun hHeld => ?_)
  clear hK
  (try simp only [p0, p1, p2, p3])
  have hm : max (k1 : Int) (k2 : Int) = ((max k1 k2 : Nat) : Int) := by omega
  refine pR1 6 (fun K hK => ?_)
  go_simp
  refine hK.out _ _ (by exact KX.b4) (fun hHeld => ?_)
  clear hK
  (try simp only [p0, p1, p2, p3])
  refine pT 7 ?_
  (try simp only [p0, p1, p2, p3])
  refine wpAnyH_done (by kernel_rfl) (NoPanic.normal ?_) _
  go_wp2
  go_ret
  exact ⟨⟨max k1 k2, rfl, by unfold FitsQ; rw [← hk1, ← hk2]; omega, by omega⟩, BW⟩
set_option maxHeartbeats 8000000 in
set_option maxRecDepth 20000 in
theorem ffit_any (q : Rat) (n : Bool) (A B : Option Addr) (xs ds : List Nat) (c d C : Nat) (w : World) (h : Lq w q n A xs c B ds d C) (hC : C ≤ 1759218604390) :
    Calls Tryz.prog 80 #[frq n A xs.length c false B ds.length d] w (ToldQ w q) := by
  obtain ⟨V, hV, BW, hz, RR, c0, c1, c2, c3⟩ := box_one w n A xs.length c false B ds.length d 74 29
  have KX := Box.of4 (by omega) c0 c1 c2 c3
  have LX := h.on BW
  have HC := Lib.hid hC
  clear h hC c0 c1 c2 c3 hz
  have KX_0 := KX.c 0 _ rfl
  have KX_1 := KX.c 1 _ rfl
  have KX_2 := KX.c 2 _ rfl
  have KX_3 := KX.c 3 _ rfl
  go_enter Tryz.func80, Tryz.ntmps80
  go_wp2_with fail
  clear KX_0 KX_1 KX_2 KX_3
  rw [← hV]
  clear hV
  refine (flimbs_any q _ _ _ _ _ _ _ C _ LX HC.out).mono ?_
  rintro _ w1 ⟨⟨k, rfl, hk, hkl⟩, hb⟩
  replace KX := KX.on hb
  replace LX := LX.on hb
  replace RR := RR.on hb
  replace BW := BW.trans (hb.mono BW.size)
  clear hb
  have hk3 : (k : Int) ≤ 9223372036854775807 := by have := HC.out; omega
  clear hkl
  by_cases hF : FitsQ q
  · have hk2 : ¬ (2048 : Int) < (k : Int) := by have := hk.2 hF; omega
    clear hk
    have KX_0 := KX.c 0 _ rfl
    have KX_1 := KX.c 1 _ rfl
    have KX_2 := KX.c 2 _ rfl
    have KX_3 := KX.c 3 _ rfl
    go_wp2_with fail
    clear KX_0 KX_1 KX_2 KX_3
    refine (ffrac_any q _ _ _ _ _ _ _ C _ LX hF HC.out).mono ?_
    rintro _ w2 ⟨un, uA, uz, uk, uB, ud, ul, rfl, Lu, hb⟩
    replace KX := KX.on hb
    replace LX := LX.on hb
    replace RR := RR.on hb
    replace BW := BW.trans (hb.mono BW.size)
    clear hb
    have y0 := RR.r0
    have y1 := RR.r1
    have y2 := RR.r2
    have y3 := RR.r3
    have y4 := RR.f0
    have y5 := RR.f1
    have y6 := RR.f2
    have y7 := RR.f3
    have HL := Lib.hid (And.intro (Lu.put4 RR (.bool un) (.slice uA uz.length uk) (.bool false) (.slice uB ud.length ul)) (Below.putq BW (r := w.heap.size + 1) (by omega) (.bool un) (.slice uA uz.length uk) (.bool false) (.slice uB ud.length ul)))
    have HF := Lib.hid hF
    clear LX Lu BW KX hF RR
    go_wp2
    exact bodyPost_ret (v := .tuple #[frq un uA uz.length uk false uB ud.length ul, .int .i64 0]) (by simp [results, Tryz.results80, go_sem, y0, y1, y2, y3]) rfl ⟨_, _, _, _, _, _, _, _, _, rfl, .inl ⟨HF.out, rfl, rfl, HL.out.1⟩, HL.out.2⟩
  · have hk2 : (2048 : Int) < (k : Int) := by have : ¬ k ≤ 2048 := fun h => hF (hk.1 h); omega
    clear hk
    have KX_0 := KX.c 0 _ rfl
    have KX_1 := KX.c 1 _ rfl
    have KX_2 := KX.c 2 _ rfl
    have KX_3 := KX.c 3 _ rfl
    have y0 := RR.r0
    have y1 := RR.r1
    have y2 := RR.r2
    have y3 := RR.r3
    have y4 := RR.f0
    have y5 := RR.f1
    have y6 := RR.f2
    have y7 := RR.f3
    have HL := Lib.hid (Below.putq BW (r := w.heap.size + 1) (by omega) (.bool false) (.slice none 0 0) (.bool false) (.slice none 0 0))
    have HF := Lib.hid hF
    clear LX BW KX hF RR
    go_wp2
    exact bodyPost_ret (v := .tuple #[frq false none ([] : List Nat).length 0 false none ([] : List Nat).length 0, .int .i64 4]) (by simp [results, Tryz.results80, go_sem, y0, y1, y2, y3]) rfl ⟨_, _, _, _, _, _, _, _, _, rfl, .inr ⟨HF.out, rfl, rfl, rfl, rfl, rfl, rfl, rfl, rfl, rfl⟩, HL.out⟩
end Go.Proofs.YtjamfkafgfpobaaGreat
