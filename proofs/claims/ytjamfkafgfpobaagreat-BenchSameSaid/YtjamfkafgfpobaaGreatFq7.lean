/-
  What the product of two fractions in words, the fraction of two numbers, and the quotient of two fractions return. Conditions: that they are fractions, and no longer than memory.
-/
import Derived.Test.YtjamfkafgfpobaaGreatFqe
import Derived.Deep.RegionHeld3
import Derived.Deep.DeepCutAuto
import Derived.BigRegion
import Derived.Test.YtjamfkafgfpobaaGreatFq5
namespace Go.Proofs.YtjamfkafgfpobaaGreat
open Go.RowKit Nb
set_option maxHeartbeats 8000000 in
set_option maxRecDepth 20000 in
theorem fmul_any (q p : Rat) (n n' : Bool) (A B A' B' : Option Addr) (xs ds ys es : List Nat) (c d c' d' C : Nat) (w : World) (h : Lq w q n A xs c B ds d C) (k : Lq w p n' A' ys c' B' es d' C) (hC : C ≤ 1759218604390) :
  Calls Tryz.prog 85 #[frq n A xs.length c false B ds.length d, frq n' A' ys.length c' false B' es.length d'] w (GivesQ w (q * p) (2 * C + 2)) := by
 obtain ⟨G, hG⟩ : ∃ G, Nat.gcd q.num.natAbs p.den = G := ⟨_, rfl⟩
 obtain ⟨H, hH⟩ : ∃ H, Nat.gcd p.num.natAbs q.den = H := ⟨_, rfl⟩
 have hG1 : 0 < G := by rw [← hG]; exact Nat.gcd_pos_of_pos_right _ p.den_pos
 have hG0 : (G : Int) ≠ 0 := by omega
 have hH1 : 0 < H := by rw [← hH]; exact Nat.gcd_pos_of_pos_right _ q.den_pos
 have hH0 : (H : Int) ≠ 0 := by omega
 have hpr := rat_product q p G H hG.symm hH.symm
 have eA : q.num.tdiv (G : Int) * p.num.tdiv (H : Int) = (q * p).num := hpr.1.symm
 have eB : (q.den : Int).tdiv (H : Int) * (p.den : Int).tdiv (G : Int) = ((q * p).den : Int) := by rw [hpr.2, Int.natCast_mul, Int.ofNat_tdiv, Int.ofNat_tdiv]
 have HE := Lib.hid (And.intro eA eB)
 have hG2 : Nat.gcd q.num.natAbs (p.den : Int).natAbs = G := hG
 have hH2 : Nat.gcd p.num.natAbs (q.den : Int).natAbs = H := hH
 have HG := Lib.hid hG2
 have HH := Lib.hid hH2
 clear hG2 hH2
 have HG0 := Lib.hid hG0
 have HH0 := Lib.hid hH0
 obtain ⟨V, hV, BW, hz, RR, ⟨c0, c1, c2, c3⟩, ⟨e0, e1, e2, e3⟩⟩ := box_two w n A xs.length c false B ds.length d n' A' ys.length c' false B' es.length d' 74 74 74
 have KX := Box.of4 (by omega) c0 c1 c2 c3
 have KY := Box.of4 (by omega) e0 e1 e2 e3
 have Xn := h.x.on BW
 have Xd := h.y.on BW
 have Yn := k.x.on BW
 have Yd := k.y.on BW
 have lXd := Xd.len
 have lYd := Yd.len
 have lXn := Xn.len
 have lYn := Yn.len
 have HC := Lib.hid hC
 have HL := Lib.hid (And.intro lXn (And.intro lXd (And.intro lYn lYd)))
 clear hC lXn lXd lYn lYd hG hH hG0 hH0 hG1 hH1 hpr eA eB c0 c1 c2 c3 e0 e1 e2 e3 hz h k
 have KX_0 := KX.c 0 _ rfl
 have KX_1 := KX.c 1 _ rfl
 have KX_2 := KX.c 2 _ rfl
 have KX_3 := KX.c 3 _ rfl
 have KY_0 := KY.c 0 _ rfl
 have KY_1 := KY.c 1 _ rfl
 have KY_2 := KY.c 2 _ rfl
 have KY_3 := KY.c 3 _ rfl
 go_enter Tryz.func85, Tryz.ntmps85
 go_wp2_with fail
 clear KX_0 KX_1 KX_2 KX_3 KY_0 KY_1 KY_2 KY_3
 rw [← hV]
 clear hV
 go_cut [5, 6] (fun s5 s6 wx => ∃ (pG pH : Nat) (gn : Bool) (gA : Option Addr) (gz : List Nat) (gk : Nat) (hn : Bool) (hA : Option Addr) (hz : List Nat) (hk : Nat), s5 = .pointer (some ⟨pG, 0, none⟩) ∧ s6 = .pointer (some ⟨pH, 0, none⟩) ∧ gz.length ≤ C + 1 ∧ hz.length ≤ C + 1 ∧ w.heap.size + 1 + 1 ≠ pG ∧ w.heap.size + 1 + 1 ≠ pH ∧ Below w.heap.size w wx ∧ Box wx w.heap.size [.bool n, .slice A xs.length c, .bool false, .slice B ds.length d] ∧ Box wx (w.heap.size + 1) [.bool n', .slice A' ys.length c', .bool false, .slice B' es.length d'] ∧ Box wx pG [.bool gn, .slice gA gz.length gk] ∧ Box wx pH [.bool hn, .slice hA hz.length hk] ∧ RestQ wx (w.heap.size + 1 + 1) ∧ Nw wx q.num C n A xs c ∧ Nw wx q.den C false B ds d ∧ Nw wx p.num C n' A' ys c' ∧ Nw wx p.den C false B' es d' ∧ Nw wx G maxLen gn gA gz gk ∧ Nw wx H maxLen hn hA hz hk)
 case first =>
  refine wp_region_noPanic ?_
  have hb : Below V.heap.size V V.drew := (Below.refl _ _).drew
  replace KX := KX.on hb
  replace KY := KY.on hb
  replace Xn := Xn.on hb
  replace Xd := Xd.on hb
  replace Yn := Yn.on hb
  replace Yd := Yd.on hb
  replace RR := RR.on hb
  replace BW := BW.trans (hb.mono BW.size)
  clear hb
  refine wp_region_held_drew (S := (fun wx => wx.cell? ⟨w.heap.size, 0, none⟩ = some (.bool n) ∧ wx.cell? ⟨w.heap.size, 1, none⟩ = some (.slice A xs.length c) ∧ wx.cell? ⟨w.heap.size, 2, none⟩ = some (.bool false) ∧ wx.cell? ⟨w.heap.size, 3, none⟩ = some (.slice B ds.length d) ∧ wx.cell? ⟨w.heap.size + 1, 0, none⟩ = some (.bool n') ∧ wx.cell? ⟨w.heap.size + 1, 1, none⟩ = some (.slice A' ys.length c') ∧ wx.cell? ⟨w.heap.size + 1, 2, none⟩ = some (.bool false) ∧ wx.cell? ⟨w.heap.size + 1, 3, none⟩ = some (.slice B' es.length d'))) (by kernel_rfl) (by exact KX.a4 KY.b4) (fun hHeld => ?_)
  generalize V.drew = Vd at *
  refine pT 0 ?_
  (try simp only [p0, p1, p2, p3])
  refine pT 1 ?_
  (try simp only [p0, p1, p2, p3])
  refine pT 2 ?_
  (try simp only [p0, p1, p2, p3])
  refine pT 3 ?_
  (try simp only [p0, p1, p2, p3])
  refine pT 5 ?_
  (try simp only [p0, p1, p2, p3])
  refine pT 6 ?_
  (try simp only [p0, p1, p2, p3])
  refine pT 7 ?_
  (try simp only [p0, p1, p2, p3])
  refine pT 8 ?_
  (try simp only [p0, p1, p2, p3])
  refine pR3 4 10 11 (fun K hK => ?_) (fun K hK => ?_) (fun K hK => ?_)
  ·go_simp
   (go_at_call 106; with_reducible refine (gcd_n (L := C) Xn Yd HL.out.1 HL.out.2.2.2 (by have := HC.out; omega) HG.out).mono ?_)
   rintro _ wc0 ⟨gn, gA, gz, gk, rfl, Ng, gl, hb⟩
   (try go_wp2_with fail)
   replace KX := KX.on hb
   replace KY := KY.on hb
   replace Xn := Xn.on hb
   replace Xd := Xd.on hb
   replace Yn := Yn.on hb
   replace Yd := Yd.on hb
   replace RR := RR.on hb
   replace BW := BW.trans (hb.mono BW.size)
   clear hb
   refine hK.out _ _ (by exact KX.a4 KY.b4) (fun hHeld => ?_)
   clear hK
   (try simp only [p0, p1, p2, p3])
   refine pR3 9 10 11 (fun K hK => ?_) (fun K hK => ?_) (fun K hK => ?_)
   ·go_simp
    (go_at_call 106; with_reducible refine (gcd_n (L := C) Yn Xd HL.out.2.2.1 HL.out.2.1 (by have := HC.out; omega) HH.out).mono ?_)
    rintro _ wc1 ⟨hn, hA, hz, hk, rfl, Nh, hl, hb⟩
    (try go_wp2_with fail)
    replace KX := KX.on hb
    replace KY := KY.on hb
    replace Xn := Xn.on hb
    replace Xd := Xd.on hb
    replace Yn := Yn.on hb
    replace Yd := Yd.on hb
    replace Ng := Ng.on hb
    replace RR := RR.on hb
    replace BW := BW.trans (hb.mono BW.size)
    clear hb
    refine hK.out _ _ (by exact KX.a4 KY.b4) (fun hHeld => ?_)
    clear hK
    (try simp only [p0, p1, p2, p3])
    refine pR2 10 11 (fun K hK => ?_) (fun K hK => ?_)
    ·go_simp
     have hb : Below wc1.heap.size wc1 (wc1.alloc (.cells #[.bool false, .slice none 0 0] 72)) := Below.alloc (Below.refl _ _) (Nat.le_refl _) _
     have RG : Rest (wc1.alloc (.cells #[.bool false, .slice none 0 0] 72)) wc1.heap.size := Rest.new wc1
     have gG : w.heap.size ≤ wc1.heap.size := BW.size
     have nGKX : w.heap.size ≠ wc1.heap.size := Nat.ne_of_lt KX.lt
     have nGKY : w.heap.size + 1 ≠ wc1.heap.size := Nat.ne_of_lt KY.lt
     have nGRR : w.heap.size + 1 + 1 ≠ wc1.heap.size := Nat.ne_of_lt RR.lr
     replace KX := KX.on hb
     replace KY := KY.on hb
     replace Xn := Xn.on hb
     replace Xd := Xd.on hb
     replace Yn := Yn.on hb
     replace Yd := Yd.on hb
     replace Ng := Ng.on hb
     replace Nh := Nh.on hb
     replace RR := RR.on hb
     replace BW := BW.trans (hb.mono BW.size)
     clear hb
     generalize wc1.heap.size = pG at *
     generalize (wc1.alloc (.cells #[.bool false, .slice none 0 0] 72)) = wzG2 at *
     refine hK.out _ _ (by exact KX.a4 KY.b4) (fun hHeld => ?_)
     clear hK
     (try simp only [p0, p1, p2, p3])
     refine pR1 11 (fun K hK => ?_)
     go_simp
     have hb : Below wzG2.heap.size wzG2 (wzG2.alloc (.cells #[.bool false, .slice none 0 0] 72)) := Below.alloc (Below.refl _ _) (Nat.le_refl _) _
     have RH : Rest (wzG2.alloc (.cells #[.bool false, .slice none 0 0] 72)) wzG2.heap.size := Rest.new wzG2
     have gH : w.heap.size ≤ wzG2.heap.size := BW.size
     have nHKX : w.heap.size ≠ wzG2.heap.size := Nat.ne_of_lt KX.lt
     have nHKY : w.heap.size + 1 ≠ wzG2.heap.size := Nat.ne_of_lt KY.lt
     have nHRR : w.heap.size + 1 + 1 ≠ wzG2.heap.size := Nat.ne_of_lt RR.lr
     have nHRG : pG ≠ wzG2.heap.size := Nat.ne_of_lt RG.lr
     replace KX := KX.on hb
     replace KY := KY.on hb
     replace Xn := Xn.on hb
     replace Xd := Xd.on hb
     replace Yn := Yn.on hb
     replace Yd := Yd.on hb
     replace Ng := Ng.on hb
     replace Nh := Nh.on hb
     replace RR := RR.on hb
     replace RG := RG.on hb
     replace BW := BW.trans (hb.mono BW.size)
     clear hb
     generalize wzG2.heap.size = pH at *
     generalize (wzG2.alloc (.cells #[.bool false, .slice none 0 0] 72)) = wzH210 at *
     refine hK.out _ _ (by exact KX.a4 KY.b4) (fun hHeld => ?_)
     clear hK
     (try simp only [p0, p1, p2, p3])
     have y0 := RG.r0
     have y1 := RG.r1
     have y2 := RG.f0
     have y3 := RG.f1
     refine pR1 12 (fun K hK => ?_)
     go_simp
     have KG := Box.laid RG (.bool gn) (.slice gA gz.length gk)
     replace KX := KX.far2 nGKX (.bool gn) (.slice gA gz.length gk)
     replace KY := KY.far2 nGKY (.bool gn) (.slice gA gz.length gk)
     replace RR := RR.far2 (by first | exact nGRR | exact (nRRG).symm) (.bool gn) (.slice gA gz.length gk)
     replace RH := RH.far2 (by first | exact nGRH | exact (nHRG).symm) (.bool gn) (.slice gA gz.length gk)
     replace Xn := Xn.put2 RG (.bool gn) (.slice gA gz.length gk)
     replace Xd := Xd.put2 RG (.bool gn) (.slice gA gz.length gk)
     replace Yn := Yn.put2 RG (.bool gn) (.slice gA gz.length gk)
     replace Yd := Yd.put2 RG (.bool gn) (.slice gA gz.length gk)
     replace Ng := Ng.put2 RG (.bool gn) (.slice gA gz.length gk)
     replace Nh := Nh.put2 RG (.bool gn) (.slice gA gz.length gk)
     replace BW := (BW.setCell (p := ⟨pG, 0, none⟩) gG (.bool gn)).setCell (p := ⟨pG, 1, none⟩) gG (.slice gA gz.length gk)
     clear RG y0 y1 y2 y3
     generalize ((wzH210.setCell ⟨pG, 0, none⟩ (.bool gn)).setCell ⟨pG, 1, none⟩ (.slice gA gz.length gk)) = wsG at *
     refine hK.out _ _ (by exact KX.a4 KY.b4) (fun hHeld => ?_)
     clear hK
     (try simp only [p0, p1, p2, p3])
     have nHKG : pG ≠ pH := by first | exact nHRG | exact nGRH.symm
     have y0 := RH.r0
     have y1 := RH.r1
     have y2 := RH.f0
     have y3 := RH.f1
     refine pR1 13 (fun K hK => ?_)
     go_simp
     have KH := Box.laid RH (.bool hn) (.slice hA hz.length hk)
     replace KX := KX.far2 nHKX (.bool hn) (.slice hA hz.length hk)
     replace KY := KY.far2 nHKY (.bool hn) (.slice hA hz.length hk)
     replace KG := KG.far2 nHKG (.bool hn) (.slice hA hz.length hk)
     replace RR := RR.far2 (by first | exact nHRR | exact (nRRH).symm) (.bool hn) (.slice hA hz.length hk)
     replace Xn := Xn.put2 RH (.bool hn) (.slice hA hz.length hk)
     replace Xd := Xd.put2 RH (.bool hn) (.slice hA hz.length hk)
     replace Yn := Yn.put2 RH (.bool hn) (.slice hA hz.length hk)
     replace Yd := Yd.put2 RH (.bool hn) (.slice hA hz.length hk)
     replace Ng := Ng.put2 RH (.bool hn) (.slice hA hz.length hk)
     replace Nh := Nh.put2 RH (.bool hn) (.slice hA hz.length hk)
     replace BW := (BW.setCell (p := ⟨pH, 0, none⟩) gH (.bool hn)).setCell (p := ⟨pH, 1, none⟩) gH (.slice hA hz.length hk)
     clear RH y0 y1 y2 y3
     generalize ((wsG.setCell ⟨pH, 0, none⟩ (.bool hn)).setCell ⟨pH, 1, none⟩ (.slice hA hz.length hk)) = wsH at *
     refine hK.out _ _ (by exact KX.a4 KY.b4) (fun hHeld => ?_)
     clear hK
     (try simp only [p0, p1, p2, p3])
     refine wpAnyH_done (by kernel_rfl) (NoPanic.normal ?_) _
     go_wp2
     go_meet
     exact ⟨pG, pH, gn, gA, gz, gk, hn, hA, hz, hk, rfl, rfl, gl, hl, nGRR, nHRR, BW, KX, KY, KG, KH, RR, Xn, Xd, Yn, Yd, Ng, Nh⟩
    ·go_simp
     have hb : Below wc1.heap.size wc1 (wc1.alloc (.cells #[.bool false, .slice none 0 0] 72)) := Below.alloc (Below.refl _ _) (Nat.le_refl _) _
     have RH : Rest (wc1.alloc (.cells #[.bool false, .slice none 0 0] 72)) wc1.heap.size := Rest.new wc1
     have gH : w.heap.size ≤ wc1.heap.size := BW.size
     have nHKX : w.heap.size ≠ wc1.heap.size := Nat.ne_of_lt KX.lt
     have nHKY : w.heap.size + 1 ≠ wc1.heap.size := Nat.ne_of_lt KY.lt
     have nHRR : w.heap.size + 1 + 1 ≠ wc1.heap.size := Nat.ne_of_lt RR.lr
     replace KX := KX.on hb
     replace KY := KY.on hb
     replace Xn := Xn.on hb
     replace Xd := Xd.on hb
     replace Yn := Yn.on hb
     replace Yd := Yd.on hb
     replace Ng := Ng.on hb
     replace Nh := Nh.on hb
     replace RR := RR.on hb
     replace BW := BW.trans (hb.mono BW.size)
     clear hb
     generalize wc1.heap.size = pH at *
     generalize (wc1.alloc (.cells #[.bool false, .slice none 0 0] 72)) = wzH2 at *
     refine hK.out _ _ (by exact KX.a4 KY.b4) (fun hHeld => ?_)
     clear hK
     (try simp only [p0, p1, p2, p3])
     refine pR1 10 (fun K hK => ?_)
     go_simp
     have hb : Below wzH2.heap.size wzH2 (wzH2.alloc (.cells #[.bool false, .slice none 0 0] 72)) := Below.alloc (Below.refl _ _) (Nat.le_refl _) _
     have RG : Rest (wzH2.alloc (.cells #[.bool false, .slice none 0 0] 72)) wzH2.heap.size := Rest.new wzH2
     have gG : w.heap.size ≤ wzH2.heap.size := BW.size
     have nGKX : w.heap.size ≠ wzH2.heap.size := Nat.ne_of_lt KX.lt
     have nGKY : w.heap.size + 1 ≠ wzH2.heap.size := Nat.ne_of_lt KY.lt
     have nGRR : w.heap.size + 1 + 1 ≠ wzH2.heap.size := Nat.ne_of_lt RR.lr
     have nGRH : pH ≠ wzH2.heap.size := Nat.ne_of_lt RH.lr
     replace KX := KX.on hb
     replace KY := KY.on hb
     replace Xn := Xn.on hb
     replace Xd := Xd.on hb
     replace Yn := Yn.on hb
     replace Yd := Yd.on hb
     replace Ng := Ng.on hb
     replace Nh := Nh.on hb
     replace RR := RR.on hb
     replace RH := RH.on hb
     replace BW := BW.trans (hb.mono BW.size)
     clear hb
     generalize wzH2.heap.size = pG at *
     generalize (wzH2.alloc (.cells #[.bool false, .slice none 0 0] 72)) = wzG211 at *
     refine hK.out _ _ (by exact KX.a4 KY.b4) (fun hHeld => ?_)
     clear hK
     (try simp only [p0, p1, p2, p3])
     have y0 := RG.r0
     have y1 := RG.r1
     have y2 := RG.f0
     have y3 := RG.f1
     refine pR1 12 (fun K hK => ?_)
     go_simp
     have KG := Box.laid RG (.bool gn) (.slice gA gz.length gk)
     replace KX := KX.far2 nGKX (.bool gn) (.slice gA gz.length gk)
     replace KY := KY.far2 nGKY (.bool gn) (.slice gA gz.length gk)
     replace RR := RR.far2 (by first | exact nGRR | exact (nRRG).symm) (.bool gn) (.slice gA gz.length gk)
     replace RH := RH.far2 (by first | exact nGRH | exact (nHRG).symm) (.bool gn) (.slice gA gz.length gk)
     replace Xn := Xn.put2 RG (.bool gn) (.slice gA gz.length gk)
     replace Xd := Xd.put2 RG (.bool gn) (.slice gA gz.length gk)
     replace Yn := Yn.put2 RG (.bool gn) (.slice gA gz.length gk)
     replace Yd := Yd.put2 RG (.bool gn) (.slice gA gz.length gk)
     replace Ng := Ng.put2 RG (.bool gn) (.slice gA gz.length gk)
     replace Nh := Nh.put2 RG (.bool gn) (.slice gA gz.length gk)
     replace BW := (BW.setCell (p := ⟨pG, 0, none⟩) gG (.bool gn)).setCell (p := ⟨pG, 1, none⟩) gG (.slice gA gz.length gk)
     clear RG y0 y1 y2 y3
     generalize ((wzG211.setCell ⟨pG, 0, none⟩ (.bool gn)).setCell ⟨pG, 1, none⟩ (.slice gA gz.length gk)) = wsG at *
     refine hK.out _ _ (by exact KX.a4 KY.b4) (fun hHeld => ?_)
     clear hK
     (try simp only [p0, p1, p2, p3])
     have nHKG : pG ≠ pH := by first | exact nHRG | exact nGRH.symm
     have y0 := RH.r0
     have y1 := RH.r1
     have y2 := RH.f0
     have y3 := RH.f1
     refine pR1 13 (fun K hK => ?_)
     go_simp
     have KH := Box.laid RH (.bool hn) (.slice hA hz.length hk)
     replace KX := KX.far2 nHKX (.bool hn) (.slice hA hz.length hk)
     replace KY := KY.far2 nHKY (.bool hn) (.slice hA hz.length hk)
     replace KG := KG.far2 nHKG (.bool hn) (.slice hA hz.length hk)
     replace RR := RR.far2 (by first | exact nHRR | exact (nRRH).symm) (.bool hn) (.slice hA hz.length hk)
     replace Xn := Xn.put2 RH (.bool hn) (.slice hA hz.length hk)
     replace Xd := Xd.put2 RH (.bool hn) (.slice hA hz.length hk)
     replace Yn := Yn.put2 RH (.bool hn) (.slice hA hz.length hk)
     replace Yd := Yd.put2 RH (.bool hn) (.slice hA hz.length hk)
     replace Ng := Ng.put2 RH (.bool hn) (.slice hA hz.length hk)
     replace Nh := Nh.put2 RH (.bool hn) (.slice hA hz.length hk)
     replace BW := (BW.setCell (p := ⟨pH, 0, none⟩) gH (.bool hn)).setCell (p := ⟨pH, 1, none⟩) gH (.slice hA hz.length hk)
     clear RH y0 y1 y2 y3
     generalize ((wsG.setCell ⟨pH, 0, none⟩ (.bool hn)).setCell ⟨pH, 1, none⟩ (.slice hA hz.length hk)) = wsH at *
     refine hK.out _ _ (by exact KX.a4 KY.b4) (fun hHeld => ?_)
     clear hK
     (try simp only [p0, p1, p2, p3])
     refine wpAnyH_done (by kernel_rfl) (NoPanic.normal ?_) _
     go_wp2
     go_meet
     exact ⟨pG, pH, gn, gA, gz, gk, hn, hA, hz, hk, rfl, rfl, gl, hl, nGRR, nHRR, BW, KX, KY, KG, KH, RR, Xn, Xd, Yn, Yd, Ng, Nh⟩
   ·go_simp
    have hb : Below wc0.heap.size wc0 (wc0.alloc (.cells #[.bool false, .slice none 0 0] 72)) := Below.alloc (Below.refl _ _) (Nat.le_refl _) _
    have RG : Rest (wc0.alloc (.cells #[.bool false, .slice none 0 0] 72)) wc0.heap.size := Rest.new wc0
    have gG : w.heap.size ≤ wc0.heap.size := BW.size
    have nGKX : w.heap.size ≠ wc0.heap.size := Nat.ne_of_lt KX.lt
    have nGKY : w.heap.size + 1 ≠ wc0.heap.size := Nat.ne_of_lt KY.lt
    have nGRR : w.heap.size + 1 + 1 ≠ wc0.heap.size := Nat.ne_of_lt RR.lr
    replace KX := KX.on hb
    replace KY := KY.on hb
    replace Xn := Xn.on hb
    replace Xd := Xd.on hb
    replace Yn := Yn.on hb
    replace Yd := Yd.on hb
    replace Ng := Ng.on hb
    replace RR := RR.on hb
    replace BW := BW.trans (hb.mono BW.size)
    clear hb
    generalize wc0.heap.size = pG at *
    generalize (wc0.alloc (.cells #[.bool false, .slice none 0 0] 72)) = wzG1 at *
    refine hK.out _ _ (by exact KX.a4 KY.b4) (fun hHeld => ?_)
    clear hK
    (try simp only [p0, p1, p2, p3])
    refine pR2 9 11 (fun K hK => ?_) (fun K hK => ?_)
    ·go_simp
     (go_at_call 106; with_reducible refine (gcd_n (L := C) Yn Xd HL.out.2.2.1 HL.out.2.1 (by have := HC.out; omega) HH.out).mono ?_)
     rintro _ wc110 ⟨hn, hA, hz, hk, rfl, Nh, hl, hb⟩
     (try go_wp2_with fail)
     replace KX := KX.on hb
     replace KY := KY.on hb
     replace Xn := Xn.on hb
     replace Xd := Xd.on hb
     replace Yn := Yn.on hb
     replace Yd := Yd.on hb
     replace Ng := Ng.on hb
     replace RR := RR.on hb
     replace RG := RG.on hb
     replace BW := BW.trans (hb.mono BW.size)
     clear hb
     refine hK.out _ _ (by exact KX.a4 KY.b4) (fun hHeld => ?_)
     clear hK
     (try simp only [p0, p1, p2, p3])
     refine pR1 11 (fun K hK => ?_)
     go_simp
     have hb : Below wc110.heap.size wc110 (wc110.alloc (.cells #[.bool false, .slice none 0 0] 72)) := Below.alloc (Below.refl _ _) (Nat.le_refl _) _
     have RH : Rest (wc110.alloc (.cells #[.bool false, .slice none 0 0] 72)) wc110.heap.size := Rest.new wc110
     have gH : w.heap.size ≤ wc110.heap.size := BW.size
     have nHKX : w.heap.size ≠ wc110.heap.size := Nat.ne_of_lt KX.lt
     have nHKY : w.heap.size + 1 ≠ wc110.heap.size := Nat.ne_of_lt KY.lt
     have nHRR : w.heap.size + 1 + 1 ≠ wc110.heap.size := Nat.ne_of_lt RR.lr
     have nHRG : pG ≠ wc110.heap.size := Nat.ne_of_lt RG.lr
     replace KX := KX.on hb
     replace KY := KY.on hb
     replace Xn := Xn.on hb
     replace Xd := Xd.on hb
     replace Yn := Yn.on hb
     replace Yd := Yd.on hb
     replace Ng := Ng.on hb
     replace Nh := Nh.on hb
     replace RR := RR.on hb
     replace RG := RG.on hb
     replace BW := BW.trans (hb.mono BW.size)
     clear hb
     generalize wc110.heap.size = pH at *
     generalize (wc110.alloc (.cells #[.bool false, .slice none 0 0] 72)) = wzH210 at *
     refine hK.out _ _ (by exact KX.a4 KY.b4) (fun hHeld => ?_)
     clear hK
     (try simp only [p0, p1, p2, p3])
     have y0 := RG.r0
     have y1 := RG.r1
     have y2 := RG.f0
     have y3 := RG.f1
     refine pR1 12 (fun K hK => ?_)
     go_simp
     have KG := Box.laid RG (.bool gn) (.slice gA gz.length gk)
     replace KX := KX.far2 nGKX (.bool gn) (.slice gA gz.length gk)
     replace KY := KY.far2 nGKY (.bool gn) (.slice gA gz.length gk)
     replace RR := RR.far2 (by first | exact nGRR | exact (nRRG).symm) (.bool gn) (.slice gA gz.length gk)
     replace RH := RH.far2 (by first | exact nGRH | exact (nHRG).symm) (.bool gn) (.slice gA gz.length gk)
     replace Xn := Xn.put2 RG (.bool gn) (.slice gA gz.length gk)
     replace Xd := Xd.put2 RG (.bool gn) (.slice gA gz.length gk)
     replace Yn := Yn.put2 RG (.bool gn) (.slice gA gz.length gk)
     replace Yd := Yd.put2 RG (.bool gn) (.slice gA gz.length gk)
     replace Ng := Ng.put2 RG (.bool gn) (.slice gA gz.length gk)
     replace Nh := Nh.put2 RG (.bool gn) (.slice gA gz.length gk)
     replace BW := (BW.setCell (p := ⟨pG, 0, none⟩) gG (.bool gn)).setCell (p := ⟨pG, 1, none⟩) gG (.slice gA gz.length gk)
     clear RG y0 y1 y2 y3
     generalize ((wzH210.setCell ⟨pG, 0, none⟩ (.bool gn)).setCell ⟨pG, 1, none⟩ (.slice gA gz.length gk)) = wsG at *
     refine hK.out _ _ (by exact KX.a4 KY.b4) (fun hHeld => ?_)
     clear hK
     (try simp only [p0, p1, p2, p3])
     have nHKG : pG ≠ pH := by first | exact nHRG | exact nGRH.symm
     have y0 := RH.r0
     have y1 := RH.r1
     have y2 := RH.f0
     have y3 := RH.f1
     refine pR1 13 (fun K hK => ?_)
     go_simp
     have KH := Box.laid RH (.bool hn) (.slice hA hz.length hk)
     replace KX := KX.far2 nHKX (.bool hn) (.slice hA hz.length hk)
     replace KY := KY.far2 nHKY (.bool hn) (.slice hA hz.length hk)
     replace KG := KG.far2 nHKG (.bool hn) (.slice hA hz.length hk)
     replace RR := RR.far2 (by first | exact nHRR | exact (nRRH).symm) (.bool hn) (.slice hA hz.length hk)
     replace Xn := Xn.put2 RH (.bool hn) (.slice hA hz.length hk)
     replace Xd := Xd.put2 RH (.bool hn) (.slice hA hz.length hk)
     replace Yn := Yn.put2 RH (.bool hn) (.slice hA hz.length hk)
     replace Yd := Yd.put2 RH (.bool hn) (.slice hA hz.length hk)
     replace Ng := Ng.put2 RH (.bool hn) (.slice hA hz.length hk)
     replace Nh := Nh.put2 RH (.bool hn) (.slice hA hz.length hk)
     replace BW := (BW.setCell (p := ⟨pH, 0, none⟩) gH (.bool hn)).setCell (p := ⟨pH, 1, none⟩) gH (.slice hA hz.length hk)
     clear RH y0 y1 y2 y3
     generalize ((wsG.setCell ⟨pH, 0, none⟩ (.bool hn)).setCell ⟨pH, 1, none⟩ (.slice hA hz.length hk)) = wsH at *
     refine hK.out _ _ (by exact KX.a4 KY.b4) (fun hHeld => ?_)
     clear hK
     (try simp only [p0, p1, p2, p3])
     refine wpAnyH_done (by kernel_rfl) (NoPanic.normal ?_) _
     go_wp2
     go_meet
     exact ⟨pG, pH, gn, gA, gz, gk, hn, hA, hz, hk, rfl, rfl, gl, hl, nGRR, nHRR, BW, KX, KY, KG, KH, RR, Xn, Xd, Yn, Yd, Ng, Nh⟩
    ·go_simp
     have hb : Below wzG1.heap.size wzG1 (wzG1.alloc (.cells #[.bool false, .slice none 0 0] 72)) := Below.alloc (Below.refl _ _) (Nat.le_refl _) _
     have RH : Rest (wzG1.alloc (.cells #[.bool false, .slice none 0 0] 72)) wzG1.heap.size := Rest.new wzG1
     have gH : w.heap.size ≤ wzG1.heap.size := BW.size
     have nHKX : w.heap.size ≠ wzG1.heap.size := Nat.ne_of_lt KX.lt
     have nHKY : w.heap.size + 1 ≠ wzG1.heap.size := Nat.ne_of_lt KY.lt
     have nHRR : w.heap.size + 1 + 1 ≠ wzG1.heap.size := Nat.ne_of_lt RR.lr
     have nHRG : pG ≠ wzG1.heap.size := Nat.ne_of_lt RG.lr
     replace KX := KX.on hb
     replace KY := KY.on hb
     replace Xn := Xn.on hb
     replace Xd := Xd.on hb
     replace Yn := Yn.on hb
     replace Yd := Yd.on hb
     replace Ng := Ng.on hb
     replace RR := RR.on hb
     replace RG := RG.on hb
     replace BW := BW.trans (hb.mono BW.size)
     clear hb
     generalize wzG1.heap.size = pH at *
     generalize (wzG1.alloc (.cells #[.bool false, .slice none 0 0] 72)) = wzH110 at *
     refine hK.out _ _ (by exact KX.a4 KY.b4) (fun hHeld => ?_)
     clear hK
     (try simp only [p0, p1, p2, p3])
     refine pR1 9 (fun K hK => ?_)
     go_simp
     (go_at_call 106; with_reducible refine (gcd_n (L := C) Yn Xd HL.out.2.2.1 HL.out.2.1 (by have := HC.out; omega) HH.out).mono ?_)
     rintro _ wc11011 ⟨hn, hA, hz, hk, rfl, Nh, hl, hb⟩
     (try go_wp2_with fail)
     replace KX := KX.on hb
     replace KY := KY.on hb
     replace Xn := Xn.on hb
     replace Xd := Xd.on hb
     replace Yn := Yn.on hb
     replace Yd := Yd.on hb
     replace Ng := Ng.on hb
     replace RR := RR.on hb
     replace RG := RG.on hb
     replace RH := RH.on hb
     replace BW := BW.trans (hb.mono BW.size)
     clear hb
     refine hK.out _ _ (by exact KX.a4 KY.b4) (fun hHeld => ?_)
     clear hK
     (try simp only [p0, p1, p2, p3])
     have y0 := RG.r0
     have y1 := RG.r1
     have y2 := RG.f0
     have y3 := RG.f1
     refine pR1 12 (fun K hK => ?_)
     go_simp
     have KG := Box.laid RG (.bool gn) (.slice gA gz.length gk)
     replace KX := KX.far2 nGKX (.bool gn) (.slice gA gz.length gk)
     replace KY := KY.far2 nGKY (.bool gn) (.slice gA gz.length gk)
     replace RR := RR.far2 (by first | exact nGRR | exact (nRRG).symm) (.bool gn) (.slice gA gz.length gk)
     replace RH := RH.far2 (by first | exact nGRH | exact (nHRG).symm) (.bool gn) (.slice gA gz.length gk)
     replace Xn := Xn.put2 RG (.bool gn) (.slice gA gz.length gk)
     replace Xd := Xd.put2 RG (.bool gn) (.slice gA gz.length gk)
     replace Yn := Yn.put2 RG (.bool gn) (.slice gA gz.length gk)
     replace Yd := Yd.put2 RG (.bool gn) (.slice gA gz.length gk)
     replace Ng := Ng.put2 RG (.bool gn) (.slice gA gz.length gk)
     replace Nh := Nh.put2 RG (.bool gn) (.slice gA gz.length gk)
     replace BW := (BW.setCell (p := ⟨pG, 0, none⟩) gG (.bool gn)).setCell (p := ⟨pG, 1, none⟩) gG (.slice gA gz.length gk)
     clear RG y0 y1 y2 y3
     generalize ((wc11011.setCell ⟨pG, 0, none⟩ (.bool gn)).setCell ⟨pG, 1, none⟩ (.slice gA gz.length gk)) = wsG at *
     refine hK.out _ _ (by exact KX.a4 KY.b4) (fun hHeld => ?_)
     clear hK
     (try simp only [p0, p1, p2, p3])
     have nHKG : pG ≠ pH := by first | exact nHRG | exact nGRH.symm
     have y0 := RH.r0
     have y1 := RH.r1
     have y2 := RH.f0
     have y3 := RH.f1
     refine pR1 13 (fun K hK => ?_)
     go_simp
     have KH := Box.laid RH (.bool hn) (.slice hA hz.length hk)
     replace KX := KX.far2 nHKX (.bool hn) (.slice hA hz.length hk)
     replace KY := KY.far2 nHKY (.bool hn) (.slice hA hz.length hk)
     replace KG := KG.far2 nHKG (.bool hn) (.slice hA hz.length hk)
     replace RR := RR.far2 (by first | exact nHRR | exact (nRRH).symm) (.bool hn) (.slice hA hz.length hk)
     replace Xn := Xn.put2 RH (.bool hn) (.slice hA hz.length hk)
     replace Xd := Xd.put2 RH (.bool hn) (.slice hA hz.length hk)
     replace Yn := Yn.put2 RH (.bool hn) (.slice hA hz.length hk)
     replace Yd := Yd.put2 RH (.bool hn) (.slice hA hz.length hk)
     replace Ng := Ng.put2 RH (.bool hn) (.slice hA hz.length hk)
     replace Nh := Nh.put2 RH (.bool hn) (.slice hA hz.length hk)
     replace BW := (BW.setCell (p := ⟨pH, 0, none⟩) gH (.bool hn)).setCell (p := ⟨pH, 1, none⟩) gH (.slice hA hz.length hk)
     clear RH y0 y1 y2 y3
     generalize ((wsG.setCell ⟨pH, 0, none⟩ (.bool hn)).setCell ⟨pH, 1, none⟩ (.slice hA hz.length hk)) = wsH at *
     refine hK.out _ _ (by exact KX.a4 KY.b4) (fun hHeld => ?_)
     clear hK
     (try simp only [p0, p1, p2, p3])
     refine wpAnyH_done (by kernel_rfl) (NoPanic.normal ?_) _
     go_wp2
     go_meet
     exact ⟨pG, pH, gn, gA, gz, gk, hn, hA, hz, hk, rfl, rfl, gl, hl, nGRR, nHRR, BW, KX, KY, KG, KH, RR, Xn, Xd, Yn, Yd, Ng, Nh⟩
   ·go_simp
    have hb : Below wc0.heap.size wc0 (wc0.alloc (.cells #[.bool false, .slice none 0 0] 72)) := Below.alloc (Below.refl _ _) (Nat.le_refl _) _
    have RH : Rest (wc0.alloc (.cells #[.bool false, .slice none 0 0] 72)) wc0.heap.size := Rest.new wc0
    have gH : w.heap.size ≤ wc0.heap.size := BW.size
    have nHKX : w.heap.size ≠ wc0.heap.size := Nat.ne_of_lt KX.lt
    have nHKY : w.heap.size + 1 ≠ wc0.heap.size := Nat.ne_of_lt KY.lt
    have nHRR : w.heap.size + 1 + 1 ≠ wc0.heap.size := Nat.ne_of_lt RR.lr
    replace KX := KX.on hb
    replace KY := KY.on hb
    replace Xn := Xn.on hb
    replace Xd := Xd.on hb
    replace Yn := Yn.on hb
    replace Yd := Yd.on hb
    replace Ng := Ng.on hb
    replace RR := RR.on hb
    replace BW := BW.trans (hb.mono BW.size)
    clear hb
    generalize wc0.heap.size = pH at *
    generalize (wc0.alloc (.cells #[.bool false, .slice none 0 0] 72)) = wzH1 at *
    refine hK.out _ _ (by exact KX.a4 KY.b4) (fun hHeld => ?_)
    clear hK
    (try simp only [p0, p1, p2, p3])
    refine pR2 9 10 (fun K hK => ?_) (fun K hK => ?_)
    ·go_simp
     (go_at_call 106; with_reducible refine (gcd_n (L := C) Yn Xd HL.out.2.2.1 HL.out.2.1 (by have := HC.out; omega) HH.out).mono ?_)
     rintro _ wc111 ⟨hn, hA, hz, hk, rfl, Nh, hl, hb⟩
     (try go_wp2_with fail)
     replace KX := KX.on hb
     replace KY := KY.on hb
     replace Xn := Xn.on hb
     replace Xd := Xd.on hb
     replace Yn := Yn.on hb
     replace Yd := Yd.on hb
     replace Ng := Ng.on hb
     replace RR := RR.on hb
     replace RH := RH.on hb
     replace BW := BW.trans (hb.mono BW.size)
     clear hb
     refine hK.out _ _ (by exact KX.a4 KY.b4) (fun hHeld => ?_)
     clear hK
     (try simp only [p0, p1, p2, p3])
     refine pR1 10 (fun K hK => ?_)
     go_simp
     have hb : Below wc111.heap.size wc111 (wc111.alloc (.cells #[.bool false, .slice none 0 0] 72)) := Below.alloc (Below.refl _ _) (Nat.le_refl _) _
     have RG : Rest (wc111.alloc (.cells #[.bool false, .slice none 0 0] 72)) wc111.heap.size := Rest.new wc111
     have gG : w.heap.size ≤ wc111.heap.size := BW.size
     have nGKX : w.heap.size ≠ wc111.heap.size := Nat.ne_of_lt KX.lt
     have nGKY : w.heap.size + 1 ≠ wc111.heap.size := Nat.ne_of_lt KY.lt
     have nGRR : w.heap.size + 1 + 1 ≠ wc111.heap.size := Nat.ne_of_lt RR.lr
     have nGRH : pH ≠ wc111.heap.size := Nat.ne_of_lt RH.lr
     replace KX := KX.on hb
     replace KY := KY.on hb
     replace Xn := Xn.on hb
     replace Xd := Xd.on hb
     replace Yn := Yn.on hb
     replace Yd := Yd.on hb
     replace Ng := Ng.on hb
     replace Nh := Nh.on hb
     replace RR := RR.on hb
     replace RH := RH.on hb
     replace BW := BW.trans (hb.mono BW.size)
     clear hb
     generalize wc111.heap.size = pG at *
     generalize (wc111.alloc (.cells #[.bool false, .slice none 0 0] 72)) = wzG211 at *
     refine hK.out _ _ (by exact KX.a4 KY.b4) (fun hHeld => ?_)
     clear hK
     (try simp only [p0, p1, p2, p3])
     have y0 := RG.r0
     have y1 := RG.r1
     have y2 := RG.f0
     have y3 := RG.f1
     refine pR1 12 (fun K hK => ?_)
     go_simp
     have KG := Box.laid RG (.bool gn) (.slice gA gz.length gk)
     replace KX := KX.far2 nGKX (.bool gn) (.slice gA gz.length gk)
     replace KY := KY.far2 nGKY (.bool gn) (.slice gA gz.length gk)
     replace RR := RR.far2 (by first | exact nGRR | exact (nRRG).symm) (.bool gn) (.slice gA gz.length gk)
     replace RH := RH.far2 (by first | exact nGRH | exact (nHRG).symm) (.bool gn) (.slice gA gz.length gk)
     replace Xn := Xn.put2 RG (.bool gn) (.slice gA gz.length gk)
     replace Xd := Xd.put2 RG (.bool gn) (.slice gA gz.length gk)
     replace Yn := Yn.put2 RG (.bool gn) (.slice gA gz.length gk)
     replace Yd := Yd.put2 RG (.bool gn) (.slice gA gz.length gk)
     replace Ng := Ng.put2 RG (.bool gn) (.slice gA gz.length gk)
     replace Nh := Nh.put2 RG (.bool gn) (.slice gA gz.length gk)
     replace BW := (BW.setCell (p := ⟨pG, 0, none⟩) gG (.bool gn)).setCell (p := ⟨pG, 1, none⟩) gG (.slice gA gz.length gk)
     clear RG y0 y1 y2 y3
     generalize ((wzG211.setCell ⟨pG, 0, none⟩ (.bool gn)).setCell ⟨pG, 1, none⟩ (.slice gA gz.length gk)) = wsG at *
     refine hK.out _ _ (by exact KX.a4 KY.b4) (fun hHeld => ?_)
     clear hK
     (try simp only [p0, p1, p2, p3])
     have nHKG : pG ≠ pH := by first | exact nHRG | exact nGRH.symm
     have y0 := RH.r0
     have y1 := RH.r1
     have y2 := RH.f0
     have y3 := RH.f1
     refine pR1 13 (fun K hK => ?_)
     go_simp
     have KH := Box.laid RH (.bool hn) (.slice hA hz.length hk)
     replace KX := KX.far2 nHKX (.bool hn) (.slice hA hz.length hk)
     replace KY := KY.far2 nHKY (.bool hn) (.slice hA hz.length hk)
     replace KG := KG.far2 nHKG (.bool hn) (.slice hA hz.length hk)
     replace RR := RR.far2 (by first | exact nHRR | exact (nRRH).symm) (.bool hn) (.slice hA hz.length hk)
     replace Xn := Xn.put2 RH (.bool hn) (.slice hA hz.length hk)
     replace Xd := Xd.put2 RH (.bool hn) (.slice hA hz.length hk)
     replace Yn := Yn.put2 RH (.bool hn) (.slice hA hz.length hk)
     replace Yd := Yd.put2 RH (.bool hn) (.slice hA hz.length hk)
     replace Ng := Ng.put2 RH (.bool hn) (.slice hA hz.length hk)
     replace Nh := Nh.put2 RH (.bool hn) (.slice hA hz.length hk)
     replace BW := (BW.setCell (p := ⟨pH, 0, none⟩) gH (.bool hn)).setCell (p := ⟨pH, 1, none⟩) gH (.slice hA hz.length hk)
     clear RH y0 y1 y2 y3
     generalize ((wsG.setCell ⟨pH, 0, none⟩ (.bool hn)).setCell ⟨pH, 1, none⟩ (.slice hA hz.length hk)) = wsH at *
     refine hK.out _ _ (by exact KX.a4 KY.b4) (fun hHeld => ?_)
     clear hK
     (try simp only [p0, p1, p2, p3])
     refine wpAnyH_done (by kernel_rfl) (NoPanic.normal ?_) _
     go_wp2
     go_meet
     exact ⟨pG, pH, gn, gA, gz, gk, hn, hA, hz, hk, rfl, rfl, gl, hl, nGRR, nHRR, BW, KX, KY, KG, KH, RR, Xn, Xd, Yn, Yd, Ng, Nh⟩
    ·go_simp
     have hb : Below wzH1.heap.size wzH1 (wzH1.alloc (.cells #[.bool false, .slice none 0 0] 72)) := Below.alloc (Below.refl _ _) (Nat.le_refl _) _
     have RG : Rest (wzH1.alloc (.cells #[.bool false, .slice none 0 0] 72)) wzH1.heap.size := Rest.new wzH1
     have gG : w.heap.size ≤ wzH1.heap.size := BW.size
     have nGKX : w.heap.size ≠ wzH1.heap.size := Nat.ne_of_lt KX.lt
     have nGKY : w.heap.size + 1 ≠ wzH1.heap.size := Nat.ne_of_lt KY.lt
     have nGRR : w.heap.size + 1 + 1 ≠ wzH1.heap.size := Nat.ne_of_lt RR.lr
     have nGRH : pH ≠ wzH1.heap.size := Nat.ne_of_lt RH.lr
     replace KX := KX.on hb
     replace KY := KY.on hb
     replace Xn := Xn.on hb
     replace Xd := Xd.on hb
     replace Yn := Yn.on hb
     replace Yd := Yd.on hb
     replace Ng := Ng.on hb
     replace RR := RR.on hb
     replace RH := RH.on hb
     replace BW := BW.trans (hb.mono BW.size)
     clear hb
     generalize wzH1.heap.size = pG at *
     generalize (wzH1.alloc (.cells #[.bool false, .slice none 0 0] 72)) = wzG111 at *
     refine hK.out _ _ (by exact KX.a4 KY.b4) (fun hHeld => ?_)
     clear hK
     (try simp only [p0, p1, p2, p3])
     refine pR1 9 (fun K hK => ?_)
     go_simp
     (go_at_call 106; with_reducible refine (gcd_n (L := C) Yn Xd HL.out.2.2.1 HL.out.2.1 (by have := HC.out; omega) HH.out).mono ?_)
     rintro _ wc11110 ⟨hn, hA, hz, hk, rfl, Nh, hl, hb⟩
     (try go_wp2_with fail)
     replace KX := KX.on hb
     replace KY := KY.on hb
     replace Xn := Xn.on hb
     replace Xd := Xd.on hb
     replace Yn := Yn.on hb
     replace Yd := Yd.on hb
     replace Ng := Ng.on hb
     replace RR := RR.on hb
     replace RH := RH.on hb
     replace RG := RG.on hb
     replace BW := BW.trans (hb.mono BW.size)
     clear hb
     refine hK.out _ _ (by exact KX.a4 KY.b4) (fun hHeld => ?_)
     clear hK
     (try simp only [p0, p1, p2, p3])
     have y0 := RG.r0
     have y1 := RG.r1
     have y2 := RG.f0
     have y3 := RG.f1
     refine pR1 12 (fun K hK => ?_)
     go_simp
     have KG := Box.laid RG (.bool gn) (.slice gA gz.length gk)
     replace KX := KX.far2 nGKX (.bool gn) (.slice gA gz.length gk)
     replace KY := KY.far2 nGKY (.bool gn) (.slice gA gz.length gk)
     replace RR := RR.far2 (by first | exact nGRR | exact (nRRG).symm) (.bool gn) (.slice gA gz.length gk)
     replace RH := RH.far2 (by first | exact nGRH | exact (nHRG).symm) (.bool gn) (.slice gA gz.length gk)
     replace Xn := Xn.put2 RG (.bool gn) (.slice gA gz.length gk)
     replace Xd := Xd.put2 RG (.bool gn) (.slice gA gz.length gk)
     replace Yn := Yn.put2 RG (.bool gn) (.slice gA gz.length gk)
     replace Yd := Yd.put2 RG (.bool gn) (.slice gA gz.length gk)
     replace Ng := Ng.put2 RG (.bool gn) (.slice gA gz.length gk)
     replace Nh := Nh.put2 RG (.bool gn) (.slice gA gz.length gk)
     replace BW := (BW.setCell (p := ⟨pG, 0, none⟩) gG (.bool gn)).setCell (p := ⟨pG, 1, none⟩) gG (.slice gA gz.length gk)
     clear RG y0 y1 y2 y3
     generalize ((wc11110.setCell ⟨pG, 0, none⟩ (.bool gn)).setCell ⟨pG, 1, none⟩ (.slice gA gz.length gk)) = wsG at *
     refine hK.out _ _ (by exact KX.a4 KY.b4) (fun hHeld => ?_)
     clear hK
     (try simp only [p0, p1, p2, p3])
     have nHKG : pG ≠ pH := by first | exact nHRG | exact nGRH.symm
     have y0 := RH.r0
     have y1 := RH.r1
     have y2 := RH.f0
     have y3 := RH.f1
     refine pR1 13 (fun K hK => ?_)
     go_simp
     have KH := Box.laid RH (.bool hn) (.slice hA hz.length hk)
     replace KX := KX.far2 nHKX (.bool hn) (.slice hA hz.length hk)
     replace KY := KY.far2 nHKY (.bool hn) (.slice hA hz.length hk)
     replace KG := KG.far2 nHKG (.bool hn) (.slice hA hz.length hk)
     replace RR := RR.far2 (by first | exact nHRR | exact (nRRH).symm) (.bool hn) (.slice hA hz.length hk)
     replace Xn := Xn.put2 RH (.bool hn) (.slice hA hz.length hk)
     replace Xd := Xd.put2 RH (.bool hn) (.slice hA hz.length hk)
     replace Yn := Yn.put2 RH (.bool hn) (.slice hA hz.length hk)
     replace Yd := Yd.put2 RH (.bool hn) (.slice hA hz.length hk)
     replace Ng := Ng.put2 RH (.bool hn) (.slice hA hz.length hk)
     replace Nh := Nh.put2 RH (.bool hn) (.slice hA hz.length hk)
     replace BW := (BW.setCell (p := ⟨pH, 0, none⟩) gH (.bool hn)).setCell (p := ⟨pH, 1, none⟩) gH (.slice hA hz.length hk)
     clear RH y0 y1 y2 y3
     generalize ((wsG.setCell ⟨pH, 0, none⟩ (.bool hn)).setCell ⟨pH, 1, none⟩ (.slice hA hz.length hk)) = wsH at *
     refine hK.out _ _ (by exact KX.a4 KY.b4) (fun hHeld => ?_)
     clear hK
     (try simp only [p0, p1, p2, p3])
     refine wpAnyH_done (by kernel_rfl) (NoPanic.normal ?_) _
     go_wp2
     go_meet
     exact ⟨pG, pH, gn, gA, gz, gk, hn, hA, hz, hk, rfl, rfl, gl, hl, nGRR, nHRR, BW, KX, KY, KG, KH, RR, Xn, Xd, Yn, Yd, Ng, Nh⟩
  ·go_simp
   have hb : Below Vd.heap.size Vd (Vd.alloc (.cells #[.bool false, .slice none 0 0] 72)) := Below.alloc (Below.refl _ _) (Nat.le_refl _) _
   have RG : Rest (Vd.alloc (.cells #[.bool false, .slice none 0 0] 72)) Vd.heap.size := Rest.new Vd
   have gG : w.heap.size ≤ Vd.heap.size := BW.size
   have nGKX : w.heap.size ≠ Vd.heap.size := Nat.ne_of_lt KX.lt
   have nGKY : w.heap.size + 1 ≠ Vd.heap.size := Nat.ne_of_lt KY.lt
   have nGRR : w.heap.size + 1 + 1 ≠ Vd.heap.size := Nat.ne_of_lt RR.lr
   replace KX := KX.on hb
   replace KY := KY.on hb
   replace Xn := Xn.on hb
   replace Xd := Xd.on hb
   replace Yn := Yn.on hb
   replace Yd := Yd.on hb
   replace RR := RR.on hb
   replace BW := BW.trans (hb.mono BW.size)
   clear hb
   generalize Vd.heap.size = pG at *
   generalize (Vd.alloc (.cells #[.bool false, .slice none 0 0] 72)) = wzG0 at *
   refine hK.out _ _ (by exact KX.a4 KY.b4) (fun hHeld => ?_)
   clear hK
   (try simp only [p0, p1, p2, p3])
   refine pR2 4 11 (fun K hK => ?_) (fun K hK => ?_)
   ·go_simp
    (go_at_call 106; with_reducible refine (gcd_n (L := C) Xn Yd HL.out.1 HL.out.2.2.2 (by have := HC.out; omega) HG.out).mono ?_)
    rintro _ wc010 ⟨gn, gA, gz, gk, rfl, Ng, gl, hb⟩
    (try go_wp2_with fail)
    replace KX := KX.on hb
    replace KY := KY.on hb
    replace Xn := Xn.on hb
    replace Xd := Xd.on hb
    replace Yn := Yn.on hb
    replace Yd := Yd.on hb
    replace RR := RR.on hb
    replace RG := RG.on hb
    replace BW := BW.trans (hb.mono BW.size)
    clear hb
    refine hK.out _ _ (by exact KX.a4 KY.b4) (fun hHeld => ?_)
    clear hK
    (try simp only [p0, p1, p2, p3])
    refine pR2 9 11 (fun K hK => ?_) (fun K hK => ?_)
    ·go_simp
     (go_at_call 106; with_reducible refine (gcd_n (L := C) Yn Xd HL.out.2.2.1 HL.out.2.1 (by have := HC.out; omega) HH.out).mono ?_)
     rintro _ wc110 ⟨hn, hA, hz, hk, rfl, Nh, hl, hb⟩
     (try go_wp2_with fail)
     replace KX := KX.on hb
     replace KY := KY.on hb
     replace Xn := Xn.on hb
     replace Xd := Xd.on hb
     replace Yn := Yn.on hb
     replace Yd := Yd.on hb
     replace Ng := Ng.on hb
     replace RR := RR.on hb
     replace RG := RG.on hb
     replace BW := BW.trans (hb.mono BW.size)
     clear hb
     refine hK.out _ _ (by exact KX.a4 KY.b4) (fun hHeld => ?_)
     clear hK
     (try simp only [p0, p1, p2, p3])
     refine pR1 11 (fun K hK => ?_)
     go_simp
     have hb : Below wc110.heap.size wc110 (wc110.alloc (.cells #[.bool false, .slice none 0 0] 72)) := Below.alloc (Below.refl _ _) (Nat.le_refl _) _
     have RH : Rest (wc110.alloc (.cells #[.bool false, .slice none 0 0] 72)) wc110.heap.size := Rest.new wc110
     have gH : w.heap.size ≤ wc110.heap.size := BW.size
     have nHKX : w.heap.size ≠ wc110.heap.size := Nat.ne_of_lt KX.lt
     have nHKY : w.heap.size + 1 ≠ wc110.heap.size := Nat.ne_of_lt KY.lt
     have nHRR : w.heap.size + 1 + 1 ≠ wc110.heap.size := Nat.ne_of_lt RR.lr
     have nHRG : pG ≠ wc110.heap.size := Nat.ne_of_lt RG.lr
     replace KX := KX.on hb
     replace KY := KY.on hb
     replace Xn := Xn.on hb
     replace Xd := Xd.on hb
     replace Yn := Yn.on hb
     replace Yd := Yd.on hb
     replace Ng := Ng.on hb
     replace Nh := Nh.on hb
     replace RR := RR.on hb
     replace RG := RG.on hb
     replace BW := BW.trans (hb.mono BW.size)
     clear hb
     generalize wc110.heap.size = pH at *
     generalize (wc110.alloc (.cells #[.bool false, .slice none 0 0] 72)) = wzH210 at *
     refine hK.out _ _ (by exact KX.a4 KY.b4) (fun hHeld => ?_)
     clear hK
     (try simp only [p0, p1, p2, p3])
     have y0 := RG.r0
     have y1 := RG.r1
     have y2 := RG.f0
     have y3 := RG.f1
     refine pR1 12 (fun K hK => ?_)
     go_simp
     have KG := Box.laid RG (.bool gn) (.slice gA gz.length gk)
     replace KX := KX.far2 nGKX (.bool gn) (.slice gA gz.length gk)
     replace KY := KY.far2 nGKY (.bool gn) (.slice gA gz.length gk)
     replace RR := RR.far2 (by first | exact nGRR | exact (nRRG).symm) (.bool gn) (.slice gA gz.length gk)
     replace RH := RH.far2 (by first | exact nGRH | exact (nHRG).symm) (.bool gn) (.slice gA gz.length gk)
     replace Xn := Xn.put2 RG (.bool gn) (.slice gA gz.length gk)
     replace Xd := Xd.put2 RG (.bool gn) (.slice gA gz.length gk)
     replace Yn := Yn.put2 RG (.bool gn) (.slice gA gz.length gk)
     replace Yd := Yd.put2 RG (.bool gn) (.slice gA gz.length gk)
     replace Ng := Ng.put2 RG (.bool gn) (.slice gA gz.length gk)
     replace Nh := Nh.put2 RG (.bool gn) (.slice gA gz.length gk)
     replace BW := (BW.setCell (p := ⟨pG, 0, none⟩) gG (.bool gn)).setCell (p := ⟨pG, 1, none⟩) gG (.slice gA gz.length gk)
     clear RG y0 y1 y2 y3
     generalize ((wzH210.setCell ⟨pG, 0, none⟩ (.bool gn)).setCell ⟨pG, 1, none⟩ (.slice gA gz.length gk)) = wsG at *
     refine hK.out _ _ (by exact KX.a4 KY.b4) (fun hHeld => ?_)
     clear hK
     (try simp only [p0, p1, p2, p3])
     have nHKG : pG ≠ pH := by first | exact nHRG | exact nGRH.symm
     have y0 := RH.r0
     have y1 := RH.r1
     have y2 := RH.f0
     have y3 := RH.f1
     refine pR1 13 (fun K hK => ?_)
     go_simp
     have KH := Box.laid RH (.bool hn) (.slice hA hz.length hk)
     replace KX := KX.far2 nHKX (.bool hn) (.slice hA hz.length hk)
     replace KY := KY.far2 nHKY (.bool hn) (.slice hA hz.length hk)
     replace KG := KG.far2 nHKG (.bool hn) (.slice hA hz.length hk)
     replace RR := RR.far2 (by first | exact nHRR | exact (nRRH).symm) (.bool hn) (.slice hA hz.length hk)
     replace Xn := Xn.put2 RH (.bool hn) (.slice hA hz.length hk)
     replace Xd := Xd.put2 RH (.bool hn) (.slice hA hz.length hk)
     replace Yn := Yn.put2 RH (.bool hn) (.slice hA hz.length hk)
     replace Yd := Yd.put2 RH (.bool hn) (.slice hA hz.length hk)
     replace Ng := Ng.put2 RH (.bool hn) (.slice hA hz.length hk)
     replace Nh := Nh.put2 RH (.bool hn) (.slice hA hz.length hk)
     replace BW := (BW.setCell (p := ⟨pH, 0, none⟩) gH (.bool hn)).setCell (p := ⟨pH, 1, none⟩) gH (.slice hA hz.length hk)
     clear RH y0 y1 y2 y3
     generalize ((wsG.setCell ⟨pH, 0, none⟩ (.bool hn)).setCell ⟨pH, 1, none⟩ (.slice hA hz.length hk)) = wsH at *
     refine hK.out _ _ (by exact KX.a4 KY.b4) (fun hHeld => ?_)
     clear hK
     (try simp only [p0, p1, p2, p3])
     refine wpAnyH_done (by kernel_rfl) (NoPanic.normal ?_) _
     go_wp2
     go_meet
     exact ⟨pG, pH, gn, gA, gz, gk, hn, hA, hz, hk, rfl, rfl, gl, hl, nGRR, nHRR, BW, KX, KY, KG, KH, RR, Xn, Xd, Yn, Yd, Ng, Nh⟩
    ·go_simp
     have hb : Below wc010.heap.size wc010 (wc010.alloc (.cells #[.bool false, .slice none 0 0] 72)) := Below.alloc (Below.refl _ _) (Nat.le_refl _) _
     have RH : Rest (wc010.alloc (.cells #[.bool false, .slice none 0 0] 72)) wc010.heap.size := Rest.new wc010
     have gH : w.heap.size ≤ wc010.heap.size := BW.size
     have nHKX : w.heap.size ≠ wc010.heap.size := Nat.ne_of_lt KX.lt
     have nHKY : w.heap.size + 1 ≠ wc010.heap.size := Nat.ne_of_lt KY.lt
     have nHRR : w.heap.size + 1 + 1 ≠ wc010.heap.size := Nat.ne_of_lt RR.lr
     have nHRG : pG ≠ wc010.heap.size := Nat.ne_of_lt RG.lr
     replace KX := KX.on hb
     replace KY := KY.on hb
     replace Xn := Xn.on hb
     replace Xd := Xd.on hb
     replace Yn := Yn.on hb
     replace Yd := Yd.on hb
     replace Ng := Ng.on hb
     replace RR := RR.on hb
     replace RG := RG.on hb
     replace BW := BW.trans (hb.mono BW.size)
     clear hb
     generalize wc010.heap.size = pH at *
     generalize (wc010.alloc (.cells #[.bool false, .slice none 0 0] 72)) = wzH110 at *
     refine hK.out _ _ (by exact KX.a4 KY.b4) (fun hHeld => ?_)
     clear hK
     (try simp only [p0, p1, p2, p3])
     refine pR1 9 (fun K hK => ?_)
     go_simp
     (go_at_call 106; with_reducible refine (gcd_n (L := C) Yn Xd HL.out.2.2.1 HL.out.2.1 (by have := HC.out; omega) HH.out).mono ?_)
     rintro _ wc11011 ⟨hn, hA, hz, hk, rfl, Nh, hl, hb⟩
     (try go_wp2_with fail)
     replace KX := KX.on hb
     replace KY := KY.on hb
     replace Xn := Xn.on hb
     replace Xd := Xd.on hb
     replace Yn := Yn.on hb
     replace Yd := Yd.on hb
     replace Ng := Ng.on hb
     replace RR := RR.on hb
     replace RG := RG.on hb
     replace RH := RH.on hb
     replace BW := BW.trans (hb.mono BW.size)
     clear hb
     refine hK.out _ _ (by exact KX.a4 KY.b4) (fun hHeld => ?_)
     clear hK
     (try simp only [p0, p1, p2, p3])
     have y0 := RG.r0
     have y1 := RG.r1
     have y2 := RG.f0
     have y3 := RG.f1
     refine pR1 12 (fun K hK => ?_)
     go_simp
     have KG := Box.laid RG (.bool gn) (.slice gA gz.length gk)
     replace KX := KX.far2 nGKX (.bool gn) (.slice gA gz.length gk)
     replace KY := KY.far2 nGKY (.bool gn) (.slice gA gz.length gk)
     replace RR := RR.far2 (by first | exact nGRR | exact (nRRG).symm) (.bool gn) (.slice gA gz.length gk)
     replace RH := RH.far2 (by first | exact nGRH | exact (nHRG).symm) (.bool gn) (.slice gA gz.length gk)
     replace Xn := Xn.put2 RG (.bool gn) (.slice gA gz.length gk)
     replace Xd := Xd.put2 RG (.bool gn) (.slice gA gz.length gk)
     replace Yn := Yn.put2 RG (.bool gn) (.slice gA gz.length gk)
     replace Yd := Yd.put2 RG (.bool gn) (.slice gA gz.length gk)
     replace Ng := Ng.put2 RG (.bool gn) (.slice gA gz.length gk)
     replace Nh := Nh.put2 RG (.bool gn) (.slice gA gz.length gk)
     replace BW := (BW.setCell (p := ⟨pG, 0, none⟩) gG (.bool gn)).setCell (p := ⟨pG, 1, none⟩) gG (.slice gA gz.length gk)
     clear RG y0 y1 y2 y3
     generalize ((wc11011.setCell ⟨pG, 0, none⟩ (.bool gn)).setCell ⟨pG, 1, none⟩ (.slice gA gz.length gk)) = wsG at *
     refine hK.out _ _ (by exact KX.a4 KY.b4) (fun hHeld => ?_)
     clear hK
     (try simp only [p0, p1, p2, p3])
     have nHKG : pG ≠ pH := by first | exact nHRG | exact nGRH.symm
     have y0 := RH.r0
     have y1 := RH.r1
     have y2 := RH.f0
     have y3 := RH.f1
     refine pR1 13 (fun K hK => ?_)
     go_simp
     have KH := Box.laid RH (.bool hn) (.slice hA hz.length hk)
     replace KX := KX.far2 nHKX (.bool hn) (.slice hA hz.length hk)
     replace KY := KY.far2 nHKY (.bool hn) (.slice hA hz.length hk)
     replace KG := KG.far2 nHKG (.bool hn) (.slice hA hz.length hk)
     replace RR := RR.far2 (by first | exact nHRR | exact (nRRH).symm) (.bool hn) (.slice hA hz.length hk)
     replace Xn := Xn.put2 RH (.bool hn) (.slice hA hz.length hk)
     replace Xd := Xd.put2 RH (.bool hn) (.slice hA hz.length hk)
     replace Yn := Yn.put2 RH (.bool hn) (.slice hA hz.length hk)
     replace Yd := Yd.put2 RH (.bool hn) (.slice hA hz.length hk)
     replace Ng := Ng.put2 RH (.bool hn) (.slice hA hz.length hk)
     replace Nh := Nh.put2 RH (.bool hn) (.slice hA hz.length hk)
     replace BW := (BW.setCell (p := ⟨pH, 0, none⟩) gH (.bool hn)).setCell (p := ⟨pH, 1, none⟩) gH (.slice hA hz.length hk)
     clear RH y0 y1 y2 y3
     generalize ((wsG.setCell ⟨pH, 0, none⟩ (.bool hn)).setCell ⟨pH, 1, none⟩ (.slice hA hz.length hk)) = wsH at *
     refine hK.out _ _ (by exact KX.a4 KY.b4) (fun hHeld => ?_)
     clear hK
     (try simp only [p0, p1, p2, p3])
     refine wpAnyH_done (by kernel_rfl) (NoPanic.normal ?_) _
     go_wp2
     go_meet
     exact ⟨pG, pH, gn, gA, gz, gk, hn, hA, hz, hk, rfl, rfl, gl, hl, nGRR, nHRR, BW, KX, KY, KG, KH, RR, Xn, Xd, Yn, Yd, Ng, Nh⟩
   ·go_simp
    have hb : Below wzG0.heap.size wzG0 (wzG0.alloc (.cells #[.bool false, .slice none 0 0] 72)) := Below.alloc (Below.refl _ _) (Nat.le_refl _) _
    have RH : Rest (wzG0.alloc (.cells #[.bool false, .slice none 0 0] 72)) wzG0.heap.size := Rest.new wzG0
    have gH : w.heap.size ≤ wzG0.heap.size := BW.size
    have nHKX : w.heap.size ≠ wzG0.heap.size := Nat.ne_of_lt KX.lt
    have nHKY : w.heap.size + 1 ≠ wzG0.heap.size := Nat.ne_of_lt KY.lt
    have nHRR : w.heap.size + 1 + 1 ≠ wzG0.heap.size := Nat.ne_of_lt RR.lr
    have nHRG : pG ≠ wzG0.heap.size := Nat.ne_of_lt RG.lr
    replace KX := KX.on hb
    replace KY := KY.on hb
    replace Xn := Xn.on hb
    replace Xd := Xd.on hb
    replace Yn := Yn.on hb
    replace Yd := Yd.on hb
    replace RR := RR.on hb
    replace RG := RG.on hb
    replace BW := BW.trans (hb.mono BW.size)
    clear hb
    generalize wzG0.heap.size = pH at *
    generalize (wzG0.alloc (.cells #[.bool false, .slice none 0 0] 72)) = wzH010 at *
    refine hK.out _ _ (by exact KX.a4 KY.b4) (fun hHeld => ?_)
    clear hK
    (try simp only [p0, p1, p2, p3])
    refine pR1 4 (fun K hK => ?_)
    go_simp
    (go_at_call 106; with_reducible refine (gcd_n (L := C) Xn Yd HL.out.1 HL.out.2.2.2 (by have := HC.out; omega) HG.out).mono ?_)
    rintro _ wc01011 ⟨gn, gA, gz, gk, rfl, Ng, gl, hb⟩
    (try go_wp2_with fail)
    replace KX := KX.on hb
    replace KY := KY.on hb
    replace Xn := Xn.on hb
    replace Xd := Xd.on hb
    replace Yn := Yn.on hb
    replace Yd := Yd.on hb
    replace RR := RR.on hb
    replace RG := RG.on hb
    replace RH := RH.on hb
    replace BW := BW.trans (hb.mono BW.size)
    clear hb
    refine hK.out _ _ (by exact KX.a4 KY.b4) (fun hHeld => ?_)
    clear hK
    (try simp only [p0, p1, p2, p3])
    refine pR1 9 (fun K hK => ?_)
    go_simp
    (go_at_call 106; with_reducible refine (gcd_n (L := C) Yn Xd HL.out.2.2.1 HL.out.2.1 (by have := HC.out; omega) HH.out).mono ?_)
    rintro _ wc11011 ⟨hn, hA, hz, hk, rfl, Nh, hl, hb⟩
    (try go_wp2_with fail)
    replace KX := KX.on hb
    replace KY := KY.on hb
    replace Xn := Xn.on hb
    replace Xd := Xd.on hb
    replace Yn := Yn.on hb
    replace Yd := Yd.on hb
    replace Ng := Ng.on hb
    replace RR := RR.on hb
    replace RG := RG.on hb
    replace RH := RH.on hb
    replace BW := BW.trans (hb.mono BW.size)
    clear hb
    refine hK.out _ _ (by exact KX.a4 KY.b4) (fun hHeld => ?_)
    clear hK
    (try simp only [p0, p1, p2, p3])
    have y0 := RG.r0
    have y1 := RG.r1
    have y2 := RG.f0
    have y3 := RG.f1
    refine pR1 12 (fun K hK => ?_)
    go_simp
    have KG := Box.laid RG (.bool gn) (.slice gA gz.length gk)
    replace KX := KX.far2 nGKX (.bool gn) (.slice gA gz.length gk)
    replace KY := KY.far2 nGKY (.bool gn) (.slice gA gz.length gk)
    replace RR := RR.far2 (by first | exact nGRR | exact (nRRG).symm) (.bool gn) (.slice gA gz.length gk)
    replace RH := RH.far2 (by first | exact nGRH | exact (nHRG).symm) (.bool gn) (.slice gA gz.length gk)
    replace Xn := Xn.put2 RG (.bool gn) (.slice gA gz.length gk)
    replace Xd := Xd.put2 RG (.bool gn) (.slice gA gz.length gk)
    replace Yn := Yn.put2 RG (.bool gn) (.slice gA gz.length gk)
    replace Yd := Yd.put2 RG (.bool gn) (.slice gA gz.length gk)
    replace Ng := Ng.put2 RG (.bool gn) (.slice gA gz.length gk)
    replace Nh := Nh.put2 RG (.bool gn) (.slice gA gz.length gk)
    replace BW := (BW.setCell (p := ⟨pG, 0, none⟩) gG (.bool gn)).setCell (p := ⟨pG, 1, none⟩) gG (.slice gA gz.length gk)
    clear RG y0 y1 y2 y3
    generalize ((wc11011.setCell ⟨pG, 0, none⟩ (.bool gn)).setCell ⟨pG, 1, none⟩ (.slice gA gz.length gk)) = wsG at *
    refine hK.out _ _ (by exact KX.a4 KY.b4) (fun hHeld => ?_)
    clear hK
    (try simp only [p0, p1, p2, p3])
    have nHKG : pG ≠ pH := by first | exact nHRG | exact nGRH.symm
    have y0 := RH.r0
    have y1 := RH.r1
    have y2 := RH.f0
    have y3 := RH.f1
    refine pR1 13 (fun K hK => ?_)
    go_simp
    have KH := Box.laid RH (.bool hn) (.slice hA hz.length hk)
    replace KX := KX.far2 nHKX (.bool hn) (.slice hA hz.length hk)
    replace KY := KY.far2 nHKY (.bool hn) (.slice hA hz.length hk)
    replace KG := KG.far2 nHKG (.bool hn) (.slice hA hz.length hk)
    replace RR := RR.far2 (by first | exact nHRR | exact (nRRH).symm) (.bool hn) (.slice hA hz.length hk)
    replace Xn := Xn.put2 RH (.bool hn) (.slice hA hz.length hk)
    replace Xd := Xd.put2 RH (.bool hn) (.slice hA hz.length hk)
    replace Yn := Yn.put2 RH (.bool hn) (.slice hA hz.length hk)
    replace Yd := Yd.put2 RH (.bool hn) (.slice hA hz.length hk)
    replace Ng := Ng.put2 RH (.bool hn) (.slice hA hz.length hk)
    replace Nh := Nh.put2 RH (.bool hn) (.slice hA hz.length hk)
    replace BW := (BW.setCell (p := ⟨pH, 0, none⟩) gH (.bool hn)).setCell (p := ⟨pH, 1, none⟩) gH (.slice hA hz.length hk)
    clear RH y0 y1 y2 y3
    generalize ((wsG.setCell ⟨pH, 0, none⟩ (.bool hn)).setCell ⟨pH, 1, none⟩ (.slice hA hz.length hk)) = wsH at *
    refine hK.out _ _ (by exact KX.a4 KY.b4) (fun hHeld => ?_)
    clear hK
    (try simp only [p0, p1, p2, p3])
    refine wpAnyH_done (by kernel_rfl) (NoPanic.normal ?_) _
    go_wp2
    go_meet
    exact ⟨pG, pH, gn, gA, gz, gk, hn, hA, hz, hk, rfl, rfl, gl, hl, nGRR, nHRR, BW, KX, KY, KG, KH, RR, Xn, Xd, Yn, Yd, Ng, Nh⟩
  ·go_simp
   have hb : Below Vd.heap.size Vd (Vd.alloc (.cells #[.bool false, .slice none 0 0] 72)) := Below.alloc (Below.refl _ _) (Nat.le_refl _) _
   have RH : Rest (Vd.alloc (.cells #[.bool false, .slice none 0 0] 72)) Vd.heap.size := Rest.new Vd
   have gH : w.heap.size ≤ Vd.heap.size := BW.size
   have nHKX : w.heap.size ≠ Vd.heap.size := Nat.ne_of_lt KX.lt
   have nHKY : w.heap.size + 1 ≠ Vd.heap.size := Nat.ne_of_lt KY.lt
   have nHRR : w.heap.size + 1 + 1 ≠ Vd.heap.size := Nat.ne_of_lt RR.lr
   replace KX := KX.on hb
   replace KY := KY.on hb
   replace Xn := Xn.on hb
   replace Xd := Xd.on hb
   replace Yn := Yn.on hb
   replace Yd := Yd.on hb
   replace RR := RR.on hb
   replace BW := BW.trans (hb.mono BW.size)
   clear hb
   generalize Vd.heap.size = pH at *
   generalize (Vd.alloc (.cells #[.bool false, .slice none 0 0] 72)) = wzH0 at *
   refine hK.out _ _ (by exact KX.a4 KY.b4) (fun hHeld => ?_)
   clear hK
   (try simp only [p0, p1, p2, p3])
   refine pR2 4 10 (fun K hK => ?_) (fun K hK => ?_)
   ·go_simp
    (go_at_call 106; with_reducible refine (gcd_n (L := C) Xn Yd HL.out.1 HL.out.2.2.2 (by have := HC.out; omega) HG.out).mono ?_)
    rintro _ wc011 ⟨gn, gA, gz, gk, rfl, Ng, gl, hb⟩
    (try go_wp2_with fail)
    replace KX := KX.on hb
    replace KY := KY.on hb
    replace Xn := Xn.on hb
    replace Xd := Xd.on hb
    replace Yn := Yn.on hb
    replace Yd := Yd.on hb
    replace RR := RR.on hb
    replace RH := RH.on hb
    replace BW := BW.trans (hb.mono BW.size)
    clear hb
    refine hK.out _ _ (by exact KX.a4 KY.b4) (fun hHeld => ?_)
    clear hK
    (try simp only [p0, p1, p2, p3])
    refine pR2 9 10 (fun K hK => ?_) (fun K hK => ?_)
    ·go_simp
     (go_at_call 106; with_reducible refine (gcd_n (L := C) Yn Xd HL.out.2.2.1 HL.out.2.1 (by have := HC.out; omega) HH.out).mono ?_)
     rintro _ wc111 ⟨hn, hA, hz, hk, rfl, Nh, hl, hb⟩
     (try go_wp2_with fail)
     replace KX := KX.on hb
     replace KY := KY.on hb
     replace Xn := Xn.on hb
     replace Xd := Xd.on hb
     replace Yn := Yn.on hb
     replace Yd := Yd.on hb
     replace Ng := Ng.on hb
     replace RR := RR.on hb
     replace RH := RH.on hb
     replace BW := BW.trans (hb.mono BW.size)
     clear hb
     refine hK.out _ _ (by exact KX.a4 KY.b4) (fun hHeld => ?_)
     clear hK
     (try simp only [p0, p1, p2, p3])
     refine pR1 10 (fun K hK => ?_)
     go_simp
     have hb : Below wc111.heap.size wc111 (wc111.alloc (.cells #[.bool false, .slice none 0 0] 72)) := Below.alloc (Below.refl _ _) (Nat.le_refl _) _
     have RG : Rest (wc111.alloc (.cells #[.bool false, .slice none 0 0] 72)) wc111.heap.size := Rest.new wc111
     have gG : w.heap.size ≤ wc111.heap.size := BW.size
     have nGKX : w.heap.size ≠ wc111.heap.size := Nat.ne_of_lt KX.lt
     have nGKY : w.heap.size + 1 ≠ wc111.heap.size := Nat.ne_of_lt KY.lt
     have nGRR : w.heap.size + 1 + 1 ≠ wc111.heap.size := Nat.ne_of_lt RR.lr
     have nGRH : pH ≠ wc111.heap.size := Nat.ne_of_lt RH.lr
     replace KX := KX.on hb
     replace KY := KY.on hb
     replace Xn := Xn.on hb
     replace Xd := Xd.on hb
     replace Yn := Yn.on hb
     replace Yd := Yd.on hb
     replace Ng := Ng.on hb
     replace Nh := Nh.on hb
     replace RR := RR.on hb
     replace RH := RH.on hb
     replace BW := BW.trans (hb.mono BW.size)
     clear hb
     generalize wc111.heap.size = pG at *
     generalize (wc111.alloc (.cells #[.bool false, .slice none 0 0] 72)) = wzG211 at *
     refine hK.out _ _ (by exact KX.a4 KY.b4) (fun hHeld => ?_)
     clear hK
     (try simp only [p0, p1, p2, p3])
     have y0 := RG.r0
     have y1 := RG.r1
     have y2 := RG.f0
     have y3 := RG.f1
     refine pR1 12 (fun K hK => ?_)
     go_simp
     have KG := Box.laid RG (.bool gn) (.slice gA gz.length gk)
     replace KX := KX.far2 nGKX (.bool gn) (.slice gA gz.length gk)
     replace KY := KY.far2 nGKY (.bool gn) (.slice gA gz.length gk)
     replace RR := RR.far2 (by first | exact nGRR | exact (nRRG).symm) (.bool gn) (.slice gA gz.length gk)
     replace RH := RH.far2 (by first | exact nGRH | exact (nHRG).symm) (.bool gn) (.slice gA gz.length gk)
     replace Xn := Xn.put2 RG (.bool gn) (.slice gA gz.length gk)
     replace Xd := Xd.put2 RG (.bool gn) (.slice gA gz.length gk)
     replace Yn := Yn.put2 RG (.bool gn) (.slice gA gz.length gk)
     replace Yd := Yd.put2 RG (.bool gn) (.slice gA gz.length gk)
     replace Ng := Ng.put2 RG (.bool gn) (.slice gA gz.length gk)
     replace Nh := Nh.put2 RG (.bool gn) (.slice gA gz.length gk)
     replace BW := (BW.setCell (p := ⟨pG, 0, none⟩) gG (.bool gn)).setCell (p := ⟨pG, 1, none⟩) gG (.slice gA gz.length gk)
     clear RG y0 y1 y2 y3
     generalize ((wzG211.setCell ⟨pG, 0, none⟩ (.bool gn)).setCell ⟨pG, 1, none⟩ (.slice gA gz.length gk)) = wsG at *
     refine hK.out _ _ (by exact KX.a4 KY.b4) (fun hHeld => ?_)
     clear hK
     (try simp only [p0, p1, p2, p3])
     have nHKG : pG ≠ pH := by first | exact nHRG | exact nGRH.symm
     have y0 := RH.r0
     have y1 := RH.r1
     have y2 := RH.f0
     have y3 := RH.f1
     refine pR1 13 (fun K hK => ?_)
     go_simp
     have KH := Box.laid RH (.bool hn) (.slice hA hz.length hk)
     replace KX := KX.far2 nHKX (.bool hn) (.slice hA hz.length hk)
     replace KY := KY.far2 nHKY (.bool hn) (.slice hA hz.length hk)
     replace KG := KG.far2 nHKG (.bool hn) (.slice hA hz.length hk)
     replace RR := RR.far2 (by first | exact nHRR | exact (nRRH).symm) (.bool hn) (.slice hA hz.length hk)
     replace Xn := Xn.put2 RH (.bool hn) (.slice hA hz.length hk)
     replace Xd := Xd.put2 RH (.bool hn) (.slice hA hz.length hk)
     replace Yn := Yn.put2 RH (.bool hn) (.slice hA hz.length hk)
     replace Yd := Yd.put2 RH (.bool hn) (.slice hA hz.length hk)
     replace Ng := Ng.put2 RH (.bool hn) (.slice hA hz.length hk)
     replace Nh := Nh.put2 RH (.bool hn) (.slice hA hz.length hk)
     replace BW := (BW.setCell (p := ⟨pH, 0, none⟩) gH (.bool hn)).setCell (p := ⟨pH, 1, none⟩) gH (.slice hA hz.length hk)
     clear RH y0 y1 y2 y3
     generalize ((wsG.setCell ⟨pH, 0, none⟩ (.bool hn)).setCell ⟨pH, 1, none⟩ (.slice hA hz.length hk)) = wsH at *
     refine hK.out _ _ (by exact KX.a4 KY.b4) (fun hHeld => ?_)
     clear hK
     (try simp only [p0, p1, p2, p3])
     refine wpAnyH_done (by kernel_rfl) (NoPanic.normal ?_) _
     go_wp2
     go_meet
     exact ⟨pG, pH, gn, gA, gz, gk, hn, hA, hz, hk, rfl, rfl, gl, hl, nGRR, nHRR, BW, KX, KY, KG, KH, RR, Xn, Xd, Yn, Yd, Ng, Nh⟩
    ·go_simp
     have hb : Below wc011.heap.size wc011 (wc011.alloc (.cells #[.bool false, .slice none 0 0] 72)) := Below.alloc (Below.refl _ _) (Nat.le_refl _) _
     have RG : Rest (wc011.alloc (.cells #[.bool false, .slice none 0 0] 72)) wc011.heap.size := Rest.new wc011
     have gG : w.heap.size ≤ wc011.heap.size := BW.size
     have nGKX : w.heap.size ≠ wc011.heap.size := Nat.ne_of_lt KX.lt
     have nGKY : w.heap.size + 1 ≠ wc011.heap.size := Nat.ne_of_lt KY.lt
     have nGRR : w.heap.size + 1 + 1 ≠ wc011.heap.size := Nat.ne_of_lt RR.lr
     have nGRH : pH ≠ wc011.heap.size := Nat.ne_of_lt RH.lr
     replace KX := KX.on hb
     replace KY := KY.on hb
     replace Xn := Xn.on hb
     replace Xd := Xd.on hb
     replace Yn := Yn.on hb
     replace Yd := Yd.on hb
     replace Ng := Ng.on hb
     replace RR := RR.on hb
     replace RH := RH.on hb
     replace BW := BW.trans (hb.mono BW.size)
     clear hb
     generalize wc011.heap.size = pG at *
     generalize (wc011.alloc (.cells #[.bool false, .slice none 0 0] 72)) = wzG111 at *
     refine hK.out _ _ (by exact KX.a4 KY.b4) (fun hHeld => ?_)
     clear hK
     (try simp only [p0, p1, p2, p3])
     refine pR1 9 (fun K hK => ?_)
     go_simp
     (go_at_call 106; with_reducible refine (gcd_n (L := C) Yn Xd HL.out.2.2.1 HL.out.2.1 (by have := HC.out; omega) HH.out).mono ?_)
     rintro _ wc11110 ⟨hn, hA, hz, hk, rfl, Nh, hl, hb⟩
     (try go_wp2_with fail)
     replace KX := KX.on hb
     replace KY := KY.on hb
     replace Xn := Xn.on hb
     replace Xd := Xd.on hb
     replace Yn := Yn.on hb
     replace Yd := Yd.on hb
     replace Ng := Ng.on hb
     replace RR := RR.on hb
     replace RH := RH.on hb
     replace RG := RG.on hb
     replace BW := BW.trans (hb.mono BW.size)
     clear hb
     refine hK.out _ _ (by exact KX.a4 KY.b4) (fun hHeld => ?_)
     clear hK
     (try simp only [p0, p1, p2, p3])
     have y0 := RG.r0
     have y1 := RG.r1
     have y2 := RG.f0
     have y3 := RG.f1
     refine pR1 12 (fun K hK => ?_)
     go_simp
     have KG := Box.laid RG (.bool gn) (.slice gA gz.length gk)
     replace KX := KX.far2 nGKX (.bool gn) (.slice gA gz.length gk)
     replace KY := KY.far2 nGKY (.bool gn) (.slice gA gz.length gk)
     replace RR := RR.far2 (by first | exact nGRR | exact (nRRG).symm) (.bool gn) (.slice gA gz.length gk)
     replace RH := RH.far2 (by first | exact nGRH | exact (nHRG).symm) (.bool gn) (.slice gA gz.length gk)
     replace Xn := Xn.put2 RG (.bool gn) (.slice gA gz.length gk)
     replace Xd := Xd.put2 RG (.bool gn) (.slice gA gz.length gk)
     replace Yn := Yn.put2 RG (.bool gn) (.slice gA gz.length gk)
     replace Yd := Yd.put2 RG (.bool gn) (.slice gA gz.length gk)
     replace Ng := Ng.put2 RG (.bool gn) (.slice gA gz.length gk)
     replace Nh := Nh.put2 RG (.bool gn) (.slice gA gz.length gk)
     replace BW := (BW.setCell (p := ⟨pG, 0, none⟩) gG (.bool gn)).setCell (p := ⟨pG, 1, none⟩) gG (.slice gA gz.length gk)
     clear RG y0 y1 y2 y3
     generalize ((wc11110.setCell ⟨pG, 0, none⟩ (.bool gn)).setCell ⟨pG, 1, none⟩ (.slice gA gz.length gk)) = wsG at *
     refine hK.out _ _ (by exact KX.a4 KY.b4) (fun hHeld => ?_)
     clear hK
     (try simp only [p0, p1, p2, p3])
     have nHKG : pG ≠ pH := by first | exact nHRG | exact nGRH.symm
     have y0 := RH.r0
     have y1 := RH.r1
     have y2 := RH.f0
     have y3 := RH.f1
     refine pR1 13 (fun K hK => ?_)
     go_simp
     have KH := Box.laid RH (.bool hn) (.slice hA hz.length hk)
     replace KX := KX.far2 nHKX (.bool hn) (.slice hA hz.length hk)
     replace KY := KY.far2 nHKY (.bool hn) (.slice hA hz.length hk)
     replace KG := KG.far2 nHKG (.bool hn) (.slice hA hz.length hk)
     replace RR := RR.far2 (by first | exact nHRR | exact (nRRH).symm) (.bool hn) (.slice hA hz.length hk)
     replace Xn := Xn.put2 RH (.bool hn) (.slice hA hz.length hk)
     replace Xd := Xd.put2 RH (.bool hn) (.slice hA hz.length hk)
     replace Yn := Yn.put2 RH (.bool hn) (.slice hA hz.length hk)
     replace Yd := Yd.put2 RH (.bool hn) (.slice hA hz.length hk)
     replace Ng := Ng.put2 RH (.bool hn) (.slice hA hz.length hk)
     replace Nh := Nh.put2 RH (.bool hn) (.slice hA hz.length hk)
     replace BW := (BW.setCell (p := ⟨pH, 0, none⟩) gH (.bool hn)).setCell (p := ⟨pH, 1, none⟩) gH (.slice hA hz.length hk)
     clear RH y0 y1 y2 y3
     generalize ((wsG.setCell ⟨pH, 0, none⟩ (.bool hn)).setCell ⟨pH, 1, none⟩ (.slice hA hz.length hk)) = wsH at *
     refine hK.out _ _ (by exact KX.a4 KY.b4) (fun hHeld => ?_)
     clear hK
     (try simp only [p0, p1, p2, p3])
     refine wpAnyH_done (by kernel_rfl) (NoPanic.normal ?_) _
     go_wp2
     go_meet
     exact ⟨pG, pH, gn, gA, gz, gk, hn, hA, hz, hk, rfl, rfl, gl, hl, nGRR, nHRR, BW, KX, KY, KG, KH, RR, Xn, Xd, Yn, Yd, Ng, Nh⟩
   ·go_simp
    have hb : Below wzH0.heap.size wzH0 (wzH0.alloc (.cells #[.bool false, .slice none 0 0] 72)) := Below.alloc (Below.refl _ _) (Nat.le_refl _) _
    have RG : Rest (wzH0.alloc (.cells #[.bool false, .slice none 0 0] 72)) wzH0.heap.size := Rest.new wzH0
    have gG : w.heap.size ≤ wzH0.heap.size := BW.size
    have nGKX : w.heap.size ≠ wzH0.heap.size := Nat.ne_of_lt KX.lt
    have nGKY : w.heap.size + 1 ≠ wzH0.heap.size := Nat.ne_of_lt KY.lt
    have nGRR : w.heap.size + 1 + 1 ≠ wzH0.heap.size := Nat.ne_of_lt RR.lr
    have nGRH : pH ≠ wzH0.heap.size := Nat.ne_of_lt RH.lr
    replace KX := KX.on hb
    replace KY := KY.on hb
    replace Xn := Xn.on hb
    replace Xd := Xd.on hb
    replace Yn := Yn.on hb
    replace Yd := Yd.on hb
    replace RR := RR.on hb
    replace RH := RH.on hb
    replace BW := BW.trans (hb.mono BW.size)
    clear hb
    generalize wzH0.heap.size = pG at *
    generalize (wzH0.alloc (.cells #[.bool false, .slice none 0 0] 72)) = wzG011 at *
    refine hK.out _ _ (by exact KX.a4 KY.b4) (fun hHeld => ?_)
    clear hK
    (try simp only [p0, p1, p2, p3])
    refine pR1 4 (fun K hK => ?_)
    go_simp
    (go_at_call 106; with_reducible refine (gcd_n (L := C) Xn Yd HL.out.1 HL.out.2.2.2 (by have := HC.out; omega) HG.out).mono ?_)
    rintro _ wc01110 ⟨gn, gA, gz, gk, rfl, Ng, gl, hb⟩
    (try go_wp2_with fail)
    replace KX := KX.on hb
    replace KY := KY.on hb
    replace Xn := Xn.on hb
    replace Xd := Xd.on hb
    replace Yn := Yn.on hb
    replace Yd := Yd.on hb
    replace RR := RR.on hb
    replace RH := RH.on hb
    replace RG := RG.on hb
    replace BW := BW.trans (hb.mono BW.size)
    clear hb
    refine hK.out _ _ (by exact KX.a4 KY.b4) (fun hHeld => ?_)
    clear hK
    (try simp only [p0, p1, p2, p3])
    refine pR1 9 (fun K hK => ?_)
    go_simp
    (go_at_call 106; with_reducible refine (gcd_n (L := C) Yn Xd HL.out.2.2.1 HL.out.2.1 (by have := HC.out; omega) HH.out).mono ?_)
    rintro _ wc11110 ⟨hn, hA, hz, hk, rfl, Nh, hl, hb⟩
    (try go_wp2_with fail)
    replace KX := KX.on hb
    replace KY := KY.on hb
    replace Xn := Xn.on hb
    replace Xd := Xd.on hb
    replace Yn := Yn.on hb
    replace Yd := Yd.on hb
    replace Ng := Ng.on hb
    replace RR := RR.on hb
    replace RH := RH.on hb
    replace RG := RG.on hb
    replace BW := BW.trans (hb.mono BW.size)
    clear hb
    refine hK.out _ _ (by exact KX.a4 KY.b4) (fun hHeld => ?_)
    clear hK
    (try simp only [p0, p1, p2, p3])
    have y0 := RG.r0
    have y1 := RG.r1
    have y2 := RG.f0
    have y3 := RG.f1
    refine pR1 12 (fun K hK => ?_)
    go_simp
    have KG := Box.laid RG (.bool gn) (.slice gA gz.length gk)
    replace KX := KX.far2 nGKX (.bool gn) (.slice gA gz.length gk)
    replace KY := KY.far2 nGKY (.bool gn) (.slice gA gz.length gk)
    replace RR := RR.far2 (by first | exact nGRR | exact (nRRG).symm) (.bool gn) (.slice gA gz.length gk)
    replace RH := RH.far2 (by first | exact nGRH | exact (nHRG).symm) (.bool gn) (.slice gA gz.length gk)
    replace Xn := Xn.put2 RG (.bool gn) (.slice gA gz.length gk)
    replace Xd := Xd.put2 RG (.bool gn) (.slice gA gz.length gk)
    replace Yn := Yn.put2 RG (.bool gn) (.slice gA gz.length gk)
    replace Yd := Yd.put2 RG (.bool gn) (.slice gA gz.length gk)
    replace Ng := Ng.put2 RG (.bool gn) (.slice gA gz.length gk)
    replace Nh := Nh.put2 RG (.bool gn) (.slice gA gz.length gk)
    replace BW := (BW.setCell (p := ⟨pG, 0, none⟩) gG (.bool gn)).setCell (p := ⟨pG, 1, none⟩) gG (.slice gA gz.length gk)
    clear RG y0 y1 y2 y3
    generalize ((wc11110.setCell ⟨pG, 0, none⟩ (.bool gn)).setCell ⟨pG, 1, none⟩ (.slice gA gz.length gk)) = wsG at *
    refine hK.out _ _ (by exact KX.a4 KY.b4) (fun hHeld => ?_)
    clear hK
    (try simp only [p0, p1, p2, p3])
    have nHKG : pG ≠ pH := by first | exact nHRG | exact nGRH.symm
    have y0 := RH.r0
    have y1 := RH.r1
    have y2 := RH.f0
    have y3 := RH.f1
    refine pR1 13 (fun K hK => ?_)
    go_simp
    have KH := Box.laid RH (.bool hn) (.slice hA hz.length hk)
    replace KX := KX.far2 nHKX (.bool hn) (.slice hA hz.length hk)
    replace KY := KY.far2 nHKY (.bool hn) (.slice hA hz.length hk)
    replace KG := KG.far2 nHKG (.bool hn) (.slice hA hz.length hk)
    replace RR := RR.far2 (by first | exact nHRR | exact (nRRH).symm) (.bool hn) (.slice hA hz.length hk)
    replace Xn := Xn.put2 RH (.bool hn) (.slice hA hz.length hk)
    replace Xd := Xd.put2 RH (.bool hn) (.slice hA hz.length hk)
    replace Yn := Yn.put2 RH (.bool hn) (.slice hA hz.length hk)
    replace Yd := Yd.put2 RH (.bool hn) (.slice hA hz.length hk)
    replace Ng := Ng.put2 RH (.bool hn) (.slice hA hz.length hk)
    replace Nh := Nh.put2 RH (.bool hn) (.slice hA hz.length hk)
    replace BW := (BW.setCell (p := ⟨pH, 0, none⟩) gH (.bool hn)).setCell (p := ⟨pH, 1, none⟩) gH (.slice hA hz.length hk)
    clear RH y0 y1 y2 y3
    generalize ((wsG.setCell ⟨pH, 0, none⟩ (.bool hn)).setCell ⟨pH, 1, none⟩ (.slice hA hz.length hk)) = wsH at *
    refine hK.out _ _ (by exact KX.a4 KY.b4) (fun hHeld => ?_)
    clear hK
    (try simp only [p0, p1, p2, p3])
    refine wpAnyH_done (by kernel_rfl) (NoPanic.normal ?_) _
    go_wp2
    go_meet
    exact ⟨pG, pH, gn, gA, gz, gk, hn, hA, hz, hk, rfl, rfl, gl, hl, nGRR, nHRR, BW, KX, KY, KG, KH, RR, Xn, Xd, Yn, Yd, Ng, Nh⟩
 case rest =>
  obtain ⟨pG, pH, gn, gA, gz, gk, hn, hA, hz, hk, rfl, rfl, gl, hl, nGRR, nHRR, BW, KX, KY, KG, KH, RR, Xn, Xd, Yn, Yd, Ng, Nh⟩ := hcut
  have KX_0 := KX.c 0 _ rfl
  have KX_1 := KX.c 1 _ rfl
  have KX_2 := KX.c 2 _ rfl
  have KX_3 := KX.c 3 _ rfl
  have KY_0 := KY.c 0 _ rfl
  have KY_1 := KY.c 1 _ rfl
  have KY_2 := KY.c 2 _ rfl
  have KY_3 := KY.c 3 _ rfl
  have KG_0 := KG.c 0 _ rfl
  have KG_1 := KG.c 1 _ rfl
  have KH_0 := KH.c 0 _ rfl
  have KH_1 := KH.c 1 _ rfl
  go_wp2_with fail
  clear KX_0 KX_1 KX_2 KX_3 KY_0 KY_1 KY_2 KY_3 KG_0 KG_1 KH_0 KH_1
  refine wp_region_noPanic ?_
  have hb : Below wc.heap.size wc wc.drew := (Below.refl _ _).drew
  replace KX := KX.on hb
  replace KY := KY.on hb
  replace KG := KG.on hb
  replace KH := KH.on hb
  replace Xn := Xn.on hb
  replace Xd := Xd.on hb
  replace Yn := Yn.on hb
  replace Yd := Yd.on hb
  replace Ng := Ng.on hb
  replace Nh := Nh.on hb
  replace RR := RR.on hb
  replace BW := BW.trans (hb.mono BW.size)
  clear hb
  refine wp_region_held_drew (S := (fun wx => wx.cell? ⟨w.heap.size, 0, none⟩ = some (.bool n) ∧ wx.cell? ⟨w.heap.size, 1, none⟩ = some (.slice A xs.length c) ∧ wx.cell? ⟨w.heap.size, 2, none⟩ = some (.bool false) ∧ wx.cell? ⟨w.heap.size, 3, none⟩ = some (.slice B ds.length d) ∧ wx.cell? ⟨w.heap.size + 1, 0, none⟩ = some (.bool n') ∧ wx.cell? ⟨w.heap.size + 1, 1, none⟩ = some (.slice A' ys.length c') ∧ wx.cell? ⟨w.heap.size + 1, 2, none⟩ = some (.bool false) ∧ wx.cell? ⟨w.heap.size + 1, 3, none⟩ = some (.slice B' es.length d') ∧ wx.cell? ⟨pG, 0, none⟩ = some (.bool gn) ∧ wx.cell? ⟨pG, 1, none⟩ = some (.slice gA gz.length gk) ∧ wx.cell? ⟨pH, 0, none⟩ = some (.bool hn) ∧ wx.cell? ⟨pH, 1, none⟩ = some (.slice hA hz.length hk))) (by kernel_rfl) (by exact KX.a4 (KY.a4 (KG.a2 KH.b2))) (fun hHeld => ?_)
  generalize wc.drew = Vd at *
  refine pT 0 ?_
  (try simp only [p0, p1, p2, p3])
  refine pT 1 ?_
  (try simp only [p0, p1, p2, p3])
  refine pT 2 ?_
  (try simp only [p0, p1, p2, p3])
  refine pT 4 ?_
  (try simp only [p0, p1, p2, p3])
  refine pT 5 ?_
  (try simp only [p0, p1, p2, p3])
  refine pT 6 ?_
  (try simp only [p0, p1, p2, p3])
  refine pT 9 ?_
  (try simp only [p0, p1, p2, p3])
  refine pT 10 ?_
  (try simp only [p0, p1, p2, p3])
  refine pT 11 ?_
  (try simp only [p0, p1, p2, p3])
  refine pT 13 ?_
  (try simp only [p0, p1, p2, p3])
  refine pT 14 ?_
  (try simp only [p0, p1, p2, p3])
  refine pT 15 ?_
  (try simp only [p0, p1, p2, p3])
  refine pR1 3 (fun K hK => ?_)
  go_simp
  (go_at_call 107; with_reducible refine (over_n Xn Ng HG0.out (by have := HC.out; omega) (by have := HC.out; omega)).mono ?_)
  rintro _ wc0 ⟨an, aA, az, ak, rfl, Na, hb⟩
  (try go_wp2_with fail)
  replace KX := KX.on hb
  replace KY := KY.on hb
  replace KG := KG.on hb
  replace KH := KH.on hb
  replace Xd := Xd.on hb
  replace Yn := Yn.on hb
  replace Yd := Yd.on hb
  replace Ng := Ng.on hb
  replace Nh := Nh.on hb
  replace RR := RR.on hb
  replace BW := BW.trans (hb.mono BW.size)
  clear hb
  refine hK.out _ _ (by exact KX.a4 (KY.a4 (KG.a2 KH.b2))) (fun hHeld => ?_)
  clear hK
  (try simp only [p0, p1, p2, p3])
  refine pR1 7 (fun K hK => ?_)
  go_simp
  (go_at_call 107; with_reducible refine (over_n Yn Nh HH0.out (by have := HC.out; omega) (by have := HC.out; omega)).mono ?_)
  rintro _ wc1 ⟨bn, bA, bz, bk, rfl, Nb, hb⟩
  (try go_wp2_with fail)
  replace KX := KX.on hb
  replace KY := KY.on hb
  replace KG := KG.on hb
  replace KH := KH.on hb
  replace Xd := Xd.on hb
  replace Yd := Yd.on hb
  replace Ng := Ng.on hb
  replace Nh := Nh.on hb
  replace Na := Na.on hb
  replace RR := RR.on hb
  replace BW := BW.trans (hb.mono BW.size)
  clear hb
  refine hK.out _ _ (by exact KX.a4 (KY.a4 (KG.a2 KH.b2))) (fun hHeld => ?_)
  clear hK
  (try simp only [p0, p1, p2, p3])
  refine pR1 8 (fun K hK => ?_)
  go_simp
  (go_at_call 88; with_reducible refine (mul_n Na Nb (by have := HC.out; omega)).mono ?_)
  rintro _ wc2 ⟨un, uA, uz, uk, rfl, Nu, hb⟩
  (try go_wp2_with fail)
  replace KX := KX.on hb
  replace KY := KY.on hb
  replace KG := KG.on hb
  replace KH := KH.on hb
  replace Xd := Xd.on hb
  replace Yd := Yd.on hb
  replace Ng := Ng.on hb
  replace Nh := Nh.on hb
  replace RR := RR.on hb
  replace BW := BW.trans (hb.mono BW.size)
  clear hb
  refine hK.out _ _ (by exact KX.a4 (KY.a4 (KG.a2 KH.b2))) (fun hHeld => ?_)
  clear hK
  (try simp only [p0, p1, p2, p3])
  refine pR1 12 (fun K hK => ?_)
  go_simp
  (go_at_call 107; with_reducible refine (over_n Xd Nh HH0.out (by have := HC.out; omega) (by have := HC.out; omega)).mono ?_)
  rintro _ wc3 ⟨sn, sA, sz, sk, rfl, Ns, hb⟩
  (try go_wp2_with fail)
  replace KX := KX.on hb
  replace KY := KY.on hb
  replace KG := KG.on hb
  replace KH := KH.on hb
  replace Yd := Yd.on hb
  replace Ng := Ng.on hb
  replace Nu := Nu.on hb
  replace RR := RR.on hb
  replace BW := BW.trans (hb.mono BW.size)
  clear hb
  refine hK.out _ _ (by exact KX.a4 (KY.a4 (KG.a2 KH.b2))) (fun hHeld => ?_)
  clear hK
  (try simp only [p0, p1, p2, p3])
  refine pR1 16 (fun K hK => ?_)
  go_simp
  (go_at_call 107; with_reducible refine (over_n Yd Ng HG0.out (by have := HC.out; omega) (by have := HC.out; omega)).mono ?_)
  rintro _ wc4 ⟨tn, tA, tz, tk, rfl, Nt, hb⟩
  (try go_wp2_with fail)
  replace KX := KX.on hb
  replace KY := KY.on hb
  replace KG := KG.on hb
  replace KH := KH.on hb
  replace Nu := Nu.on hb
  replace Ns := Ns.on hb
  replace RR := RR.on hb
  replace BW := BW.trans (hb.mono BW.size)
  clear hb
  refine hK.out _ _ (by exact KX.a4 (KY.a4 (KG.a2 KH.b2))) (fun hHeld => ?_)
  clear hK
  (try simp only [p0, p1, p2, p3])
  refine pR1 17 (fun K hK => ?_)
  go_simp
  (go_at_call 88; with_reducible refine (mul_n Ns Nt (by have := HC.out; omega)).mono ?_)
  rintro _ wc5 ⟨vn, vA, vz, vk, rfl, Nv, hb⟩
  (try go_wp2_with fail)
  replace KX := KX.on hb
  replace KY := KY.on hb
  replace KG := KG.on hb
  replace KH := KH.on hb
  replace Nu := Nu.on hb
  replace RR := RR.on hb
  replace BW := BW.trans (hb.mono BW.size)
  clear hb
  refine hK.out _ _ (by exact KX.a4 (KY.a4 (KG.a2 KH.b2))) (fun hHeld => ?_)
  clear hK
  (try simp only [p0, p1, p2, p3])
  refine pT 18 ?_
  (try simp only [p0, p1, p2, p3])
  replace Nu := (Nu.eq HE.out.1).mono (C' := 2 * C + 2) (by omega)
  replace Nv := (Nv.eq HE.out.2).mono (C' := 2 * C + 2) (by omega)
  obtain ⟨rfl, HQ⟩ := Lq.mk' Nu Nv
  clear HQ
  have y0 := RR.r0
  have y1 := RR.r1
  have y2 := RR.r2
  have y3 := RR.r3
  have y4 := RR.f0
  have y5 := RR.f1
  have y6 := RR.f2
  have y7 := RR.f3
  refine pR1 19 (fun K hK => ?_)
  go_simp
  replace KX := KX.far4 (g := w.heap.size + 1 + 1) (by first | omega | exact nXRR.symm) (.bool un) (.slice uA uz.length uk) (.bool false) (.slice vA vz.length vk)
  replace KY := KY.far4 (g := w.heap.size + 1 + 1) (by first | omega | exact nYRR.symm) (.bool un) (.slice uA uz.length uk) (.bool false) (.slice vA vz.length vk)
  replace KG := KG.far4 (g := w.heap.size + 1 + 1) (by first | omega | exact nGRR.symm) (.bool un) (.slice uA uz.length uk) (.bool false) (.slice vA vz.length vk)
  replace KH := KH.far4 (g := w.heap.size + 1 + 1) (by first | omega | exact nHRR.symm) (.bool un) (.slice uA uz.length uk) (.bool false) (.slice vA vz.length vk)
  replace Nu := Nu.put4 RR (.bool un) (.slice uA uz.length uk) (.bool false) (.slice vA vz.length vk)
  replace Nv := Nv.put4 RR (.bool un) (.slice uA uz.length uk) (.bool false) (.slice vA vz.length vk)
  replace BW := Below.putq BW (r := w.heap.size + 1 + 1) (by omega) (.bool un) (.slice uA uz.length uk) (.bool false) (.slice vA vz.length vk)
  have KR := Box.laidQ RR (.bool un) (.slice uA uz.length uk) (.bool false) (.slice vA vz.length vk)
  clear RR y0 y1 y2 y3 y4 y5 y6 y7
  generalize ((((wc5.setCell ⟨w.heap.size + 1 + 1, 0, none⟩ (.bool un)).setCell ⟨w.heap.size + 1 + 1, 1, none⟩ (.slice uA uz.length uk)).setCell ⟨w.heap.size + 1 + 1, 2, none⟩ (.bool false)).setCell ⟨w.heap.size + 1 + 1, 3, none⟩ (.slice vA vz.length vk)) = wsR at *
  refine hK.out _ _ (by exact KX.a4 (KY.a4 (KG.a2 KH.b2))) (fun hHeld => ?_)
  clear hK
  (try simp only [p0, p1, p2, p3])
  have y0 := KR.c 0 _ rfl
  have y1 := KR.c 1 _ rfl
  have y2 := KR.c 2 _ rfl
  have y3 := KR.c 3 _ rfl
  refine wpAnyH_done (by kernel_rfl) (NoPanic.normal ?_) _
  go_wp2
  exact bodyPost_ret (v := frq un uA uz.length uk false vA vz.length vk) (by simp [results, Tryz.results85, go_sem, y0, y1, y2, y3]) rfl ⟨_, _, _, _, _, _, _, rfl, (Lq.mk' Nu Nv).2, BW⟩
end Go.Proofs.YtjamfkafgfpobaaGreat
namespace Go.Proofs.YtjamfkafgfpobaaGreat
open Go.RowKit Nb
/-- Two numbers in boxes, and room for a fraction. -/
theorem box_ints (w : World) (n : Bool) (A : Option Addr) (l c : Nat) (m : Bool) (B : Option Addr) (k d : Nat) (s s' t : TypeId) :
  ∃ V : World, V = ((w.alloc (.cells #[.bool n, .slice A l c] s)).alloc (.cells #[.bool m, .slice B k d] s')).alloc (.cells #[.bool false, .slice none 0 0, .bool false, .slice none 0 0] t) ∧ Below w.heap.size w V ∧ V.heap.size = w.heap.size + 1 + 1 + 1 ∧ RestQ V (w.heap.size + 1 + 1) ∧
   Box V w.heap.size [.bool n, .slice A l c] ∧ Box V (w.heap.size + 1) [.bool m, .slice B k d] ∧ Fz V w.heap.size ∧ Fz V (w.heap.size + 1) := by
 have h1 := Box.new w [.bool n, .slice A l c] s
 have f1 := Fz.new w #[.bool n, .slice A l c] s
 have z1 : (w.alloc (.cells #[.bool n, .slice A l c] s)).heap.size = w.heap.size + 1 := by go_size
 have b2 : Below (w.alloc (.cells #[.bool n, .slice A l c] s)).heap.size (w.alloc (.cells #[.bool n, .slice A l c] s)) ((w.alloc (.cells #[.bool n, .slice A l c] s)).alloc (.cells #[.bool m, .slice B k d] s')) := by go_grown
 have h2 := Box.new (w.alloc (.cells #[.bool n, .slice A l c] s)) [.bool m, .slice B k d] s'
 have f2 := Fz.new (w.alloc (.cells #[.bool n, .slice A l c] s)) #[.bool m, .slice B k d] s'
 have z2 : ((w.alloc (.cells #[.bool n, .slice A l c] s)).alloc (.cells #[.bool m, .slice B k d] s')).heap.size = w.heap.size + 1 + 1 := by go_size
 rw [z1] at h2 f2
 have b3 : Below ((w.alloc (.cells #[.bool n, .slice A l c] s)).alloc (.cells #[.bool m, .slice B k d] s')).heap.size ((w.alloc (.cells #[.bool n, .slice A l c] s)).alloc (.cells #[.bool m, .slice B k d] s')) (((w.alloc (.cells #[.bool n, .slice A l c] s)).alloc (.cells #[.bool m, .slice B k d] s')).alloc (.cells #[.bool false, .slice none 0 0, .bool false, .slice none 0 0] t)) := by go_grown
 have r := RestQ.new ((w.alloc (.cells #[.bool n, .slice A l c] s)).alloc (.cells #[.bool m, .slice B k d] s')) t
 rw [z2] at r
 exact ⟨_, rfl, by go_grown, by go_size, r, (h1.on b2).on b3, h2.on b3, (f1.on b2).on b3, f2.on b3⟩
set_option maxHeartbeats 8000000 in
set_option maxRecDepth 20000 in
theorem ratio_any (X Y : Int) (n m : Bool) (A B : Option Addr) (xs ds : List Nat) (c d C : Nat) (w : World) (h : Nw w X C n A xs c) (k : Nw w Y C m B ds d) (hY : Y ≠ 0) (hC : C ≤ 1759218604390) :
  Calls Tryz.prog 122 #[big n A xs.length c, big m B ds.length d] w (GivesQ w (Rat.divInt X Y) (C + 1)) := by
 obtain ⟨V, hV, BW, hz, RR, KX, KY, FX, FY⟩ := box_ints w n A xs.length c m B ds.length d 72 72 74
 have Xn := h.on BW
 have Yn := k.on BW
 have HC := Lib.hid hC
 clear h k hC hz
 cases m with
 | false =>
  have hYn : ¬ Y < 0 := by have := Yn.v; rw [← this]; show ¬ ((val W64 ds : Nat) : Int) < 0; omega
  obtain ⟨G, hG⟩ : ∃ G, Nat.gcd (X : Int).natAbs (Y : Int).natAbs = G := ⟨_, rfl⟩
  have hG1 : 0 < G := by rw [← hG]; exact Nat.gcd_pos_of_pos_right _ (by omega)
  have hG0 : (G : Int) ≠ 0 := by omega
  have hr := rat_ratio X Y hY (X) (Y) (by rw [if_neg hYn]) (by rw [if_neg hYn]) G hG.symm
  have eA := hr.1.symm
  have eB := hr.2.symm
  have HE := Lib.hid (And.intro eA eB)
  have HH := Lib.hid hG
  have HG0 := Lib.hid hG0
  clear hr eA eB hG hG0 hG1 hY hYn
  have KX_0 := KX.c 0 _ rfl
  have KX_1 := KX.c 1 _ rfl
  have KY_0 := KY.c 0 _ rfl
  have KY_1 := KY.c 1 _ rfl
  go_enter Tryz.func122, Tryz.ntmps122
  go_wp2_with fail
  clear KX_0 KX_1 KY_0 KY_1
  rw [← hV]
  clear hV FX FY
  have lu := Xn.len
  have ld := Yn.len
  refine (gcd_n (L := C) Xn Yn lu ld (by have := HC.out; omega) HH.out).mono ?_
  rintro _ w3 ⟨gn, gA, gz, gk, rfl, Ng, gl, hb⟩
  replace KX := KX.on hb
  replace KY := KY.on hb
  replace Xn := Xn.on hb
  replace Yn := Yn.on hb
  replace RR := RR.on hb
  replace BW := BW.trans (hb.mono BW.size)
  clear hb
  clear lu ld
  have hb : Below w3.heap.size w3 (w3.alloc (.cells #[.bool gn, .slice gA gz.length gk] 72)) := by go_grown
  have KG := Box.new w3 [.bool gn, .slice gA gz.length gk] 72
  have nGKX : w.heap.size ≠ w3.heap.size := Nat.ne_of_lt KX.lt
  have nGKY : w.heap.size + 1 ≠ w3.heap.size := Nat.ne_of_lt KY.lt
  have nGRR : w.heap.size + 1 + 1 ≠ w3.heap.size := Nat.ne_of_lt RR.lr
  replace KX := KX.on hb
  replace KY := KY.on hb
  replace Xn := Xn.on hb
  replace Yn := Yn.on hb
  replace Ng := Ng.on hb
  replace RR := RR.on hb
  replace BW := BW.trans (hb.mono BW.size)
  clear hb
  have KX_0 := KX.c 0 _ rfl
  have KX_1 := KX.c 1 _ rfl
  have KY_0 := KY.c 0 _ rfl
  have KY_1 := KY.c 1 _ rfl
  have KG_0 := KG.c 0 _ rfl
  have KG_1 := KG.c 1 _ rfl
  go_wp2_with fail
  clear KX_0 KX_1 KY_0 KY_1 KG_0 KG_1
  generalize (w3.alloc (.cells #[.bool gn, .slice gA gz.length gk] 72)) = VG at *
  generalize w3.heap.size = pG at *
  refine wp_region_noPanic ?_
  have hb : Below VG.heap.size VG VG.drew := (Below.refl _ _).drew
  replace KX := KX.on hb
  replace KY := KY.on hb
  replace KG := KG.on hb
  replace Xn := Xn.on hb
  replace Yn := Yn.on hb
  replace Ng := Ng.on hb
  replace RR := RR.on hb
  replace BW := BW.trans (hb.mono BW.size)
  clear hb
  refine wp_region_held_drew (S := (fun wx => wx.cell? ⟨w.heap.size, 0, none⟩ = some (.bool n) ∧ wx.cell? ⟨w.heap.size, 1, none⟩ = some (.slice A xs.length c) ∧ wx.cell? ⟨w.heap.size + 1, 0, none⟩ = some (.bool false) ∧ wx.cell? ⟨w.heap.size + 1, 1, none⟩ = some (.slice B ds.length d) ∧ wx.cell? ⟨pG, 0, none⟩ = some (.bool gn) ∧ wx.cell? ⟨pG, 1, none⟩ = some (.slice gA gz.length gk))) (by kernel_rfl) (by exact KX.a2 (KY.a2 KG.b2)) (fun hHeld => ?_)
  generalize VG.drew = Vd at *
  refine pT 0 ?_
  (try simp only [p0, p1, p2, p3])
  refine pT 1 ?_
  (try simp only [p0, p1, p2, p3])
  refine pT 3 ?_
  (try simp only [p0, p1, p2, p3])
  refine pT 4 ?_
  (try simp only [p0, p1, p2, p3])
  refine pR1 2 (fun K hK => ?_)
  go_simp
  (go_at_call 107; with_reducible refine (over_n Xn Ng HG0.out (by have := HC.out; omega) (by have := HC.out; omega)).mono ?_)
  rintro _ wc0 ⟨an, aA, az, ak, rfl, Na, hb⟩
  (try go_wp2_with fail)
  replace KX := KX.on hb
  replace KY := KY.on hb
  replace KG := KG.on hb
  replace Yn := Yn.on hb
  replace Ng := Ng.on hb
  replace RR := RR.on hb
  replace BW := BW.trans (hb.mono BW.size)
  clear hb
  refine hK.out _ _ (by exact KX.a2 (KY.a2 KG.b2)) (fun hHeld => ?_)
  clear hK
  (try simp only [p0, p1, p2, p3])
  refine pR1 5 (fun K hK => ?_)
  go_simp
  (go_at_call 107; with_reducible refine (over_n Yn Ng HG0.out (by have := HC.out; omega) (by have := HC.out; omega)).mono ?_)
  rintro _ wc1 ⟨bn, bA, bz, bk, rfl, Nb, hb⟩
  (try go_wp2_with fail)
  replace KX := KX.on hb
  replace KY := KY.on hb
  replace KG := KG.on hb
  replace Na := Na.on hb
  replace RR := RR.on hb
  replace BW := BW.trans (hb.mono BW.size)
  clear hb
  refine hK.out _ _ (by exact KX.a2 (KY.a2 KG.b2)) (fun hHeld => ?_)
  clear hK
  (try simp only [p0, p1, p2, p3])
  refine pT 6 ?_
  (try simp only [p0, p1, p2, p3])
  replace Na := Na.eq HE.out.1
  replace Nb := Nb.eq HE.out.2
  obtain ⟨rfl, HQ⟩ := Lq.mk' Na Nb
  clear HQ
  have y0 := RR.r0
  have y1 := RR.r1
  have y2 := RR.r2
  have y3 := RR.r3
  have y4 := RR.f0
  have y5 := RR.f1
  have y6 := RR.f2
  have y7 := RR.f3
  refine pR1 7 (fun K hK => ?_)
  go_simp
  replace KX := KX.far4 (g := w.heap.size + 1 + 1) (by first | omega | exact nXRR.symm) (.bool an) (.slice aA az.length ak) (.bool false) (.slice bA bz.length bk)
  replace KY := KY.far4 (g := w.heap.size + 1 + 1) (by first | omega | exact nYRR.symm) (.bool an) (.slice aA az.length ak) (.bool false) (.slice bA bz.length bk)
  replace KG := KG.far4 (g := w.heap.size + 1 + 1) (by first | omega | exact nGRR.symm) (.bool an) (.slice aA az.length ak) (.bool false) (.slice bA bz.length bk)
  replace Na := Na.put4 RR (.bool an) (.slice aA az.length ak) (.bool false) (.slice bA bz.length bk)
  replace Nb := Nb.put4 RR (.bool an) (.slice aA az.length ak) (.bool false) (.slice bA bz.length bk)
  replace BW := Below.putq BW (r := w.heap.size + 1 + 1) (by omega) (.bool an) (.slice aA az.length ak) (.bool false) (.slice bA bz.length bk)
  have KR := Box.laidQ RR (.bool an) (.slice aA az.length ak) (.bool false) (.slice bA bz.length bk)
  clear RR y0 y1 y2 y3 y4 y5 y6 y7
  generalize ((((wc1.setCell ⟨w.heap.size + 1 + 1, 0, none⟩ (.bool an)).setCell ⟨w.heap.size + 1 + 1, 1, none⟩ (.slice aA az.length ak)).setCell ⟨w.heap.size + 1 + 1, 2, none⟩ (.bool false)).setCell ⟨w.heap.size + 1 + 1, 3, none⟩ (.slice bA bz.length bk)) = wsR at *
  refine hK.out _ _ (by exact KX.a2 (KY.a2 KG.b2)) (fun hHeld => ?_)
  clear hK
  (try simp only [p0, p1, p2, p3])
  have y0 := KR.c 0 _ rfl
  have y1 := KR.c 1 _ rfl
  have y2 := KR.c 2 _ rfl
  have y3 := KR.c 3 _ rfl
  refine wpAnyH_done (by kernel_rfl) (NoPanic.normal ?_) _
  go_wp2
  exact bodyPost_ret (v := frq an aA az.length ak false bA bz.length bk) (by simp [results, Tryz.results122, go_sem, y0, y1, y2, y3]) rfl ⟨_, _, _, _, _, _, _, rfl, (Lq.mk' Na Nb).2, BW⟩
 | true =>
  have hYn : Y < 0 := by have h1 := bg_pos Yn.bg rfl; have h2 := Yn.v; rw [← h2]; show -((val W64 ds : Nat) : Int) < 0; omega
  obtain ⟨G, hG⟩ : ∃ G, Nat.gcd (-X : Int).natAbs (-Y : Int).natAbs = G := ⟨_, rfl⟩
  have hG1 : 0 < G := by rw [← hG]; exact Nat.gcd_pos_of_pos_right _ (by omega)
  have hG0 : (G : Int) ≠ 0 := by omega
  have hr := rat_ratio X Y hY (-X) (-Y) (by rw [if_pos hYn]) (by rw [if_pos hYn]) G hG.symm
  have eA := hr.1.symm
  have eB := hr.2.symm
  have HE := Lib.hid (And.intro eA eB)
  have HH := Lib.hid hG
  have HG0 := Lib.hid hG0
  clear hr eA eB hG hG0 hG1 hY hYn
  have KX_0 := KX.c 0 _ rfl
  have KX_1 := KX.c 1 _ rfl
  have KY_0 := KY.c 0 _ rfl
  have KY_1 := KY.c 1 _ rfl
  go_enter Tryz.func122, Tryz.ntmps122
  go_wp2_with fail
  clear KX_0 KX_1 KY_0 KY_1
  rw [← hV]
  clear hV
  go_cut [2] (fun s2 wx => ∃ (un : Bool) (uA : Option Addr) (uz : List Nat) (uk : Nat) (vn : Bool) (vA : Option Addr) (vz : List Nat) (vk : Nat), s2 = .pointer (some ⟨w.heap.size, 0, none⟩) ∧ Below w.heap.size w wx ∧ Box wx w.heap.size [.bool un, .slice uA uz.length uk] ∧ Box wx (w.heap.size + 1) [.bool vn, .slice vA vz.length vk] ∧ RestQ wx (w.heap.size + 1 + 1) ∧ Nw wx (-X) C un uA uz uk ∧ Nw wx (-Y) C vn vA vz vk)
  case first =>
   refine wp_region_noPanic ?_
   have hb : Below V.heap.size V V.drew := (Below.refl _ _).drew
   replace KX := KX.on hb
   replace KY := KY.on hb
   replace Xn := Xn.on hb
   replace Yn := Yn.on hb
   replace FX := FX.on hb
   replace FY := FY.on hb
   replace RR := RR.on hb
   replace BW := BW.trans (hb.mono BW.size)
   clear hb
   refine wp_region_held_drew (S := (fun _ => True)) (by kernel_rfl) trivial (fun hHeld => ?_)
   generalize V.drew = Vd at *
   refine wpAnyH_ready (rs := [0, 2]) (by kernel_rfl) (by simp) (AllReadyH.cons (by (simp only [List.getElem?_toArray, List.getElem?_cons_zero]; rfl)) (fun K hK => ?_) (AllReadyH.cons (by (simp only [List.getElem?_toArray, List.getElem?_cons_succ, List.getElem?_cons_zero]; rfl)) (fun K hK => ?_) AllReadyH.nil))
   ·have a0 := KX.c 0 _ rfl
    have a1 := KX.c 1 _ rfl
    go_simp
    refine hK.out _ _ trivial (fun hHeld => ?_)
    clear hK
    (try simp only [p0, p1, p2, p3])
    clear a0 a1
    refine pR2 1 2 (fun K hK => ?_) (fun K hK => ?_)
    ·go_simp
     (go_at_call 117; with_reducible refine (neg_n Xn (by have := HC.out; omega)).mono ?_)
     rintro _ wu ⟨un, uA, uz, uk, rfl, Nu, hb⟩
     (try go_wp2_with fail)
     replace KX := KX.on hb
     replace KY := KY.on hb
     replace Xn := Xn.on hb
     replace Yn := Yn.on hb
     replace FX := FX.on hb
     replace FY := FY.on hb
     replace RR := RR.on hb
     replace BW := BW.trans (hb.mono BW.size)
     clear hb
     refine hK.out _ _ trivial (fun hHeld => ?_)
     clear hK
     (try simp only [p0, p1, p2, p3])
     refine pR1 2 (fun K hK => ?_)
     have a0 := KY.c 0 _ rfl
     have a1 := KY.c 1 _ rfl
     go_simp
     refine hK.out _ _ trivial (fun hHeld => ?_)
     clear hK
     (try simp only [p0, p1, p2, p3])
     clear a0 a1
     refine pR1 3 (fun K hK => ?_)
     go_simp
     (go_at_call 117; with_reducible refine (neg_n Yn (by have := HC.out; omega)).mono ?_)
     rintro _ wv ⟨vn, vA, vz, vk, rfl, Nv, hb⟩
     (try go_wp2_with fail)
     replace KX := KX.on hb
     replace KY := KY.on hb
     replace Xn := Xn.on hb
     replace Yn := Yn.on hb
     replace FX := FX.on hb
     replace FY := FY.on hb
     replace Nu := Nu.on hb
     replace RR := RR.on hb
     replace BW := BW.trans (hb.mono BW.size)
     clear hb
     refine hK.out _ _ trivial (fun hHeld => ?_)
     clear hK
     (try simp only [p0, p1, p2, p3])
     have a0 := KX.c 0 _ rfl
     have a1 := KX.c 1 _ rfl
     have a2 := FX.2 0
     have a3 := FX.2 1
     refine pR1 4 (fun K hK => ?_)
     go_simp
     replace Nu := Nu.over2 KX (.bool un) (.slice uA uz.length uk)
     replace Nv := Nv.over2 KX (.bool un) (.slice uA uz.length uk)
     replace KY := KY.far2 (g := w.heap.size) (by omega) (.bool un) (.slice uA uz.length uk)
     replace RR := RR.far2 (g := w.heap.size) (by omega) (.bool un) (.slice uA uz.length uk)
     replace FY := (FY.far (g := w.heap.size) 0 (.bool un)).far (g := w.heap.size) 1 (.slice uA uz.length uk)
     replace KX := KX.over2 FX (.bool un) (.slice uA uz.length uk)
     replace BW := (BW.setCell (p := ⟨w.heap.size, 0, none⟩) (Nat.le_refl _) (.bool un)).setCell (p := ⟨w.heap.size, 1, none⟩) (Nat.le_refl _) (.slice uA uz.length uk)
     clear a0 a1 a2 a3 FX Xn Yn
     generalize ((wv.setCell ⟨w.heap.size, 0, none⟩ (.bool un)).setCell ⟨w.heap.size, 1, none⟩ (.slice uA uz.length uk)) = ws at *
     refine hK.out _ _ trivial (fun hHeld => ?_)
     clear hK
     (try simp only [p0, p1, p2, p3])
     have a0 := KY.c 0 _ rfl
     have a1 := KY.c 1 _ rfl
     have a2 := FY.2 0
     have a3 := FY.2 1
     refine pR1 5 (fun K hK => ?_)
     go_simp
     replace Nu := Nu.over2 KY (.bool vn) (.slice vA vz.length vk)
     replace Nv := Nv.over2 KY (.bool vn) (.slice vA vz.length vk)
     replace KX := KX.far2 (g := w.heap.size + 1) (by omega) (.bool vn) (.slice vA vz.length vk)
     replace RR := RR.far2 (g := w.heap.size + 1) (by omega) (.bool vn) (.slice vA vz.length vk)
     replace KY := KY.over2 FY (.bool vn) (.slice vA vz.length vk)
     replace BW := (BW.setCell (p := ⟨w.heap.size + 1, 0, none⟩) (Nat.le_succ _) (.bool vn)).setCell (p := ⟨w.heap.size + 1, 1, none⟩) (Nat.le_succ _) (.slice vA vz.length vk)
     clear a0 a1 a2 a3 FY
     generalize ((ws.setCell ⟨w.heap.size + 1, 0, none⟩ (.bool vn)).setCell ⟨w.heap.size + 1, 1, none⟩ (.slice vA vz.length vk)) = wt at *
     refine hK.out _ _ trivial (fun hHeld => ?_)
     clear hK
     (try simp only [p0, p1, p2, p3])
     refine wpAnyH_done (by kernel_rfl) (NoPanic.normal ?_) _
     go_wp2
     go_meet
     exact ⟨un, uA, uz, uk, vn, vA, vz, vk, rfl, BW, KX, KY, RR, Nu, Nv⟩
    ·have a0 := KY.c 0 _ rfl
     have a1 := KY.c 1 _ rfl
     go_simp
     refine hK.out _ _ trivial (fun hHeld => ?_)
     clear hK
     (try simp only [p0, p1, p2, p3])
     clear a0 a1
     refine pR1 1 (fun K hK => ?_)
     go_simp
     (go_at_call 117; with_reducible refine (neg_n Xn (by have := HC.out; omega)).mono ?_)
     rintro _ wu ⟨un, uA, uz, uk, rfl, Nu, hb⟩
     (try go_wp2_with fail)
     replace KX := KX.on hb
     replace KY := KY.on hb
     replace Xn := Xn.on hb
     replace Yn := Yn.on hb
     replace FX := FX.on hb
     replace FY := FY.on hb
     replace RR := RR.on hb
     replace BW := BW.trans (hb.mono BW.size)
     clear hb
     refine hK.out _ _ trivial (fun hHeld => ?_)
     clear hK
     (try simp only [p0, p1, p2, p3])
     refine pR1 3 (fun K hK => ?_)
     go_simp
     (go_at_call 117; with_reducible refine (neg_n Yn (by have := HC.out; omega)).mono ?_)
     rintro _ wv ⟨vn, vA, vz, vk, rfl, Nv, hb⟩
     (try go_wp2_with fail)
     replace KX := KX.on hb
     replace KY := KY.on hb
     replace Xn := Xn.on hb
     replace Yn := Yn.on hb
     replace FX := FX.on hb
     replace FY := FY.on hb
     replace Nu := Nu.on hb
     replace RR := RR.on hb
     replace BW := BW.trans (hb.mono BW.size)
     clear hb
     refine hK.out _ _ trivial (fun hHeld => ?_)
     clear hK
     (try simp only [p0, p1, p2, p3])
     have a0 := KX.c 0 _ rfl
     have a1 := KX.c 1 _ rfl
     have a2 := FX.2 0
     have a3 := FX.2 1
     refine pR1 4 (fun K hK => ?_)
     go_simp
     replace Nu := Nu.over2 KX (.bool un) (.slice uA uz.length uk)
     replace Nv := Nv.over2 KX (.bool un) (.slice uA uz.length uk)
     replace KY := KY.far2 (g := w.heap.size) (by omega) (.bool un) (.slice uA uz.length uk)
     replace RR := RR.far2 (g := w.heap.size) (by omega) (.bool un) (.slice uA uz.length uk)
     replace FY := (FY.far (g := w.heap.size) 0 (.bool un)).far (g := w.heap.size) 1 (.slice uA uz.length uk)
     replace KX := KX.over2 FX (.bool un) (.slice uA uz.length uk)
     replace BW := (BW.setCell (p := ⟨w.heap.size, 0, none⟩) (Nat.le_refl _) (.bool un)).setCell (p := ⟨w.heap.size, 1, none⟩) (Nat.le_refl _) (.slice uA uz.length uk)
     clear a0 a1 a2 a3 FX Xn Yn
     generalize ((wv.setCell ⟨w.heap.size, 0, none⟩ (.bool un)).setCell ⟨w.heap.size, 1, none⟩ (.slice uA uz.length uk)) = ws at *
     refine hK.out _ _ trivial (fun hHeld => ?_)
     clear hK
     (try simp only [p0, p1, p2, p3])
     have a0 := KY.c 0 _ rfl
     have a1 := KY.c 1 _ rfl
     have a2 := FY.2 0
     have a3 := FY.2 1
     refine pR1 5 (fun K hK => ?_)
     go_simp
     replace Nu := Nu.over2 KY (.bool vn) (.slice vA vz.length vk)
     replace Nv := Nv.over2 KY (.bool vn) (.slice vA vz.length vk)
     replace KX := KX.far2 (g := w.heap.size + 1) (by omega) (.bool vn) (.slice vA vz.length vk)
     replace RR := RR.far2 (g := w.heap.size + 1) (by omega) (.bool vn) (.slice vA vz.length vk)
     replace KY := KY.over2 FY (.bool vn) (.slice vA vz.length vk)
     replace BW := (BW.setCell (p := ⟨w.heap.size + 1, 0, none⟩) (Nat.le_succ _) (.bool vn)).setCell (p := ⟨w.heap.size + 1, 1, none⟩) (Nat.le_succ _) (.slice vA vz.length vk)
     clear a0 a1 a2 a3 FY
     generalize ((ws.setCell ⟨w.heap.size + 1, 0, none⟩ (.bool vn)).setCell ⟨w.heap.size + 1, 1, none⟩ (.slice vA vz.length vk)) = wt at *
     refine hK.out _ _ trivial (fun hHeld => ?_)
     clear hK
     (try simp only [p0, p1, p2, p3])
     refine wpAnyH_done (by kernel_rfl) (NoPanic.normal ?_) _
     go_wp2
     go_meet
     exact ⟨un, uA, uz, uk, vn, vA, vz, vk, rfl, BW, KX, KY, RR, Nu, Nv⟩
   ·have a0 := KY.c 0 _ rfl
    have a1 := KY.c 1 _ rfl
    go_simp
    refine hK.out _ _ trivial (fun hHeld => ?_)
    clear hK
    (try simp only [p0, p1, p2, p3])
    clear a0 a1
    refine wpAnyH_ready (rs := [0]) (by kernel_rfl) (by simp) (AllReadyH.cons (by (simp only [List.getElem?_toArray, List.getElem?_cons_zero]; rfl)) (fun K hK => ?_) AllReadyH.nil)
    have a0 := KX.c 0 _ rfl
    have a1 := KX.c 1 _ rfl
    go_simp
    refine hK.out _ _ trivial (fun hHeld => ?_)
    clear hK
    (try simp only [p0, p1, p2, p3])
    clear a0 a1
    refine pR1 1 (fun K hK => ?_)
    go_simp
    (go_at_call 117; with_reducible refine (neg_n Xn (by have := HC.out; omega)).mono ?_)
    rintro _ wu ⟨un, uA, uz, uk, rfl, Nu, hb⟩
    (try go_wp2_with fail)
    replace KX := KX.on hb
    replace KY := KY.on hb
    replace Xn := Xn.on hb
    replace Yn := Yn.on hb
    replace FX := FX.on hb
    replace FY := FY.on hb
    replace RR := RR.on hb
    replace BW := BW.trans (hb.mono BW.size)
    clear hb
    refine hK.out _ _ trivial (fun hHeld => ?_)
    clear hK
    (try simp only [p0, p1, p2, p3])
    refine pR1 3 (fun K hK => ?_)
    go_simp
    (go_at_call 117; with_reducible refine (neg_n Yn (by have := HC.out; omega)).mono ?_)
    rintro _ wv ⟨vn, vA, vz, vk, rfl, Nv, hb⟩
    (try go_wp2_with fail)
    replace KX := KX.on hb
    replace KY := KY.on hb
    replace Xn := Xn.on hb
    replace Yn := Yn.on hb
    replace FX := FX.on hb
    replace FY := FY.on hb
    replace Nu := Nu.on hb
    replace RR := RR.on hb
    replace BW := BW.trans (hb.mono BW.size)
    clear hb
    refine hK.out _ _ trivial (fun hHeld => ?_)
    clear hK
    (try simp only [p0, p1, p2, p3])
    have a0 := KX.c 0 _ rfl
    have a1 := KX.c 1 _ rfl
    have a2 := FX.2 0
    have a3 := FX.2 1
    refine pR1 4 (fun K hK => ?_)
    go_simp
    replace Nu := Nu.over2 KX (.bool un) (.slice uA uz.length uk)
    replace Nv := Nv.over2 KX (.bool un) (.slice uA uz.length uk)
    replace KY := KY.far2 (g := w.heap.size) (by omega) (.bool un) (.slice uA uz.length uk)
    replace RR := RR.far2 (g := w.heap.size) (by omega) (.bool un) (.slice uA uz.length uk)
    replace FY := (FY.far (g := w.heap.size) 0 (.bool un)).far (g := w.heap.size) 1 (.slice uA uz.length uk)
    replace KX := KX.over2 FX (.bool un) (.slice uA uz.length uk)
    replace BW := (BW.setCell (p := ⟨w.heap.size, 0, none⟩) (Nat.le_refl _) (.bool un)).setCell (p := ⟨w.heap.size, 1, none⟩) (Nat.le_refl _) (.slice uA uz.length uk)
    clear a0 a1 a2 a3 FX Xn Yn
    generalize ((wv.setCell ⟨w.heap.size, 0, none⟩ (.bool un)).setCell ⟨w.heap.size, 1, none⟩ (.slice uA uz.length uk)) = ws at *
    refine hK.out _ _ trivial (fun hHeld => ?_)
    clear hK
    (try simp only [p0, p1, p2, p3])
    have a0 := KY.c 0 _ rfl
    have a1 := KY.c 1 _ rfl
    have a2 := FY.2 0
    have a3 := FY.2 1
    refine pR1 5 (fun K hK => ?_)
    go_simp
    replace Nu := Nu.over2 KY (.bool vn) (.slice vA vz.length vk)
    replace Nv := Nv.over2 KY (.bool vn) (.slice vA vz.length vk)
    replace KX := KX.far2 (g := w.heap.size + 1) (by omega) (.bool vn) (.slice vA vz.length vk)
    replace RR := RR.far2 (g := w.heap.size + 1) (by omega) (.bool vn) (.slice vA vz.length vk)
    replace KY := KY.over2 FY (.bool vn) (.slice vA vz.length vk)
    replace BW := (BW.setCell (p := ⟨w.heap.size + 1, 0, none⟩) (Nat.le_succ _) (.bool vn)).setCell (p := ⟨w.heap.size + 1, 1, none⟩) (Nat.le_succ _) (.slice vA vz.length vk)
    clear a0 a1 a2 a3 FY
    generalize ((ws.setCell ⟨w.heap.size + 1, 0, none⟩ (.bool vn)).setCell ⟨w.heap.size + 1, 1, none⟩ (.slice vA vz.length vk)) = wt at *
    refine hK.out _ _ trivial (fun hHeld => ?_)
    clear hK
    (try simp only [p0, p1, p2, p3])
    refine wpAnyH_done (by kernel_rfl) (NoPanic.normal ?_) _
    go_wp2
    go_meet
    exact ⟨un, uA, uz, uk, vn, vA, vz, vk, rfl, BW, KX, KY, RR, Nu, Nv⟩
  case rest =>
   obtain ⟨un, uA, uz, uk, vn, vA, vz, vk, rfl, BW, KX, KY, RR, Nu, Nv⟩ := hcut
   have KX_0 := KX.c 0 _ rfl
   have KX_1 := KX.c 1 _ rfl
   have KY_0 := KY.c 0 _ rfl
   have KY_1 := KY.c 1 _ rfl
   go_wp2_with fail
   clear KX_0 KX_1 KY_0 KY_1
   have lu := Nu.len
   have ld := Nv.len
   refine (gcd_n (L := C) Nu Nv lu ld (by have := HC.out; omega) HH.out).mono ?_
   rintro _ w3 ⟨gn, gA, gz, gk, rfl, Ng, gl, hb⟩
   replace KX := KX.on hb
   replace KY := KY.on hb
   replace Nu := Nu.on hb
   replace Nv := Nv.on hb
   replace RR := RR.on hb
   replace BW := BW.trans (hb.mono BW.size)
   clear hb
   clear lu ld
   have hb : Below w3.heap.size w3 (w3.alloc (.cells #[.bool gn, .slice gA gz.length gk] 72)) := by go_grown
   have KG := Box.new w3 [.bool gn, .slice gA gz.length gk] 72
   have nGKX : w.heap.size ≠ w3.heap.size := Nat.ne_of_lt KX.lt
   have nGKY : w.heap.size + 1 ≠ w3.heap.size := Nat.ne_of_lt KY.lt
   have nGRR : w.heap.size + 1 + 1 ≠ w3.heap.size := Nat.ne_of_lt RR.lr
   replace KX := KX.on hb
   replace KY := KY.on hb
   replace Nu := Nu.on hb
   replace Nv := Nv.on hb
   replace Ng := Ng.on hb
   replace RR := RR.on hb
   replace BW := BW.trans (hb.mono BW.size)
   clear hb
   have KX_0 := KX.c 0 _ rfl
   have KX_1 := KX.c 1 _ rfl
   have KY_0 := KY.c 0 _ rfl
   have KY_1 := KY.c 1 _ rfl
   have KG_0 := KG.c 0 _ rfl
   have KG_1 := KG.c 1 _ rfl
   go_wp2_with fail
   clear KX_0 KX_1 KY_0 KY_1 KG_0 KG_1
   generalize (w3.alloc (.cells #[.bool gn, .slice gA gz.length gk] 72)) = VG at *
   generalize w3.heap.size = pG at *
   refine wp_region_noPanic ?_
   have hb : Below VG.heap.size VG VG.drew := (Below.refl _ _).drew
   replace KX := KX.on hb
   replace KY := KY.on hb
   replace KG := KG.on hb
   replace Nu := Nu.on hb
   replace Nv := Nv.on hb
   replace Ng := Ng.on hb
   replace RR := RR.on hb
   replace BW := BW.trans (hb.mono BW.size)
   clear hb
   refine wp_region_held_drew (S := (fun wx => wx.cell? ⟨w.heap.size, 0, none⟩ = some (.bool un) ∧ wx.cell? ⟨w.heap.size, 1, none⟩ = some (.slice uA uz.length uk) ∧ wx.cell? ⟨w.heap.size + 1, 0, none⟩ = some (.bool vn) ∧ wx.cell? ⟨w.heap.size + 1, 1, none⟩ = some (.slice vA vz.length vk) ∧ wx.cell? ⟨pG, 0, none⟩ = some (.bool gn) ∧ wx.cell? ⟨pG, 1, none⟩ = some (.slice gA gz.length gk))) (by kernel_rfl) (by exact KX.a2 (KY.a2 KG.b2)) (fun hHeld => ?_)
   generalize VG.drew = Vd at *
   refine pT 0 ?_
   (try simp only [p0, p1, p2, p3])
   refine pT 1 ?_
   (try simp only [p0, p1, p2, p3])
   refine pT 3 ?_
   (try simp only [p0, p1, p2, p3])
   refine pT 4 ?_
   (try simp only [p0, p1, p2, p3])
   refine pR1 2 (fun K hK => ?_)
   go_simp
   (go_at_call 107; with_reducible refine (over_n Nu Ng HG0.out (by have := HC.out; omega) (by have := HC.out; omega)).mono ?_)
   rintro _ wc0 ⟨an, aA, az, ak, rfl, Na, hb⟩
   (try go_wp2_with fail)
   replace KX := KX.on hb
   replace KY := KY.on hb
   replace KG := KG.on hb
   replace Nv := Nv.on hb
   replace Ng := Ng.on hb
   replace RR := RR.on hb
   replace BW := BW.trans (hb.mono BW.size)
   clear hb
   refine hK.out _ _ (by exact KX.a2 (KY.a2 KG.b2)) (fun hHeld => ?_)
   clear hK
   (try simp only [p0, p1, p2, p3])
   refine pR1 5 (fun K hK => ?_)
   go_simp
   (go_at_call 107; with_reducible refine (over_n Nv Ng HG0.out (by have := HC.out; omega) (by have := HC.out; omega)).mono ?_)
   rintro _ wc1 ⟨bn, bA, bz, bk, rfl, Nb, hb⟩
   (try go_wp2_with fail)
   replace KX := KX.on hb
   replace KY := KY.on hb
   replace KG := KG.on hb
   replace Na := Na.on hb
   replace RR := RR.on hb
   replace BW := BW.trans (hb.mono BW.size)
   clear hb
   refine hK.out _ _ (by exact KX.a2 (KY.a2 KG.b2)) (fun hHeld => ?_)
   clear hK
   (try simp only [p0, p1, p2, p3])
   refine pT 6 ?_
   (try simp only [p0, p1, p2, p3])
   replace Na := Na.eq HE.out.1
   replace Nb := Nb.eq HE.out.2
   obtain ⟨rfl, HQ⟩ := Lq.mk' Na Nb
   clear HQ
   have y0 := RR.r0
   have y1 := RR.r1
   have y2 := RR.r2
   have y3 := RR.r3
   have y4 := RR.f0
   have y5 := RR.f1
   have y6 := RR.f2
   have y7 := RR.f3
   refine pR1 7 (fun K hK => ?_)
   go_simp
   replace KX := KX.far4 (g := w.heap.size + 1 + 1) (by first | omega | exact nXRR.symm) (.bool an) (.slice aA az.length ak) (.bool false) (.slice bA bz.length bk)
   replace KY := KY.far4 (g := w.heap.size + 1 + 1) (by first | omega | exact nYRR.symm) (.bool an) (.slice aA az.length ak) (.bool false) (.slice bA bz.length bk)
   replace KG := KG.far4 (g := w.heap.size + 1 + 1) (by first | omega | exact nGRR.symm) (.bool an) (.slice aA az.length ak) (.bool false) (.slice bA bz.length bk)
   replace Na := Na.put4 RR (.bool an) (.slice aA az.length ak) (.bool false) (.slice bA bz.length bk)
   replace Nb := Nb.put4 RR (.bool an) (.slice aA az.length ak) (.bool false) (.slice bA bz.length bk)
   replace BW := Below.putq BW (r := w.heap.size + 1 + 1) (by omega) (.bool an) (.slice aA az.length ak) (.bool false) (.slice bA bz.length bk)
   have KR := Box.laidQ RR (.bool an) (.slice aA az.length ak) (.bool false) (.slice bA bz.length bk)
   clear RR y0 y1 y2 y3 y4 y5 y6 y7
   generalize ((((wc1.setCell ⟨w.heap.size + 1 + 1, 0, none⟩ (.bool an)).setCell ⟨w.heap.size + 1 + 1, 1, none⟩ (.slice aA az.length ak)).setCell ⟨w.heap.size + 1 + 1, 2, none⟩ (.bool false)).setCell ⟨w.heap.size + 1 + 1, 3, none⟩ (.slice bA bz.length bk)) = wsR at *
   refine hK.out _ _ (by exact KX.a2 (KY.a2 KG.b2)) (fun hHeld => ?_)
   clear hK
   (try simp only [p0, p1, p2, p3])
   have y0 := KR.c 0 _ rfl
   have y1 := KR.c 1 _ rfl
   have y2 := KR.c 2 _ rfl
   have y3 := KR.c 3 _ rfl
   refine wpAnyH_done (by kernel_rfl) (NoPanic.normal ?_) _
   go_wp2
   exact bodyPost_ret (v := frq an aA az.length ak false bA bz.length bk) (by simp [results, Tryz.results122, go_sem, y0, y1, y2, y3]) rfl ⟨_, _, _, _, _, _, _, rfl, (Lq.mk' Na Nb).2, BW⟩
end Go.Proofs.YtjamfkafgfpobaaGreat
/-! ### Fq8 -/
namespace Go.Proofs.YtjamfkafgfpobaaGreat
open Go.RowKit Nb
end Go.Proofs.YtjamfkafgfpobaaGreat
