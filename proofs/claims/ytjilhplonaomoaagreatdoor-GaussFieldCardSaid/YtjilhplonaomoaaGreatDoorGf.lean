/-
 What the statement about sums, products and quotients of complex numbers returns: yes. Conditions: that the numbers are no longer than memory.
-/
import Derived.Test.YtjilhplonaomoaaGreatDoorGe
import Derived.Deep.RegionHeld3
import Derived.Deep.DeepCutAuto
import Derived.BigRegion
namespace Go.Proofs.YtjilhplonaomoaaGreatDoor
open Go.RowKit Nb

theorem g_sameG {q p s t : Rat} {a b c d : Fv} {w : World} {G : Bool} (Fa : Ff w q a) (Fb : Ff w p b) (Fc : Ff w s c) (Fd : Ff w t d) (hG : decide (q = s ∧ p = t) = G) :
  Calls Tryz.prog 26 #[gv a b, gv c d] w (fun e w' => e = .returned (.bool G) ∧ Below w.heap.size w w') := by
 have := g_same Fa Fb Fc Fd
 rwa [hG] at this
theorem quo_re {x x' y y' z z' : Rat} (h : z * z + z' * z' ≠ 0) : (((x * y - x' * y') * z - (x * y' + x' * y) * z') * z + ((x * y - x' * y') * z' + (x * y' + x' * y) * z) * z') / (z * z + z' * z') = (x * y - x' * y') := by grind
theorem quo_im {x x' y y' z z' : Rat} (h : z * z + z' * z' ≠ 0) : (((x * y - x' * y') * z' + (x * y' + x' * y) * z) * z - ((x * y - x' * y') * z - (x * y' + x' * y) * z') * z') / (z * z + z' * z') = (x * y' + x' * y) := by grind
set_option maxHeartbeats 16000000 in
set_option maxRecDepth 100000 in
theorem field_walk {a b c d e f : Fv} {w : World} (Fa : Fx w a) (Fb : Fx w b) (Fc : Fx w c) (Fd : Fx w d) (Fe : Fx w e) (Ff : Fx w f) (htab : Tab w) :
  Calls Tryz.prog 5 #[gv a b, gv c d, gv e f] w (fun ee w' => ee = .returned (.bool true) ∧ Below w.heap.size w w') := by
 have HT := Lib.hid htab
 clear htab
 have BW : Below w.heap.size w w := Below.refl _ _
 obtain ⟨V2, e3, hb4, K5, -, z1⟩ := alloc_new w [.bool a.n, .slice a.A a.xs.length a.c, .bool a.m, .slice a.B a.ds.length a.d, .bool b.n, .slice b.A b.xs.length b.c, .bool b.m, .slice b.B b.ds.length b.d] 39
 replace Fa := Fa.kp (Kept.of hb4)
 replace Fb := Fb.kp (Kept.of hb4)
 replace Fc := Fc.kp (Kept.of hb4)
 replace Fd := Fd.kp (Kept.of hb4)
 replace Fe := Fe.kp (Kept.of hb4)
 replace Ff := Ff.kp (Kept.of hb4)
 replace BW := BW.trans (hb4.mono BW.size)
 clear hb4
 obtain ⟨V7, e8, hb9, K10, -, z6⟩ := alloc_new V2 [.bool c.n, .slice c.A c.xs.length c.c, .bool c.m, .slice c.B c.ds.length c.d, .bool d.n, .slice d.A d.xs.length d.c, .bool d.m, .slice d.B d.ds.length d.d] 39
 rw [z1] at K10 z6
 replace K5 := K5.on hb9
 replace Fa := Fa.kp (Kept.of hb9)
 replace Fb := Fb.kp (Kept.of hb9)
 replace Fc := Fc.kp (Kept.of hb9)
 replace Fd := Fd.kp (Kept.of hb9)
 replace Fe := Fe.kp (Kept.of hb9)
 replace Ff := Ff.kp (Kept.of hb9)
 replace BW := BW.trans (hb9.mono BW.size)
 clear hb9
 obtain ⟨V12, e13, hb14, K15, -, z11⟩ := alloc_new V7 [.bool e.n, .slice e.A e.xs.length e.c, .bool e.m, .slice e.B e.ds.length e.d, .bool f.n, .slice f.A f.xs.length f.c, .bool f.m, .slice f.B f.ds.length f.d] 39
 rw [z6] at K15 z11
 replace K5 := K5.on hb14
 replace K10 := K10.on hb14
 replace Fa := Fa.kp (Kept.of hb14)
 replace Fb := Fb.kp (Kept.of hb14)
 replace Fc := Fc.kp (Kept.of hb14)
 replace Fd := Fd.kp (Kept.of hb14)
 replace Fe := Fe.kp (Kept.of hb14)
 replace Ff := Ff.kp (Kept.of hb14)
 replace BW := BW.trans (hb14.mono BW.size)
 clear hb14
 obtain ⟨V16, e17, hb18, K19, -, -⟩ := alloc_new V12 [.bool a.n, .slice a.A a.xs.length a.c, .bool a.m, .slice a.B a.ds.length a.d, .bool b.n, .slice b.A b.xs.length b.c, .bool b.m, .slice b.B b.ds.length b.d, .bool c.n, .slice c.A c.xs.length c.c, .bool c.m, .slice c.B c.ds.length c.d, .bool d.n, .slice d.A d.xs.length d.c, .bool d.m, .slice d.B d.ds.length d.d, .bool e.n, .slice e.A e.xs.length e.c, .bool e.m, .slice e.B e.ds.length e.d, .bool f.n, .slice f.A f.xs.length f.c, .bool f.m, .slice f.B f.ds.length f.d] 39
 rw [z11] at K19
 replace K5 := K5.on hb18
 replace K10 := K10.on hb18
 replace K15 := K15.on hb18
 replace Fa := Fa.kp (Kept.of hb18)
 replace Fb := Fb.kp (Kept.of hb18)
 replace Fc := Fc.kp (Kept.of hb18)
 replace Fd := Fd.kp (Kept.of hb18)
 replace Fe := Fe.kp (Kept.of hb18)
 replace Ff := Ff.kp (Kept.of hb18)
 replace BW := BW.trans (hb18.mono BW.size)
 clear hb18
 clear z1 z6 z11
 go_enter Tryz.func5, Tryz.ntmps5
 go_wp2_with fail
 rw [← e3, ← e8, ← e13, ← e17]
 clear e3 e8 e13 e17
 refine (g_big3 Fa Fb Fc Fd Fe Ff K19).mono ?_
 rintro _ w20 ⟨r, rfl, hbig, hb⟩
 replace K5 := K5.on hb
 replace K10 := K10.on hb
 replace K15 := K15.on hb
 replace K19 := K19.on hb
 replace Fa := Fa.kp (Kept.of hb)
 replace Fb := Fb.kp (Kept.of hb)
 replace Fc := Fc.kp (Kept.of hb)
 replace Fd := Fd.kp (Kept.of hb)
 replace Fe := Fe.kp (Kept.of hb)
 replace Ff := Ff.kp (Kept.of hb)
 replace BW := BW.trans (hb.mono BW.size)
 clear hb
 have HB := Lib.hid hbig
 clear hbig
 clear K19
 rcases Bool.eq_false_or_eq_true r with rfl | rfl
 ·go_wp2_with fail
  refine (alive_any (tab_below HT.out BW)).mono ?_
  rintro _ w21 ⟨rfl, hb⟩
  replace BW := BW.trans (hb.mono BW.size)
  clear hb
  go_wp2_with fail
  exact bodyPost_ret (v := .bool true) (by simp [results, Tryz.results5, go_sem]) rfl ⟨rfl, BW⟩
 ·have hsz := HB.out rfl
  clear HB
  have HS := Lib.hid hsz
  clear hsz
  obtain ⟨c21, c22, c23, c24, c25, c26, c27, c28⟩ := K5.c8
  go_wp2_with fail
  clear c21 c22 c23 c24 c25 c26 c27 c28
  refine (g_check Fa Fb).mono ?_
  rintro _ w29 ⟨rfl, hb⟩
  replace K5 := K5.on hb
  replace K10 := K10.on hb
  replace K15 := K15.on hb
  replace Fa := Fa.kp (Kept.of hb)
  replace Fb := Fb.kp (Kept.of hb)
  replace Fc := Fc.kp (Kept.of hb)
  replace Fd := Fd.kp (Kept.of hb)
  replace Fe := Fe.kp (Kept.of hb)
  replace Ff := Ff.kp (Kept.of hb)
  replace BW := BW.trans (hb.mono BW.size)
  clear hb
  have kk := chkg_two a b
  have HO0 := Lib.hid (fun h : chkg a b = 0 => chkg_zero h)
  generalize chkg a b = ck0 at *
  rcases kk with rfl | rfl
  ·obtain ⟨c30, c31, c32, c33, c34, c35, c36, c37⟩ := K10.c8
   go_wp2_with fail
   clear c30 c31 c32 c33 c34 c35 c36 c37
   refine (g_check Fc Fd).mono ?_
   rintro _ w38 ⟨rfl, hb⟩
   replace K5 := K5.on hb
   replace K10 := K10.on hb
   replace K15 := K15.on hb
   replace Fa := Fa.kp (Kept.of hb)
   replace Fb := Fb.kp (Kept.of hb)
   replace Fc := Fc.kp (Kept.of hb)
   replace Fd := Fd.kp (Kept.of hb)
   replace Fe := Fe.kp (Kept.of hb)
   replace Ff := Ff.kp (Kept.of hb)
   replace BW := BW.trans (hb.mono BW.size)
   clear hb
   have kk := chkg_two c d
   have HO1 := Lib.hid (fun h : chkg c d = 0 => chkg_zero h)
   generalize chkg c d = ck1 at *
   rcases kk with rfl | rfl
   ·obtain ⟨c39, c40, c41, c42, c43, c44, c45, c46⟩ := K15.c8
    go_wp2_with fail
    clear c39 c40 c41 c42 c43 c44 c45 c46
    refine (g_check Fe Ff).mono ?_
    rintro _ w47 ⟨rfl, hb⟩
    replace K5 := K5.on hb
    replace K10 := K10.on hb
    replace K15 := K15.on hb
    replace Fa := Fa.kp (Kept.of hb)
    replace Fb := Fb.kp (Kept.of hb)
    replace Fc := Fc.kp (Kept.of hb)
    replace Fd := Fd.kp (Kept.of hb)
    replace Fe := Fe.kp (Kept.of hb)
    replace Ff := Ff.kp (Kept.of hb)
    replace BW := BW.trans (hb.mono BW.size)
    clear hb
    have kk := chkg_two e f
    have HO2 := Lib.hid (fun h : chkg e f = 0 => chkg_zero h)
    generalize chkg e f = ck2 at *
    rcases kk with rfl | rfl
    ·obtain ⟨oa, ob⟩ := HO0.out (by trivial)
     obtain ⟨oc, od⟩ := HO1.out (by trivial)
     obtain ⟨oe, of⟩ := HO2.out (by trivial)
     clear HO0 HO1 HO2
     obtain ⟨x, La⟩ := oa.ff Fa
     obtain ⟨x', Lb⟩ := ob.ff Fb
     obtain ⟨y, Lc⟩ := oc.ff Fc
     obtain ⟨y', Ld⟩ := od.ff Fd
     obtain ⟨z, Le⟩ := oe.ff Fe
     obtain ⟨z', Lf⟩ := of.ff Ff
     clear oa Fa ob Fb oc Fc od Fd oe Fe of Ff
     have hX := La.hg Lb HS.out.1
     have hY := Lc.hg Ld HS.out.2.1
     have hZ := Le.hg Lf HS.out.2.2
     clear HS
     have Hxy := Lib.hid (hX.add hY)
     have Hyx := Lib.hid (hY.add hX)
     have Hyz := Lib.hid (hY.add hZ)
     have Pxy := Lib.hid (hX.mul hY)
     have Pyx := Lib.hid (hY.mul hX)
     have Pxz := Lib.hid (hX.mul hZ)
     have Hxyz := Lib.hid ((hX.add hY).add hZ)
     have Hzyx := Lib.hid (hZ.add (hY.add hX))
     have Pxyz := Lib.hid ((hX.mul hY).mul hZ)
     have Pzyx := Lib.hid (hZ.mul (hY.mul hX))
     have Pxs := Lib.hid (hX.mul (hY.add hZ))
     have Sxx := Lib.hid ((hX.mul hY).add (hX.mul hZ))
     clear hX hY hZ
     obtain ⟨V48, e49, hb50, K51, Z52, -⟩ := alloc_new w47 [.bool true] 4
     have n53 : w.heap.size ≠ w47.heap.size := Nat.ne_of_lt (K5.lt)
     have n54 : w.heap.size + 1 ≠ w47.heap.size := Nat.ne_of_lt (K10.lt)
     have n55 : w.heap.size + 1 + 1 ≠ w47.heap.size := Nat.ne_of_lt (K15.lt)
     have g56 : w.heap.size ≤ w47.heap.size := BW.size
     replace K5 := K5.on hb50
     replace K10 := K10.on hb50
     replace K15 := K15.on hb50
     replace La := La.kp (Kept.of hb50)
     replace Lb := Lb.kp (Kept.of hb50)
     replace Lc := Lc.kp (Kept.of hb50)
     replace Ld := Ld.kp (Kept.of hb50)
     replace Le := Le.kp (Kept.of hb50)
     replace Lf := Lf.kp (Kept.of hb50)
     replace BW := BW.trans (hb50.mono BW.size)
     clear hb50
     go_wp2_with fail
     rw [← e49]
     clear e49
     generalize w47.heap.size = b57 at *
     go_cut [8] (fun sv wx => ∃ (pk2 : Nat) (f2 : Fv) (g2 : Fv), sv = .pointer (some ⟨pk2, 0, none⟩) ∧ Below w.heap.size w wx ∧ Box wx (w.heap.size) [.bool a.n, .slice a.A a.xs.length a.c, .bool a.m, .slice a.B a.ds.length a.d, .bool b.n, .slice b.A b.xs.length b.c, .bool b.m, .slice b.B b.ds.length b.d] ∧ Box wx (w.heap.size + 1) [.bool c.n, .slice c.A c.xs.length c.c, .bool c.m, .slice c.B c.ds.length c.d, .bool d.n, .slice d.A d.xs.length d.c, .bool d.m, .slice d.B d.ds.length d.d] ∧ Box wx (w.heap.size + 1 + 1) [.bool e.n, .slice e.A e.xs.length e.c, .bool e.m, .slice e.B e.ds.length e.d, .bool f.n, .slice f.A f.xs.length f.c, .bool f.m, .slice f.B f.ds.length f.d] ∧ Box wx (b57) [.bool true] ∧ Fz wx (b57) ∧ Ff wx (x) a ∧ Ff wx (x') b ∧ Ff wx (y) c ∧ Ff wx (y') d ∧ Ff wx (z) e ∧ Ff wx (z') f ∧ Box wx pk2 [.bool f2.n, .slice f2.A f2.xs.length f2.c, .bool f2.m, .slice f2.B f2.ds.length f2.d, .bool g2.n, .slice g2.A g2.xs.length g2.c, .bool g2.m, .slice g2.B g2.ds.length g2.d] ∧ Ff wx (((x + y) + z)) f2 ∧ Ff wx (((x' + y') + z')) g2)
     case first =>
      refine wp_region_noPanic ?_
      have hb : Below V48.heap.size V48 V48.drew := (Below.refl _ _).drew
      replace K5 := K5.on hb
      replace K10 := K10.on hb
      replace K15 := K15.on hb
      replace K51 := K51.on hb
      replace Z52 := Z52.on hb
      replace La := La.kp (Kept.of hb)
      replace Lb := Lb.kp (Kept.of hb)
      replace Lc := Lc.kp (Kept.of hb)
      replace Ld := Ld.kp (Kept.of hb)
      replace Le := Le.kp (Kept.of hb)
      replace Lf := Lf.kp (Kept.of hb)
      replace BW := BW.trans (hb.mono BW.size)
      clear hb
      refine wp_region_held_drew (S := (fun wx => Cs wx (w.heap.size) 0 [.bool a.n, .slice a.A a.xs.length a.c, .bool a.m, .slice a.B a.ds.length a.d, .bool b.n, .slice b.A b.xs.length b.c, .bool b.m, .slice b.B b.ds.length b.d] ∧ Cs wx (w.heap.size + 1) 0 [.bool c.n, .slice c.A c.xs.length c.c, .bool c.m, .slice c.B c.ds.length c.d, .bool d.n, .slice d.A d.xs.length d.c, .bool d.m, .slice d.B d.ds.length d.d] ∧ Cs wx (w.heap.size + 1 + 1) 0 [.bool e.n, .slice e.A e.xs.length e.c, .bool e.m, .slice e.B e.ds.length e.d, .bool f.n, .slice f.A f.xs.length f.c, .bool f.m, .slice f.B f.ds.length f.d])) (by kernel_rfl) (by exact ⟨K5.cs, K10.cs, K15.cs⟩) (fun hHeld => ?_)
      generalize V48.drew = Vd58 at *
      refine pT 0 ?_
      (try simp only [p0, p1, p2, p3])
      refine pT 1 ?_
      (try simp only [p0, p1, p2, p3])
      refine pT 3 ?_
      (try simp only [p0, p1, p2, p3])
      refine pR2 2 5 (fun K hK => ?_) (fun K hK => ?_)
      ·go_simp
       (go_at_call 23; with_reducible refine (h_sum La Lb Lc Ld K51 Z52 (Hxy.out.re.fits (by decide)) (Hxy.out.im.fits (by decide))).mono ?_)
       rintro _ w59 ⟨f1, g1, rfl, L1, M1, hb⟩
       (try go_wp2_with fail)
       replace K5 := K5.on hb
       replace K10 := K10.on hb
       replace K15 := K15.on hb
       replace K51 := K51.on hb
       replace Z52 := Z52.on hb
       replace La := La.kp (Kept.of hb)
       replace Lb := Lb.kp (Kept.of hb)
       replace Lc := Lc.kp (Kept.of hb)
       replace Ld := Ld.kp (Kept.of hb)
       replace Le := Le.kp (Kept.of hb)
       replace Lf := Lf.kp (Kept.of hb)
       replace BW := BW.trans (hb.mono BW.size)
       clear hb
       refine hK.out _ _ (by exact ⟨K5.cs, K10.cs, K15.cs⟩) (fun hHeld => ?_)
       clear hK
       (try simp only [p0, p1, p2, p3])
       refine pR2 4 5 (fun K hK => ?_) (fun K hK => ?_)
       ·go_simp
        (go_at_call 23; with_reducible refine (h_sum L1 M1 Le Lf K51 Z52 (Hxyz.out.re.fits (by decide)) (Hxyz.out.im.fits (by decide))).mono ?_)
        rintro _ w60 ⟨f2, g2, rfl, L2, M2, hb⟩
        (try go_wp2_with fail)
        replace K5 := K5.on hb
        replace K10 := K10.on hb
        replace K15 := K15.on hb
        replace K51 := K51.on hb
        replace Z52 := Z52.on hb
        replace La := La.kp (Kept.of hb)
        replace Lb := Lb.kp (Kept.of hb)
        replace Lc := Lc.kp (Kept.of hb)
        replace Ld := Ld.kp (Kept.of hb)
        replace Le := Le.kp (Kept.of hb)
        replace Lf := Lf.kp (Kept.of hb)
        replace BW := BW.trans (hb.mono BW.size)
        clear hb
        refine hK.out _ _ (by exact ⟨K5.cs, K10.cs, K15.cs⟩) (fun hHeld => ?_)
        clear hK
        (try simp only [p0, p1, p2, p3])
        refine pR1 5 (fun K hK => ?_)
        go_simp
        obtain ⟨V61, e62, hb63, K64, Z65, -⟩ := alloc_new w60 [.bool false, .slice none 0 0, .bool false, .slice none 0 0, .bool false, .slice none 0 0, .bool false, .slice none 0 0] 39
        have n66 : w.heap.size ≠ w60.heap.size := Nat.ne_of_lt (K5.lt)
        have n67 : w.heap.size + 1 ≠ w60.heap.size := Nat.ne_of_lt (K10.lt)
        have n68 : w.heap.size + 1 + 1 ≠ w60.heap.size := Nat.ne_of_lt (K15.lt)
        have n69 : b57 ≠ w60.heap.size := Nat.ne_of_lt (K51.lt)
        have g70 : w.heap.size ≤ w60.heap.size := BW.size
        replace K5 := K5.on hb63
        replace K10 := K10.on hb63
        replace K15 := K15.on hb63
        replace K51 := K51.on hb63
        replace Z52 := Z52.on hb63
        replace La := La.kp (Kept.of hb63)
        replace Lb := Lb.kp (Kept.of hb63)
        replace Lc := Lc.kp (Kept.of hb63)
        replace Ld := Ld.kp (Kept.of hb63)
        replace Le := Le.kp (Kept.of hb63)
        replace Lf := Lf.kp (Kept.of hb63)
        replace L2 := L2.kp (Kept.of hb63)
        replace M2 := M2.kp (Kept.of hb63)
        replace BW := BW.trans (hb63.mono BW.size)
        clear hb63
        rw [← e62]
        clear e62
        generalize w60.heap.size = b71 at *
        refine hK.out _ _ (by exact ⟨K5.cs, K10.cs, K15.cs⟩) (fun hHeld => ?_)
        clear hK
        (try simp only [p0, p1, p2, p3])
        refine pR1 6 (fun K hK => ?_)
        obtain ⟨c72, c73, c74, c75, c76, c77, c78, c79⟩ := K64.c8
        obtain ⟨c80, c81, c82, c83, c84, c85, c86, c87⟩ := Z65.f8
        go_simp
        clear c72 c73 c74 c75 c76 c77 c78 c79 c80 c81 c82 c83 c84 c85 c86 c87
        obtain ⟨V88, hk90⟩ : ∃ V88, V88 = V61.setCells (b71) 0 [.bool f2.n, .slice f2.A f2.xs.length f2.c, .bool f2.m, .slice f2.B f2.ds.length f2.d, .bool g2.n, .slice g2.A g2.xs.length g2.c, .bool g2.m, .slice g2.B g2.ds.length g2.d] := ⟨_, rfl⟩
        have e89 := hk90
        simp only [World.setCells, Nat.zero_add, Nat.reduceAdd] at e89
        have hk91 := Kept.overE hk90 K64 rfl (by simp)
        replace K5 := K5.awayE hk90 n66
        replace K10 := K10.awayE hk90 n67
        replace K15 := K15.awayE hk90 n68
        replace K51 := K51.awayE hk90 n69
        replace K64 := K64.overE hk90 rfl
        replace Z52 := Z52.putE hk90
        replace La := La.kp hk91
        replace Lb := Lb.kp hk91
        replace Lc := Lc.kp hk91
        replace Ld := Ld.kp hk91
        replace Le := Le.kp hk91
        replace Lf := Lf.kp hk91
        replace L2 := L2.kp hk91
        replace M2 := M2.kp hk91
        replace BW := Below.putE BW hk90 g70
        clear hk90 hk91
        rw [← e89]
        clear e89
        refine hK.out _ _ (by exact ⟨K5.cs, K10.cs, K15.cs⟩) (fun hHeld => ?_)
        clear hK
        (try simp only [p0, p1, p2, p3])
        refine wpAnyH_done (by kernel_rfl) (NoPanic.normal ?_) _
        go_wp2
        go_meet
        exact ⟨b71, f2, g2, rfl, BW, K5, K10, K15, K51, Z52, La, Lb, Lc, Ld, Le, Lf, K64, L2, M2⟩
       ·go_simp
        obtain ⟨V60, e61, hb62, K63, Z64, -⟩ := alloc_new w59 [.bool false, .slice none 0 0, .bool false, .slice none 0 0, .bool false, .slice none 0 0, .bool false, .slice none 0 0] 39
        have n65 : w.heap.size ≠ w59.heap.size := Nat.ne_of_lt (K5.lt)
        have n66 : w.heap.size + 1 ≠ w59.heap.size := Nat.ne_of_lt (K10.lt)
        have n67 : w.heap.size + 1 + 1 ≠ w59.heap.size := Nat.ne_of_lt (K15.lt)
        have n68 : b57 ≠ w59.heap.size := Nat.ne_of_lt (K51.lt)
        have g69 : w.heap.size ≤ w59.heap.size := BW.size
        replace K5 := K5.on hb62
        replace K10 := K10.on hb62
        replace K15 := K15.on hb62
        replace K51 := K51.on hb62
        replace Z52 := Z52.on hb62
        replace La := La.kp (Kept.of hb62)
        replace Lb := Lb.kp (Kept.of hb62)
        replace Lc := Lc.kp (Kept.of hb62)
        replace Ld := Ld.kp (Kept.of hb62)
        replace Le := Le.kp (Kept.of hb62)
        replace Lf := Lf.kp (Kept.of hb62)
        replace L1 := L1.kp (Kept.of hb62)
        replace M1 := M1.kp (Kept.of hb62)
        replace BW := BW.trans (hb62.mono BW.size)
        clear hb62
        rw [← e61]
        clear e61
        generalize w59.heap.size = b70 at *
        refine hK.out _ _ (by exact ⟨K5.cs, K10.cs, K15.cs⟩) (fun hHeld => ?_)
        clear hK
        (try simp only [p0, p1, p2, p3])
        refine pR1 4 (fun K hK => ?_)
        go_simp
        (go_at_call 23; with_reducible refine (h_sum L1 M1 Le Lf K51 Z52 (Hxyz.out.re.fits (by decide)) (Hxyz.out.im.fits (by decide))).mono ?_)
        rintro _ w71 ⟨f2, g2, rfl, L2, M2, hb⟩
        (try go_wp2_with fail)
        replace K5 := K5.on hb
        replace K10 := K10.on hb
        replace K15 := K15.on hb
        replace K51 := K51.on hb
        replace K63 := K63.on hb
        replace Z52 := Z52.on hb
        replace Z64 := Z64.on hb
        replace La := La.kp (Kept.of hb)
        replace Lb := Lb.kp (Kept.of hb)
        replace Lc := Lc.kp (Kept.of hb)
        replace Ld := Ld.kp (Kept.of hb)
        replace Le := Le.kp (Kept.of hb)
        replace Lf := Lf.kp (Kept.of hb)
        replace BW := BW.trans (hb.mono BW.size)
        clear hb
        refine hK.out _ _ (by exact ⟨K5.cs, K10.cs, K15.cs⟩) (fun hHeld => ?_)
        clear hK
        (try simp only [p0, p1, p2, p3])
        refine pR1 6 (fun K hK => ?_)
        obtain ⟨c72, c73, c74, c75, c76, c77, c78, c79⟩ := K63.c8
        obtain ⟨c80, c81, c82, c83, c84, c85, c86, c87⟩ := Z64.f8
        go_simp
        clear c72 c73 c74 c75 c76 c77 c78 c79 c80 c81 c82 c83 c84 c85 c86 c87
        obtain ⟨V88, hk90⟩ : ∃ V88, V88 = w71.setCells (b70) 0 [.bool f2.n, .slice f2.A f2.xs.length f2.c, .bool f2.m, .slice f2.B f2.ds.length f2.d, .bool g2.n, .slice g2.A g2.xs.length g2.c, .bool g2.m, .slice g2.B g2.ds.length g2.d] := ⟨_, rfl⟩
        have e89 := hk90
        simp only [World.setCells, Nat.zero_add, Nat.reduceAdd] at e89
        have hk91 := Kept.overE hk90 K63 rfl (by simp)
        replace K5 := K5.awayE hk90 n65
        replace K10 := K10.awayE hk90 n66
        replace K15 := K15.awayE hk90 n67
        replace K51 := K51.awayE hk90 n68
        replace K63 := K63.overE hk90 rfl
        replace Z52 := Z52.putE hk90
        replace La := La.kp hk91
        replace Lb := Lb.kp hk91
        replace Lc := Lc.kp hk91
        replace Ld := Ld.kp hk91
        replace Le := Le.kp hk91
        replace Lf := Lf.kp hk91
        replace L2 := L2.kp hk91
        replace M2 := M2.kp hk91
        replace BW := Below.putE BW hk90 g69
        clear hk90 hk91
        rw [← e89]
        clear e89
        refine hK.out _ _ (by exact ⟨K5.cs, K10.cs, K15.cs⟩) (fun hHeld => ?_)
        clear hK
        (try simp only [p0, p1, p2, p3])
        refine wpAnyH_done (by kernel_rfl) (NoPanic.normal ?_) _
        go_wp2
        go_meet
        exact ⟨b70, f2, g2, rfl, BW, K5, K10, K15, K51, Z52, La, Lb, Lc, Ld, Le, Lf, K63, L2, M2⟩
      ·go_simp
       obtain ⟨V59, e60, hb61, K62, Z63, -⟩ := alloc_new Vd58 [.bool false, .slice none 0 0, .bool false, .slice none 0 0, .bool false, .slice none 0 0, .bool false, .slice none 0 0] 39
       have n64 : w.heap.size ≠ Vd58.heap.size := Nat.ne_of_lt (K5.lt)
       have n65 : w.heap.size + 1 ≠ Vd58.heap.size := Nat.ne_of_lt (K10.lt)
       have n66 : w.heap.size + 1 + 1 ≠ Vd58.heap.size := Nat.ne_of_lt (K15.lt)
       have n67 : b57 ≠ Vd58.heap.size := Nat.ne_of_lt (K51.lt)
       have g68 : w.heap.size ≤ Vd58.heap.size := BW.size
       replace K5 := K5.on hb61
       replace K10 := K10.on hb61
       replace K15 := K15.on hb61
       replace K51 := K51.on hb61
       replace Z52 := Z52.on hb61
       replace La := La.kp (Kept.of hb61)
       replace Lb := Lb.kp (Kept.of hb61)
       replace Lc := Lc.kp (Kept.of hb61)
       replace Ld := Ld.kp (Kept.of hb61)
       replace Le := Le.kp (Kept.of hb61)
       replace Lf := Lf.kp (Kept.of hb61)
       replace BW := BW.trans (hb61.mono BW.size)
       clear hb61
       rw [← e60]
       clear e60
       generalize Vd58.heap.size = b69 at *
       refine hK.out _ _ (by exact ⟨K5.cs, K10.cs, K15.cs⟩) (fun hHeld => ?_)
       clear hK
       (try simp only [p0, p1, p2, p3])
       refine pR1 2 (fun K hK => ?_)
       go_simp
       (go_at_call 23; with_reducible refine (h_sum La Lb Lc Ld K51 Z52 (Hxy.out.re.fits (by decide)) (Hxy.out.im.fits (by decide))).mono ?_)
       rintro _ w70 ⟨f1, g1, rfl, L1, M1, hb⟩
       (try go_wp2_with fail)
       replace K5 := K5.on hb
       replace K10 := K10.on hb
       replace K15 := K15.on hb
       replace K51 := K51.on hb
       replace K62 := K62.on hb
       replace Z52 := Z52.on hb
       replace Z63 := Z63.on hb
       replace La := La.kp (Kept.of hb)
       replace Lb := Lb.kp (Kept.of hb)
       replace Lc := Lc.kp (Kept.of hb)
       replace Ld := Ld.kp (Kept.of hb)
       replace Le := Le.kp (Kept.of hb)
       replace Lf := Lf.kp (Kept.of hb)
       replace BW := BW.trans (hb.mono BW.size)
       clear hb
       refine hK.out _ _ (by exact ⟨K5.cs, K10.cs, K15.cs⟩) (fun hHeld => ?_)
       clear hK
       (try simp only [p0, p1, p2, p3])
       refine pR1 4 (fun K hK => ?_)
       go_simp
       (go_at_call 23; with_reducible refine (h_sum L1 M1 Le Lf K51 Z52 (Hxyz.out.re.fits (by decide)) (Hxyz.out.im.fits (by decide))).mono ?_)
       rintro _ w71 ⟨f2, g2, rfl, L2, M2, hb⟩
       (try go_wp2_with fail)
       replace K5 := K5.on hb
       replace K10 := K10.on hb
       replace K15 := K15.on hb
       replace K51 := K51.on hb
       replace K62 := K62.on hb
       replace Z52 := Z52.on hb
       replace Z63 := Z63.on hb
       replace La := La.kp (Kept.of hb)
       replace Lb := Lb.kp (Kept.of hb)
       replace Lc := Lc.kp (Kept.of hb)
       replace Ld := Ld.kp (Kept.of hb)
       replace Le := Le.kp (Kept.of hb)
       replace Lf := Lf.kp (Kept.of hb)
       replace BW := BW.trans (hb.mono BW.size)
       clear hb
       refine hK.out _ _ (by exact ⟨K5.cs, K10.cs, K15.cs⟩) (fun hHeld => ?_)
       clear hK
       (try simp only [p0, p1, p2, p3])
       refine pR1 6 (fun K hK => ?_)
       obtain ⟨c72, c73, c74, c75, c76, c77, c78, c79⟩ := K62.c8
       obtain ⟨c80, c81, c82, c83, c84, c85, c86, c87⟩ := Z63.f8
       go_simp
       clear c72 c73 c74 c75 c76 c77 c78 c79 c80 c81 c82 c83 c84 c85 c86 c87
       obtain ⟨V88, hk90⟩ : ∃ V88, V88 = w71.setCells (b69) 0 [.bool f2.n, .slice f2.A f2.xs.length f2.c, .bool f2.m, .slice f2.B f2.ds.length f2.d, .bool g2.n, .slice g2.A g2.xs.length g2.c, .bool g2.m, .slice g2.B g2.ds.length g2.d] := ⟨_, rfl⟩
       have e89 := hk90
       simp only [World.setCells, Nat.zero_add, Nat.reduceAdd] at e89
       have hk91 := Kept.overE hk90 K62 rfl (by simp)
       replace K5 := K5.awayE hk90 n64
       replace K10 := K10.awayE hk90 n65
       replace K15 := K15.awayE hk90 n66
       replace K51 := K51.awayE hk90 n67
       replace K62 := K62.overE hk90 rfl
       replace Z52 := Z52.putE hk90
       replace La := La.kp hk91
       replace Lb := Lb.kp hk91
       replace Lc := Lc.kp hk91
       replace Ld := Ld.kp hk91
       replace Le := Le.kp hk91
       replace Lf := Lf.kp hk91
       replace L2 := L2.kp hk91
       replace M2 := M2.kp hk91
       replace BW := Below.putE BW hk90 g68
       clear hk90 hk91
       rw [← e89]
       clear e89
       refine hK.out _ _ (by exact ⟨K5.cs, K10.cs, K15.cs⟩) (fun hHeld => ?_)
       clear hK
       (try simp only [p0, p1, p2, p3])
       refine wpAnyH_done (by kernel_rfl) (NoPanic.normal ?_) _
       go_wp2
       go_meet
       exact ⟨b69, f2, g2, rfl, BW, K5, K10, K15, K51, Z52, La, Lb, Lc, Ld, Le, Lf, K62, L2, M2⟩
     case rest =>
      obtain ⟨pk2, f2, g2, rfl, BW, K5, K10, K15, K51, Z52, La, Lb, Lc, Ld, Le, Lf, KN2, L2, M2⟩ := hcut
      go_wp2_with fail
      go_cut [9] (fun sv wx => ∃ (pk4 : Nat) (f4 : Fv) (g4 : Fv), sv = .pointer (some ⟨pk4, 0, none⟩) ∧ Below w.heap.size w wx ∧ Box wx (w.heap.size) [.bool a.n, .slice a.A a.xs.length a.c, .bool a.m, .slice a.B a.ds.length a.d, .bool b.n, .slice b.A b.xs.length b.c, .bool b.m, .slice b.B b.ds.length b.d] ∧ Box wx (w.heap.size + 1) [.bool c.n, .slice c.A c.xs.length c.c, .bool c.m, .slice c.B c.ds.length c.d, .bool d.n, .slice d.A d.xs.length d.c, .bool d.m, .slice d.B d.ds.length d.d] ∧ Box wx (w.heap.size + 1 + 1) [.bool e.n, .slice e.A e.xs.length e.c, .bool e.m, .slice e.B e.ds.length e.d, .bool f.n, .slice f.A f.xs.length f.c, .bool f.m, .slice f.B f.ds.length f.d] ∧ Box wx (b57) [.bool true] ∧ Box wx (pk2) [.bool f2.n, .slice f2.A f2.xs.length f2.c, .bool f2.m, .slice f2.B f2.ds.length f2.d, .bool g2.n, .slice g2.A g2.xs.length g2.c, .bool g2.m, .slice g2.B g2.ds.length g2.d] ∧ Fz wx (b57) ∧ Ff wx (x) a ∧ Ff wx (x') b ∧ Ff wx (y) c ∧ Ff wx (y') d ∧ Ff wx (z) e ∧ Ff wx (z') f ∧ Ff wx (((x + y) + z)) f2 ∧ Ff wx (((x' + y') + z')) g2 ∧ Box wx pk4 [.bool f4.n, .slice f4.A f4.xs.length f4.c, .bool f4.m, .slice f4.B f4.ds.length f4.d, .bool g4.n, .slice g4.A g4.xs.length g4.c, .bool g4.m, .slice g4.B g4.ds.length g4.d] ∧ Ff wx ((z + (y + x))) f4 ∧ Ff wx ((z' + (y' + x'))) g4)
      case first =>
       refine wp_region_noPanic ?_
       have hb : Below wc.heap.size wc wc.drew := (Below.refl _ _).drew
       replace K5 := K5.on hb
       replace K10 := K10.on hb
       replace K15 := K15.on hb
       replace K51 := K51.on hb
       replace KN2 := KN2.on hb
       replace Z52 := Z52.on hb
       replace La := La.kp (Kept.of hb)
       replace Lb := Lb.kp (Kept.of hb)
       replace Lc := Lc.kp (Kept.of hb)
       replace Ld := Ld.kp (Kept.of hb)
       replace Le := Le.kp (Kept.of hb)
       replace Lf := Lf.kp (Kept.of hb)
       replace L2 := L2.kp (Kept.of hb)
       replace M2 := M2.kp (Kept.of hb)
       replace BW := BW.trans (hb.mono BW.size)
       clear hb
       refine wp_region_held_drew (S := (fun wx => Cs wx (w.heap.size) 0 [.bool a.n, .slice a.A a.xs.length a.c, .bool a.m, .slice a.B a.ds.length a.d, .bool b.n, .slice b.A b.xs.length b.c, .bool b.m, .slice b.B b.ds.length b.d] ∧ Cs wx (w.heap.size + 1) 0 [.bool c.n, .slice c.A c.xs.length c.c, .bool c.m, .slice c.B c.ds.length c.d, .bool d.n, .slice d.A d.xs.length d.c, .bool d.m, .slice d.B d.ds.length d.d] ∧ Cs wx (w.heap.size + 1 + 1) 0 [.bool e.n, .slice e.A e.xs.length e.c, .bool e.m, .slice e.B e.ds.length e.d, .bool f.n, .slice f.A f.xs.length f.c, .bool f.m, .slice f.B f.ds.length f.d])) (by kernel_rfl) (by exact ⟨K5.cs, K10.cs, K15.cs⟩) (fun hHeld => ?_)
       generalize wc.drew = Vd58 at *
       refine pT 0 ?_
       (try simp only [p0, p1, p2, p3])
       refine pT 1 ?_
       (try simp only [p0, p1, p2, p3])
       refine pT 2 ?_
       (try simp only [p0, p1, p2, p3])
       refine pR2 3 5 (fun K hK => ?_) (fun K hK => ?_)
       ·go_simp
        (go_at_call 23; with_reducible refine (h_sum Lc Ld La Lb K51 Z52 (Hyx.out.re.fits (by decide)) (Hyx.out.im.fits (by decide))).mono ?_)
        rintro _ w59 ⟨f3, g3, rfl, L3, M3, hb⟩
        (try go_wp2_with fail)
        replace K5 := K5.on hb
        replace K10 := K10.on hb
        replace K15 := K15.on hb
        replace K51 := K51.on hb
        replace KN2 := KN2.on hb
        replace Z52 := Z52.on hb
        replace La := La.kp (Kept.of hb)
        replace Lb := Lb.kp (Kept.of hb)
        replace Lc := Lc.kp (Kept.of hb)
        replace Ld := Ld.kp (Kept.of hb)
        replace Le := Le.kp (Kept.of hb)
        replace Lf := Lf.kp (Kept.of hb)
        replace L2 := L2.kp (Kept.of hb)
        replace M2 := M2.kp (Kept.of hb)
        replace BW := BW.trans (hb.mono BW.size)
        clear hb
        refine hK.out _ _ (by exact ⟨K5.cs, K10.cs, K15.cs⟩) (fun hHeld => ?_)
        clear hK
        (try simp only [p0, p1, p2, p3])
        refine pR2 4 5 (fun K hK => ?_) (fun K hK => ?_)
        ·go_simp
         (go_at_call 23; with_reducible refine (h_sum Le Lf L3 M3 K51 Z52 (Hzyx.out.re.fits (by decide)) (Hzyx.out.im.fits (by decide))).mono ?_)
         rintro _ w60 ⟨f4, g4, rfl, L4, M4, hb⟩
         (try go_wp2_with fail)
         replace K5 := K5.on hb
         replace K10 := K10.on hb
         replace K15 := K15.on hb
         replace K51 := K51.on hb
         replace KN2 := KN2.on hb
         replace Z52 := Z52.on hb
         replace La := La.kp (Kept.of hb)
         replace Lb := Lb.kp (Kept.of hb)
         replace Lc := Lc.kp (Kept.of hb)
         replace Ld := Ld.kp (Kept.of hb)
         replace Le := Le.kp (Kept.of hb)
         replace Lf := Lf.kp (Kept.of hb)
         replace L2 := L2.kp (Kept.of hb)
         replace M2 := M2.kp (Kept.of hb)
         replace BW := BW.trans (hb.mono BW.size)
         clear hb
         refine hK.out _ _ (by exact ⟨K5.cs, K10.cs, K15.cs⟩) (fun hHeld => ?_)
         clear hK
         (try simp only [p0, p1, p2, p3])
         refine pR1 5 (fun K hK => ?_)
         go_simp
         obtain ⟨V61, e62, hb63, K64, Z65, -⟩ := alloc_new w60 [.bool false, .slice none 0 0, .bool false, .slice none 0 0, .bool false, .slice none 0 0, .bool false, .slice none 0 0] 39
         have n66 : w.heap.size ≠ w60.heap.size := Nat.ne_of_lt (K5.lt)
         have n67 : w.heap.size + 1 ≠ w60.heap.size := Nat.ne_of_lt (K10.lt)
         have n68 : w.heap.size + 1 + 1 ≠ w60.heap.size := Nat.ne_of_lt (K15.lt)
         have n69 : b57 ≠ w60.heap.size := Nat.ne_of_lt (K51.lt)
         have n70 : pk2 ≠ w60.heap.size := Nat.ne_of_lt (KN2.lt)
         have g71 : w.heap.size ≤ w60.heap.size := BW.size
         replace K5 := K5.on hb63
         replace K10 := K10.on hb63
         replace K15 := K15.on hb63
         replace K51 := K51.on hb63
         replace KN2 := KN2.on hb63
         replace Z52 := Z52.on hb63
         replace La := La.kp (Kept.of hb63)
         replace Lb := Lb.kp (Kept.of hb63)
         replace Lc := Lc.kp (Kept.of hb63)
         replace Ld := Ld.kp (Kept.of hb63)
         replace Le := Le.kp (Kept.of hb63)
         replace Lf := Lf.kp (Kept.of hb63)
         replace L2 := L2.kp (Kept.of hb63)
         replace M2 := M2.kp (Kept.of hb63)
         replace L4 := L4.kp (Kept.of hb63)
         replace M4 := M4.kp (Kept.of hb63)
         replace BW := BW.trans (hb63.mono BW.size)
         clear hb63
         rw [← e62]
         clear e62
         generalize w60.heap.size = b72 at *
         refine hK.out _ _ (by exact ⟨K5.cs, K10.cs, K15.cs⟩) (fun hHeld => ?_)
         clear hK
         (try simp only [p0, p1, p2, p3])
         refine pR1 6 (fun K hK => ?_)
         obtain ⟨c73, c74, c75, c76, c77, c78, c79, c80⟩ := K64.c8
         obtain ⟨c81, c82, c83, c84, c85, c86, c87, c88⟩ := Z65.f8
         go_simp
         clear c73 c74 c75 c76 c77 c78 c79 c80 c81 c82 c83 c84 c85 c86 c87 c88
         obtain ⟨V89, hk91⟩ : ∃ V89, V89 = V61.setCells (b72) 0 [.bool f4.n, .slice f4.A f4.xs.length f4.c, .bool f4.m, .slice f4.B f4.ds.length f4.d, .bool g4.n, .slice g4.A g4.xs.length g4.c, .bool g4.m, .slice g4.B g4.ds.length g4.d] := ⟨_, rfl⟩
         have e90 := hk91
         simp only [World.setCells, Nat.zero_add, Nat.reduceAdd] at e90
         have hk92 := Kept.overE hk91 K64 rfl (by simp)
         replace K5 := K5.awayE hk91 n66
         replace K10 := K10.awayE hk91 n67
         replace K15 := K15.awayE hk91 n68
         replace K51 := K51.awayE hk91 n69
         replace KN2 := KN2.awayE hk91 n70
         replace K64 := K64.overE hk91 rfl
         replace Z52 := Z52.putE hk91
         replace La := La.kp hk92
         replace Lb := Lb.kp hk92
         replace Lc := Lc.kp hk92
         replace Ld := Ld.kp hk92
         replace Le := Le.kp hk92
         replace Lf := Lf.kp hk92
         replace L2 := L2.kp hk92
         replace M2 := M2.kp hk92
         replace L4 := L4.kp hk92
         replace M4 := M4.kp hk92
         replace BW := Below.putE BW hk91 g71
         clear hk91 hk92
         rw [← e90]
         clear e90
         refine hK.out _ _ (by exact ⟨K5.cs, K10.cs, K15.cs⟩) (fun hHeld => ?_)
         clear hK
         (try simp only [p0, p1, p2, p3])
         refine wpAnyH_done (by kernel_rfl) (NoPanic.normal ?_) _
         go_wp2
         go_meet
         exact ⟨b72, f4, g4, rfl, BW, K5, K10, K15, K51, KN2, Z52, La, Lb, Lc, Ld, Le, Lf, L2, M2, K64, L4, M4⟩
        ·go_simp
         obtain ⟨V60, e61, hb62, K63, Z64, -⟩ := alloc_new w59 [.bool false, .slice none 0 0, .bool false, .slice none 0 0, .bool false, .slice none 0 0, .bool false, .slice none 0 0] 39
         have n65 : w.heap.size ≠ w59.heap.size := Nat.ne_of_lt (K5.lt)
         have n66 : w.heap.size + 1 ≠ w59.heap.size := Nat.ne_of_lt (K10.lt)
         have n67 : w.heap.size + 1 + 1 ≠ w59.heap.size := Nat.ne_of_lt (K15.lt)
         have n68 : b57 ≠ w59.heap.size := Nat.ne_of_lt (K51.lt)
         have n69 : pk2 ≠ w59.heap.size := Nat.ne_of_lt (KN2.lt)
         have g70 : w.heap.size ≤ w59.heap.size := BW.size
         replace K5 := K5.on hb62
         replace K10 := K10.on hb62
         replace K15 := K15.on hb62
         replace K51 := K51.on hb62
         replace KN2 := KN2.on hb62
         replace Z52 := Z52.on hb62
         replace La := La.kp (Kept.of hb62)
         replace Lb := Lb.kp (Kept.of hb62)
         replace Lc := Lc.kp (Kept.of hb62)
         replace Ld := Ld.kp (Kept.of hb62)
         replace Le := Le.kp (Kept.of hb62)
         replace Lf := Lf.kp (Kept.of hb62)
         replace L2 := L2.kp (Kept.of hb62)
         replace M2 := M2.kp (Kept.of hb62)
         replace L3 := L3.kp (Kept.of hb62)
         replace M3 := M3.kp (Kept.of hb62)
         replace BW := BW.trans (hb62.mono BW.size)
         clear hb62
         rw [← e61]
         clear e61
         generalize w59.heap.size = b71 at *
         refine hK.out _ _ (by exact ⟨K5.cs, K10.cs, K15.cs⟩) (fun hHeld => ?_)
         clear hK
         (try simp only [p0, p1, p2, p3])
         refine pR1 4 (fun K hK => ?_)
         go_simp
         (go_at_call 23; with_reducible refine (h_sum Le Lf L3 M3 K51 Z52 (Hzyx.out.re.fits (by decide)) (Hzyx.out.im.fits (by decide))).mono ?_)
         rintro _ w72 ⟨f4, g4, rfl, L4, M4, hb⟩
         (try go_wp2_with fail)
         replace K5 := K5.on hb
         replace K10 := K10.on hb
         replace K15 := K15.on hb
         replace K51 := K51.on hb
         replace KN2 := KN2.on hb
         replace K63 := K63.on hb
         replace Z52 := Z52.on hb
         replace Z64 := Z64.on hb
         replace La := La.kp (Kept.of hb)
         replace Lb := Lb.kp (Kept.of hb)
         replace Lc := Lc.kp (Kept.of hb)
         replace Ld := Ld.kp (Kept.of hb)
         replace Le := Le.kp (Kept.of hb)
         replace Lf := Lf.kp (Kept.of hb)
         replace L2 := L2.kp (Kept.of hb)
         replace M2 := M2.kp (Kept.of hb)
         replace BW := BW.trans (hb.mono BW.size)
         clear hb
         refine hK.out _ _ (by exact ⟨K5.cs, K10.cs, K15.cs⟩) (fun hHeld => ?_)
         clear hK
         (try simp only [p0, p1, p2, p3])
         refine pR1 6 (fun K hK => ?_)
         obtain ⟨c73, c74, c75, c76, c77, c78, c79, c80⟩ := K63.c8
         obtain ⟨c81, c82, c83, c84, c85, c86, c87, c88⟩ := Z64.f8
         go_simp
         clear c73 c74 c75 c76 c77 c78 c79 c80 c81 c82 c83 c84 c85 c86 c87 c88
         obtain ⟨V89, hk91⟩ : ∃ V89, V89 = w72.setCells (b71) 0 [.bool f4.n, .slice f4.A f4.xs.length f4.c, .bool f4.m, .slice f4.B f4.ds.length f4.d, .bool g4.n, .slice g4.A g4.xs.length g4.c, .bool g4.m, .slice g4.B g4.ds.length g4.d] := ⟨_, rfl⟩
         have e90 := hk91
         simp only [World.setCells, Nat.zero_add, Nat.reduceAdd] at e90
         have hk92 := Kept.overE hk91 K63 rfl (by simp)
         replace K5 := K5.awayE hk91 n65
         replace K10 := K10.awayE hk91 n66
         replace K15 := K15.awayE hk91 n67
         replace K51 := K51.awayE hk91 n68
         replace KN2 := KN2.awayE hk91 n69
         replace K63 := K63.overE hk91 rfl
         replace Z52 := Z52.putE hk91
         replace La := La.kp hk92
         replace Lb := Lb.kp hk92
         replace Lc := Lc.kp hk92
         replace Ld := Ld.kp hk92
         replace Le := Le.kp hk92
         replace Lf := Lf.kp hk92
         replace L2 := L2.kp hk92
         replace M2 := M2.kp hk92
         replace L4 := L4.kp hk92
         replace M4 := M4.kp hk92
         replace BW := Below.putE BW hk91 g70
         clear hk91 hk92
         rw [← e90]
         clear e90
         refine hK.out _ _ (by exact ⟨K5.cs, K10.cs, K15.cs⟩) (fun hHeld => ?_)
         clear hK
         (try simp only [p0, p1, p2, p3])
         refine wpAnyH_done (by kernel_rfl) (NoPanic.normal ?_) _
         go_wp2
         go_meet
         exact ⟨b71, f4, g4, rfl, BW, K5, K10, K15, K51, KN2, Z52, La, Lb, Lc, Ld, Le, Lf, L2, M2, K63, L4, M4⟩
       ·go_simp
        obtain ⟨V59, e60, hb61, K62, Z63, -⟩ := alloc_new Vd58 [.bool false, .slice none 0 0, .bool false, .slice none 0 0, .bool false, .slice none 0 0, .bool false, .slice none 0 0] 39
        have n64 : w.heap.size ≠ Vd58.heap.size := Nat.ne_of_lt (K5.lt)
        have n65 : w.heap.size + 1 ≠ Vd58.heap.size := Nat.ne_of_lt (K10.lt)
        have n66 : w.heap.size + 1 + 1 ≠ Vd58.heap.size := Nat.ne_of_lt (K15.lt)
        have n67 : b57 ≠ Vd58.heap.size := Nat.ne_of_lt (K51.lt)
        have n68 : pk2 ≠ Vd58.heap.size := Nat.ne_of_lt (KN2.lt)
        have g69 : w.heap.size ≤ Vd58.heap.size := BW.size
        replace K5 := K5.on hb61
        replace K10 := K10.on hb61
        replace K15 := K15.on hb61
        replace K51 := K51.on hb61
        replace KN2 := KN2.on hb61
        replace Z52 := Z52.on hb61
        replace La := La.kp (Kept.of hb61)
        replace Lb := Lb.kp (Kept.of hb61)
        replace Lc := Lc.kp (Kept.of hb61)
        replace Ld := Ld.kp (Kept.of hb61)
        replace Le := Le.kp (Kept.of hb61)
        replace Lf := Lf.kp (Kept.of hb61)
        replace L2 := L2.kp (Kept.of hb61)
        replace M2 := M2.kp (Kept.of hb61)
        replace BW := BW.trans (hb61.mono BW.size)
        clear hb61
        rw [← e60]
        clear e60
        generalize Vd58.heap.size = b70 at *
        refine hK.out _ _ (by exact ⟨K5.cs, K10.cs, K15.cs⟩) (fun hHeld => ?_)
        clear hK
        (try simp only [p0, p1, p2, p3])
        refine pR1 3 (fun K hK => ?_)
        go_simp
        (go_at_call 23; with_reducible refine (h_sum Lc Ld La Lb K51 Z52 (Hyx.out.re.fits (by decide)) (Hyx.out.im.fits (by decide))).mono ?_)
        rintro _ w71 ⟨f3, g3, rfl, L3, M3, hb⟩
        (try go_wp2_with fail)
        replace K5 := K5.on hb
        replace K10 := K10.on hb
        replace K15 := K15.on hb
        replace K51 := K51.on hb
        replace KN2 := KN2.on hb
        replace K62 := K62.on hb
        replace Z52 := Z52.on hb
        replace Z63 := Z63.on hb
        replace La := La.kp (Kept.of hb)
        replace Lb := Lb.kp (Kept.of hb)
        replace Lc := Lc.kp (Kept.of hb)
        replace Ld := Ld.kp (Kept.of hb)
        replace Le := Le.kp (Kept.of hb)
        replace Lf := Lf.kp (Kept.of hb)
        replace L2 := L2.kp (Kept.of hb)
        replace M2 := M2.kp (Kept.of hb)
        replace BW := BW.trans (hb.mono BW.size)
        clear hb
        refine hK.out _ _ (by exact ⟨K5.cs, K10.cs, K15.cs⟩) (fun hHeld => ?_)
        clear hK
        (try simp only [p0, p1, p2, p3])
        refine pR1 4 (fun K hK => ?_)
        go_simp
        (go_at_call 23; with_reducible refine (h_sum Le Lf L3 M3 K51 Z52 (Hzyx.out.re.fits (by decide)) (Hzyx.out.im.fits (by decide))).mono ?_)
        rintro _ w72 ⟨f4, g4, rfl, L4, M4, hb⟩
        (try go_wp2_with fail)
        replace K5 := K5.on hb
        replace K10 := K10.on hb
        replace K15 := K15.on hb
        replace K51 := K51.on hb
        replace KN2 := KN2.on hb
        replace K62 := K62.on hb
        replace Z52 := Z52.on hb
        replace Z63 := Z63.on hb
        replace La := La.kp (Kept.of hb)
        replace Lb := Lb.kp (Kept.of hb)
        replace Lc := Lc.kp (Kept.of hb)
        replace Ld := Ld.kp (Kept.of hb)
        replace Le := Le.kp (Kept.of hb)
        replace Lf := Lf.kp (Kept.of hb)
        replace L2 := L2.kp (Kept.of hb)
        replace M2 := M2.kp (Kept.of hb)
        replace BW := BW.trans (hb.mono BW.size)
        clear hb
        refine hK.out _ _ (by exact ⟨K5.cs, K10.cs, K15.cs⟩) (fun hHeld => ?_)
        clear hK
        (try simp only [p0, p1, p2, p3])
        refine pR1 6 (fun K hK => ?_)
        obtain ⟨c73, c74, c75, c76, c77, c78, c79, c80⟩ := K62.c8
        obtain ⟨c81, c82, c83, c84, c85, c86, c87, c88⟩ := Z63.f8
        go_simp
        clear c73 c74 c75 c76 c77 c78 c79 c80 c81 c82 c83 c84 c85 c86 c87 c88
        obtain ⟨V89, hk91⟩ : ∃ V89, V89 = w72.setCells (b70) 0 [.bool f4.n, .slice f4.A f4.xs.length f4.c, .bool f4.m, .slice f4.B f4.ds.length f4.d, .bool g4.n, .slice g4.A g4.xs.length g4.c, .bool g4.m, .slice g4.B g4.ds.length g4.d] := ⟨_, rfl⟩
        have e90 := hk91
        simp only [World.setCells, Nat.zero_add, Nat.reduceAdd] at e90
        have hk92 := Kept.overE hk91 K62 rfl (by simp)
        replace K5 := K5.awayE hk91 n64
        replace K10 := K10.awayE hk91 n65
        replace K15 := K15.awayE hk91 n66
        replace K51 := K51.awayE hk91 n67
        replace KN2 := KN2.awayE hk91 n68
        replace K62 := K62.overE hk91 rfl
        replace Z52 := Z52.putE hk91
        replace La := La.kp hk92
        replace Lb := Lb.kp hk92
        replace Lc := Lc.kp hk92
        replace Ld := Ld.kp hk92
        replace Le := Le.kp hk92
        replace Lf := Lf.kp hk92
        replace L2 := L2.kp hk92
        replace M2 := M2.kp hk92
        replace L4 := L4.kp hk92
        replace M4 := M4.kp hk92
        replace BW := Below.putE BW hk91 g69
        clear hk91 hk92
        rw [← e90]
        clear e90
        refine hK.out _ _ (by exact ⟨K5.cs, K10.cs, K15.cs⟩) (fun hHeld => ?_)
        clear hK
        (try simp only [p0, p1, p2, p3])
        refine wpAnyH_done (by kernel_rfl) (NoPanic.normal ?_) _
        go_wp2
        go_meet
        exact ⟨b70, f4, g4, rfl, BW, K5, K10, K15, K51, KN2, Z52, La, Lb, Lc, Ld, Le, Lf, L2, M2, K62, L4, M4⟩
      case rest =>
       obtain ⟨pk4, f4, g4, rfl, BW, K5, K10, K15, K51, KN2, Z52, La, Lb, Lc, Ld, Le, Lf, L2, M2, KN4, L4, M4⟩ := hcut
       go_wp2_with fail
       go_cut [10] (fun sv wx => ∃ (pk6 : Nat) (f6 : Fv) (g6 : Fv), sv = .pointer (some ⟨pk6, 0, none⟩) ∧ Below w.heap.size w wx ∧ Box wx (w.heap.size) [.bool a.n, .slice a.A a.xs.length a.c, .bool a.m, .slice a.B a.ds.length a.d, .bool b.n, .slice b.A b.xs.length b.c, .bool b.m, .slice b.B b.ds.length b.d] ∧ Box wx (w.heap.size + 1) [.bool c.n, .slice c.A c.xs.length c.c, .bool c.m, .slice c.B c.ds.length c.d, .bool d.n, .slice d.A d.xs.length d.c, .bool d.m, .slice d.B d.ds.length d.d] ∧ Box wx (w.heap.size + 1 + 1) [.bool e.n, .slice e.A e.xs.length e.c, .bool e.m, .slice e.B e.ds.length e.d, .bool f.n, .slice f.A f.xs.length f.c, .bool f.m, .slice f.B f.ds.length f.d] ∧ Box wx (b57) [.bool true] ∧ Box wx (pk2) [.bool f2.n, .slice f2.A f2.xs.length f2.c, .bool f2.m, .slice f2.B f2.ds.length f2.d, .bool g2.n, .slice g2.A g2.xs.length g2.c, .bool g2.m, .slice g2.B g2.ds.length g2.d] ∧ Box wx (pk4) [.bool f4.n, .slice f4.A f4.xs.length f4.c, .bool f4.m, .slice f4.B f4.ds.length f4.d, .bool g4.n, .slice g4.A g4.xs.length g4.c, .bool g4.m, .slice g4.B g4.ds.length g4.d] ∧ Fz wx (b57) ∧ Ff wx (x) a ∧ Ff wx (x') b ∧ Ff wx (y) c ∧ Ff wx (y') d ∧ Ff wx (z) e ∧ Ff wx (z') f ∧ Ff wx (((x + y) + z)) f2 ∧ Ff wx (((x' + y') + z')) g2 ∧ Ff wx ((z + (y + x))) f4 ∧ Ff wx ((z' + (y' + x'))) g4 ∧ Box wx pk6 [.bool f6.n, .slice f6.A f6.xs.length f6.c, .bool f6.m, .slice f6.B f6.ds.length f6.d, .bool g6.n, .slice g6.A g6.xs.length g6.c, .bool g6.m, .slice g6.B g6.ds.length g6.d] ∧ Ff wx (((x * y - x' * y') * z - (x * y' + x' * y) * z')) f6 ∧ Ff wx (((x * y - x' * y') * z' + (x * y' + x' * y) * z)) g6)
       case first =>
        refine wp_region_noPanic ?_
        have hb : Below wc.heap.size wc wc.drew := (Below.refl _ _).drew
        replace K5 := K5.on hb
        replace K10 := K10.on hb
        replace K15 := K15.on hb
        replace K51 := K51.on hb
        replace KN2 := KN2.on hb
        replace KN4 := KN4.on hb
        replace Z52 := Z52.on hb
        replace La := La.kp (Kept.of hb)
        replace Lb := Lb.kp (Kept.of hb)
        replace Lc := Lc.kp (Kept.of hb)
        replace Ld := Ld.kp (Kept.of hb)
        replace Le := Le.kp (Kept.of hb)
        replace Lf := Lf.kp (Kept.of hb)
        replace L2 := L2.kp (Kept.of hb)
        replace M2 := M2.kp (Kept.of hb)
        replace L4 := L4.kp (Kept.of hb)
        replace M4 := M4.kp (Kept.of hb)
        replace BW := BW.trans (hb.mono BW.size)
        clear hb
        refine wp_region_held_drew (S := (fun wx => Cs wx (w.heap.size) 0 [.bool a.n, .slice a.A a.xs.length a.c, .bool a.m, .slice a.B a.ds.length a.d, .bool b.n, .slice b.A b.xs.length b.c, .bool b.m, .slice b.B b.ds.length b.d] ∧ Cs wx (w.heap.size + 1) 0 [.bool c.n, .slice c.A c.xs.length c.c, .bool c.m, .slice c.B c.ds.length c.d, .bool d.n, .slice d.A d.xs.length d.c, .bool d.m, .slice d.B d.ds.length d.d] ∧ Cs wx (w.heap.size + 1 + 1) 0 [.bool e.n, .slice e.A e.xs.length e.c, .bool e.m, .slice e.B e.ds.length e.d, .bool f.n, .slice f.A f.xs.length f.c, .bool f.m, .slice f.B f.ds.length f.d])) (by kernel_rfl) (by exact ⟨K5.cs, K10.cs, K15.cs⟩) (fun hHeld => ?_)
        generalize wc.drew = Vd58 at *
        refine pT 0 ?_
        (try simp only [p0, p1, p2, p3])
        refine pT 1 ?_
        (try simp only [p0, p1, p2, p3])
        refine pT 3 ?_
        (try simp only [p0, p1, p2, p3])
        refine pR2 2 5 (fun K hK => ?_) (fun K hK => ?_)
        ·go_simp
         (go_at_call 24; with_reducible refine (h_times La Lb Lc Ld K51 Z52 (Pxy.out.re.fits (by decide)) (Pxy.out.im.fits (by decide))).mono ?_)
         rintro _ w59 ⟨f5, g5, rfl, L5, M5, hb⟩
         (try go_wp2_with fail)
         replace K5 := K5.on hb
         replace K10 := K10.on hb
         replace K15 := K15.on hb
         replace K51 := K51.on hb
         replace KN2 := KN2.on hb
         replace KN4 := KN4.on hb
         replace Z52 := Z52.on hb
         replace La := La.kp (Kept.of hb)
         replace Lb := Lb.kp (Kept.of hb)
         replace Lc := Lc.kp (Kept.of hb)
         replace Ld := Ld.kp (Kept.of hb)
         replace Le := Le.kp (Kept.of hb)
         replace Lf := Lf.kp (Kept.of hb)
         replace L2 := L2.kp (Kept.of hb)
         replace M2 := M2.kp (Kept.of hb)
         replace L4 := L4.kp (Kept.of hb)
         replace M4 := M4.kp (Kept.of hb)
         replace BW := BW.trans (hb.mono BW.size)
         clear hb
         refine hK.out _ _ (by exact ⟨K5.cs, K10.cs, K15.cs⟩) (fun hHeld => ?_)
         clear hK
         (try simp only [p0, p1, p2, p3])
         refine pR2 4 5 (fun K hK => ?_) (fun K hK => ?_)
         ·go_simp
          (go_at_call 24; with_reducible refine (h_times L5 M5 Le Lf K51 Z52 (Pxyz.out.re.fits (by decide)) (Pxyz.out.im.fits (by decide))).mono ?_)
          rintro _ w60 ⟨f6, g6, rfl, L6, M6, hb⟩
          (try go_wp2_with fail)
          replace K5 := K5.on hb
          replace K10 := K10.on hb
          replace K15 := K15.on hb
          replace K51 := K51.on hb
          replace KN2 := KN2.on hb
          replace KN4 := KN4.on hb
          replace Z52 := Z52.on hb
          replace La := La.kp (Kept.of hb)
          replace Lb := Lb.kp (Kept.of hb)
          replace Lc := Lc.kp (Kept.of hb)
          replace Ld := Ld.kp (Kept.of hb)
          replace Le := Le.kp (Kept.of hb)
          replace Lf := Lf.kp (Kept.of hb)
          replace L2 := L2.kp (Kept.of hb)
          replace M2 := M2.kp (Kept.of hb)
          replace L4 := L4.kp (Kept.of hb)
          replace M4 := M4.kp (Kept.of hb)
          replace BW := BW.trans (hb.mono BW.size)
          clear hb
          refine hK.out _ _ (by exact ⟨K5.cs, K10.cs, K15.cs⟩) (fun hHeld => ?_)
          clear hK
          (try simp only [p0, p1, p2, p3])
          refine pR1 5 (fun K hK => ?_)
          go_simp
          obtain ⟨V61, e62, hb63, K64, Z65, -⟩ := alloc_new w60 [.bool false, .slice none 0 0, .bool false, .slice none 0 0, .bool false, .slice none 0 0, .bool false, .slice none 0 0] 39
          have n66 : w.heap.size ≠ w60.heap.size := Nat.ne_of_lt (K5.lt)
          have n67 : w.heap.size + 1 ≠ w60.heap.size := Nat.ne_of_lt (K10.lt)
          have n68 : w.heap.size + 1 + 1 ≠ w60.heap.size := Nat.ne_of_lt (K15.lt)
          have n69 : b57 ≠ w60.heap.size := Nat.ne_of_lt (K51.lt)
          have n70 : pk2 ≠ w60.heap.size := Nat.ne_of_lt (KN2.lt)
          have n71 : pk4 ≠ w60.heap.size := Nat.ne_of_lt (KN4.lt)
          have g72 : w.heap.size ≤ w60.heap.size := BW.size
          replace K5 := K5.on hb63
          replace K10 := K10.on hb63
          replace K15 := K15.on hb63
          replace K51 := K51.on hb63
          replace KN2 := KN2.on hb63
          replace KN4 := KN4.on hb63
          replace Z52 := Z52.on hb63
          replace La := La.kp (Kept.of hb63)
          replace Lb := Lb.kp (Kept.of hb63)
          replace Lc := Lc.kp (Kept.of hb63)
          replace Ld := Ld.kp (Kept.of hb63)
          replace Le := Le.kp (Kept.of hb63)
          replace Lf := Lf.kp (Kept.of hb63)
          replace L2 := L2.kp (Kept.of hb63)
          replace M2 := M2.kp (Kept.of hb63)
          replace L4 := L4.kp (Kept.of hb63)
          replace M4 := M4.kp (Kept.of hb63)
          replace L6 := L6.kp (Kept.of hb63)
          replace M6 := M6.kp (Kept.of hb63)
          replace BW := BW.trans (hb63.mono BW.size)
          clear hb63
          rw [← e62]
          clear e62
          generalize w60.heap.size = b73 at *
          refine hK.out _ _ (by exact ⟨K5.cs, K10.cs, K15.cs⟩) (fun hHeld => ?_)
          clear hK
          (try simp only [p0, p1, p2, p3])
          refine pR1 6 (fun K hK => ?_)
          obtain ⟨c74, c75, c76, c77, c78, c79, c80, c81⟩ := K64.c8
          obtain ⟨c82, c83, c84, c85, c86, c87, c88, c89⟩ := Z65.f8
          go_simp
          clear c74 c75 c76 c77 c78 c79 c80 c81 c82 c83 c84 c85 c86 c87 c88 c89
          obtain ⟨V90, hk92⟩ : ∃ V90, V90 = V61.setCells (b73) 0 [.bool f6.n, .slice f6.A f6.xs.length f6.c, .bool f6.m, .slice f6.B f6.ds.length f6.d, .bool g6.n, .slice g6.A g6.xs.length g6.c, .bool g6.m, .slice g6.B g6.ds.length g6.d] := ⟨_, rfl⟩
          have e91 := hk92
          simp only [World.setCells, Nat.zero_add, Nat.reduceAdd] at e91
          have hk93 := Kept.overE hk92 K64 rfl (by simp)
          replace K5 := K5.awayE hk92 n66
          replace K10 := K10.awayE hk92 n67
          replace K15 := K15.awayE hk92 n68
          replace K51 := K51.awayE hk92 n69
          replace KN2 := KN2.awayE hk92 n70
          replace KN4 := KN4.awayE hk92 n71
          replace K64 := K64.overE hk92 rfl
          replace Z52 := Z52.putE hk92
          replace La := La.kp hk93
          replace Lb := Lb.kp hk93
          replace Lc := Lc.kp hk93
          replace Ld := Ld.kp hk93
          replace Le := Le.kp hk93
          replace Lf := Lf.kp hk93
          replace L2 := L2.kp hk93
          replace M2 := M2.kp hk93
          replace L4 := L4.kp hk93
          replace M4 := M4.kp hk93
          replace L6 := L6.kp hk93
          replace M6 := M6.kp hk93
          replace BW := Below.putE BW hk92 g72
          clear hk92 hk93
          rw [← e91]
          clear e91
          refine hK.out _ _ (by exact ⟨K5.cs, K10.cs, K15.cs⟩) (fun hHeld => ?_)
          clear hK
          (try simp only [p0, p1, p2, p3])
          refine wpAnyH_done (by kernel_rfl) (NoPanic.normal ?_) _
          go_wp2
          go_meet
          exact ⟨b73, f6, g6, rfl, BW, K5, K10, K15, K51, KN2, KN4, Z52, La, Lb, Lc, Ld, Le, Lf, L2, M2, L4, M4, K64, L6, M6⟩
         ·go_simp
          obtain ⟨V60, e61, hb62, K63, Z64, -⟩ := alloc_new w59 [.bool false, .slice none 0 0, .bool false, .slice none 0 0, .bool false, .slice none 0 0, .bool false, .slice none 0 0] 39
          have n65 : w.heap.size ≠ w59.heap.size := Nat.ne_of_lt (K5.lt)
          have n66 : w.heap.size + 1 ≠ w59.heap.size := Nat.ne_of_lt (K10.lt)
          have n67 : w.heap.size + 1 + 1 ≠ w59.heap.size := Nat.ne_of_lt (K15.lt)
          have n68 : b57 ≠ w59.heap.size := Nat.ne_of_lt (K51.lt)
          have n69 : pk2 ≠ w59.heap.size := Nat.ne_of_lt (KN2.lt)
          have n70 : pk4 ≠ w59.heap.size := Nat.ne_of_lt (KN4.lt)
          have g71 : w.heap.size ≤ w59.heap.size := BW.size
          replace K5 := K5.on hb62
          replace K10 := K10.on hb62
          replace K15 := K15.on hb62
          replace K51 := K51.on hb62
          replace KN2 := KN2.on hb62
          replace KN4 := KN4.on hb62
          replace Z52 := Z52.on hb62
          replace La := La.kp (Kept.of hb62)
          replace Lb := Lb.kp (Kept.of hb62)
          replace Lc := Lc.kp (Kept.of hb62)
          replace Ld := Ld.kp (Kept.of hb62)
          replace Le := Le.kp (Kept.of hb62)
          replace Lf := Lf.kp (Kept.of hb62)
          replace L2 := L2.kp (Kept.of hb62)
          replace M2 := M2.kp (Kept.of hb62)
          replace L4 := L4.kp (Kept.of hb62)
          replace M4 := M4.kp (Kept.of hb62)
          replace L5 := L5.kp (Kept.of hb62)
          replace M5 := M5.kp (Kept.of hb62)
          replace BW := BW.trans (hb62.mono BW.size)
          clear hb62
          rw [← e61]
          clear e61
          generalize w59.heap.size = b72 at *
          refine hK.out _ _ (by exact ⟨K5.cs, K10.cs, K15.cs⟩) (fun hHeld => ?_)
          clear hK
          (try simp only [p0, p1, p2, p3])
          refine pR1 4 (fun K hK => ?_)
          go_simp
          (go_at_call 24; with_reducible refine (h_times L5 M5 Le Lf K51 Z52 (Pxyz.out.re.fits (by decide)) (Pxyz.out.im.fits (by decide))).mono ?_)
          rintro _ w73 ⟨f6, g6, rfl, L6, M6, hb⟩
          (try go_wp2_with fail)
          replace K5 := K5.on hb
          replace K10 := K10.on hb
          replace K15 := K15.on hb
          replace K51 := K51.on hb
          replace KN2 := KN2.on hb
          replace KN4 := KN4.on hb
          replace K63 := K63.on hb
          replace Z52 := Z52.on hb
          replace Z64 := Z64.on hb
          replace La := La.kp (Kept.of hb)
          replace Lb := Lb.kp (Kept.of hb)
          replace Lc := Lc.kp (Kept.of hb)
          replace Ld := Ld.kp (Kept.of hb)
          replace Le := Le.kp (Kept.of hb)
          replace Lf := Lf.kp (Kept.of hb)
          replace L2 := L2.kp (Kept.of hb)
          replace M2 := M2.kp (Kept.of hb)
          replace L4 := L4.kp (Kept.of hb)
          replace M4 := M4.kp (Kept.of hb)
          replace BW := BW.trans (hb.mono BW.size)
          clear hb
          refine hK.out _ _ (by exact ⟨K5.cs, K10.cs, K15.cs⟩) (fun hHeld => ?_)
          clear hK
          (try simp only [p0, p1, p2, p3])
          refine pR1 6 (fun K hK => ?_)
          obtain ⟨c74, c75, c76, c77, c78, c79, c80, c81⟩ := K63.c8
          obtain ⟨c82, c83, c84, c85, c86, c87, c88, c89⟩ := Z64.f8
          go_simp
          clear c74 c75 c76 c77 c78 c79 c80 c81 c82 c83 c84 c85 c86 c87 c88 c89
          obtain ⟨V90, hk92⟩ : ∃ V90, V90 = w73.setCells (b72) 0 [.bool f6.n, .slice f6.A f6.xs.length f6.c, .bool f6.m, .slice f6.B f6.ds.length f6.d, .bool g6.n, .slice g6.A g6.xs.length g6.c, .bool g6.m, .slice g6.B g6.ds.length g6.d] := ⟨_, rfl⟩
          have e91 := hk92
          simp only [World.setCells, Nat.zero_add, Nat.reduceAdd] at e91
          have hk93 := Kept.overE hk92 K63 rfl (by simp)
          replace K5 := K5.awayE hk92 n65
          replace K10 := K10.awayE hk92 n66
          replace K15 := K15.awayE hk92 n67
          replace K51 := K51.awayE hk92 n68
          replace KN2 := KN2.awayE hk92 n69
          replace KN4 := KN4.awayE hk92 n70
          replace K63 := K63.overE hk92 rfl
          replace Z52 := Z52.putE hk92
          replace La := La.kp hk93
          replace Lb := Lb.kp hk93
          replace Lc := Lc.kp hk93
          replace Ld := Ld.kp hk93
          replace Le := Le.kp hk93
          replace Lf := Lf.kp hk93
          replace L2 := L2.kp hk93
          replace M2 := M2.kp hk93
          replace L4 := L4.kp hk93
          replace M4 := M4.kp hk93
          replace L6 := L6.kp hk93
          replace M6 := M6.kp hk93
          replace BW := Below.putE BW hk92 g71
          clear hk92 hk93
          rw [← e91]
          clear e91
          refine hK.out _ _ (by exact ⟨K5.cs, K10.cs, K15.cs⟩) (fun hHeld => ?_)
          clear hK
          (try simp only [p0, p1, p2, p3])
          refine wpAnyH_done (by kernel_rfl) (NoPanic.normal ?_) _
          go_wp2
          go_meet
          exact ⟨b72, f6, g6, rfl, BW, K5, K10, K15, K51, KN2, KN4, Z52, La, Lb, Lc, Ld, Le, Lf, L2, M2, L4, M4, K63, L6, M6⟩
        ·go_simp
         obtain ⟨V59, e60, hb61, K62, Z63, -⟩ := alloc_new Vd58 [.bool false, .slice none 0 0, .bool false, .slice none 0 0, .bool false, .slice none 0 0, .bool false, .slice none 0 0] 39
         have n64 : w.heap.size ≠ Vd58.heap.size := Nat.ne_of_lt (K5.lt)
         have n65 : w.heap.size + 1 ≠ Vd58.heap.size := Nat.ne_of_lt (K10.lt)
         have n66 : w.heap.size + 1 + 1 ≠ Vd58.heap.size := Nat.ne_of_lt (K15.lt)
         have n67 : b57 ≠ Vd58.heap.size := Nat.ne_of_lt (K51.lt)
         have n68 : pk2 ≠ Vd58.heap.size := Nat.ne_of_lt (KN2.lt)
         have n69 : pk4 ≠ Vd58.heap.size := Nat.ne_of_lt (KN4.lt)
         have g70 : w.heap.size ≤ Vd58.heap.size := BW.size
         replace K5 := K5.on hb61
         replace K10 := K10.on hb61
         replace K15 := K15.on hb61
         replace K51 := K51.on hb61
         replace KN2 := KN2.on hb61
         replace KN4 := KN4.on hb61
         replace Z52 := Z52.on hb61
         replace La := La.kp (Kept.of hb61)
         replace Lb := Lb.kp (Kept.of hb61)
         replace Lc := Lc.kp (Kept.of hb61)
         replace Ld := Ld.kp (Kept.of hb61)
         replace Le := Le.kp (Kept.of hb61)
         replace Lf := Lf.kp (Kept.of hb61)
         replace L2 := L2.kp (Kept.of hb61)
         replace M2 := M2.kp (Kept.of hb61)
         replace L4 := L4.kp (Kept.of hb61)
         replace M4 := M4.kp (Kept.of hb61)
         replace BW := BW.trans (hb61.mono BW.size)
         clear hb61
         rw [← e60]
         clear e60
         generalize Vd58.heap.size = b71 at *
         refine hK.out _ _ (by exact ⟨K5.cs, K10.cs, K15.cs⟩) (fun hHeld => ?_)
         clear hK
         (try simp only [p0, p1, p2, p3])
         refine pR1 2 (fun K hK => ?_)
         go_simp
         (go_at_call 24; with_reducible refine (h_times La Lb Lc Ld K51 Z52 (Pxy.out.re.fits (by decide)) (Pxy.out.im.fits (by decide))).mono ?_)
         rintro _ w72 ⟨f5, g5, rfl, L5, M5, hb⟩
         (try go_wp2_with fail)
         replace K5 := K5.on hb
         replace K10 := K10.on hb
         replace K15 := K15.on hb
         replace K51 := K51.on hb
         replace KN2 := KN2.on hb
         replace KN4 := KN4.on hb
         replace K62 := K62.on hb
         replace Z52 := Z52.on hb
         replace Z63 := Z63.on hb
         replace La := La.kp (Kept.of hb)
         replace Lb := Lb.kp (Kept.of hb)
         replace Lc := Lc.kp (Kept.of hb)
         replace Ld := Ld.kp (Kept.of hb)
         replace Le := Le.kp (Kept.of hb)
         replace Lf := Lf.kp (Kept.of hb)
         replace L2 := L2.kp (Kept.of hb)
         replace M2 := M2.kp (Kept.of hb)
         replace L4 := L4.kp (Kept.of hb)
         replace M4 := M4.kp (Kept.of hb)
         replace BW := BW.trans (hb.mono BW.size)
         clear hb
         refine hK.out _ _ (by exact ⟨K5.cs, K10.cs, K15.cs⟩) (fun hHeld => ?_)
         clear hK
         (try simp only [p0, p1, p2, p3])
         refine pR1 4 (fun K hK => ?_)
         go_simp
         (go_at_call 24; with_reducible refine (h_times L5 M5 Le Lf K51 Z52 (Pxyz.out.re.fits (by decide)) (Pxyz.out.im.fits (by decide))).mono ?_)
         rintro _ w73 ⟨f6, g6, rfl, L6, M6, hb⟩
         (try go_wp2_with fail)
         replace K5 := K5.on hb
         replace K10 := K10.on hb
         replace K15 := K15.on hb
         replace K51 := K51.on hb
         replace KN2 := KN2.on hb
         replace KN4 := KN4.on hb
         replace K62 := K62.on hb
         replace Z52 := Z52.on hb
         replace Z63 := Z63.on hb
         replace La := La.kp (Kept.of hb)
         replace Lb := Lb.kp (Kept.of hb)
         replace Lc := Lc.kp (Kept.of hb)
         replace Ld := Ld.kp (Kept.of hb)
         replace Le := Le.kp (Kept.of hb)
         replace Lf := Lf.kp (Kept.of hb)
         replace L2 := L2.kp (Kept.of hb)
         replace M2 := M2.kp (Kept.of hb)
         replace L4 := L4.kp (Kept.of hb)
         replace M4 := M4.kp (Kept.of hb)
         replace BW := BW.trans (hb.mono BW.size)
         clear hb
         refine hK.out _ _ (by exact ⟨K5.cs, K10.cs, K15.cs⟩) (fun hHeld => ?_)
         clear hK
         (try simp only [p0, p1, p2, p3])
         refine pR1 6 (fun K hK => ?_)
         obtain ⟨c74, c75, c76, c77, c78, c79, c80, c81⟩ := K62.c8
         obtain ⟨c82, c83, c84, c85, c86, c87, c88, c89⟩ := Z63.f8
         go_simp
         clear c74 c75 c76 c77 c78 c79 c80 c81 c82 c83 c84 c85 c86 c87 c88 c89
         obtain ⟨V90, hk92⟩ : ∃ V90, V90 = w73.setCells (b71) 0 [.bool f6.n, .slice f6.A f6.xs.length f6.c, .bool f6.m, .slice f6.B f6.ds.length f6.d, .bool g6.n, .slice g6.A g6.xs.length g6.c, .bool g6.m, .slice g6.B g6.ds.length g6.d] := ⟨_, rfl⟩
         have e91 := hk92
         simp only [World.setCells, Nat.zero_add, Nat.reduceAdd] at e91
         have hk93 := Kept.overE hk92 K62 rfl (by simp)
         replace K5 := K5.awayE hk92 n64
         replace K10 := K10.awayE hk92 n65
         replace K15 := K15.awayE hk92 n66
         replace K51 := K51.awayE hk92 n67
         replace KN2 := KN2.awayE hk92 n68
         replace KN4 := KN4.awayE hk92 n69
         replace K62 := K62.overE hk92 rfl
         replace Z52 := Z52.putE hk92
         replace La := La.kp hk93
         replace Lb := Lb.kp hk93
         replace Lc := Lc.kp hk93
         replace Ld := Ld.kp hk93
         replace Le := Le.kp hk93
         replace Lf := Lf.kp hk93
         replace L2 := L2.kp hk93
         replace M2 := M2.kp hk93
         replace L4 := L4.kp hk93
         replace M4 := M4.kp hk93
         replace L6 := L6.kp hk93
         replace M6 := M6.kp hk93
         replace BW := Below.putE BW hk92 g70
         clear hk92 hk93
         rw [← e91]
         clear e91
         refine hK.out _ _ (by exact ⟨K5.cs, K10.cs, K15.cs⟩) (fun hHeld => ?_)
         clear hK
         (try simp only [p0, p1, p2, p3])
         refine wpAnyH_done (by kernel_rfl) (NoPanic.normal ?_) _
         go_wp2
         go_meet
         exact ⟨b71, f6, g6, rfl, BW, K5, K10, K15, K51, KN2, KN4, Z52, La, Lb, Lc, Ld, Le, Lf, L2, M2, L4, M4, K62, L6, M6⟩
       case rest =>
        obtain ⟨pk6, f6, g6, rfl, BW, K5, K10, K15, K51, KN2, KN4, Z52, La, Lb, Lc, Ld, Le, Lf, L2, M2, L4, M4, KN6, L6, M6⟩ := hcut
        go_wp2_with fail
        go_cut [11] (fun sv wx => ∃ (pk8 : Nat) (f8 : Fv) (g8 : Fv), sv = .pointer (some ⟨pk8, 0, none⟩) ∧ Below w.heap.size w wx ∧ Box wx (w.heap.size) [.bool a.n, .slice a.A a.xs.length a.c, .bool a.m, .slice a.B a.ds.length a.d, .bool b.n, .slice b.A b.xs.length b.c, .bool b.m, .slice b.B b.ds.length b.d] ∧ Box wx (w.heap.size + 1) [.bool c.n, .slice c.A c.xs.length c.c, .bool c.m, .slice c.B c.ds.length c.d, .bool d.n, .slice d.A d.xs.length d.c, .bool d.m, .slice d.B d.ds.length d.d] ∧ Box wx (w.heap.size + 1 + 1) [.bool e.n, .slice e.A e.xs.length e.c, .bool e.m, .slice e.B e.ds.length e.d, .bool f.n, .slice f.A f.xs.length f.c, .bool f.m, .slice f.B f.ds.length f.d] ∧ Box wx (b57) [.bool true] ∧ Box wx (pk2) [.bool f2.n, .slice f2.A f2.xs.length f2.c, .bool f2.m, .slice f2.B f2.ds.length f2.d, .bool g2.n, .slice g2.A g2.xs.length g2.c, .bool g2.m, .slice g2.B g2.ds.length g2.d] ∧ Box wx (pk4) [.bool f4.n, .slice f4.A f4.xs.length f4.c, .bool f4.m, .slice f4.B f4.ds.length f4.d, .bool g4.n, .slice g4.A g4.xs.length g4.c, .bool g4.m, .slice g4.B g4.ds.length g4.d] ∧ Box wx (pk6) [.bool f6.n, .slice f6.A f6.xs.length f6.c, .bool f6.m, .slice f6.B f6.ds.length f6.d, .bool g6.n, .slice g6.A g6.xs.length g6.c, .bool g6.m, .slice g6.B g6.ds.length g6.d] ∧ Fz wx (b57) ∧ Ff wx (x) a ∧ Ff wx (x') b ∧ Ff wx (y) c ∧ Ff wx (y') d ∧ Ff wx (z) e ∧ Ff wx (z') f ∧ Ff wx (((x + y) + z)) f2 ∧ Ff wx (((x' + y') + z')) g2 ∧ Ff wx ((z + (y + x))) f4 ∧ Ff wx ((z' + (y' + x'))) g4 ∧ Ff wx (((x * y - x' * y') * z - (x * y' + x' * y) * z')) f6 ∧ Ff wx (((x * y - x' * y') * z' + (x * y' + x' * y) * z)) g6 ∧ Box wx pk8 [.bool f8.n, .slice f8.A f8.xs.length f8.c, .bool f8.m, .slice f8.B f8.ds.length f8.d, .bool g8.n, .slice g8.A g8.xs.length g8.c, .bool g8.m, .slice g8.B g8.ds.length g8.d] ∧ Ff wx ((z * (y * x - y' * x') - z' * (y * x' + y' * x))) f8 ∧ Ff wx ((z * (y * x' + y' * x) + z' * (y * x - y' * x'))) g8)
        case first =>
         refine wp_region_noPanic ?_
         have hb : Below wc.heap.size wc wc.drew := (Below.refl _ _).drew
         replace K5 := K5.on hb
         replace K10 := K10.on hb
         replace K15 := K15.on hb
         replace K51 := K51.on hb
         replace KN2 := KN2.on hb
         replace KN4 := KN4.on hb
         replace KN6 := KN6.on hb
         replace Z52 := Z52.on hb
         replace La := La.kp (Kept.of hb)
         replace Lb := Lb.kp (Kept.of hb)
         replace Lc := Lc.kp (Kept.of hb)
         replace Ld := Ld.kp (Kept.of hb)
         replace Le := Le.kp (Kept.of hb)
         replace Lf := Lf.kp (Kept.of hb)
         replace L2 := L2.kp (Kept.of hb)
         replace M2 := M2.kp (Kept.of hb)
         replace L4 := L4.kp (Kept.of hb)
         replace M4 := M4.kp (Kept.of hb)
         replace L6 := L6.kp (Kept.of hb)
         replace M6 := M6.kp (Kept.of hb)
         replace BW := BW.trans (hb.mono BW.size)
         clear hb
         refine wp_region_held_drew (S := (fun wx => Cs wx (w.heap.size) 0 [.bool a.n, .slice a.A a.xs.length a.c, .bool a.m, .slice a.B a.ds.length a.d, .bool b.n, .slice b.A b.xs.length b.c, .bool b.m, .slice b.B b.ds.length b.d] ∧ Cs wx (w.heap.size + 1) 0 [.bool c.n, .slice c.A c.xs.length c.c, .bool c.m, .slice c.B c.ds.length c.d, .bool d.n, .slice d.A d.xs.length d.c, .bool d.m, .slice d.B d.ds.length d.d] ∧ Cs wx (w.heap.size + 1 + 1) 0 [.bool e.n, .slice e.A e.xs.length e.c, .bool e.m, .slice e.B e.ds.length e.d, .bool f.n, .slice f.A f.xs.length f.c, .bool f.m, .slice f.B f.ds.length f.d])) (by kernel_rfl) (by exact ⟨K5.cs, K10.cs, K15.cs⟩) (fun hHeld => ?_)
         generalize wc.drew = Vd58 at *
         refine pT 0 ?_
         (try simp only [p0, p1, p2, p3])
         refine pT 1 ?_
         (try simp only [p0, p1, p2, p3])
         refine pT 2 ?_
         (try simp only [p0, p1, p2, p3])
         refine pR2 3 5 (fun K hK => ?_) (fun K hK => ?_)
         ·go_simp
          (go_at_call 24; with_reducible refine (h_times Lc Ld La Lb K51 Z52 (Pyx.out.re.fits (by decide)) (Pyx.out.im.fits (by decide))).mono ?_)
          rintro _ w59 ⟨f7, g7, rfl, L7, M7, hb⟩
          (try go_wp2_with fail)
          replace K5 := K5.on hb
          replace K10 := K10.on hb
          replace K15 := K15.on hb
          replace K51 := K51.on hb
          replace KN2 := KN2.on hb
          replace KN4 := KN4.on hb
          replace KN6 := KN6.on hb
          replace Z52 := Z52.on hb
          replace La := La.kp (Kept.of hb)
          replace Lb := Lb.kp (Kept.of hb)
          replace Lc := Lc.kp (Kept.of hb)
          replace Ld := Ld.kp (Kept.of hb)
          replace Le := Le.kp (Kept.of hb)
          replace Lf := Lf.kp (Kept.of hb)
          replace L2 := L2.kp (Kept.of hb)
          replace M2 := M2.kp (Kept.of hb)
          replace L4 := L4.kp (Kept.of hb)
          replace M4 := M4.kp (Kept.of hb)
          replace L6 := L6.kp (Kept.of hb)
          replace M6 := M6.kp (Kept.of hb)
          replace BW := BW.trans (hb.mono BW.size)
          clear hb
          refine hK.out _ _ (by exact ⟨K5.cs, K10.cs, K15.cs⟩) (fun hHeld => ?_)
          clear hK
          (try simp only [p0, p1, p2, p3])
          refine pR2 4 5 (fun K hK => ?_) (fun K hK => ?_)
          ·go_simp
           (go_at_call 24; with_reducible refine (h_times Le Lf L7 M7 K51 Z52 (Pzyx.out.re.fits (by decide)) (Pzyx.out.im.fits (by decide))).mono ?_)
           rintro _ w60 ⟨f8, g8, rfl, L8, M8, hb⟩
           (try go_wp2_with fail)
           replace K5 := K5.on hb
           replace K10 := K10.on hb
           replace K15 := K15.on hb
           replace K51 := K51.on hb
           replace KN2 := KN2.on hb
           replace KN4 := KN4.on hb
           replace KN6 := KN6.on hb
           replace Z52 := Z52.on hb
           replace La := La.kp (Kept.of hb)
           replace Lb := Lb.kp (Kept.of hb)
           replace Lc := Lc.kp (Kept.of hb)
           replace Ld := Ld.kp (Kept.of hb)
           replace Le := Le.kp (Kept.of hb)
           replace Lf := Lf.kp (Kept.of hb)
           replace L2 := L2.kp (Kept.of hb)
           replace M2 := M2.kp (Kept.of hb)
           replace L4 := L4.kp (Kept.of hb)
           replace M4 := M4.kp (Kept.of hb)
           replace L6 := L6.kp (Kept.of hb)
           replace M6 := M6.kp (Kept.of hb)
           replace BW := BW.trans (hb.mono BW.size)
           clear hb
           refine hK.out _ _ (by exact ⟨K5.cs, K10.cs, K15.cs⟩) (fun hHeld => ?_)
           clear hK
           (try simp only [p0, p1, p2, p3])
           refine pR1 5 (fun K hK => ?_)
           go_simp
           obtain ⟨V61, e62, hb63, K64, Z65, -⟩ := alloc_new w60 [.bool false, .slice none 0 0, .bool false, .slice none 0 0, .bool false, .slice none 0 0, .bool false, .slice none 0 0] 39
           have n66 : w.heap.size ≠ w60.heap.size := Nat.ne_of_lt (K5.lt)
           have n67 : w.heap.size + 1 ≠ w60.heap.size := Nat.ne_of_lt (K10.lt)
           have n68 : w.heap.size + 1 + 1 ≠ w60.heap.size := Nat.ne_of_lt (K15.lt)
           have n69 : b57 ≠ w60.heap.size := Nat.ne_of_lt (K51.lt)
           have n70 : pk2 ≠ w60.heap.size := Nat.ne_of_lt (KN2.lt)
           have n71 : pk4 ≠ w60.heap.size := Nat.ne_of_lt (KN4.lt)
           have n72 : pk6 ≠ w60.heap.size := Nat.ne_of_lt (KN6.lt)
           have g73 : w.heap.size ≤ w60.heap.size := BW.size
           replace K5 := K5.on hb63
           replace K10 := K10.on hb63
           replace K15 := K15.on hb63
           replace K51 := K51.on hb63
           replace KN2 := KN2.on hb63
           replace KN4 := KN4.on hb63
           replace KN6 := KN6.on hb63
           replace Z52 := Z52.on hb63
           replace La := La.kp (Kept.of hb63)
           replace Lb := Lb.kp (Kept.of hb63)
           replace Lc := Lc.kp (Kept.of hb63)
           replace Ld := Ld.kp (Kept.of hb63)
           replace Le := Le.kp (Kept.of hb63)
           replace Lf := Lf.kp (Kept.of hb63)
           replace L2 := L2.kp (Kept.of hb63)
           replace M2 := M2.kp (Kept.of hb63)
           replace L4 := L4.kp (Kept.of hb63)
           replace M4 := M4.kp (Kept.of hb63)
           replace L6 := L6.kp (Kept.of hb63)
           replace M6 := M6.kp (Kept.of hb63)
           replace L8 := L8.kp (Kept.of hb63)
           replace M8 := M8.kp (Kept.of hb63)
           replace BW := BW.trans (hb63.mono BW.size)
           clear hb63
           rw [← e62]
           clear e62
           generalize w60.heap.size = b74 at *
           refine hK.out _ _ (by exact ⟨K5.cs, K10.cs, K15.cs⟩) (fun hHeld => ?_)
           clear hK
           (try simp only [p0, p1, p2, p3])
           refine pR1 6 (fun K hK => ?_)
           obtain ⟨c75, c76, c77, c78, c79, c80, c81, c82⟩ := K64.c8
           obtain ⟨c83, c84, c85, c86, c87, c88, c89, c90⟩ := Z65.f8
           go_simp
           clear c75 c76 c77 c78 c79 c80 c81 c82 c83 c84 c85 c86 c87 c88 c89 c90
           obtain ⟨V91, hk93⟩ : ∃ V91, V91 = V61.setCells (b74) 0 [.bool f8.n, .slice f8.A f8.xs.length f8.c, .bool f8.m, .slice f8.B f8.ds.length f8.d, .bool g8.n, .slice g8.A g8.xs.length g8.c, .bool g8.m, .slice g8.B g8.ds.length g8.d] := ⟨_, rfl⟩
           have e92 := hk93
           simp only [World.setCells, Nat.zero_add, Nat.reduceAdd] at e92
           have hk94 := Kept.overE hk93 K64 rfl (by simp)
           replace K5 := K5.awayE hk93 n66
           replace K10 := K10.awayE hk93 n67
           replace K15 := K15.awayE hk93 n68
           replace K51 := K51.awayE hk93 n69
           replace KN2 := KN2.awayE hk93 n70
           replace KN4 := KN4.awayE hk93 n71
           replace KN6 := KN6.awayE hk93 n72
           replace K64 := K64.overE hk93 rfl
           replace Z52 := Z52.putE hk93
           replace La := La.kp hk94
           replace Lb := Lb.kp hk94
           replace Lc := Lc.kp hk94
           replace Ld := Ld.kp hk94
           replace Le := Le.kp hk94
           replace Lf := Lf.kp hk94
           replace L2 := L2.kp hk94
           replace M2 := M2.kp hk94
           replace L4 := L4.kp hk94
           replace M4 := M4.kp hk94
           replace L6 := L6.kp hk94
           replace M6 := M6.kp hk94
           replace L8 := L8.kp hk94
           replace M8 := M8.kp hk94
           replace BW := Below.putE BW hk93 g73
           clear hk93 hk94
           rw [← e92]
           clear e92
           refine hK.out _ _ (by exact ⟨K5.cs, K10.cs, K15.cs⟩) (fun hHeld => ?_)
           clear hK
           (try simp only [p0, p1, p2, p3])
           refine wpAnyH_done (by kernel_rfl) (NoPanic.normal ?_) _
           go_wp2
           go_meet
           exact ⟨b74, f8, g8, rfl, BW, K5, K10, K15, K51, KN2, KN4, KN6, Z52, La, Lb, Lc, Ld, Le, Lf, L2, M2, L4, M4, L6, M6, K64, L8, M8⟩
          ·go_simp
           obtain ⟨V60, e61, hb62, K63, Z64, -⟩ := alloc_new w59 [.bool false, .slice none 0 0, .bool false, .slice none 0 0, .bool false, .slice none 0 0, .bool false, .slice none 0 0] 39
           have n65 : w.heap.size ≠ w59.heap.size := Nat.ne_of_lt (K5.lt)
           have n66 : w.heap.size + 1 ≠ w59.heap.size := Nat.ne_of_lt (K10.lt)
           have n67 : w.heap.size + 1 + 1 ≠ w59.heap.size := Nat.ne_of_lt (K15.lt)
           have n68 : b57 ≠ w59.heap.size := Nat.ne_of_lt (K51.lt)
           have n69 : pk2 ≠ w59.heap.size := Nat.ne_of_lt (KN2.lt)
           have n70 : pk4 ≠ w59.heap.size := Nat.ne_of_lt (KN4.lt)
           have n71 : pk6 ≠ w59.heap.size := Nat.ne_of_lt (KN6.lt)
           have g72 : w.heap.size ≤ w59.heap.size := BW.size
           replace K5 := K5.on hb62
           replace K10 := K10.on hb62
           replace K15 := K15.on hb62
           replace K51 := K51.on hb62
           replace KN2 := KN2.on hb62
           replace KN4 := KN4.on hb62
           replace KN6 := KN6.on hb62
           replace Z52 := Z52.on hb62
           replace La := La.kp (Kept.of hb62)
           replace Lb := Lb.kp (Kept.of hb62)
           replace Lc := Lc.kp (Kept.of hb62)
           replace Ld := Ld.kp (Kept.of hb62)
           replace Le := Le.kp (Kept.of hb62)
           replace Lf := Lf.kp (Kept.of hb62)
           replace L2 := L2.kp (Kept.of hb62)
           replace M2 := M2.kp (Kept.of hb62)
           replace L4 := L4.kp (Kept.of hb62)
           replace M4 := M4.kp (Kept.of hb62)
           replace L6 := L6.kp (Kept.of hb62)
           replace M6 := M6.kp (Kept.of hb62)
           replace L7 := L7.kp (Kept.of hb62)
           replace M7 := M7.kp (Kept.of hb62)
           replace BW := BW.trans (hb62.mono BW.size)
           clear hb62
           rw [← e61]
           clear e61
           generalize w59.heap.size = b73 at *
           refine hK.out _ _ (by exact ⟨K5.cs, K10.cs, K15.cs⟩) (fun hHeld => ?_)
           clear hK
           (try simp only [p0, p1, p2, p3])
           refine pR1 4 (fun K hK => ?_)
           go_simp
           (go_at_call 24; with_reducible refine (h_times Le Lf L7 M7 K51 Z52 (Pzyx.out.re.fits (by decide)) (Pzyx.out.im.fits (by decide))).mono ?_)
           rintro _ w74 ⟨f8, g8, rfl, L8, M8, hb⟩
           (try go_wp2_with fail)
           replace K5 := K5.on hb
           replace K10 := K10.on hb
           replace K15 := K15.on hb
           replace K51 := K51.on hb
           replace KN2 := KN2.on hb
           replace KN4 := KN4.on hb
           replace KN6 := KN6.on hb
           replace K63 := K63.on hb
           replace Z52 := Z52.on hb
           replace Z64 := Z64.on hb
           replace La := La.kp (Kept.of hb)
           replace Lb := Lb.kp (Kept.of hb)
           replace Lc := Lc.kp (Kept.of hb)
           replace Ld := Ld.kp (Kept.of hb)
           replace Le := Le.kp (Kept.of hb)
           replace Lf := Lf.kp (Kept.of hb)
           replace L2 := L2.kp (Kept.of hb)
           replace M2 := M2.kp (Kept.of hb)
           replace L4 := L4.kp (Kept.of hb)
           replace M4 := M4.kp (Kept.of hb)
           replace L6 := L6.kp (Kept.of hb)
           replace M6 := M6.kp (Kept.of hb)
           replace BW := BW.trans (hb.mono BW.size)
           clear hb
           refine hK.out _ _ (by exact ⟨K5.cs, K10.cs, K15.cs⟩) (fun hHeld => ?_)
           clear hK
           (try simp only [p0, p1, p2, p3])
           refine pR1 6 (fun K hK => ?_)
           obtain ⟨c75, c76, c77, c78, c79, c80, c81, c82⟩ := K63.c8
           obtain ⟨c83, c84, c85, c86, c87, c88, c89, c90⟩ := Z64.f8
           go_simp
           clear c75 c76 c77 c78 c79 c80 c81 c82 c83 c84 c85 c86 c87 c88 c89 c90
           obtain ⟨V91, hk93⟩ : ∃ V91, V91 = w74.setCells (b73) 0 [.bool f8.n, .slice f8.A f8.xs.length f8.c, .bool f8.m, .slice f8.B f8.ds.length f8.d, .bool g8.n, .slice g8.A g8.xs.length g8.c, .bool g8.m, .slice g8.B g8.ds.length g8.d] := ⟨_, rfl⟩
           have e92 := hk93
           simp only [World.setCells, Nat.zero_add, Nat.reduceAdd] at e92
           have hk94 := Kept.overE hk93 K63 rfl (by simp)
           replace K5 := K5.awayE hk93 n65
           replace K10 := K10.awayE hk93 n66
           replace K15 := K15.awayE hk93 n67
           replace K51 := K51.awayE hk93 n68
           replace KN2 := KN2.awayE hk93 n69
           replace KN4 := KN4.awayE hk93 n70
           replace KN6 := KN6.awayE hk93 n71
           replace K63 := K63.overE hk93 rfl
           replace Z52 := Z52.putE hk93
           replace La := La.kp hk94
           replace Lb := Lb.kp hk94
           replace Lc := Lc.kp hk94
           replace Ld := Ld.kp hk94
           replace Le := Le.kp hk94
           replace Lf := Lf.kp hk94
           replace L2 := L2.kp hk94
           replace M2 := M2.kp hk94
           replace L4 := L4.kp hk94
           replace M4 := M4.kp hk94
           replace L6 := L6.kp hk94
           replace M6 := M6.kp hk94
           replace L8 := L8.kp hk94
           replace M8 := M8.kp hk94
           replace BW := Below.putE BW hk93 g72
           clear hk93 hk94
           rw [← e92]
           clear e92
           refine hK.out _ _ (by exact ⟨K5.cs, K10.cs, K15.cs⟩) (fun hHeld => ?_)
           clear hK
           (try simp only [p0, p1, p2, p3])
           refine wpAnyH_done (by kernel_rfl) (NoPanic.normal ?_) _
           go_wp2
           go_meet
           exact ⟨b73, f8, g8, rfl, BW, K5, K10, K15, K51, KN2, KN4, KN6, Z52, La, Lb, Lc, Ld, Le, Lf, L2, M2, L4, M4, L6, M6, K63, L8, M8⟩
         ·go_simp
          obtain ⟨V59, e60, hb61, K62, Z63, -⟩ := alloc_new Vd58 [.bool false, .slice none 0 0, .bool false, .slice none 0 0, .bool false, .slice none 0 0, .bool false, .slice none 0 0] 39
          have n64 : w.heap.size ≠ Vd58.heap.size := Nat.ne_of_lt (K5.lt)
          have n65 : w.heap.size + 1 ≠ Vd58.heap.size := Nat.ne_of_lt (K10.lt)
          have n66 : w.heap.size + 1 + 1 ≠ Vd58.heap.size := Nat.ne_of_lt (K15.lt)
          have n67 : b57 ≠ Vd58.heap.size := Nat.ne_of_lt (K51.lt)
          have n68 : pk2 ≠ Vd58.heap.size := Nat.ne_of_lt (KN2.lt)
          have n69 : pk4 ≠ Vd58.heap.size := Nat.ne_of_lt (KN4.lt)
          have n70 : pk6 ≠ Vd58.heap.size := Nat.ne_of_lt (KN6.lt)
          have g71 : w.heap.size ≤ Vd58.heap.size := BW.size
          replace K5 := K5.on hb61
          replace K10 := K10.on hb61
          replace K15 := K15.on hb61
          replace K51 := K51.on hb61
          replace KN2 := KN2.on hb61
          replace KN4 := KN4.on hb61
          replace KN6 := KN6.on hb61
          replace Z52 := Z52.on hb61
          replace La := La.kp (Kept.of hb61)
          replace Lb := Lb.kp (Kept.of hb61)
          replace Lc := Lc.kp (Kept.of hb61)
          replace Ld := Ld.kp (Kept.of hb61)
          replace Le := Le.kp (Kept.of hb61)
          replace Lf := Lf.kp (Kept.of hb61)
          replace L2 := L2.kp (Kept.of hb61)
          replace M2 := M2.kp (Kept.of hb61)
          replace L4 := L4.kp (Kept.of hb61)
          replace M4 := M4.kp (Kept.of hb61)
          replace L6 := L6.kp (Kept.of hb61)
          replace M6 := M6.kp (Kept.of hb61)
          replace BW := BW.trans (hb61.mono BW.size)
          clear hb61
          rw [← e60]
          clear e60
          generalize Vd58.heap.size = b72 at *
          refine hK.out _ _ (by exact ⟨K5.cs, K10.cs, K15.cs⟩) (fun hHeld => ?_)
          clear hK
          (try simp only [p0, p1, p2, p3])
          refine pR1 3 (fun K hK => ?_)
          go_simp
          (go_at_call 24; with_reducible refine (h_times Lc Ld La Lb K51 Z52 (Pyx.out.re.fits (by decide)) (Pyx.out.im.fits (by decide))).mono ?_)
          rintro _ w73 ⟨f7, g7, rfl, L7, M7, hb⟩
          (try go_wp2_with fail)
          replace K5 := K5.on hb
          replace K10 := K10.on hb
          replace K15 := K15.on hb
          replace K51 := K51.on hb
          replace KN2 := KN2.on hb
          replace KN4 := KN4.on hb
          replace KN6 := KN6.on hb
          replace K62 := K62.on hb
          replace Z52 := Z52.on hb
          replace Z63 := Z63.on hb
          replace La := La.kp (Kept.of hb)
          replace Lb := Lb.kp (Kept.of hb)
          replace Lc := Lc.kp (Kept.of hb)
          replace Ld := Ld.kp (Kept.of hb)
          replace Le := Le.kp (Kept.of hb)
          replace Lf := Lf.kp (Kept.of hb)
          replace L2 := L2.kp (Kept.of hb)
          replace M2 := M2.kp (Kept.of hb)
          replace L4 := L4.kp (Kept.of hb)
          replace M4 := M4.kp (Kept.of hb)
          replace L6 := L6.kp (Kept.of hb)
          replace M6 := M6.kp (Kept.of hb)
          replace BW := BW.trans (hb.mono BW.size)
          clear hb
          refine hK.out _ _ (by exact ⟨K5.cs, K10.cs, K15.cs⟩) (fun hHeld => ?_)
          clear hK
          (try simp only [p0, p1, p2, p3])
          refine pR1 4 (fun K hK => ?_)
          go_simp
          (go_at_call 24; with_reducible refine (h_times Le Lf L7 M7 K51 Z52 (Pzyx.out.re.fits (by decide)) (Pzyx.out.im.fits (by decide))).mono ?_)
          rintro _ w74 ⟨f8, g8, rfl, L8, M8, hb⟩
          (try go_wp2_with fail)
          replace K5 := K5.on hb
          replace K10 := K10.on hb
          replace K15 := K15.on hb
          replace K51 := K51.on hb
          replace KN2 := KN2.on hb
          replace KN4 := KN4.on hb
          replace KN6 := KN6.on hb
          replace K62 := K62.on hb
          replace Z52 := Z52.on hb
          replace Z63 := Z63.on hb
          replace La := La.kp (Kept.of hb)
          replace Lb := Lb.kp (Kept.of hb)
          replace Lc := Lc.kp (Kept.of hb)
          replace Ld := Ld.kp (Kept.of hb)
          replace Le := Le.kp (Kept.of hb)
          replace Lf := Lf.kp (Kept.of hb)
          replace L2 := L2.kp (Kept.of hb)
          replace M2 := M2.kp (Kept.of hb)
          replace L4 := L4.kp (Kept.of hb)
          replace M4 := M4.kp (Kept.of hb)
          replace L6 := L6.kp (Kept.of hb)
          replace M6 := M6.kp (Kept.of hb)
          replace BW := BW.trans (hb.mono BW.size)
          clear hb
          refine hK.out _ _ (by exact ⟨K5.cs, K10.cs, K15.cs⟩) (fun hHeld => ?_)
          clear hK
          (try simp only [p0, p1, p2, p3])
          refine pR1 6 (fun K hK => ?_)
          obtain ⟨c75, c76, c77, c78, c79, c80, c81, c82⟩ := K62.c8
          obtain ⟨c83, c84, c85, c86, c87, c88, c89, c90⟩ := Z63.f8
          go_simp
          clear c75 c76 c77 c78 c79 c80 c81 c82 c83 c84 c85 c86 c87 c88 c89 c90
          obtain ⟨V91, hk93⟩ : ∃ V91, V91 = w74.setCells (b72) 0 [.bool f8.n, .slice f8.A f8.xs.length f8.c, .bool f8.m, .slice f8.B f8.ds.length f8.d, .bool g8.n, .slice g8.A g8.xs.length g8.c, .bool g8.m, .slice g8.B g8.ds.length g8.d] := ⟨_, rfl⟩
          have e92 := hk93
          simp only [World.setCells, Nat.zero_add, Nat.reduceAdd] at e92
          have hk94 := Kept.overE hk93 K62 rfl (by simp)
          replace K5 := K5.awayE hk93 n64
          replace K10 := K10.awayE hk93 n65
          replace K15 := K15.awayE hk93 n66
          replace K51 := K51.awayE hk93 n67
          replace KN2 := KN2.awayE hk93 n68
          replace KN4 := KN4.awayE hk93 n69
          replace KN6 := KN6.awayE hk93 n70
          replace K62 := K62.overE hk93 rfl
          replace Z52 := Z52.putE hk93
          replace La := La.kp hk94
          replace Lb := Lb.kp hk94
          replace Lc := Lc.kp hk94
          replace Ld := Ld.kp hk94
          replace Le := Le.kp hk94
          replace Lf := Lf.kp hk94
          replace L2 := L2.kp hk94
          replace M2 := M2.kp hk94
          replace L4 := L4.kp hk94
          replace M4 := M4.kp hk94
          replace L6 := L6.kp hk94
          replace M6 := M6.kp hk94
          replace L8 := L8.kp hk94
          replace M8 := M8.kp hk94
          replace BW := Below.putE BW hk93 g71
          clear hk93 hk94
          rw [← e92]
          clear e92
          refine hK.out _ _ (by exact ⟨K5.cs, K10.cs, K15.cs⟩) (fun hHeld => ?_)
          clear hK
          (try simp only [p0, p1, p2, p3])
          refine wpAnyH_done (by kernel_rfl) (NoPanic.normal ?_) _
          go_wp2
          go_meet
          exact ⟨b72, f8, g8, rfl, BW, K5, K10, K15, K51, KN2, KN4, KN6, Z52, La, Lb, Lc, Ld, Le, Lf, L2, M2, L4, M4, L6, M6, K62, L8, M8⟩
        case rest =>
         obtain ⟨pk8, f8, g8, rfl, BW, K5, K10, K15, K51, KN2, KN4, KN6, Z52, La, Lb, Lc, Ld, Le, Lf, L2, M2, L4, M4, L6, M6, KN8, L8, M8⟩ := hcut
         go_wp2_with fail
         go_cut [12] (fun sv wx => ∃ (pk10 : Nat) (f10 : Fv) (g10 : Fv), sv = .pointer (some ⟨pk10, 0, none⟩) ∧ Below w.heap.size w wx ∧ Box wx (w.heap.size) [.bool a.n, .slice a.A a.xs.length a.c, .bool a.m, .slice a.B a.ds.length a.d, .bool b.n, .slice b.A b.xs.length b.c, .bool b.m, .slice b.B b.ds.length b.d] ∧ Box wx (w.heap.size + 1) [.bool c.n, .slice c.A c.xs.length c.c, .bool c.m, .slice c.B c.ds.length c.d, .bool d.n, .slice d.A d.xs.length d.c, .bool d.m, .slice d.B d.ds.length d.d] ∧ Box wx (w.heap.size + 1 + 1) [.bool e.n, .slice e.A e.xs.length e.c, .bool e.m, .slice e.B e.ds.length e.d, .bool f.n, .slice f.A f.xs.length f.c, .bool f.m, .slice f.B f.ds.length f.d] ∧ Box wx (b57) [.bool true] ∧ Box wx (pk2) [.bool f2.n, .slice f2.A f2.xs.length f2.c, .bool f2.m, .slice f2.B f2.ds.length f2.d, .bool g2.n, .slice g2.A g2.xs.length g2.c, .bool g2.m, .slice g2.B g2.ds.length g2.d] ∧ Box wx (pk4) [.bool f4.n, .slice f4.A f4.xs.length f4.c, .bool f4.m, .slice f4.B f4.ds.length f4.d, .bool g4.n, .slice g4.A g4.xs.length g4.c, .bool g4.m, .slice g4.B g4.ds.length g4.d] ∧ Box wx (pk6) [.bool f6.n, .slice f6.A f6.xs.length f6.c, .bool f6.m, .slice f6.B f6.ds.length f6.d, .bool g6.n, .slice g6.A g6.xs.length g6.c, .bool g6.m, .slice g6.B g6.ds.length g6.d] ∧ Box wx (pk8) [.bool f8.n, .slice f8.A f8.xs.length f8.c, .bool f8.m, .slice f8.B f8.ds.length f8.d, .bool g8.n, .slice g8.A g8.xs.length g8.c, .bool g8.m, .slice g8.B g8.ds.length g8.d] ∧ Fz wx (b57) ∧ Ff wx (x) a ∧ Ff wx (x') b ∧ Ff wx (y) c ∧ Ff wx (y') d ∧ Ff wx (z) e ∧ Ff wx (z') f ∧ Ff wx (((x + y) + z)) f2 ∧ Ff wx (((x' + y') + z')) g2 ∧ Ff wx ((z + (y + x))) f4 ∧ Ff wx ((z' + (y' + x'))) g4 ∧ Ff wx (((x * y - x' * y') * z - (x * y' + x' * y) * z')) f6 ∧ Ff wx (((x * y - x' * y') * z' + (x * y' + x' * y) * z)) g6 ∧ Ff wx ((z * (y * x - y' * x') - z' * (y * x' + y' * x))) f8 ∧ Ff wx ((z * (y * x' + y' * x) + z' * (y * x - y' * x'))) g8 ∧ Box wx pk10 [.bool f10.n, .slice f10.A f10.xs.length f10.c, .bool f10.m, .slice f10.B f10.ds.length f10.d, .bool g10.n, .slice g10.A g10.xs.length g10.c, .bool g10.m, .slice g10.B g10.ds.length g10.d] ∧ Ff wx ((x * (y + z) - x' * (y' + z'))) f10 ∧ Ff wx ((x * (y' + z') + x' * (y + z))) g10)
         case first =>
          refine wp_region_noPanic ?_
          have hb : Below wc.heap.size wc wc.drew := (Below.refl _ _).drew
          replace K5 := K5.on hb
          replace K10 := K10.on hb
          replace K15 := K15.on hb
          replace K51 := K51.on hb
          replace KN2 := KN2.on hb
          replace KN4 := KN4.on hb
          replace KN6 := KN6.on hb
          replace KN8 := KN8.on hb
          replace Z52 := Z52.on hb
          replace La := La.kp (Kept.of hb)
          replace Lb := Lb.kp (Kept.of hb)
          replace Lc := Lc.kp (Kept.of hb)
          replace Ld := Ld.kp (Kept.of hb)
          replace Le := Le.kp (Kept.of hb)
          replace Lf := Lf.kp (Kept.of hb)
          replace L2 := L2.kp (Kept.of hb)
          replace M2 := M2.kp (Kept.of hb)
          replace L4 := L4.kp (Kept.of hb)
          replace M4 := M4.kp (Kept.of hb)
          replace L6 := L6.kp (Kept.of hb)
          replace M6 := M6.kp (Kept.of hb)
          replace L8 := L8.kp (Kept.of hb)
          replace M8 := M8.kp (Kept.of hb)
          replace BW := BW.trans (hb.mono BW.size)
          clear hb
          refine wp_region_held_drew (S := (fun wx => Cs wx (w.heap.size) 0 [.bool a.n, .slice a.A a.xs.length a.c, .bool a.m, .slice a.B a.ds.length a.d, .bool b.n, .slice b.A b.xs.length b.c, .bool b.m, .slice b.B b.ds.length b.d] ∧ Cs wx (w.heap.size + 1) 0 [.bool c.n, .slice c.A c.xs.length c.c, .bool c.m, .slice c.B c.ds.length c.d, .bool d.n, .slice d.A d.xs.length d.c, .bool d.m, .slice d.B d.ds.length d.d] ∧ Cs wx (w.heap.size + 1 + 1) 0 [.bool e.n, .slice e.A e.xs.length e.c, .bool e.m, .slice e.B e.ds.length e.d, .bool f.n, .slice f.A f.xs.length f.c, .bool f.m, .slice f.B f.ds.length f.d])) (by kernel_rfl) (by exact ⟨K5.cs, K10.cs, K15.cs⟩) (fun hHeld => ?_)
          generalize wc.drew = Vd58 at *
          refine pT 0 ?_
          (try simp only [p0, p1, p2, p3])
          refine pT 1 ?_
          (try simp only [p0, p1, p2, p3])
          refine pT 2 ?_
          (try simp only [p0, p1, p2, p3])
          refine pR2 3 5 (fun K hK => ?_) (fun K hK => ?_)
          ·go_simp
           (go_at_call 23; with_reducible refine (h_sum Lc Ld Le Lf K51 Z52 (Hyz.out.re.fits (by decide)) (Hyz.out.im.fits (by decide))).mono ?_)
           rintro _ w59 ⟨f9, g9, rfl, L9, M9, hb⟩
           (try go_wp2_with fail)
           replace K5 := K5.on hb
           replace K10 := K10.on hb
           replace K15 := K15.on hb
           replace K51 := K51.on hb
           replace KN2 := KN2.on hb
           replace KN4 := KN4.on hb
           replace KN6 := KN6.on hb
           replace KN8 := KN8.on hb
           replace Z52 := Z52.on hb
           replace La := La.kp (Kept.of hb)
           replace Lb := Lb.kp (Kept.of hb)
           replace Lc := Lc.kp (Kept.of hb)
           replace Ld := Ld.kp (Kept.of hb)
           replace Le := Le.kp (Kept.of hb)
           replace Lf := Lf.kp (Kept.of hb)
           replace L2 := L2.kp (Kept.of hb)
           replace M2 := M2.kp (Kept.of hb)
           replace L4 := L4.kp (Kept.of hb)
           replace M4 := M4.kp (Kept.of hb)
           replace L6 := L6.kp (Kept.of hb)
           replace M6 := M6.kp (Kept.of hb)
           replace L8 := L8.kp (Kept.of hb)
           replace M8 := M8.kp (Kept.of hb)
           replace BW := BW.trans (hb.mono BW.size)
           clear hb
           refine hK.out _ _ (by exact ⟨K5.cs, K10.cs, K15.cs⟩) (fun hHeld => ?_)
           clear hK
           (try simp only [p0, p1, p2, p3])
           refine pR2 4 5 (fun K hK => ?_) (fun K hK => ?_)
           ·go_simp
            (go_at_call 24; with_reducible refine (h_times La Lb L9 M9 K51 Z52 (Pxs.out.re.fits (by decide)) (Pxs.out.im.fits (by decide))).mono ?_)
            rintro _ w60 ⟨f10, g10, rfl, L10, M10, hb⟩
            (try go_wp2_with fail)
            replace K5 := K5.on hb
            replace K10 := K10.on hb
            replace K15 := K15.on hb
            replace K51 := K51.on hb
            replace KN2 := KN2.on hb
            replace KN4 := KN4.on hb
            replace KN6 := KN6.on hb
            replace KN8 := KN8.on hb
            replace Z52 := Z52.on hb
            replace La := La.kp (Kept.of hb)
            replace Lb := Lb.kp (Kept.of hb)
            replace Lc := Lc.kp (Kept.of hb)
            replace Ld := Ld.kp (Kept.of hb)
            replace Le := Le.kp (Kept.of hb)
            replace Lf := Lf.kp (Kept.of hb)
            replace L2 := L2.kp (Kept.of hb)
            replace M2 := M2.kp (Kept.of hb)
            replace L4 := L4.kp (Kept.of hb)
            replace M4 := M4.kp (Kept.of hb)
            replace L6 := L6.kp (Kept.of hb)
            replace M6 := M6.kp (Kept.of hb)
            replace L8 := L8.kp (Kept.of hb)
            replace M8 := M8.kp (Kept.of hb)
            replace BW := BW.trans (hb.mono BW.size)
            clear hb
            refine hK.out _ _ (by exact ⟨K5.cs, K10.cs, K15.cs⟩) (fun hHeld => ?_)
            clear hK
            (try simp only [p0, p1, p2, p3])
            refine pR1 5 (fun K hK => ?_)
            go_simp
            obtain ⟨V61, e62, hb63, K64, Z65, -⟩ := alloc_new w60 [.bool false, .slice none 0 0, .bool false, .slice none 0 0, .bool false, .slice none 0 0, .bool false, .slice none 0 0] 39
            have n66 : w.heap.size ≠ w60.heap.size := Nat.ne_of_lt (K5.lt)
            have n67 : w.heap.size + 1 ≠ w60.heap.size := Nat.ne_of_lt (K10.lt)
            have n68 : w.heap.size + 1 + 1 ≠ w60.heap.size := Nat.ne_of_lt (K15.lt)
            have n69 : b57 ≠ w60.heap.size := Nat.ne_of_lt (K51.lt)
            have n70 : pk2 ≠ w60.heap.size := Nat.ne_of_lt (KN2.lt)
            have n71 : pk4 ≠ w60.heap.size := Nat.ne_of_lt (KN4.lt)
            have n72 : pk6 ≠ w60.heap.size := Nat.ne_of_lt (KN6.lt)
            have n73 : pk8 ≠ w60.heap.size := Nat.ne_of_lt (KN8.lt)
            have g74 : w.heap.size ≤ w60.heap.size := BW.size
            replace K5 := K5.on hb63
            replace K10 := K10.on hb63
            replace K15 := K15.on hb63
            replace K51 := K51.on hb63
            replace KN2 := KN2.on hb63
            replace KN4 := KN4.on hb63
            replace KN6 := KN6.on hb63
            replace KN8 := KN8.on hb63
            replace Z52 := Z52.on hb63
            replace La := La.kp (Kept.of hb63)
            replace Lb := Lb.kp (Kept.of hb63)
            replace Lc := Lc.kp (Kept.of hb63)
            replace Ld := Ld.kp (Kept.of hb63)
            replace Le := Le.kp (Kept.of hb63)
            replace Lf := Lf.kp (Kept.of hb63)
            replace L2 := L2.kp (Kept.of hb63)
            replace M2 := M2.kp (Kept.of hb63)
            replace L4 := L4.kp (Kept.of hb63)
            replace M4 := M4.kp (Kept.of hb63)
            replace L6 := L6.kp (Kept.of hb63)
            replace M6 := M6.kp (Kept.of hb63)
            replace L8 := L8.kp (Kept.of hb63)
            replace M8 := M8.kp (Kept.of hb63)
            replace L10 := L10.kp (Kept.of hb63)
            replace M10 := M10.kp (Kept.of hb63)
            replace BW := BW.trans (hb63.mono BW.size)
            clear hb63
            rw [← e62]
            clear e62
            generalize w60.heap.size = b75 at *
            refine hK.out _ _ (by exact ⟨K5.cs, K10.cs, K15.cs⟩) (fun hHeld => ?_)
            clear hK
            (try simp only [p0, p1, p2, p3])
            refine pR1 6 (fun K hK => ?_)
            obtain ⟨c76, c77, c78, c79, c80, c81, c82, c83⟩ := K64.c8
            obtain ⟨c84, c85, c86, c87, c88, c89, c90, c91⟩ := Z65.f8
            go_simp
            clear c76 c77 c78 c79 c80 c81 c82 c83 c84 c85 c86 c87 c88 c89 c90 c91
            obtain ⟨V92, hk94⟩ : ∃ V92, V92 = V61.setCells (b75) 0 [.bool f10.n, .slice f10.A f10.xs.length f10.c, .bool f10.m, .slice f10.B f10.ds.length f10.d, .bool g10.n, .slice g10.A g10.xs.length g10.c, .bool g10.m, .slice g10.B g10.ds.length g10.d] := ⟨_, rfl⟩
            have e93 := hk94
            simp only [World.setCells, Nat.zero_add, Nat.reduceAdd] at e93
            have hk95 := Kept.overE hk94 K64 rfl (by simp)
            replace K5 := K5.awayE hk94 n66
            replace K10 := K10.awayE hk94 n67
            replace K15 := K15.awayE hk94 n68
            replace K51 := K51.awayE hk94 n69
            replace KN2 := KN2.awayE hk94 n70
            replace KN4 := KN4.awayE hk94 n71
            replace KN6 := KN6.awayE hk94 n72
            replace KN8 := KN8.awayE hk94 n73
            replace K64 := K64.overE hk94 rfl
            replace Z52 := Z52.putE hk94
            replace La := La.kp hk95
            replace Lb := Lb.kp hk95
            replace Lc := Lc.kp hk95
            replace Ld := Ld.kp hk95
            replace Le := Le.kp hk95
            replace Lf := Lf.kp hk95
            replace L2 := L2.kp hk95
            replace M2 := M2.kp hk95
            replace L4 := L4.kp hk95
            replace M4 := M4.kp hk95
            replace L6 := L6.kp hk95
            replace M6 := M6.kp hk95
            replace L8 := L8.kp hk95
            replace M8 := M8.kp hk95
            replace L10 := L10.kp hk95
            replace M10 := M10.kp hk95
            replace BW := Below.putE BW hk94 g74
            clear hk94 hk95
            rw [← e93]
            clear e93
            refine hK.out _ _ (by exact ⟨K5.cs, K10.cs, K15.cs⟩) (fun hHeld => ?_)
            clear hK
            (try simp only [p0, p1, p2, p3])
            refine wpAnyH_done (by kernel_rfl) (NoPanic.normal ?_) _
            go_wp2
            go_meet
            exact ⟨b75, f10, g10, rfl, BW, K5, K10, K15, K51, KN2, KN4, KN6, KN8, Z52, La, Lb, Lc, Ld, Le, Lf, L2, M2, L4, M4, L6, M6, L8, M8, K64, L10, M10⟩
           ·go_simp
            obtain ⟨V60, e61, hb62, K63, Z64, -⟩ := alloc_new w59 [.bool false, .slice none 0 0, .bool false, .slice none 0 0, .bool false, .slice none 0 0, .bool false, .slice none 0 0] 39
            have n65 : w.heap.size ≠ w59.heap.size := Nat.ne_of_lt (K5.lt)
            have n66 : w.heap.size + 1 ≠ w59.heap.size := Nat.ne_of_lt (K10.lt)
            have n67 : w.heap.size + 1 + 1 ≠ w59.heap.size := Nat.ne_of_lt (K15.lt)
            have n68 : b57 ≠ w59.heap.size := Nat.ne_of_lt (K51.lt)
            have n69 : pk2 ≠ w59.heap.size := Nat.ne_of_lt (KN2.lt)
            have n70 : pk4 ≠ w59.heap.size := Nat.ne_of_lt (KN4.lt)
            have n71 : pk6 ≠ w59.heap.size := Nat.ne_of_lt (KN6.lt)
            have n72 : pk8 ≠ w59.heap.size := Nat.ne_of_lt (KN8.lt)
            have g73 : w.heap.size ≤ w59.heap.size := BW.size
            replace K5 := K5.on hb62
            replace K10 := K10.on hb62
            replace K15 := K15.on hb62
            replace K51 := K51.on hb62
            replace KN2 := KN2.on hb62
            replace KN4 := KN4.on hb62
            replace KN6 := KN6.on hb62
            replace KN8 := KN8.on hb62
            replace Z52 := Z52.on hb62
            replace La := La.kp (Kept.of hb62)
            replace Lb := Lb.kp (Kept.of hb62)
            replace Lc := Lc.kp (Kept.of hb62)
            replace Ld := Ld.kp (Kept.of hb62)
            replace Le := Le.kp (Kept.of hb62)
            replace Lf := Lf.kp (Kept.of hb62)
            replace L2 := L2.kp (Kept.of hb62)
            replace M2 := M2.kp (Kept.of hb62)
            replace L4 := L4.kp (Kept.of hb62)
            replace M4 := M4.kp (Kept.of hb62)
            replace L6 := L6.kp (Kept.of hb62)
            replace M6 := M6.kp (Kept.of hb62)
            replace L8 := L8.kp (Kept.of hb62)
            replace M8 := M8.kp (Kept.of hb62)
            replace L9 := L9.kp (Kept.of hb62)
            replace M9 := M9.kp (Kept.of hb62)
            replace BW := BW.trans (hb62.mono BW.size)
            clear hb62
            rw [← e61]
            clear e61
            generalize w59.heap.size = b74 at *
            refine hK.out _ _ (by exact ⟨K5.cs, K10.cs, K15.cs⟩) (fun hHeld => ?_)
            clear hK
            (try simp only [p0, p1, p2, p3])
            refine pR1 4 (fun K hK => ?_)
            go_simp
            (go_at_call 24; with_reducible refine (h_times La Lb L9 M9 K51 Z52 (Pxs.out.re.fits (by decide)) (Pxs.out.im.fits (by decide))).mono ?_)
            rintro _ w75 ⟨f10, g10, rfl, L10, M10, hb⟩
            (try go_wp2_with fail)
            replace K5 := K5.on hb
            replace K10 := K10.on hb
            replace K15 := K15.on hb
            replace K51 := K51.on hb
            replace KN2 := KN2.on hb
            replace KN4 := KN4.on hb
            replace KN6 := KN6.on hb
            replace KN8 := KN8.on hb
            replace K63 := K63.on hb
            replace Z52 := Z52.on hb
            replace Z64 := Z64.on hb
            replace La := La.kp (Kept.of hb)
            replace Lb := Lb.kp (Kept.of hb)
            replace Lc := Lc.kp (Kept.of hb)
            replace Ld := Ld.kp (Kept.of hb)
            replace Le := Le.kp (Kept.of hb)
            replace Lf := Lf.kp (Kept.of hb)
            replace L2 := L2.kp (Kept.of hb)
            replace M2 := M2.kp (Kept.of hb)
            replace L4 := L4.kp (Kept.of hb)
            replace M4 := M4.kp (Kept.of hb)
            replace L6 := L6.kp (Kept.of hb)
            replace M6 := M6.kp (Kept.of hb)
            replace L8 := L8.kp (Kept.of hb)
            replace M8 := M8.kp (Kept.of hb)
            replace BW := BW.trans (hb.mono BW.size)
            clear hb
            refine hK.out _ _ (by exact ⟨K5.cs, K10.cs, K15.cs⟩) (fun hHeld => ?_)
            clear hK
            (try simp only [p0, p1, p2, p3])
            refine pR1 6 (fun K hK => ?_)
            obtain ⟨c76, c77, c78, c79, c80, c81, c82, c83⟩ := K63.c8
            obtain ⟨c84, c85, c86, c87, c88, c89, c90, c91⟩ := Z64.f8
            go_simp
            clear c76 c77 c78 c79 c80 c81 c82 c83 c84 c85 c86 c87 c88 c89 c90 c91
            obtain ⟨V92, hk94⟩ : ∃ V92, V92 = w75.setCells (b74) 0 [.bool f10.n, .slice f10.A f10.xs.length f10.c, .bool f10.m, .slice f10.B f10.ds.length f10.d, .bool g10.n, .slice g10.A g10.xs.length g10.c, .bool g10.m, .slice g10.B g10.ds.length g10.d] := ⟨_, rfl⟩
            have e93 := hk94
            simp only [World.setCells, Nat.zero_add, Nat.reduceAdd] at e93
            have hk95 := Kept.overE hk94 K63 rfl (by simp)
            replace K5 := K5.awayE hk94 n65
            replace K10 := K10.awayE hk94 n66
            replace K15 := K15.awayE hk94 n67
            replace K51 := K51.awayE hk94 n68
            replace KN2 := KN2.awayE hk94 n69
            replace KN4 := KN4.awayE hk94 n70
            replace KN6 := KN6.awayE hk94 n71
            replace KN8 := KN8.awayE hk94 n72
            replace K63 := K63.overE hk94 rfl
            replace Z52 := Z52.putE hk94
            replace La := La.kp hk95
            replace Lb := Lb.kp hk95
            replace Lc := Lc.kp hk95
            replace Ld := Ld.kp hk95
            replace Le := Le.kp hk95
            replace Lf := Lf.kp hk95
            replace L2 := L2.kp hk95
            replace M2 := M2.kp hk95
            replace L4 := L4.kp hk95
            replace M4 := M4.kp hk95
            replace L6 := L6.kp hk95
            replace M6 := M6.kp hk95
            replace L8 := L8.kp hk95
            replace M8 := M8.kp hk95
            replace L10 := L10.kp hk95
            replace M10 := M10.kp hk95
            replace BW := Below.putE BW hk94 g73
            clear hk94 hk95
            rw [← e93]
            clear e93
            refine hK.out _ _ (by exact ⟨K5.cs, K10.cs, K15.cs⟩) (fun hHeld => ?_)
            clear hK
            (try simp only [p0, p1, p2, p3])
            refine wpAnyH_done (by kernel_rfl) (NoPanic.normal ?_) _
            go_wp2
            go_meet
            exact ⟨b74, f10, g10, rfl, BW, K5, K10, K15, K51, KN2, KN4, KN6, KN8, Z52, La, Lb, Lc, Ld, Le, Lf, L2, M2, L4, M4, L6, M6, L8, M8, K63, L10, M10⟩
          ·go_simp
           obtain ⟨V59, e60, hb61, K62, Z63, -⟩ := alloc_new Vd58 [.bool false, .slice none 0 0, .bool false, .slice none 0 0, .bool false, .slice none 0 0, .bool false, .slice none 0 0] 39
           have n64 : w.heap.size ≠ Vd58.heap.size := Nat.ne_of_lt (K5.lt)
           have n65 : w.heap.size + 1 ≠ Vd58.heap.size := Nat.ne_of_lt (K10.lt)
           have n66 : w.heap.size + 1 + 1 ≠ Vd58.heap.size := Nat.ne_of_lt (K15.lt)
           have n67 : b57 ≠ Vd58.heap.size := Nat.ne_of_lt (K51.lt)
           have n68 : pk2 ≠ Vd58.heap.size := Nat.ne_of_lt (KN2.lt)
           have n69 : pk4 ≠ Vd58.heap.size := Nat.ne_of_lt (KN4.lt)
           have n70 : pk6 ≠ Vd58.heap.size := Nat.ne_of_lt (KN6.lt)
           have n71 : pk8 ≠ Vd58.heap.size := Nat.ne_of_lt (KN8.lt)
           have g72 : w.heap.size ≤ Vd58.heap.size := BW.size
           replace K5 := K5.on hb61
           replace K10 := K10.on hb61
           replace K15 := K15.on hb61
           replace K51 := K51.on hb61
           replace KN2 := KN2.on hb61
           replace KN4 := KN4.on hb61
           replace KN6 := KN6.on hb61
           replace KN8 := KN8.on hb61
           replace Z52 := Z52.on hb61
           replace La := La.kp (Kept.of hb61)
           replace Lb := Lb.kp (Kept.of hb61)
           replace Lc := Lc.kp (Kept.of hb61)
           replace Ld := Ld.kp (Kept.of hb61)
           replace Le := Le.kp (Kept.of hb61)
           replace Lf := Lf.kp (Kept.of hb61)
           replace L2 := L2.kp (Kept.of hb61)
           replace M2 := M2.kp (Kept.of hb61)
           replace L4 := L4.kp (Kept.of hb61)
           replace M4 := M4.kp (Kept.of hb61)
           replace L6 := L6.kp (Kept.of hb61)
           replace M6 := M6.kp (Kept.of hb61)
           replace L8 := L8.kp (Kept.of hb61)
           replace M8 := M8.kp (Kept.of hb61)
           replace BW := BW.trans (hb61.mono BW.size)
           clear hb61
           rw [← e60]
           clear e60
           generalize Vd58.heap.size = b73 at *
           refine hK.out _ _ (by exact ⟨K5.cs, K10.cs, K15.cs⟩) (fun hHeld => ?_)
           clear hK
           (try simp only [p0, p1, p2, p3])
           refine pR1 3 (fun K hK => ?_)
           go_simp
           (go_at_call 23; with_reducible refine (h_sum Lc Ld Le Lf K51 Z52 (Hyz.out.re.fits (by decide)) (Hyz.out.im.fits (by decide))).mono ?_)
           rintro _ w74 ⟨f9, g9, rfl, L9, M9, hb⟩
           (try go_wp2_with fail)
           replace K5 := K5.on hb
           replace K10 := K10.on hb
           replace K15 := K15.on hb
           replace K51 := K51.on hb
           replace KN2 := KN2.on hb
           replace KN4 := KN4.on hb
           replace KN6 := KN6.on hb
           replace KN8 := KN8.on hb
           replace K62 := K62.on hb
           replace Z52 := Z52.on hb
           replace Z63 := Z63.on hb
           replace La := La.kp (Kept.of hb)
           replace Lb := Lb.kp (Kept.of hb)
           replace Lc := Lc.kp (Kept.of hb)
           replace Ld := Ld.kp (Kept.of hb)
           replace Le := Le.kp (Kept.of hb)
           replace Lf := Lf.kp (Kept.of hb)
           replace L2 := L2.kp (Kept.of hb)
           replace M2 := M2.kp (Kept.of hb)
           replace L4 := L4.kp (Kept.of hb)
           replace M4 := M4.kp (Kept.of hb)
           replace L6 := L6.kp (Kept.of hb)
           replace M6 := M6.kp (Kept.of hb)
           replace L8 := L8.kp (Kept.of hb)
           replace M8 := M8.kp (Kept.of hb)
           replace BW := BW.trans (hb.mono BW.size)
           clear hb
           refine hK.out _ _ (by exact ⟨K5.cs, K10.cs, K15.cs⟩) (fun hHeld => ?_)
           clear hK
           (try simp only [p0, p1, p2, p3])
           refine pR1 4 (fun K hK => ?_)
           go_simp
           (go_at_call 24; with_reducible refine (h_times La Lb L9 M9 K51 Z52 (Pxs.out.re.fits (by decide)) (Pxs.out.im.fits (by decide))).mono ?_)
           rintro _ w75 ⟨f10, g10, rfl, L10, M10, hb⟩
           (try go_wp2_with fail)
           replace K5 := K5.on hb
           replace K10 := K10.on hb
           replace K15 := K15.on hb
           replace K51 := K51.on hb
           replace KN2 := KN2.on hb
           replace KN4 := KN4.on hb
           replace KN6 := KN6.on hb
           replace KN8 := KN8.on hb
           replace K62 := K62.on hb
           replace Z52 := Z52.on hb
           replace Z63 := Z63.on hb
           replace La := La.kp (Kept.of hb)
           replace Lb := Lb.kp (Kept.of hb)
           replace Lc := Lc.kp (Kept.of hb)
           replace Ld := Ld.kp (Kept.of hb)
           replace Le := Le.kp (Kept.of hb)
           replace Lf := Lf.kp (Kept.of hb)
           replace L2 := L2.kp (Kept.of hb)
           replace M2 := M2.kp (Kept.of hb)
           replace L4 := L4.kp (Kept.of hb)
           replace M4 := M4.kp (Kept.of hb)
           replace L6 := L6.kp (Kept.of hb)
           replace M6 := M6.kp (Kept.of hb)
           replace L8 := L8.kp (Kept.of hb)
           replace M8 := M8.kp (Kept.of hb)
           replace BW := BW.trans (hb.mono BW.size)
           clear hb
           refine hK.out _ _ (by exact ⟨K5.cs, K10.cs, K15.cs⟩) (fun hHeld => ?_)
           clear hK
           (try simp only [p0, p1, p2, p3])
           refine pR1 6 (fun K hK => ?_)
           obtain ⟨c76, c77, c78, c79, c80, c81, c82, c83⟩ := K62.c8
           obtain ⟨c84, c85, c86, c87, c88, c89, c90, c91⟩ := Z63.f8
           go_simp
           clear c76 c77 c78 c79 c80 c81 c82 c83 c84 c85 c86 c87 c88 c89 c90 c91
           obtain ⟨V92, hk94⟩ : ∃ V92, V92 = w75.setCells (b73) 0 [.bool f10.n, .slice f10.A f10.xs.length f10.c, .bool f10.m, .slice f10.B f10.ds.length f10.d, .bool g10.n, .slice g10.A g10.xs.length g10.c, .bool g10.m, .slice g10.B g10.ds.length g10.d] := ⟨_, rfl⟩
           have e93 := hk94
           simp only [World.setCells, Nat.zero_add, Nat.reduceAdd] at e93
           have hk95 := Kept.overE hk94 K62 rfl (by simp)
           replace K5 := K5.awayE hk94 n64
           replace K10 := K10.awayE hk94 n65
           replace K15 := K15.awayE hk94 n66
           replace K51 := K51.awayE hk94 n67
           replace KN2 := KN2.awayE hk94 n68
           replace KN4 := KN4.awayE hk94 n69
           replace KN6 := KN6.awayE hk94 n70
           replace KN8 := KN8.awayE hk94 n71
           replace K62 := K62.overE hk94 rfl
           replace Z52 := Z52.putE hk94
           replace La := La.kp hk95
           replace Lb := Lb.kp hk95
           replace Lc := Lc.kp hk95
           replace Ld := Ld.kp hk95
           replace Le := Le.kp hk95
           replace Lf := Lf.kp hk95
           replace L2 := L2.kp hk95
           replace M2 := M2.kp hk95
           replace L4 := L4.kp hk95
           replace M4 := M4.kp hk95
           replace L6 := L6.kp hk95
           replace M6 := M6.kp hk95
           replace L8 := L8.kp hk95
           replace M8 := M8.kp hk95
           replace L10 := L10.kp hk95
           replace M10 := M10.kp hk95
           replace BW := Below.putE BW hk94 g72
           clear hk94 hk95
           rw [← e93]
           clear e93
           refine hK.out _ _ (by exact ⟨K5.cs, K10.cs, K15.cs⟩) (fun hHeld => ?_)
           clear hK
           (try simp only [p0, p1, p2, p3])
           refine wpAnyH_done (by kernel_rfl) (NoPanic.normal ?_) _
           go_wp2
           go_meet
           exact ⟨b73, f10, g10, rfl, BW, K5, K10, K15, K51, KN2, KN4, KN6, KN8, Z52, La, Lb, Lc, Ld, Le, Lf, L2, M2, L4, M4, L6, M6, L8, M8, K62, L10, M10⟩
         case rest =>
          obtain ⟨pk10, f10, g10, rfl, BW, K5, K10, K15, K51, KN2, KN4, KN6, KN8, Z52, La, Lb, Lc, Ld, Le, Lf, L2, M2, L4, M4, L6, M6, L8, M8, KN10, L10, M10⟩ := hcut
          go_wp2_with fail
          go_cut [13] (fun sv wx => ∃ (pk13 : Nat) (f13 : Fv) (g13 : Fv), sv = .pointer (some ⟨pk13, 0, none⟩) ∧ Below w.heap.size w wx ∧ Box wx (w.heap.size) [.bool a.n, .slice a.A a.xs.length a.c, .bool a.m, .slice a.B a.ds.length a.d, .bool b.n, .slice b.A b.xs.length b.c, .bool b.m, .slice b.B b.ds.length b.d] ∧ Box wx (w.heap.size + 1) [.bool c.n, .slice c.A c.xs.length c.c, .bool c.m, .slice c.B c.ds.length c.d, .bool d.n, .slice d.A d.xs.length d.c, .bool d.m, .slice d.B d.ds.length d.d] ∧ Box wx (w.heap.size + 1 + 1) [.bool e.n, .slice e.A e.xs.length e.c, .bool e.m, .slice e.B e.ds.length e.d, .bool f.n, .slice f.A f.xs.length f.c, .bool f.m, .slice f.B f.ds.length f.d] ∧ Box wx (b57) [.bool true] ∧ Box wx (pk2) [.bool f2.n, .slice f2.A f2.xs.length f2.c, .bool f2.m, .slice f2.B f2.ds.length f2.d, .bool g2.n, .slice g2.A g2.xs.length g2.c, .bool g2.m, .slice g2.B g2.ds.length g2.d] ∧ Box wx (pk4) [.bool f4.n, .slice f4.A f4.xs.length f4.c, .bool f4.m, .slice f4.B f4.ds.length f4.d, .bool g4.n, .slice g4.A g4.xs.length g4.c, .bool g4.m, .slice g4.B g4.ds.length g4.d] ∧ Box wx (pk6) [.bool f6.n, .slice f6.A f6.xs.length f6.c, .bool f6.m, .slice f6.B f6.ds.length f6.d, .bool g6.n, .slice g6.A g6.xs.length g6.c, .bool g6.m, .slice g6.B g6.ds.length g6.d] ∧ Box wx (pk8) [.bool f8.n, .slice f8.A f8.xs.length f8.c, .bool f8.m, .slice f8.B f8.ds.length f8.d, .bool g8.n, .slice g8.A g8.xs.length g8.c, .bool g8.m, .slice g8.B g8.ds.length g8.d] ∧ Box wx (pk10) [.bool f10.n, .slice f10.A f10.xs.length f10.c, .bool f10.m, .slice f10.B f10.ds.length f10.d, .bool g10.n, .slice g10.A g10.xs.length g10.c, .bool g10.m, .slice g10.B g10.ds.length g10.d] ∧ Fz wx (b57) ∧ Ff wx (x) a ∧ Ff wx (x') b ∧ Ff wx (y) c ∧ Ff wx (y') d ∧ Ff wx (z) e ∧ Ff wx (z') f ∧ Ff wx (((x + y) + z)) f2 ∧ Ff wx (((x' + y') + z')) g2 ∧ Ff wx ((z + (y + x))) f4 ∧ Ff wx ((z' + (y' + x'))) g4 ∧ Ff wx (((x * y - x' * y') * z - (x * y' + x' * y) * z')) f6 ∧ Ff wx (((x * y - x' * y') * z' + (x * y' + x' * y) * z)) g6 ∧ Ff wx ((z * (y * x - y' * x') - z' * (y * x' + y' * x))) f8 ∧ Ff wx ((z * (y * x' + y' * x) + z' * (y * x - y' * x'))) g8 ∧ Ff wx ((x * (y + z) - x' * (y' + z'))) f10 ∧ Ff wx ((x * (y' + z') + x' * (y + z))) g10 ∧ Box wx pk13 [.bool f13.n, .slice f13.A f13.xs.length f13.c, .bool f13.m, .slice f13.B f13.ds.length f13.d, .bool g13.n, .slice g13.A g13.xs.length g13.c, .bool g13.m, .slice g13.B g13.ds.length g13.d] ∧ Ff wx (((x * y - x' * y') + (x * z - x' * z'))) f13 ∧ Ff wx (((x * y' + x' * y) + (x * z' + x' * z))) g13)
          case first =>
           refine wp_region_noPanic ?_
           have hb : Below wc.heap.size wc wc.drew := (Below.refl _ _).drew
           replace K5 := K5.on hb
           replace K10 := K10.on hb
           replace K15 := K15.on hb
           replace K51 := K51.on hb
           replace KN2 := KN2.on hb
           replace KN4 := KN4.on hb
           replace KN6 := KN6.on hb
           replace KN8 := KN8.on hb
           replace KN10 := KN10.on hb
           replace Z52 := Z52.on hb
           replace La := La.kp (Kept.of hb)
           replace Lb := Lb.kp (Kept.of hb)
           replace Lc := Lc.kp (Kept.of hb)
           replace Ld := Ld.kp (Kept.of hb)
           replace Le := Le.kp (Kept.of hb)
           replace Lf := Lf.kp (Kept.of hb)
           replace L2 := L2.kp (Kept.of hb)
           replace M2 := M2.kp (Kept.of hb)
           replace L4 := L4.kp (Kept.of hb)
           replace M4 := M4.kp (Kept.of hb)
           replace L6 := L6.kp (Kept.of hb)
           replace M6 := M6.kp (Kept.of hb)
           replace L8 := L8.kp (Kept.of hb)
           replace M8 := M8.kp (Kept.of hb)
           replace L10 := L10.kp (Kept.of hb)
           replace M10 := M10.kp (Kept.of hb)
           replace BW := BW.trans (hb.mono BW.size)
           clear hb
           refine wp_region_held_drew (S := (fun wx => Cs wx (w.heap.size) 0 [.bool a.n, .slice a.A a.xs.length a.c, .bool a.m, .slice a.B a.ds.length a.d, .bool b.n, .slice b.A b.xs.length b.c, .bool b.m, .slice b.B b.ds.length b.d] ∧ Cs wx (w.heap.size + 1) 0 [.bool c.n, .slice c.A c.xs.length c.c, .bool c.m, .slice c.B c.ds.length c.d, .bool d.n, .slice d.A d.xs.length d.c, .bool d.m, .slice d.B d.ds.length d.d] ∧ Cs wx (w.heap.size + 1 + 1) 0 [.bool e.n, .slice e.A e.xs.length e.c, .bool e.m, .slice e.B e.ds.length e.d, .bool f.n, .slice f.A f.xs.length f.c, .bool f.m, .slice f.B f.ds.length f.d])) (by kernel_rfl) (by exact ⟨K5.cs, K10.cs, K15.cs⟩) (fun hHeld => ?_)
           generalize wc.drew = Vd58 at *
           refine pT 0 ?_
           (try simp only [p0, p1, p2, p3])
           refine pT 1 ?_
           (try simp only [p0, p1, p2, p3])
           refine pT 3 ?_
           (try simp only [p0, p1, p2, p3])
           refine pT 4 ?_
           (try simp only [p0, p1, p2, p3])
           refine pR2 2 7 (fun K hK => ?_) (fun K hK => ?_)
           ·go_simp
            (go_at_call 24; with_reducible refine (h_times La Lb Lc Ld K51 Z52 (Pxy.out.re.fits (by decide)) (Pxy.out.im.fits (by decide))).mono ?_)
            rintro _ w59 ⟨f11, g11, rfl, L11, M11, hb⟩
            (try go_wp2_with fail)
            replace K5 := K5.on hb
            replace K10 := K10.on hb
            replace K15 := K15.on hb
            replace K51 := K51.on hb
            replace KN2 := KN2.on hb
            replace KN4 := KN4.on hb
            replace KN6 := KN6.on hb
            replace KN8 := KN8.on hb
            replace KN10 := KN10.on hb
            replace Z52 := Z52.on hb
            replace La := La.kp (Kept.of hb)
            replace Lb := Lb.kp (Kept.of hb)
            replace Lc := Lc.kp (Kept.of hb)
            replace Ld := Ld.kp (Kept.of hb)
            replace Le := Le.kp (Kept.of hb)
            replace Lf := Lf.kp (Kept.of hb)
            replace L2 := L2.kp (Kept.of hb)
            replace M2 := M2.kp (Kept.of hb)
            replace L4 := L4.kp (Kept.of hb)
            replace M4 := M4.kp (Kept.of hb)
            replace L6 := L6.kp (Kept.of hb)
            replace M6 := M6.kp (Kept.of hb)
            replace L8 := L8.kp (Kept.of hb)
            replace M8 := M8.kp (Kept.of hb)
            replace L10 := L10.kp (Kept.of hb)
            replace M10 := M10.kp (Kept.of hb)
            replace BW := BW.trans (hb.mono BW.size)
            clear hb
            refine hK.out _ _ (by exact ⟨K5.cs, K10.cs, K15.cs⟩) (fun hHeld => ?_)
            clear hK
            (try simp only [p0, p1, p2, p3])
            refine pR2 5 7 (fun K hK => ?_) (fun K hK => ?_)
            ·go_simp
             (go_at_call 24; with_reducible refine (h_times La Lb Le Lf K51 Z52 (Pxz.out.re.fits (by decide)) (Pxz.out.im.fits (by decide))).mono ?_)
             rintro _ w60 ⟨f12, g12, rfl, L12, M12, hb⟩
             (try go_wp2_with fail)
             replace K5 := K5.on hb
             replace K10 := K10.on hb
             replace K15 := K15.on hb
             replace K51 := K51.on hb
             replace KN2 := KN2.on hb
             replace KN4 := KN4.on hb
             replace KN6 := KN6.on hb
             replace KN8 := KN8.on hb
             replace KN10 := KN10.on hb
             replace Z52 := Z52.on hb
             replace La := La.kp (Kept.of hb)
             replace Lb := Lb.kp (Kept.of hb)
             replace Lc := Lc.kp (Kept.of hb)
             replace Ld := Ld.kp (Kept.of hb)
             replace Le := Le.kp (Kept.of hb)
             replace Lf := Lf.kp (Kept.of hb)
             replace L2 := L2.kp (Kept.of hb)
             replace M2 := M2.kp (Kept.of hb)
             replace L4 := L4.kp (Kept.of hb)
             replace M4 := M4.kp (Kept.of hb)
             replace L6 := L6.kp (Kept.of hb)
             replace M6 := M6.kp (Kept.of hb)
             replace L8 := L8.kp (Kept.of hb)
             replace M8 := M8.kp (Kept.of hb)
             replace L10 := L10.kp (Kept.of hb)
             replace M10 := M10.kp (Kept.of hb)
             replace L11 := L11.kp (Kept.of hb)
             replace M11 := M11.kp (Kept.of hb)
             replace BW := BW.trans (hb.mono BW.size)
             clear hb
             refine hK.out _ _ (by exact ⟨K5.cs, K10.cs, K15.cs⟩) (fun hHeld => ?_)
             clear hK
             (try simp only [p0, p1, p2, p3])
             refine pR2 6 7 (fun K hK => ?_) (fun K hK => ?_)
             ·go_simp
              (go_at_call 23; with_reducible refine (h_sum L11 M11 L12 M12 K51 Z52 (Sxx.out.re.fits (by decide)) (Sxx.out.im.fits (by decide))).mono ?_)
              rintro _ w61 ⟨f13, g13, rfl, L13, M13, hb⟩
              (try go_wp2_with fail)
              replace K5 := K5.on hb
              replace K10 := K10.on hb
              replace K15 := K15.on hb
              replace K51 := K51.on hb
              replace KN2 := KN2.on hb
              replace KN4 := KN4.on hb
              replace KN6 := KN6.on hb
              replace KN8 := KN8.on hb
              replace KN10 := KN10.on hb
              replace Z52 := Z52.on hb
              replace La := La.kp (Kept.of hb)
              replace Lb := Lb.kp (Kept.of hb)
              replace Lc := Lc.kp (Kept.of hb)
              replace Ld := Ld.kp (Kept.of hb)
              replace Le := Le.kp (Kept.of hb)
              replace Lf := Lf.kp (Kept.of hb)
              replace L2 := L2.kp (Kept.of hb)
              replace M2 := M2.kp (Kept.of hb)
              replace L4 := L4.kp (Kept.of hb)
              replace M4 := M4.kp (Kept.of hb)
              replace L6 := L6.kp (Kept.of hb)
              replace M6 := M6.kp (Kept.of hb)
              replace L8 := L8.kp (Kept.of hb)
              replace M8 := M8.kp (Kept.of hb)
              replace L10 := L10.kp (Kept.of hb)
              replace M10 := M10.kp (Kept.of hb)
              replace BW := BW.trans (hb.mono BW.size)
              clear hb
              refine hK.out _ _ (by exact ⟨K5.cs, K10.cs, K15.cs⟩) (fun hHeld => ?_)
              clear hK
              (try simp only [p0, p1, p2, p3])
              refine pR1 7 (fun K hK => ?_)
              go_simp
              obtain ⟨V62, e63, hb64, K65, Z66, -⟩ := alloc_new w61 [.bool false, .slice none 0 0, .bool false, .slice none 0 0, .bool false, .slice none 0 0, .bool false, .slice none 0 0] 39
              have n67 : w.heap.size ≠ w61.heap.size := Nat.ne_of_lt (K5.lt)
              have n68 : w.heap.size + 1 ≠ w61.heap.size := Nat.ne_of_lt (K10.lt)
              have n69 : w.heap.size + 1 + 1 ≠ w61.heap.size := Nat.ne_of_lt (K15.lt)
              have n70 : b57 ≠ w61.heap.size := Nat.ne_of_lt (K51.lt)
              have n71 : pk2 ≠ w61.heap.size := Nat.ne_of_lt (KN2.lt)
              have n72 : pk4 ≠ w61.heap.size := Nat.ne_of_lt (KN4.lt)
              have n73 : pk6 ≠ w61.heap.size := Nat.ne_of_lt (KN6.lt)
              have n74 : pk8 ≠ w61.heap.size := Nat.ne_of_lt (KN8.lt)
              have n75 : pk10 ≠ w61.heap.size := Nat.ne_of_lt (KN10.lt)
              have g76 : w.heap.size ≤ w61.heap.size := BW.size
              replace K5 := K5.on hb64
              replace K10 := K10.on hb64
              replace K15 := K15.on hb64
              replace K51 := K51.on hb64
              replace KN2 := KN2.on hb64
              replace KN4 := KN4.on hb64
              replace KN6 := KN6.on hb64
              replace KN8 := KN8.on hb64
              replace KN10 := KN10.on hb64
              replace Z52 := Z52.on hb64
              replace La := La.kp (Kept.of hb64)
              replace Lb := Lb.kp (Kept.of hb64)
              replace Lc := Lc.kp (Kept.of hb64)
              replace Ld := Ld.kp (Kept.of hb64)
              replace Le := Le.kp (Kept.of hb64)
              replace Lf := Lf.kp (Kept.of hb64)
              replace L2 := L2.kp (Kept.of hb64)
              replace M2 := M2.kp (Kept.of hb64)
              replace L4 := L4.kp (Kept.of hb64)
              replace M4 := M4.kp (Kept.of hb64)
              replace L6 := L6.kp (Kept.of hb64)
              replace M6 := M6.kp (Kept.of hb64)
              replace L8 := L8.kp (Kept.of hb64)
              replace M8 := M8.kp (Kept.of hb64)
              replace L10 := L10.kp (Kept.of hb64)
              replace M10 := M10.kp (Kept.of hb64)
              replace L13 := L13.kp (Kept.of hb64)
              replace M13 := M13.kp (Kept.of hb64)
              replace BW := BW.trans (hb64.mono BW.size)
              clear hb64
              rw [← e63]
              clear e63
              generalize w61.heap.size = b77 at *
              refine hK.out _ _ (by exact ⟨K5.cs, K10.cs, K15.cs⟩) (fun hHeld => ?_)
              clear hK
              (try simp only [p0, p1, p2, p3])
              refine pR1 8 (fun K hK => ?_)
              obtain ⟨c78, c79, c80, c81, c82, c83, c84, c85⟩ := K65.c8
              obtain ⟨c86, c87, c88, c89, c90, c91, c92, c93⟩ := Z66.f8
              go_simp
              clear c78 c79 c80 c81 c82 c83 c84 c85 c86 c87 c88 c89 c90 c91 c92 c93
              obtain ⟨V94, hk96⟩ : ∃ V94, V94 = V62.setCells (b77) 0 [.bool f13.n, .slice f13.A f13.xs.length f13.c, .bool f13.m, .slice f13.B f13.ds.length f13.d, .bool g13.n, .slice g13.A g13.xs.length g13.c, .bool g13.m, .slice g13.B g13.ds.length g13.d] := ⟨_, rfl⟩
              have e95 := hk96
              simp only [World.setCells, Nat.zero_add, Nat.reduceAdd] at e95
              have hk97 := Kept.overE hk96 K65 rfl (by simp)
              replace K5 := K5.awayE hk96 n67
              replace K10 := K10.awayE hk96 n68
              replace K15 := K15.awayE hk96 n69
              replace K51 := K51.awayE hk96 n70
              replace KN2 := KN2.awayE hk96 n71
              replace KN4 := KN4.awayE hk96 n72
              replace KN6 := KN6.awayE hk96 n73
              replace KN8 := KN8.awayE hk96 n74
              replace KN10 := KN10.awayE hk96 n75
              replace K65 := K65.overE hk96 rfl
              replace Z52 := Z52.putE hk96
              replace La := La.kp hk97
              replace Lb := Lb.kp hk97
              replace Lc := Lc.kp hk97
              replace Ld := Ld.kp hk97
              replace Le := Le.kp hk97
              replace Lf := Lf.kp hk97
              replace L2 := L2.kp hk97
              replace M2 := M2.kp hk97
              replace L4 := L4.kp hk97
              replace M4 := M4.kp hk97
              replace L6 := L6.kp hk97
              replace M6 := M6.kp hk97
              replace L8 := L8.kp hk97
              replace M8 := M8.kp hk97
              replace L10 := L10.kp hk97
              replace M10 := M10.kp hk97
              replace L13 := L13.kp hk97
              replace M13 := M13.kp hk97
              replace BW := Below.putE BW hk96 g76
              clear hk96 hk97
              rw [← e95]
              clear e95
              refine hK.out _ _ (by exact ⟨K5.cs, K10.cs, K15.cs⟩) (fun hHeld => ?_)
              clear hK
              (try simp only [p0, p1, p2, p3])
              refine wpAnyH_done (by kernel_rfl) (NoPanic.normal ?_) _
              go_wp2
              go_meet
              exact ⟨b77, f13, g13, rfl, BW, K5, K10, K15, K51, KN2, KN4, KN6, KN8, KN10, Z52, La, Lb, Lc, Ld, Le, Lf, L2, M2, L4, M4, L6, M6, L8, M8, L10, M10, K65, L13, M13⟩
             ·go_simp
              obtain ⟨V61, e62, hb63, K64, Z65, -⟩ := alloc_new w60 [.bool false, .slice none 0 0, .bool false, .slice none 0 0, .bool false, .slice none 0 0, .bool false, .slice none 0 0] 39
              have n66 : w.heap.size ≠ w60.heap.size := Nat.ne_of_lt (K5.lt)
              have n67 : w.heap.size + 1 ≠ w60.heap.size := Nat.ne_of_lt (K10.lt)
              have n68 : w.heap.size + 1 + 1 ≠ w60.heap.size := Nat.ne_of_lt (K15.lt)
              have n69 : b57 ≠ w60.heap.size := Nat.ne_of_lt (K51.lt)
              have n70 : pk2 ≠ w60.heap.size := Nat.ne_of_lt (KN2.lt)
              have n71 : pk4 ≠ w60.heap.size := Nat.ne_of_lt (KN4.lt)
              have n72 : pk6 ≠ w60.heap.size := Nat.ne_of_lt (KN6.lt)
              have n73 : pk8 ≠ w60.heap.size := Nat.ne_of_lt (KN8.lt)
              have n74 : pk10 ≠ w60.heap.size := Nat.ne_of_lt (KN10.lt)
              have g75 : w.heap.size ≤ w60.heap.size := BW.size
              replace K5 := K5.on hb63
              replace K10 := K10.on hb63
              replace K15 := K15.on hb63
              replace K51 := K51.on hb63
              replace KN2 := KN2.on hb63
              replace KN4 := KN4.on hb63
              replace KN6 := KN6.on hb63
              replace KN8 := KN8.on hb63
              replace KN10 := KN10.on hb63
              replace Z52 := Z52.on hb63
              replace La := La.kp (Kept.of hb63)
              replace Lb := Lb.kp (Kept.of hb63)
              replace Lc := Lc.kp (Kept.of hb63)
              replace Ld := Ld.kp (Kept.of hb63)
              replace Le := Le.kp (Kept.of hb63)
              replace Lf := Lf.kp (Kept.of hb63)
              replace L2 := L2.kp (Kept.of hb63)
              replace M2 := M2.kp (Kept.of hb63)
              replace L4 := L4.kp (Kept.of hb63)
              replace M4 := M4.kp (Kept.of hb63)
              replace L6 := L6.kp (Kept.of hb63)
              replace M6 := M6.kp (Kept.of hb63)
              replace L8 := L8.kp (Kept.of hb63)
              replace M8 := M8.kp (Kept.of hb63)
              replace L10 := L10.kp (Kept.of hb63)
              replace M10 := M10.kp (Kept.of hb63)
              replace L11 := L11.kp (Kept.of hb63)
              replace M11 := M11.kp (Kept.of hb63)
              replace L12 := L12.kp (Kept.of hb63)
              replace M12 := M12.kp (Kept.of hb63)
              replace BW := BW.trans (hb63.mono BW.size)
              clear hb63
              rw [← e62]
              clear e62
              generalize w60.heap.size = b76 at *
              refine hK.out _ _ (by exact ⟨K5.cs, K10.cs, K15.cs⟩) (fun hHeld => ?_)
              clear hK
              (try simp only [p0, p1, p2, p3])
              refine pR1 6 (fun K hK => ?_)
              go_simp
              (go_at_call 23; with_reducible refine (h_sum L11 M11 L12 M12 K51 Z52 (Sxx.out.re.fits (by decide)) (Sxx.out.im.fits (by decide))).mono ?_)
              rintro _ w77 ⟨f13, g13, rfl, L13, M13, hb⟩
              (try go_wp2_with fail)
              replace K5 := K5.on hb
              replace K10 := K10.on hb
              replace K15 := K15.on hb
              replace K51 := K51.on hb
              replace KN2 := KN2.on hb
              replace KN4 := KN4.on hb
              replace KN6 := KN6.on hb
              replace KN8 := KN8.on hb
              replace KN10 := KN10.on hb
              replace K64 := K64.on hb
              replace Z52 := Z52.on hb
              replace Z65 := Z65.on hb
              replace La := La.kp (Kept.of hb)
              replace Lb := Lb.kp (Kept.of hb)
              replace Lc := Lc.kp (Kept.of hb)
              replace Ld := Ld.kp (Kept.of hb)
              replace Le := Le.kp (Kept.of hb)
              replace Lf := Lf.kp (Kept.of hb)
              replace L2 := L2.kp (Kept.of hb)
              replace M2 := M2.kp (Kept.of hb)
              replace L4 := L4.kp (Kept.of hb)
              replace M4 := M4.kp (Kept.of hb)
              replace L6 := L6.kp (Kept.of hb)
              replace M6 := M6.kp (Kept.of hb)
              replace L8 := L8.kp (Kept.of hb)
              replace M8 := M8.kp (Kept.of hb)
              replace L10 := L10.kp (Kept.of hb)
              replace M10 := M10.kp (Kept.of hb)
              replace BW := BW.trans (hb.mono BW.size)
              clear hb
              refine hK.out _ _ (by exact ⟨K5.cs, K10.cs, K15.cs⟩) (fun hHeld => ?_)
              clear hK
              (try simp only [p0, p1, p2, p3])
              refine pR1 8 (fun K hK => ?_)
              obtain ⟨c78, c79, c80, c81, c82, c83, c84, c85⟩ := K64.c8
              obtain ⟨c86, c87, c88, c89, c90, c91, c92, c93⟩ := Z65.f8
              go_simp
              clear c78 c79 c80 c81 c82 c83 c84 c85 c86 c87 c88 c89 c90 c91 c92 c93
              obtain ⟨V94, hk96⟩ : ∃ V94, V94 = w77.setCells (b76) 0 [.bool f13.n, .slice f13.A f13.xs.length f13.c, .bool f13.m, .slice f13.B f13.ds.length f13.d, .bool g13.n, .slice g13.A g13.xs.length g13.c, .bool g13.m, .slice g13.B g13.ds.length g13.d] := ⟨_, rfl⟩
              have e95 := hk96
              simp only [World.setCells, Nat.zero_add, Nat.reduceAdd] at e95
              have hk97 := Kept.overE hk96 K64 rfl (by simp)
              replace K5 := K5.awayE hk96 n66
              replace K10 := K10.awayE hk96 n67
              replace K15 := K15.awayE hk96 n68
              replace K51 := K51.awayE hk96 n69
              replace KN2 := KN2.awayE hk96 n70
              replace KN4 := KN4.awayE hk96 n71
              replace KN6 := KN6.awayE hk96 n72
              replace KN8 := KN8.awayE hk96 n73
              replace KN10 := KN10.awayE hk96 n74
              replace K64 := K64.overE hk96 rfl
              replace Z52 := Z52.putE hk96
              replace La := La.kp hk97
              replace Lb := Lb.kp hk97
              replace Lc := Lc.kp hk97
              replace Ld := Ld.kp hk97
              replace Le := Le.kp hk97
              replace Lf := Lf.kp hk97
              replace L2 := L2.kp hk97
              replace M2 := M2.kp hk97
              replace L4 := L4.kp hk97
              replace M4 := M4.kp hk97
              replace L6 := L6.kp hk97
              replace M6 := M6.kp hk97
              replace L8 := L8.kp hk97
              replace M8 := M8.kp hk97
              replace L10 := L10.kp hk97
              replace M10 := M10.kp hk97
              replace L13 := L13.kp hk97
              replace M13 := M13.kp hk97
              replace BW := Below.putE BW hk96 g75
              clear hk96 hk97
              rw [← e95]
              clear e95
              refine hK.out _ _ (by exact ⟨K5.cs, K10.cs, K15.cs⟩) (fun hHeld => ?_)
              clear hK
              (try simp only [p0, p1, p2, p3])
              refine wpAnyH_done (by kernel_rfl) (NoPanic.normal ?_) _
              go_wp2
              go_meet
              exact ⟨b76, f13, g13, rfl, BW, K5, K10, K15, K51, KN2, KN4, KN6, KN8, KN10, Z52, La, Lb, Lc, Ld, Le, Lf, L2, M2, L4, M4, L6, M6, L8, M8, L10, M10, K64, L13, M13⟩
            ·go_simp
             obtain ⟨V60, e61, hb62, K63, Z64, -⟩ := alloc_new w59 [.bool false, .slice none 0 0, .bool false, .slice none 0 0, .bool false, .slice none 0 0, .bool false, .slice none 0 0] 39
             have n65 : w.heap.size ≠ w59.heap.size := Nat.ne_of_lt (K5.lt)
             have n66 : w.heap.size + 1 ≠ w59.heap.size := Nat.ne_of_lt (K10.lt)
             have n67 : w.heap.size + 1 + 1 ≠ w59.heap.size := Nat.ne_of_lt (K15.lt)
             have n68 : b57 ≠ w59.heap.size := Nat.ne_of_lt (K51.lt)
             have n69 : pk2 ≠ w59.heap.size := Nat.ne_of_lt (KN2.lt)
             have n70 : pk4 ≠ w59.heap.size := Nat.ne_of_lt (KN4.lt)
             have n71 : pk6 ≠ w59.heap.size := Nat.ne_of_lt (KN6.lt)
             have n72 : pk8 ≠ w59.heap.size := Nat.ne_of_lt (KN8.lt)
             have n73 : pk10 ≠ w59.heap.size := Nat.ne_of_lt (KN10.lt)
             have g74 : w.heap.size ≤ w59.heap.size := BW.size
             replace K5 := K5.on hb62
             replace K10 := K10.on hb62
             replace K15 := K15.on hb62
             replace K51 := K51.on hb62
             replace KN2 := KN2.on hb62
             replace KN4 := KN4.on hb62
             replace KN6 := KN6.on hb62
             replace KN8 := KN8.on hb62
             replace KN10 := KN10.on hb62
             replace Z52 := Z52.on hb62
             replace La := La.kp (Kept.of hb62)
             replace Lb := Lb.kp (Kept.of hb62)
             replace Lc := Lc.kp (Kept.of hb62)
             replace Ld := Ld.kp (Kept.of hb62)
             replace Le := Le.kp (Kept.of hb62)
             replace Lf := Lf.kp (Kept.of hb62)
             replace L2 := L2.kp (Kept.of hb62)
             replace M2 := M2.kp (Kept.of hb62)
             replace L4 := L4.kp (Kept.of hb62)
             replace M4 := M4.kp (Kept.of hb62)
             replace L6 := L6.kp (Kept.of hb62)
             replace M6 := M6.kp (Kept.of hb62)
             replace L8 := L8.kp (Kept.of hb62)
             replace M8 := M8.kp (Kept.of hb62)
             replace L10 := L10.kp (Kept.of hb62)
             replace M10 := M10.kp (Kept.of hb62)
             replace L11 := L11.kp (Kept.of hb62)
             replace M11 := M11.kp (Kept.of hb62)
             replace BW := BW.trans (hb62.mono BW.size)
             clear hb62
             rw [← e61]
             clear e61
             generalize w59.heap.size = b75 at *
             refine hK.out _ _ (by exact ⟨K5.cs, K10.cs, K15.cs⟩) (fun hHeld => ?_)
             clear hK
             (try simp only [p0, p1, p2, p3])
             refine pR1 5 (fun K hK => ?_)
             go_simp
             (go_at_call 24; with_reducible refine (h_times La Lb Le Lf K51 Z52 (Pxz.out.re.fits (by decide)) (Pxz.out.im.fits (by decide))).mono ?_)
             rintro _ w76 ⟨f12, g12, rfl, L12, M12, hb⟩
             (try go_wp2_with fail)
             replace K5 := K5.on hb
             replace K10 := K10.on hb
             replace K15 := K15.on hb
             replace K51 := K51.on hb
             replace KN2 := KN2.on hb
             replace KN4 := KN4.on hb
             replace KN6 := KN6.on hb
             replace KN8 := KN8.on hb
             replace KN10 := KN10.on hb
             replace K63 := K63.on hb
             replace Z52 := Z52.on hb
             replace Z64 := Z64.on hb
             replace La := La.kp (Kept.of hb)
             replace Lb := Lb.kp (Kept.of hb)
             replace Lc := Lc.kp (Kept.of hb)
             replace Ld := Ld.kp (Kept.of hb)
             replace Le := Le.kp (Kept.of hb)
             replace Lf := Lf.kp (Kept.of hb)
             replace L2 := L2.kp (Kept.of hb)
             replace M2 := M2.kp (Kept.of hb)
             replace L4 := L4.kp (Kept.of hb)
             replace M4 := M4.kp (Kept.of hb)
             replace L6 := L6.kp (Kept.of hb)
             replace M6 := M6.kp (Kept.of hb)
             replace L8 := L8.kp (Kept.of hb)
             replace M8 := M8.kp (Kept.of hb)
             replace L10 := L10.kp (Kept.of hb)
             replace M10 := M10.kp (Kept.of hb)
             replace L11 := L11.kp (Kept.of hb)
             replace M11 := M11.kp (Kept.of hb)
             replace BW := BW.trans (hb.mono BW.size)
             clear hb
             refine hK.out _ _ (by exact ⟨K5.cs, K10.cs, K15.cs⟩) (fun hHeld => ?_)
             clear hK
             (try simp only [p0, p1, p2, p3])
             refine pR1 6 (fun K hK => ?_)
             go_simp
             (go_at_call 23; with_reducible refine (h_sum L11 M11 L12 M12 K51 Z52 (Sxx.out.re.fits (by decide)) (Sxx.out.im.fits (by decide))).mono ?_)
             rintro _ w77 ⟨f13, g13, rfl, L13, M13, hb⟩
             (try go_wp2_with fail)
             replace K5 := K5.on hb
             replace K10 := K10.on hb
             replace K15 := K15.on hb
             replace K51 := K51.on hb
             replace KN2 := KN2.on hb
             replace KN4 := KN4.on hb
             replace KN6 := KN6.on hb
             replace KN8 := KN8.on hb
             replace KN10 := KN10.on hb
             replace K63 := K63.on hb
             replace Z52 := Z52.on hb
             replace Z64 := Z64.on hb
             replace La := La.kp (Kept.of hb)
             replace Lb := Lb.kp (Kept.of hb)
             replace Lc := Lc.kp (Kept.of hb)
             replace Ld := Ld.kp (Kept.of hb)
             replace Le := Le.kp (Kept.of hb)
             replace Lf := Lf.kp (Kept.of hb)
             replace L2 := L2.kp (Kept.of hb)
             replace M2 := M2.kp (Kept.of hb)
             replace L4 := L4.kp (Kept.of hb)
             replace M4 := M4.kp (Kept.of hb)
             replace L6 := L6.kp (Kept.of hb)
             replace M6 := M6.kp (Kept.of hb)
             replace L8 := L8.kp (Kept.of hb)
             replace M8 := M8.kp (Kept.of hb)
             replace L10 := L10.kp (Kept.of hb)
             replace M10 := M10.kp (Kept.of hb)
             replace BW := BW.trans (hb.mono BW.size)
             clear hb
             refine hK.out _ _ (by exact ⟨K5.cs, K10.cs, K15.cs⟩) (fun hHeld => ?_)
             clear hK
             (try simp only [p0, p1, p2, p3])
             refine pR1 8 (fun K hK => ?_)
             obtain ⟨c78, c79, c80, c81, c82, c83, c84, c85⟩ := K63.c8
             obtain ⟨c86, c87, c88, c89, c90, c91, c92, c93⟩ := Z64.f8
             go_simp
             clear c78 c79 c80 c81 c82 c83 c84 c85 c86 c87 c88 c89 c90 c91 c92 c93
             obtain ⟨V94, hk96⟩ : ∃ V94, V94 = w77.setCells (b75) 0 [.bool f13.n, .slice f13.A f13.xs.length f13.c, .bool f13.m, .slice f13.B f13.ds.length f13.d, .bool g13.n, .slice g13.A g13.xs.length g13.c, .bool g13.m, .slice g13.B g13.ds.length g13.d] := ⟨_, rfl⟩
             have e95 := hk96
             simp only [World.setCells, Nat.zero_add, Nat.reduceAdd] at e95
             have hk97 := Kept.overE hk96 K63 rfl (by simp)
             replace K5 := K5.awayE hk96 n65
             replace K10 := K10.awayE hk96 n66
             replace K15 := K15.awayE hk96 n67
             replace K51 := K51.awayE hk96 n68
             replace KN2 := KN2.awayE hk96 n69
             replace KN4 := KN4.awayE hk96 n70
             replace KN6 := KN6.awayE hk96 n71
             replace KN8 := KN8.awayE hk96 n72
             replace KN10 := KN10.awayE hk96 n73
             replace K63 := K63.overE hk96 rfl
             replace Z52 := Z52.putE hk96
             replace La := La.kp hk97
             replace Lb := Lb.kp hk97
             replace Lc := Lc.kp hk97
             replace Ld := Ld.kp hk97
             replace Le := Le.kp hk97
             replace Lf := Lf.kp hk97
             replace L2 := L2.kp hk97
             replace M2 := M2.kp hk97
             replace L4 := L4.kp hk97
             replace M4 := M4.kp hk97
             replace L6 := L6.kp hk97
             replace M6 := M6.kp hk97
             replace L8 := L8.kp hk97
             replace M8 := M8.kp hk97
             replace L10 := L10.kp hk97
             replace M10 := M10.kp hk97
             replace L13 := L13.kp hk97
             replace M13 := M13.kp hk97
             replace BW := Below.putE BW hk96 g74
             clear hk96 hk97
             rw [← e95]
             clear e95
             refine hK.out _ _ (by exact ⟨K5.cs, K10.cs, K15.cs⟩) (fun hHeld => ?_)
             clear hK
             (try simp only [p0, p1, p2, p3])
             refine wpAnyH_done (by kernel_rfl) (NoPanic.normal ?_) _
             go_wp2
             go_meet
             exact ⟨b75, f13, g13, rfl, BW, K5, K10, K15, K51, KN2, KN4, KN6, KN8, KN10, Z52, La, Lb, Lc, Ld, Le, Lf, L2, M2, L4, M4, L6, M6, L8, M8, L10, M10, K63, L13, M13⟩
           ·go_simp
            obtain ⟨V59, e60, hb61, K62, Z63, -⟩ := alloc_new Vd58 [.bool false, .slice none 0 0, .bool false, .slice none 0 0, .bool false, .slice none 0 0, .bool false, .slice none 0 0] 39
            have n64 : w.heap.size ≠ Vd58.heap.size := Nat.ne_of_lt (K5.lt)
            have n65 : w.heap.size + 1 ≠ Vd58.heap.size := Nat.ne_of_lt (K10.lt)
            have n66 : w.heap.size + 1 + 1 ≠ Vd58.heap.size := Nat.ne_of_lt (K15.lt)
            have n67 : b57 ≠ Vd58.heap.size := Nat.ne_of_lt (K51.lt)
            have n68 : pk2 ≠ Vd58.heap.size := Nat.ne_of_lt (KN2.lt)
            have n69 : pk4 ≠ Vd58.heap.size := Nat.ne_of_lt (KN4.lt)
            have n70 : pk6 ≠ Vd58.heap.size := Nat.ne_of_lt (KN6.lt)
            have n71 : pk8 ≠ Vd58.heap.size := Nat.ne_of_lt (KN8.lt)
            have n72 : pk10 ≠ Vd58.heap.size := Nat.ne_of_lt (KN10.lt)
            have g73 : w.heap.size ≤ Vd58.heap.size := BW.size
            replace K5 := K5.on hb61
            replace K10 := K10.on hb61
            replace K15 := K15.on hb61
            replace K51 := K51.on hb61
            replace KN2 := KN2.on hb61
            replace KN4 := KN4.on hb61
            replace KN6 := KN6.on hb61
            replace KN8 := KN8.on hb61
            replace KN10 := KN10.on hb61
            replace Z52 := Z52.on hb61
            replace La := La.kp (Kept.of hb61)
            replace Lb := Lb.kp (Kept.of hb61)
            replace Lc := Lc.kp (Kept.of hb61)
            replace Ld := Ld.kp (Kept.of hb61)
            replace Le := Le.kp (Kept.of hb61)
            replace Lf := Lf.kp (Kept.of hb61)
            replace L2 := L2.kp (Kept.of hb61)
            replace M2 := M2.kp (Kept.of hb61)
            replace L4 := L4.kp (Kept.of hb61)
            replace M4 := M4.kp (Kept.of hb61)
            replace L6 := L6.kp (Kept.of hb61)
            replace M6 := M6.kp (Kept.of hb61)
            replace L8 := L8.kp (Kept.of hb61)
            replace M8 := M8.kp (Kept.of hb61)
            replace L10 := L10.kp (Kept.of hb61)
            replace M10 := M10.kp (Kept.of hb61)
            replace BW := BW.trans (hb61.mono BW.size)
            clear hb61
            rw [← e60]
            clear e60
            generalize Vd58.heap.size = b74 at *
            refine hK.out _ _ (by exact ⟨K5.cs, K10.cs, K15.cs⟩) (fun hHeld => ?_)
            clear hK
            (try simp only [p0, p1, p2, p3])
            refine pR1 2 (fun K hK => ?_)
            go_simp
            (go_at_call 24; with_reducible refine (h_times La Lb Lc Ld K51 Z52 (Pxy.out.re.fits (by decide)) (Pxy.out.im.fits (by decide))).mono ?_)
            rintro _ w75 ⟨f11, g11, rfl, L11, M11, hb⟩
            (try go_wp2_with fail)
            replace K5 := K5.on hb
            replace K10 := K10.on hb
            replace K15 := K15.on hb
            replace K51 := K51.on hb
            replace KN2 := KN2.on hb
            replace KN4 := KN4.on hb
            replace KN6 := KN6.on hb
            replace KN8 := KN8.on hb
            replace KN10 := KN10.on hb
            replace K62 := K62.on hb
            replace Z52 := Z52.on hb
            replace Z63 := Z63.on hb
            replace La := La.kp (Kept.of hb)
            replace Lb := Lb.kp (Kept.of hb)
            replace Lc := Lc.kp (Kept.of hb)
            replace Ld := Ld.kp (Kept.of hb)
            replace Le := Le.kp (Kept.of hb)
            replace Lf := Lf.kp (Kept.of hb)
            replace L2 := L2.kp (Kept.of hb)
            replace M2 := M2.kp (Kept.of hb)
            replace L4 := L4.kp (Kept.of hb)
            replace M4 := M4.kp (Kept.of hb)
            replace L6 := L6.kp (Kept.of hb)
            replace M6 := M6.kp (Kept.of hb)
            replace L8 := L8.kp (Kept.of hb)
            replace M8 := M8.kp (Kept.of hb)
            replace L10 := L10.kp (Kept.of hb)
            replace M10 := M10.kp (Kept.of hb)
            replace BW := BW.trans (hb.mono BW.size)
            clear hb
            refine hK.out _ _ (by exact ⟨K5.cs, K10.cs, K15.cs⟩) (fun hHeld => ?_)
            clear hK
            (try simp only [p0, p1, p2, p3])
            refine pR1 5 (fun K hK => ?_)
            go_simp
            (go_at_call 24; with_reducible refine (h_times La Lb Le Lf K51 Z52 (Pxz.out.re.fits (by decide)) (Pxz.out.im.fits (by decide))).mono ?_)
            rintro _ w76 ⟨f12, g12, rfl, L12, M12, hb⟩
            (try go_wp2_with fail)
            replace K5 := K5.on hb
            replace K10 := K10.on hb
            replace K15 := K15.on hb
            replace K51 := K51.on hb
            replace KN2 := KN2.on hb
            replace KN4 := KN4.on hb
            replace KN6 := KN6.on hb
            replace KN8 := KN8.on hb
            replace KN10 := KN10.on hb
            replace K62 := K62.on hb
            replace Z52 := Z52.on hb
            replace Z63 := Z63.on hb
            replace La := La.kp (Kept.of hb)
            replace Lb := Lb.kp (Kept.of hb)
            replace Lc := Lc.kp (Kept.of hb)
            replace Ld := Ld.kp (Kept.of hb)
            replace Le := Le.kp (Kept.of hb)
            replace Lf := Lf.kp (Kept.of hb)
            replace L2 := L2.kp (Kept.of hb)
            replace M2 := M2.kp (Kept.of hb)
            replace L4 := L4.kp (Kept.of hb)
            replace M4 := M4.kp (Kept.of hb)
            replace L6 := L6.kp (Kept.of hb)
            replace M6 := M6.kp (Kept.of hb)
            replace L8 := L8.kp (Kept.of hb)
            replace M8 := M8.kp (Kept.of hb)
            replace L10 := L10.kp (Kept.of hb)
            replace M10 := M10.kp (Kept.of hb)
            replace L11 := L11.kp (Kept.of hb)
            replace M11 := M11.kp (Kept.of hb)
            replace BW := BW.trans (hb.mono BW.size)
            clear hb
            refine hK.out _ _ (by exact ⟨K5.cs, K10.cs, K15.cs⟩) (fun hHeld => ?_)
            clear hK
            (try simp only [p0, p1, p2, p3])
            refine pR1 6 (fun K hK => ?_)
            go_simp
            (go_at_call 23; with_reducible refine (h_sum L11 M11 L12 M12 K51 Z52 (Sxx.out.re.fits (by decide)) (Sxx.out.im.fits (by decide))).mono ?_)
            rintro _ w77 ⟨f13, g13, rfl, L13, M13, hb⟩
            (try go_wp2_with fail)
            replace K5 := K5.on hb
            replace K10 := K10.on hb
            replace K15 := K15.on hb
            replace K51 := K51.on hb
            replace KN2 := KN2.on hb
            replace KN4 := KN4.on hb
            replace KN6 := KN6.on hb
            replace KN8 := KN8.on hb
            replace KN10 := KN10.on hb
            replace K62 := K62.on hb
            replace Z52 := Z52.on hb
            replace Z63 := Z63.on hb
            replace La := La.kp (Kept.of hb)
            replace Lb := Lb.kp (Kept.of hb)
            replace Lc := Lc.kp (Kept.of hb)
            replace Ld := Ld.kp (Kept.of hb)
            replace Le := Le.kp (Kept.of hb)
            replace Lf := Lf.kp (Kept.of hb)
            replace L2 := L2.kp (Kept.of hb)
            replace M2 := M2.kp (Kept.of hb)
            replace L4 := L4.kp (Kept.of hb)
            replace M4 := M4.kp (Kept.of hb)
            replace L6 := L6.kp (Kept.of hb)
            replace M6 := M6.kp (Kept.of hb)
            replace L8 := L8.kp (Kept.of hb)
            replace M8 := M8.kp (Kept.of hb)
            replace L10 := L10.kp (Kept.of hb)
            replace M10 := M10.kp (Kept.of hb)
            replace BW := BW.trans (hb.mono BW.size)
            clear hb
            refine hK.out _ _ (by exact ⟨K5.cs, K10.cs, K15.cs⟩) (fun hHeld => ?_)
            clear hK
            (try simp only [p0, p1, p2, p3])
            refine pR1 8 (fun K hK => ?_)
            obtain ⟨c78, c79, c80, c81, c82, c83, c84, c85⟩ := K62.c8
            obtain ⟨c86, c87, c88, c89, c90, c91, c92, c93⟩ := Z63.f8
            go_simp
            clear c78 c79 c80 c81 c82 c83 c84 c85 c86 c87 c88 c89 c90 c91 c92 c93
            obtain ⟨V94, hk96⟩ : ∃ V94, V94 = w77.setCells (b74) 0 [.bool f13.n, .slice f13.A f13.xs.length f13.c, .bool f13.m, .slice f13.B f13.ds.length f13.d, .bool g13.n, .slice g13.A g13.xs.length g13.c, .bool g13.m, .slice g13.B g13.ds.length g13.d] := ⟨_, rfl⟩
            have e95 := hk96
            simp only [World.setCells, Nat.zero_add, Nat.reduceAdd] at e95
            have hk97 := Kept.overE hk96 K62 rfl (by simp)
            replace K5 := K5.awayE hk96 n64
            replace K10 := K10.awayE hk96 n65
            replace K15 := K15.awayE hk96 n66
            replace K51 := K51.awayE hk96 n67
            replace KN2 := KN2.awayE hk96 n68
            replace KN4 := KN4.awayE hk96 n69
            replace KN6 := KN6.awayE hk96 n70
            replace KN8 := KN8.awayE hk96 n71
            replace KN10 := KN10.awayE hk96 n72
            replace K62 := K62.overE hk96 rfl
            replace Z52 := Z52.putE hk96
            replace La := La.kp hk97
            replace Lb := Lb.kp hk97
            replace Lc := Lc.kp hk97
            replace Ld := Ld.kp hk97
            replace Le := Le.kp hk97
            replace Lf := Lf.kp hk97
            replace L2 := L2.kp hk97
            replace M2 := M2.kp hk97
            replace L4 := L4.kp hk97
            replace M4 := M4.kp hk97
            replace L6 := L6.kp hk97
            replace M6 := M6.kp hk97
            replace L8 := L8.kp hk97
            replace M8 := M8.kp hk97
            replace L10 := L10.kp hk97
            replace M10 := M10.kp hk97
            replace L13 := L13.kp hk97
            replace M13 := M13.kp hk97
            replace BW := Below.putE BW hk96 g73
            clear hk96 hk97
            rw [← e95]
            clear e95
            refine hK.out _ _ (by exact ⟨K5.cs, K10.cs, K15.cs⟩) (fun hHeld => ?_)
            clear hK
            (try simp only [p0, p1, p2, p3])
            refine wpAnyH_done (by kernel_rfl) (NoPanic.normal ?_) _
            go_wp2
            go_meet
            exact ⟨b74, f13, g13, rfl, BW, K5, K10, K15, K51, KN2, KN4, KN6, KN8, KN10, Z52, La, Lb, Lc, Ld, Le, Lf, L2, M2, L4, M4, L6, M6, L8, M8, L10, M10, K62, L13, M13⟩
          case rest =>
           obtain ⟨pk13, f13, g13, rfl, BW, K5, K10, K15, K51, KN2, KN4, KN6, KN8, KN10, Z52, La, Lb, Lc, Ld, Le, Lf, L2, M2, L4, M4, L6, M6, L8, M8, L10, M10, KN13, L13, M13⟩ := hcut
           obtain ⟨c58, c59, c60, c61, c62, c63, c64, c65⟩ := K15.c8
           obtain ⟨c66, c67, c68, c69, c70, c71, c72, c73⟩ := KN2.c8
           go_wp2_with fail
           clear c58 c59 c60 c61 c62 c63 c64 c65 c66 c67 c68 c69 c70 c71 c72 c73
           refine (g_Sub L2 M2 Le Lf).mono ?_
           rintro _ w74 ⟨f14, g14, er, rfl, R14, hb⟩
           replace K5 := K5.on hb
           replace K10 := K10.on hb
           replace K15 := K15.on hb
           replace K51 := K51.on hb
           replace KN2 := KN2.on hb
           replace KN4 := KN4.on hb
           replace KN6 := KN6.on hb
           replace KN8 := KN8.on hb
           replace KN10 := KN10.on hb
           replace KN13 := KN13.on hb
           replace Z52 := Z52.on hb
           replace La := La.kp (Kept.of hb)
           replace Lb := Lb.kp (Kept.of hb)
           replace Lc := Lc.kp (Kept.of hb)
           replace Ld := Ld.kp (Kept.of hb)
           replace Le := Le.kp (Kept.of hb)
           replace Lf := Lf.kp (Kept.of hb)
           replace L2 := L2.kp (Kept.of hb)
           replace M2 := M2.kp (Kept.of hb)
           replace L4 := L4.kp (Kept.of hb)
           replace M4 := M4.kp (Kept.of hb)
           replace L6 := L6.kp (Kept.of hb)
           replace M6 := M6.kp (Kept.of hb)
           replace L8 := L8.kp (Kept.of hb)
           replace M8 := M8.kp (Kept.of hb)
           replace L10 := L10.kp (Kept.of hb)
           replace M10 := M10.kp (Kept.of hb)
           replace L13 := L13.kp (Kept.of hb)
           replace M13 := M13.kp (Kept.of hb)
           replace BW := BW.trans (hb.mono BW.size)
           clear hb
           obtain ⟨rfl, L14, M14⟩ := R14.yes not_false (by rw [show ((x + y) + z) - z = (x + y) by grind]; exact Hxy.out.re.fits (by decide)) (by rw [show ((x' + y') + z') - z' = (x' + y') by grind]; exact Hxy.out.im.fits (by decide))
           clear R14
           replace L14 := L14.to (p := (x + y)) (by grind)
           replace M14 := M14.to (p := (x' + y')) (by grind)
           replace L4 := L4.to (p := ((x + y) + z)) (by grind)
           replace M4 := M4.to (p := ((x' + y') + z')) (by grind)
           replace L8 := L8.to (p := ((x * y - x' * y') * z - (x * y' + x' * y) * z')) (by grind)
           replace M8 := M8.to (p := ((x * y - x' * y') * z' + (x * y' + x' * y) * z)) (by grind)
           replace L13 := L13.to (p := (x * (y + z) - x' * (y' + z'))) (by grind)
           replace M13 := M13.to (p := (x * (y' + z') + x' * (y + z))) (by grind)
           obtain ⟨V75, e76, hb77, K78, -, -⟩ := alloc_new w74 [.bool f14.n, .slice f14.A f14.xs.length f14.c, .bool f14.m, .slice f14.B f14.ds.length f14.d, .bool g14.n, .slice g14.A g14.xs.length g14.c, .bool g14.m, .slice g14.B g14.ds.length g14.d] 39
           have n79 : b57 ≠ w74.heap.size := Nat.ne_of_lt (K51.lt)
           replace K5 := K5.on hb77
           replace K10 := K10.on hb77
           replace K15 := K15.on hb77
           replace K51 := K51.on hb77
           replace KN2 := KN2.on hb77
           replace KN4 := KN4.on hb77
           replace KN6 := KN6.on hb77
           replace KN8 := KN8.on hb77
           replace KN10 := KN10.on hb77
           replace KN13 := KN13.on hb77
           replace Z52 := Z52.on hb77
           replace La := La.kp (Kept.of hb77)
           replace Lb := Lb.kp (Kept.of hb77)
           replace Lc := Lc.kp (Kept.of hb77)
           replace Ld := Ld.kp (Kept.of hb77)
           replace Le := Le.kp (Kept.of hb77)
           replace Lf := Lf.kp (Kept.of hb77)
           replace L2 := L2.kp (Kept.of hb77)
           replace M2 := M2.kp (Kept.of hb77)
           replace L4 := L4.kp (Kept.of hb77)
           replace M4 := M4.kp (Kept.of hb77)
           replace L6 := L6.kp (Kept.of hb77)
           replace M6 := M6.kp (Kept.of hb77)
           replace L8 := L8.kp (Kept.of hb77)
           replace M8 := M8.kp (Kept.of hb77)
           replace L10 := L10.kp (Kept.of hb77)
           replace M10 := M10.kp (Kept.of hb77)
           replace L13 := L13.kp (Kept.of hb77)
           replace M13 := M13.kp (Kept.of hb77)
           replace L14 := L14.kp (Kept.of hb77)
           replace M14 := M14.kp (Kept.of hb77)
           replace BW := BW.trans (hb77.mono BW.size)
           clear hb77
           go_wp2_with fail
           rw [← e76]
           clear e76
           generalize w74.heap.size = b80 at *
           refine wp_region_noPanic ?_
           have hb : Below V75.heap.size V75 V75.drew := (Below.refl _ _).drew
           replace K5 := K5.on hb
           replace K10 := K10.on hb
           replace K15 := K15.on hb
           replace K51 := K51.on hb
           replace KN2 := KN2.on hb
           replace KN4 := KN4.on hb
           replace KN6 := KN6.on hb
           replace KN8 := KN8.on hb
           replace KN10 := KN10.on hb
           replace KN13 := KN13.on hb
           replace K78 := K78.on hb
           replace Z52 := Z52.on hb
           replace La := La.kp (Kept.of hb)
           replace Lb := Lb.kp (Kept.of hb)
           replace Lc := Lc.kp (Kept.of hb)
           replace Ld := Ld.kp (Kept.of hb)
           replace Le := Le.kp (Kept.of hb)
           replace Lf := Lf.kp (Kept.of hb)
           replace L2 := L2.kp (Kept.of hb)
           replace M2 := M2.kp (Kept.of hb)
           replace L4 := L4.kp (Kept.of hb)
           replace M4 := M4.kp (Kept.of hb)
           replace L6 := L6.kp (Kept.of hb)
           replace M6 := M6.kp (Kept.of hb)
           replace L8 := L8.kp (Kept.of hb)
           replace M8 := M8.kp (Kept.of hb)
           replace L10 := L10.kp (Kept.of hb)
           replace M10 := M10.kp (Kept.of hb)
           replace L13 := L13.kp (Kept.of hb)
           replace M13 := M13.kp (Kept.of hb)
           replace L14 := L14.kp (Kept.of hb)
           replace M14 := M14.kp (Kept.of hb)
           replace BW := BW.trans (hb.mono BW.size)
           clear hb
           refine wp_region_held_drew (S := (fun wx => Cs wx (w.heap.size) 0 [.bool a.n, .slice a.A a.xs.length a.c, .bool a.m, .slice a.B a.ds.length a.d, .bool b.n, .slice b.A b.xs.length b.c, .bool b.m, .slice b.B b.ds.length b.d] ∧ Cs wx (w.heap.size + 1) 0 [.bool c.n, .slice c.A c.xs.length c.c, .bool c.m, .slice c.B c.ds.length c.d, .bool d.n, .slice d.A d.xs.length d.c, .bool d.m, .slice d.B d.ds.length d.d] ∧ Cs wx (b57) 0 [.bool true] ∧ Cs wx (pk2) 0 [.bool f2.n, .slice f2.A f2.xs.length f2.c, .bool f2.m, .slice f2.B f2.ds.length f2.d, .bool g2.n, .slice g2.A g2.xs.length g2.c, .bool g2.m, .slice g2.B g2.ds.length g2.d] ∧ Cs wx (pk4) 0 [.bool f4.n, .slice f4.A f4.xs.length f4.c, .bool f4.m, .slice f4.B f4.ds.length f4.d, .bool g4.n, .slice g4.A g4.xs.length g4.c, .bool g4.m, .slice g4.B g4.ds.length g4.d] ∧ Cs wx (pk6) 0 [.bool f6.n, .slice f6.A f6.xs.length f6.c, .bool f6.m, .slice f6.B f6.ds.length f6.d, .bool g6.n, .slice g6.A g6.xs.length g6.c, .bool g6.m, .slice g6.B g6.ds.length g6.d] ∧ Cs wx (pk8) 0 [.bool f8.n, .slice f8.A f8.xs.length f8.c, .bool f8.m, .slice f8.B f8.ds.length f8.d, .bool g8.n, .slice g8.A g8.xs.length g8.c, .bool g8.m, .slice g8.B g8.ds.length g8.d] ∧ Cs wx (pk10) 0 [.bool f10.n, .slice f10.A f10.xs.length f10.c, .bool f10.m, .slice f10.B f10.ds.length f10.d, .bool g10.n, .slice g10.A g10.xs.length g10.c, .bool g10.m, .slice g10.B g10.ds.length g10.d] ∧ Cs wx (pk13) 0 [.bool f13.n, .slice f13.A f13.xs.length f13.c, .bool f13.m, .slice f13.B f13.ds.length f13.d, .bool g13.n, .slice g13.A g13.xs.length g13.c, .bool g13.m, .slice g13.B g13.ds.length g13.d] ∧ Cs wx (b80) 0 [.bool f14.n, .slice f14.A f14.xs.length f14.c, .bool f14.m, .slice f14.B f14.ds.length f14.d, .bool g14.n, .slice g14.A g14.xs.length g14.c, .bool g14.m, .slice g14.B g14.ds.length g14.d])) (by kernel_rfl) (by exact ⟨K5.cs, K10.cs, K51.cs, KN2.cs, KN4.cs, KN6.cs, KN8.cs, KN10.cs, KN13.cs, K78.cs⟩) (fun hHeld => ?_)
           generalize V75.drew = Vd81 at *
           refine pT 0 ?_
           (try simp only [p0, p1, p2, p3])
           refine pT 1 ?_
           (try simp only [p0, p1, p2, p3])
           refine pT 2 ?_
           (try simp only [p0, p1, p2, p3])
           refine pT 3 ?_
           (try simp only [p0, p1, p2, p3])
           refine pT 4 ?_
           (try simp only [p0, p1, p2, p3])
           refine pT 5 ?_
           (try simp only [p0, p1, p2, p3])
           refine pT 6 ?_
           (try simp only [p0, p1, p2, p3])
           refine pT 7 ?_
           (try simp only [p0, p1, p2, p3])
           refine pT 8 ?_
           (try simp only [p0, p1, p2, p3])
           refine pR1 9 (fun K hK => ?_)
           go_simp
           (go_at_call 26; with_reducible refine (g_same L2 M2 L4 M4).mono ?_)
           rintro _ w82 ⟨rfl, hb⟩
           (try go_wp2_with fail)
           replace K5 := K5.on hb
           replace K10 := K10.on hb
           replace K15 := K15.on hb
           replace K51 := K51.on hb
           replace KN2 := KN2.on hb
           replace KN4 := KN4.on hb
           replace KN6 := KN6.on hb
           replace KN8 := KN8.on hb
           replace KN10 := KN10.on hb
           replace KN13 := KN13.on hb
           replace K78 := K78.on hb
           replace Z52 := Z52.on hb
           replace La := La.kp (Kept.of hb)
           replace Lb := Lb.kp (Kept.of hb)
           replace Lc := Lc.kp (Kept.of hb)
           replace Ld := Ld.kp (Kept.of hb)
           replace Le := Le.kp (Kept.of hb)
           replace Lf := Lf.kp (Kept.of hb)
           replace L6 := L6.kp (Kept.of hb)
           replace M6 := M6.kp (Kept.of hb)
           replace L8 := L8.kp (Kept.of hb)
           replace M8 := M8.kp (Kept.of hb)
           replace L10 := L10.kp (Kept.of hb)
           replace M10 := M10.kp (Kept.of hb)
           replace L13 := L13.kp (Kept.of hb)
           replace M13 := M13.kp (Kept.of hb)
           replace L14 := L14.kp (Kept.of hb)
           replace M14 := M14.kp (Kept.of hb)
           replace BW := BW.trans (hb.mono BW.size)
           clear hb
           (try rw [decide_eq_true (And.intro rfl rfl)])
           refine hK.out _ _ (by exact ⟨K5.cs, K10.cs, K51.cs, KN2.cs, KN4.cs, KN6.cs, KN8.cs, KN10.cs, KN13.cs, K78.cs⟩) (fun hHeld => ?_)
           clear hK
           (try simp only [p0, p1, p2, p3])
           refine pT 10 ?_
           (try simp only [p0, p1, p2, p3])
           refine pT 11 ?_
           (try simp only [p0, p1, p2, p3])
           refine pT 12 ?_
           (try simp only [p0, p1, p2, p3])
           refine pT 13 ?_
           (try simp only [p0, p1, p2, p3])
           refine pT 14 ?_
           (try simp only [p0, p1, p2, p3])
           refine pR1 15 (fun K hK => ?_)
           go_simp
           (go_at_call 26; with_reducible refine (g_same L6 M6 L8 M8).mono ?_)
           rintro _ w83 ⟨rfl, hb⟩
           (try go_wp2_with fail)
           replace K5 := K5.on hb
           replace K10 := K10.on hb
           replace K15 := K15.on hb
           replace K51 := K51.on hb
           replace KN2 := KN2.on hb
           replace KN4 := KN4.on hb
           replace KN6 := KN6.on hb
           replace KN8 := KN8.on hb
           replace KN10 := KN10.on hb
           replace KN13 := KN13.on hb
           replace K78 := K78.on hb
           replace Z52 := Z52.on hb
           replace La := La.kp (Kept.of hb)
           replace Lb := Lb.kp (Kept.of hb)
           replace Lc := Lc.kp (Kept.of hb)
           replace Ld := Ld.kp (Kept.of hb)
           replace Le := Le.kp (Kept.of hb)
           replace Lf := Lf.kp (Kept.of hb)
           replace L6 := L6.kp (Kept.of hb)
           replace M6 := M6.kp (Kept.of hb)
           replace L10 := L10.kp (Kept.of hb)
           replace M10 := M10.kp (Kept.of hb)
           replace L13 := L13.kp (Kept.of hb)
           replace M13 := M13.kp (Kept.of hb)
           replace L14 := L14.kp (Kept.of hb)
           replace M14 := M14.kp (Kept.of hb)
           replace BW := BW.trans (hb.mono BW.size)
           clear hb
           (try rw [decide_eq_true (And.intro rfl rfl)])
           refine hK.out _ _ (by exact ⟨K5.cs, K10.cs, K51.cs, KN2.cs, KN4.cs, KN6.cs, KN8.cs, KN10.cs, KN13.cs, K78.cs⟩) (fun hHeld => ?_)
           clear hK
           (try simp only [p0, p1, p2, p3])
           refine pT 16 ?_
           (try simp only [p0, p1, p2, p3])
           refine pT 17 ?_
           (try simp only [p0, p1, p2, p3])
           refine pT 18 ?_
           (try simp only [p0, p1, p2, p3])
           refine pT 19 ?_
           (try simp only [p0, p1, p2, p3])
           refine pT 20 ?_
           (try simp only [p0, p1, p2, p3])
           refine pR1 21 (fun K hK => ?_)
           go_simp
           (go_at_call 26; with_reducible refine (g_same L10 M10 L13 M13).mono ?_)
           rintro _ w84 ⟨rfl, hb⟩
           (try go_wp2_with fail)
           replace K5 := K5.on hb
           replace K10 := K10.on hb
           replace K15 := K15.on hb
           replace K51 := K51.on hb
           replace KN2 := KN2.on hb
           replace KN4 := KN4.on hb
           replace KN6 := KN6.on hb
           replace KN8 := KN8.on hb
           replace KN10 := KN10.on hb
           replace KN13 := KN13.on hb
           replace K78 := K78.on hb
           replace Z52 := Z52.on hb
           replace La := La.kp (Kept.of hb)
           replace Lb := Lb.kp (Kept.of hb)
           replace Lc := Lc.kp (Kept.of hb)
           replace Ld := Ld.kp (Kept.of hb)
           replace Le := Le.kp (Kept.of hb)
           replace Lf := Lf.kp (Kept.of hb)
           replace L6 := L6.kp (Kept.of hb)
           replace M6 := M6.kp (Kept.of hb)
           replace L14 := L14.kp (Kept.of hb)
           replace M14 := M14.kp (Kept.of hb)
           replace BW := BW.trans (hb.mono BW.size)
           clear hb
           (try rw [decide_eq_true (And.intro rfl rfl)])
           refine hK.out _ _ (by exact ⟨K5.cs, K10.cs, K51.cs, KN2.cs, KN4.cs, KN6.cs, KN8.cs, KN10.cs, KN13.cs, K78.cs⟩) (fun hHeld => ?_)
           clear hK
           (try simp only [p0, p1, p2, p3])
           refine pT 22 ?_
           (try simp only [p0, p1, p2, p3])
           refine pT 23 ?_
           (try simp only [p0, p1, p2, p3])
           refine pT 24 ?_
           (try simp only [p0, p1, p2, p3])
           refine pT 25 ?_
           (try simp only [p0, p1, p2, p3])
           refine pT 26 ?_
           (try simp only [p0, p1, p2, p3])
           refine pT 27 ?_
           (try simp only [p0, p1, p2, p3])
           refine pR1 28 (fun K hK => ?_)
           go_simp
           (go_at_call 23; with_reducible refine (h_sum La Lb Lc Ld K51 Z52 (Hxy.out.re.fits (by decide)) (Hxy.out.im.fits (by decide))).mono ?_)
           rintro _ w85 ⟨f18, g18, rfl, L18, M18, hb⟩
           (try go_wp2_with fail)
           replace K5 := K5.on hb
           replace K10 := K10.on hb
           replace K15 := K15.on hb
           replace K51 := K51.on hb
           replace KN2 := KN2.on hb
           replace KN4 := KN4.on hb
           replace KN6 := KN6.on hb
           replace KN8 := KN8.on hb
           replace KN10 := KN10.on hb
           replace KN13 := KN13.on hb
           replace K78 := K78.on hb
           replace Z52 := Z52.on hb
           replace La := La.kp (Kept.of hb)
           replace Lb := Lb.kp (Kept.of hb)
           replace Lc := Lc.kp (Kept.of hb)
           replace Ld := Ld.kp (Kept.of hb)
           replace Le := Le.kp (Kept.of hb)
           replace Lf := Lf.kp (Kept.of hb)
           replace L6 := L6.kp (Kept.of hb)
           replace M6 := M6.kp (Kept.of hb)
           replace L14 := L14.kp (Kept.of hb)
           replace M14 := M14.kp (Kept.of hb)
           replace BW := BW.trans (hb.mono BW.size)
           clear hb
           refine hK.out _ _ (by exact ⟨K5.cs, K10.cs, K51.cs, KN2.cs, KN4.cs, KN6.cs, KN8.cs, KN10.cs, KN13.cs, K78.cs⟩) (fun hHeld => ?_)
           clear hK
           (try simp only [p0, p1, p2, p3])
           refine pR1 29 (fun K hK => ?_)
           go_simp
           (go_at_call 26; with_reducible refine (g_same L14 M14 L18 M18).mono ?_)
           rintro _ w86 ⟨rfl, hb⟩
           (try go_wp2_with fail)
           replace K5 := K5.on hb
           replace K10 := K10.on hb
           replace K15 := K15.on hb
           replace K51 := K51.on hb
           replace KN2 := KN2.on hb
           replace KN4 := KN4.on hb
           replace KN6 := KN6.on hb
           replace KN8 := KN8.on hb
           replace KN10 := KN10.on hb
           replace KN13 := KN13.on hb
           replace K78 := K78.on hb
           replace Z52 := Z52.on hb
           replace La := La.kp (Kept.of hb)
           replace Lb := Lb.kp (Kept.of hb)
           replace Lc := Lc.kp (Kept.of hb)
           replace Ld := Ld.kp (Kept.of hb)
           replace Le := Le.kp (Kept.of hb)
           replace Lf := Lf.kp (Kept.of hb)
           replace L6 := L6.kp (Kept.of hb)
           replace M6 := M6.kp (Kept.of hb)
           replace BW := BW.trans (hb.mono BW.size)
           clear hb
           (try rw [decide_eq_true (And.intro rfl rfl)])
           refine hK.out _ _ (by exact ⟨K5.cs, K10.cs, K51.cs, KN2.cs, KN4.cs, KN6.cs, KN8.cs, KN10.cs, KN13.cs, K78.cs⟩) (fun hHeld => ?_)
           clear hK
           (try simp only [p0, p1, p2, p3])
           refine pT 30 ?_
           (try simp only [p0, p1, p2, p3])
           refine pT 31 ?_
           (try simp only [p0, p1, p2, p3])
           refine wpAnyH_done (by kernel_rfl) (NoPanic.normal ?_) _
           obtain ⟨c87, c88, c89, c90, c91, c92, c93, c94⟩ := K15.c8
           obtain ⟨c95, c96, c97, c98, c99, c100, c101, c102⟩ := KN6.c8
           go_wp2_with fail
           clear c87 c88 c89 c90 c91 c92 c93 c94 c95 c96 c97 c98 c99 c100 c101 c102
           refine (g_Quo L6 M6 Le Lf).mono ?_
           rintro _ w103 ⟨f16, g16, er, rfl, R16, hb⟩
           replace K5 := K5.on hb
           replace K10 := K10.on hb
           replace K15 := K15.on hb
           replace K51 := K51.on hb
           replace Z52 := Z52.on hb
           replace La := La.kp (Kept.of hb)
           replace Lb := Lb.kp (Kept.of hb)
           replace Lc := Lc.kp (Kept.of hb)
           replace Ld := Ld.kp (Kept.of hb)
           replace Le := Le.kp (Kept.of hb)
           replace Lf := Lf.kp (Kept.of hb)
           replace BW := BW.trans (hb.mono BW.size)
           clear hb
           obtain ⟨V104, e105, hb106, K107, -, -⟩ := alloc_new w103 [.bool f16.n, .slice f16.A f16.xs.length f16.c, .bool f16.m, .slice f16.B f16.ds.length f16.d, .bool g16.n, .slice g16.A g16.xs.length g16.c, .bool g16.m, .slice g16.B g16.ds.length g16.d] 39
           have n108 : b57 ≠ w103.heap.size := Nat.ne_of_lt (K51.lt)
           replace K5 := K5.on hb106
           replace K10 := K10.on hb106
           replace K15 := K15.on hb106
           replace K51 := K51.on hb106
           replace Z52 := Z52.on hb106
           replace La := La.kp (Kept.of hb106)
           replace Lb := Lb.kp (Kept.of hb106)
           replace Lc := Lc.kp (Kept.of hb106)
           replace Ld := Ld.kp (Kept.of hb106)
           replace Le := Le.kp (Kept.of hb106)
           replace Lf := Lf.kp (Kept.of hb106)
           replace R16 := R16.kp (Kept.of hb106)
           replace BW := BW.trans (hb106.mono BW.size)
           clear hb106
           go_wp2_with fail
           rw [← e105]
           clear e105
           generalize w103.heap.size = b109 at *
           obtain ⟨dz, hdz⟩ : ∃ dz, decide (z = 0 ∧ z' = 0) = dz := ⟨_, rfl⟩
           have HD := Lib.hid hdz
           clear hdz
           refine wp_region_noPanic ?_
           have hb : Below V104.heap.size V104 V104.drew := (Below.refl _ _).drew
           replace K5 := K5.on hb
           replace K10 := K10.on hb
           replace K15 := K15.on hb
           replace K51 := K51.on hb
           replace K107 := K107.on hb
           replace Z52 := Z52.on hb
           replace La := La.kp (Kept.of hb)
           replace Lb := Lb.kp (Kept.of hb)
           replace Lc := Lc.kp (Kept.of hb)
           replace Ld := Ld.kp (Kept.of hb)
           replace Le := Le.kp (Kept.of hb)
           replace Lf := Lf.kp (Kept.of hb)
           replace R16 := R16.kp (Kept.of hb)
           replace BW := BW.trans (hb.mono BW.size)
           clear hb
           refine wp_region_held_drew (S := (fun wx => Cs wx (w.heap.size + 1 + 1) 0 [.bool e.n, .slice e.A e.xs.length e.c, .bool e.m, .slice e.B e.ds.length e.d, .bool f.n, .slice f.A f.xs.length f.c, .bool f.m, .slice f.B f.ds.length f.d])) (by kernel_rfl) (by exact K15.cs) (fun hHeld => ?_)
           generalize V104.drew = Vd110 at *
           refine pT 0 ?_
           (try simp only [p0, p1, p2, p3])
           refine pR1 1 (fun K hK => ?_)
           go_simp
           (go_at_call 28; with_reducible refine (g_Of (n := 0) (m := 0) (by decide) (by decide) (by decide) (by decide)).mono ?_)
           rintro _ w111 ⟨f15, g15, rfl, L15, M15, hb⟩
           (try go_wp2_with fail)
           replace K5 := K5.on hb
           replace K10 := K10.on hb
           replace K15 := K15.on hb
           replace K51 := K51.on hb
           replace K107 := K107.on hb
           replace Z52 := Z52.on hb
           replace La := La.kp (Kept.of hb)
           replace Lb := Lb.kp (Kept.of hb)
           replace Lc := Lc.kp (Kept.of hb)
           replace Ld := Ld.kp (Kept.of hb)
           replace Le := Le.kp (Kept.of hb)
           replace Lf := Lf.kp (Kept.of hb)
           replace R16 := R16.kp (Kept.of hb)
           replace BW := BW.trans (hb.mono BW.size)
           clear hb
           replace L15 := L15.to (p := 0) (by decide +kernel)
           replace M15 := M15.to (p := 0) (by decide +kernel)
           refine hK.out _ _ (by exact K15.cs) (fun hHeld => ?_)
           clear hK
           (try simp only [p0, p1, p2, p3])
           refine pR1 2 (fun K hK => ?_)
           go_simp
           (go_at_call 26; with_reducible refine (g_sameG Le Lf L15 M15 HD.out).mono ?_)
           rintro _ w112 ⟨rfl, hb⟩
           (try go_wp2_with fail)
           replace K5 := K5.on hb
           replace K10 := K10.on hb
           replace K15 := K15.on hb
           replace K51 := K51.on hb
           replace K107 := K107.on hb
           replace Z52 := Z52.on hb
           replace La := La.kp (Kept.of hb)
           replace Lb := Lb.kp (Kept.of hb)
           replace Lc := Lc.kp (Kept.of hb)
           replace Ld := Ld.kp (Kept.of hb)
           replace R16 := R16.kp (Kept.of hb)
           replace BW := BW.trans (hb.mono BW.size)
           clear hb
           refine hK.out _ _ (by exact K15.cs) (fun hHeld => ?_)
           clear hK
           (try simp only [p0, p1, p2, p3])
           refine wpAnyH_done (by kernel_rfl) (NoPanic.normal ?_) _
           by_cases hz : z = 0 ∧ z' = 0
           ·obtain ⟨rfl, -, -⟩ := R16.bad3 (show z.num = 0 ∧ z'.num = 0 from by rw [hz.1, hz.2]; exact ⟨rfl, rfl⟩)
            obtain rfl : dz = true := by rw [← HD.out]; exact decide_eq_true hz
            clear R16
            go_wp2_with fail
            refine (alive_any (tab_below HT.out BW)).mono ?_
            rintro _ w113 ⟨rfl, hb⟩
            replace BW := BW.trans (hb.mono BW.size)
            clear hb
            go_wp2_with fail
            exact bodyPost_ret (v := .bool true) (by simp [results, Tryz.results5, go_sem]) rfl ⟨rfl, BW⟩
           ·have hn : ¬ (z.num = 0 ∧ z'.num = 0) := fun e => hz ⟨Rat.num_eq_zero.1 e.1, Rat.num_eq_zero.1 e.2⟩
            have hN : z * z + z' * z' ≠ 0 := fun e => norm_pos hn (by rw [e]; rfl)
            obtain ⟨rfl, L16, M16⟩ := R16.yes hn (by rw [quo_re hN]; exact Pxy.out.re.fits (by decide)) (by rw [quo_im hN]; exact Pxy.out.im.fits (by decide))
            clear R16
            replace L16 := L16.to (quo_re hN)
            replace M16 := M16.to (quo_im hN)
            obtain rfl : dz = false := by rw [← HD.out]; exact decide_eq_false hz
            clear hn hN
            go_wp2_with fail
            refine wp_region_noPanic ?_
            have hb : Below w112.heap.size w112 w112.drew := (Below.refl _ _).drew
            replace K5 := K5.on hb
            replace K10 := K10.on hb
            replace K51 := K51.on hb
            replace K107 := K107.on hb
            replace Z52 := Z52.on hb
            replace La := La.kp (Kept.of hb)
            replace Lb := Lb.kp (Kept.of hb)
            replace Lc := Lc.kp (Kept.of hb)
            replace Ld := Ld.kp (Kept.of hb)
            replace L16 := L16.kp (Kept.of hb)
            replace M16 := M16.kp (Kept.of hb)
            replace BW := BW.trans (hb.mono BW.size)
            clear hb
            refine wp_region_held_drew (S := (fun wx => Cs wx (w.heap.size) 0 [.bool a.n, .slice a.A a.xs.length a.c, .bool a.m, .slice a.B a.ds.length a.d, .bool b.n, .slice b.A b.xs.length b.c, .bool b.m, .slice b.B b.ds.length b.d] ∧ Cs wx (w.heap.size + 1) 0 [.bool c.n, .slice c.A c.xs.length c.c, .bool c.m, .slice c.B c.ds.length c.d, .bool d.n, .slice d.A d.xs.length d.c, .bool d.m, .slice d.B d.ds.length d.d] ∧ Cs wx (b57) 0 [.bool true] ∧ Cs wx (b109) 0 [.bool f16.n, .slice f16.A f16.xs.length f16.c, .bool f16.m, .slice f16.B f16.ds.length f16.d, .bool g16.n, .slice g16.A g16.xs.length g16.c, .bool g16.m, .slice g16.B g16.ds.length g16.d])) (by kernel_rfl) (by exact ⟨K5.cs, K10.cs, K51.cs, K107.cs⟩) (fun hHeld => ?_)
            generalize w112.drew = Vd113 at *
            refine pT 0 ?_
            (try simp only [p0, p1, p2, p3])
            refine pT 1 ?_
            (try simp only [p0, p1, p2, p3])
            refine pT 2 ?_
            (try simp only [p0, p1, p2, p3])
            refine pT 3 ?_
            (try simp only [p0, p1, p2, p3])
            refine pT 4 ?_
            (try simp only [p0, p1, p2, p3])
            refine pT 5 ?_
            (try simp only [p0, p1, p2, p3])
            refine pR1 6 (fun K hK => ?_)
            go_simp
            (go_at_call 24; with_reducible refine (h_times La Lb Lc Ld K51 Z52 (Pxy.out.re.fits (by decide)) (Pxy.out.im.fits (by decide))).mono ?_)
            rintro _ w114 ⟨f17, g17, rfl, L17, M17, hb⟩
            (try go_wp2_with fail)
            replace K5 := K5.on hb
            replace K10 := K10.on hb
            replace K51 := K51.on hb
            replace K107 := K107.on hb
            replace L16 := L16.kp (Kept.of hb)
            replace M16 := M16.kp (Kept.of hb)
            replace BW := BW.trans (hb.mono BW.size)
            clear hb
            refine hK.out _ _ (by exact ⟨K5.cs, K10.cs, K51.cs, K107.cs⟩) (fun hHeld => ?_)
            clear hK
            (try simp only [p0, p1, p2, p3])
            refine pR1 7 (fun K hK => ?_)
            go_simp
            (go_at_call 26; with_reducible refine (g_same L16 M16 L17 M17).mono ?_)
            rintro _ w115 ⟨rfl, hb⟩
            (try go_wp2_with fail)
            replace K5 := K5.on hb
            replace K10 := K10.on hb
            replace K51 := K51.on hb
            replace K107 := K107.on hb
            replace BW := BW.trans (hb.mono BW.size)
            clear hb
            (try rw [decide_eq_true (And.intro rfl rfl)])
            refine hK.out _ _ (by exact ⟨K5.cs, K10.cs, K51.cs, K107.cs⟩) (fun hHeld => ?_)
            clear hK
            (try simp only [p0, p1, p2, p3])
            refine pT 8 ?_
            (try simp only [p0, p1, p2, p3])
            refine pT 9 ?_
            (try simp only [p0, p1, p2, p3])
            refine pT 10 ?_
            (try simp only [p0, p1, p2, p3])
            refine pT 11 ?_
            (try simp only [p0, p1, p2, p3])
            refine pT 12 ?_
            (try simp only [p0, p1, p2, p3])
            refine pR1 13 (fun K hK => ?_)
            go_simp
            (go_at_call 22; with_reducible refine (alive_any (tab_below HT.out BW)).mono ?_)
            rintro _ w116 ⟨rfl, hb⟩
            (try go_wp2_with fail)
            replace K5 := K5.on hb
            replace K10 := K10.on hb
            replace K51 := K51.on hb
            replace K107 := K107.on hb
            replace BW := BW.trans (hb.mono BW.size)
            clear hb
            refine hK.out _ _ (by exact ⟨K5.cs, K10.cs, K51.cs, K107.cs⟩) (fun hHeld => ?_)
            clear hK
            (try simp only [p0, p1, p2, p3])
            refine pT 14 ?_
            (try simp only [p0, p1, p2, p3])
            refine pT 15 ?_
            (try simp only [p0, p1, p2, p3])
            refine wpAnyH_done (by kernel_rfl) (NoPanic.normal ?_) _
            go_wp2
            exact bodyPost_ret (v := .bool true) (by simp [results, Tryz.results5, go_sem]) rfl ⟨rfl, BW⟩
    ·go_wp2_with fail
     refine (alive_any (tab_below HT.out BW)).mono ?_
     rintro _ w48 ⟨rfl, hb⟩
     replace BW := BW.trans (hb.mono BW.size)
     clear hb
     go_wp2_with fail
     exact bodyPost_ret (v := .bool true) (by simp [results, Tryz.results5, go_sem]) rfl ⟨rfl, BW⟩
   ·go_wp2_with fail
    refine (alive_any (tab_below HT.out BW)).mono ?_
    rintro _ w39 ⟨rfl, hb⟩
    replace BW := BW.trans (hb.mono BW.size)
    clear hb
    go_wp2_with fail
    exact bodyPost_ret (v := .bool true) (by simp [results, Tryz.results5, go_sem]) rfl ⟨rfl, BW⟩
  ·go_wp2_with fail
   refine (alive_any (tab_below HT.out BW)).mono ?_
   rintro _ w30 ⟨rfl, hb⟩
   replace BW := BW.trans (hb.mono BW.size)
   clear hb
   go_wp2_with fail
   exact bodyPost_ret (v := .bool true) (by simp [results, Tryz.results5, go_sem]) rfl ⟨rfl, BW⟩
end Go.Proofs.YtjilhplonaomoaaGreatDoor
