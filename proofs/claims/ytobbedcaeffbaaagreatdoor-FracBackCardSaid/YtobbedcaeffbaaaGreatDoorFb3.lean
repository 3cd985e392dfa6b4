/-
  What the statement about floats, texts and roots returns: yes. Conditions: that the fraction is no longer than memory; the table of digits; the cell of what is searched at once.
-/
import Derived.Test.YtobbedcaeffbaaaGreatDoorFb2
import Derived.Test.YtobbedcaeffbaaaGreatDoorFb4
import Derived.Deep.RegionHeld3
import Derived.Deep.DeepCutAuto
import Derived.BigRegion
namespace Go.Proofs.YtobbedcaeffbaaaGreatDoor
open Go.RowKit Nb
open Fl Ieee
set_option maxHeartbeats 32000000 in
set_option maxRecDepth 100000 in
theorem back_walk {v : Nat} {x : Fv} {s : ByteArray} {w : World} (hv : v < 18446744073709551616) (X : Fx w x) (htab : Tab w) (hM : Mxl w) :
    Calls Tryz.prog 3 #[.float .f64 v, fv x, .string s] w (fun e w' => e = .returned (.bool true) ∧ Below w.heap.size w w') := by
 have HT := Lib.hid htab
 have HM := Lib.hid hM
 have HV := Lib.hid hv
 clear htab hM hv
 have BW : Below w.heap.size w w := Below.refl _ _
 obtain ⟨V1, e2, hb3, K4, -, -⟩ := alloc_new w [.bool x.n, .slice x.A x.xs.length x.c, .bool x.m, .slice x.B x.ds.length x.d] 27
 replace X := X.kp (Kept.of hb3)
 replace BW := BW.trans (hb3.mono BW.size)
 clear hb3
 go_enter Tryz.func3, Tryz.ntmps3
 go_wp2_with fail
 rw [← e2]
 clear e2
 refine (f_cost).mono ?_
 rintro _ w5 ⟨⟨k1, rfl⟩, hb⟩
 replace K4 := K4.on hb
 replace X := X.kp (Kept.of hb)
 replace BW := BW.trans (hb.mono BW.size)
 clear hb
 obtain ⟨V6, e7, hb8, K9, -, -⟩ := alloc_new w5 [.int .i64 k1, .int .i64 (s.size : Int)] 3
 replace K4 := K4.on hb8
 replace X := X.kp (Kept.of hb8)
 replace BW := BW.trans (hb8.mono BW.size)
 clear hb8
 go_wp2_with fail
 rw [← e7]
 clear e7
 generalize w5.heap.size = b10 at *
 refine (beyond_two K9).mono ?_
 rintro _ w11 ⟨⟨r, rfl⟩, hb⟩
 replace K4 := K4.on hb
 replace K9 := K9.on hb
 replace X := X.kp (Kept.of hb)
 replace BW := BW.trans (hb.mono BW.size)
 clear hb
 clear K9
 rcases Bool.eq_false_or_eq_true r with rfl | rfl
 · go_wp2_with fail
   exact bodyPost_ret (v := .bool true) (by simp [results, Tryz.results3, go_sem]) rfl ⟨rfl, BW⟩
 · go_wp2_with fail
   refine (ff_any HV.out).mono ?_
   rintro _ w12 ⟨f1, er1, rfl, hf1, hb⟩
   replace K4 := K4.on hb
   replace X := X.kp (Kept.of hb)
   replace BW := BW.trans (hb.mono BW.size)
   clear hb
   obtain ⟨V13, e14, hb15, K16, -, -⟩ := alloc_new w12 [.bool f1.n, .slice f1.A f1.xs.length f1.c, .bool f1.m, .slice f1.B f1.ds.length f1.d] 27
   replace K4 := K4.on hb15
   replace X := X.kp (Kept.of hb15)
   replace hf1 := hf1.kp (Kept.of hb15)
   replace BW := BW.trans (hb15.mono BW.size)
   clear hb15
   go_upto_region 4 with fail
   rw [← e14]
   clear e14
   generalize w12.heap.size = b17 at *
   go_cut [46] (fun s46 wx => s46 = .bool false ∧ Below w.heap.size w wx ∧ Box wx (w.heap.size) [.bool x.n, .slice x.A x.xs.length x.c, .bool x.m, .slice x.B x.ds.length x.d] ∧ Box wx (b17) [.bool f1.n, .slice f1.A f1.xs.length f1.c, .bool f1.m, .slice f1.B f1.ds.length f1.d] ∧ Fx wx x ∧ FFl wx v f1 er1)
   case first =>
     as_aux_lemma =>
       rcases (show (mg v < 9218868437227405312 ∧ er1 = 0) ∨ (9218868437227405312 ≤ mg v ∧ er1 = 6) from hf1.elim (fun h => .inl ⟨h.1, h.2.1⟩) .inr) with ⟨hfin, h1⟩ | ⟨hinf, h1⟩
       · have hf0 := hf1
         obtain rfl : er1 = 0 := h1
         go_wp2_with fail
         refine (nanb (b := false) (decide_eq_false (by omega))).mono ?_
         rintro _ w18 ⟨rfl, hb⟩
         replace K4 := K4.on hb
         replace K16 := K16.on hb
         replace X := X.kp (Kept.of hb)
         replace hf1 := hf1.kp (Kept.of hb)
         replace BW := BW.trans (hb.mono BW.size)
         clear hb
         go_wp2_with fail
         refine (inf0 (b := false) HV.out (decide_eq_false (by omega))).mono ?_
         rintro _ w19 ⟨rfl, hb⟩
         replace K4 := K4.on hb
         replace K16 := K16.on hb
         replace X := X.kp (Kept.of hb)
         replace hf1 := hf1.kp (Kept.of hb)
         replace BW := BW.trans (hb.mono BW.size)
         clear hb
         go_wp2_with fail
         go_meet
         exact ⟨rfl, BW, K4, K16, X, hf1⟩
       · obtain rfl : er1 = 6 := h1
         by_cases hn : 9218868437227405312 < mg v
         · go_wp2_with fail
           refine (nanb (b := true) (decide_eq_true hn)).mono ?_
           rintro _ w18 ⟨rfl, hb⟩
           replace K4 := K4.on hb
           replace K16 := K16.on hb
           replace X := X.kp (Kept.of hb)
           replace hf1 := hf1.kp (Kept.of hb)
           replace BW := BW.trans (hb.mono BW.size)
           clear hb
           go_wp2_with fail
           go_meet
           exact ⟨rfl, BW, K4, K16, X, hf1⟩
         · go_wp2_with fail
           refine (nanb (b := false) (decide_eq_false hn)).mono ?_
           rintro _ w18 ⟨rfl, hb⟩
           replace K4 := K4.on hb
           replace K16 := K16.on hb
           replace X := X.kp (Kept.of hb)
           replace hf1 := hf1.kp (Kept.of hb)
           replace BW := BW.trans (hb.mono BW.size)
           clear hb
           go_wp2_with fail
           refine (inf0 (b := true) HV.out (decide_eq_true (by omega))).mono ?_
           rintro _ w19 ⟨rfl, hb⟩
           replace K4 := K4.on hb
           replace K16 := K16.on hb
           replace X := X.kp (Kept.of hb)
           replace hf1 := hf1.kp (Kept.of hb)
           replace BW := BW.trans (hb.mono BW.size)
           clear hb
           go_wp2_with fail
           go_meet
           exact ⟨rfl, BW, K4, K16, X, hf1⟩
   case rest =>
     as_aux_lemma =>
       obtain ⟨rfl, BW, K4, K16, X, hf1⟩ := hcut
       go_upto_if 48 with fail
       go_cut [6, 9, 10] (fun s6 s9 s10 wx => s6 = .bool false ∧ Below w.heap.size w wx ∧ Box wx (w.heap.size) [.bool x.n, .slice x.A x.xs.length x.c, .bool x.m, .slice x.B x.ds.length x.d] ∧ Box wx (b17) [.bool f1.n, .slice f1.A f1.xs.length f1.c, .bool f1.m, .slice f1.B f1.ds.length f1.d] ∧ Fx wx x)
       case first =>
         as_aux_lemma =>
           rcases hf1 with ⟨hfin, rfl, L1⟩ | ⟨hinf, rfl⟩
           · obtain ⟨c18, c19, c20, c21⟩ := K16.c4
             go_wp2_with fail
             clear c18 c19 c20 c21
             refine (float_any L1).mono ?_
             rintro _ w22 ⟨v2, er2, rfl, hfl, hb⟩
             replace K4 := K4.on hb
             replace K16 := K16.on hb
             replace X := X.kp (Kept.of hb)
             replace L1 := L1.kp (Kept.of hb)
             replace BW := BW.trans (hb.mono BW.size)
             clear hb
             obtain ⟨rfl, hv2, hg2, hk, hn⟩ := float_back HV.out hfin hfl
             have hq1 := eq_key hg2 hfin hk
             obtain ⟨b, hb2⟩ : ∃ b, ng v2 = b := ⟨_, rfl⟩
             have hl1 : (FloatKind.f64.format.order v 0 == some .lt) = b := by rw [lt_zero hfin, ← hn, hb2]
             have HS := Lib.hid (And.intro hv2 hb2)
             clear hfl hv2 hg2 hk hn hb2 hfin
             go_wp2_with fail
             refine (signb HS.out.1 HS.out.2).mono ?_
             rintro _ w23 ⟨rfl, hb⟩
             replace K4 := K4.on hb
             replace K16 := K16.on hb
             replace X := X.kp (Kept.of hb)
             replace L1 := L1.kp (Kept.of hb)
             replace BW := BW.trans (hb.mono BW.size)
             clear hb
             cases b
             · go_wp2_with fail
               go_meet
               exact ⟨rfl, BW, K4, K16, X⟩
             · go_wp2_with fail
               go_meet
               exact ⟨rfl, BW, K4, K16, X⟩
           · go_wp2_with fail
             go_meet
             exact ⟨rfl, BW, K4, K16, X⟩
       case rest =>
         as_aux_lemma =>
           obtain ⟨rfl, BW, K4, K16, X⟩ := hcut
           obtain ⟨c18, c19, c20, c21⟩ := K4.c4
           go_wp2_with fail
           clear c18 c19 c20 c21
           refine (text_all X (tab_below HT.out BW)).mono ?_
           rintro _ w22 ⟨t, er, rfl, hx, hb⟩
           replace K4 := K4.on hb
           replace K16 := K16.on hb
           replace X := X.kp (Kept.of hb)
           replace BW := BW.trans (hb.mono BW.size)
           clear hb
           go_upto_if 74 with fail
           go_cut [6, 12, 13] (fun s6 s12 s13 wx => s6 = .bool false ∧ Below w.heap.size w wx ∧ Box wx (w.heap.size) [.bool x.n, .slice x.A x.xs.length x.c, .bool x.m, .slice x.B x.ds.length x.d] ∧ Box wx (b17) [.bool f1.n, .slice f1.A f1.xs.length f1.c, .bool f1.m, .slice f1.B f1.ds.length f1.d] ∧ Fx wx x)
           case first =>
             as_aux_lemma =>
               rcases hx with ⟨q, Lx, rfl, ht, hl⟩ | hne
               · have HL := Lib.hid (And.intro ht (And.intro hl Lx.fits))
                 clear ht hl
                 go_wp2_with fail
                 refine (parse_all (mxl_below HM.out BW)).mono ?_
                 rintro _ w23 ⟨g, er2, rfl, hp, hb⟩
                 replace K4 := K4.on hb
                 replace K16 := K16.on hb
                 replace X := X.kp (Kept.of hb)
                 replace Lx := Lx.kp (Kept.of hb)
                 replace BW := BW.trans (hb.mono BW.size)
                 clear hb
                 obtain ⟨rfl, Lg⟩ := hp.text HL.out.1 HL.out.2.1 HL.out.2.2
                 clear hp
                 obtain ⟨V24, e25, hb26, K27, -, -⟩ := alloc_new w23 [.bool g.n, .slice g.A g.xs.length g.c, .bool g.m, .slice g.B g.ds.length g.d] 27
                 replace K4 := K4.on hb26
                 replace K16 := K16.on hb26
                 replace X := X.kp (Kept.of hb26)
                 replace Lx := Lx.kp (Kept.of hb26)
                 replace Lg := Lg.kp (Kept.of hb26)
                 replace BW := BW.trans (hb26.mono BW.size)
                 clear hb26
                 obtain ⟨c28, c29, c30, c31⟩ := K4.c4
                 rw [e25] at c28 c29 c30 c31
                 go_wp2_with fail
                 clear c28 c29 c30 c31
                 rw [← e25]
                 clear e25
                 generalize w23.heap.size = b32 at *
                 refine (r_same Lx Lg).mono ?_
                 rintro _ w33 ⟨rfl, hb⟩
                 replace K4 := K4.on hb
                 replace K16 := K16.on hb
                 replace K27 := K27.on hb
                 replace X := X.kp (Kept.of hb)
                 replace Lx := Lx.kp (Kept.of hb)
                 replace Lg := Lg.kp (Kept.of hb)
                 replace BW := BW.trans (hb.mono BW.size)
                 clear hb
                 rw [decide_eq_true rfl]
                 go_wp2_with fail
                 go_meet
                 exact ⟨rfl, BW, K4, K16, X⟩
               · have he2 : (er == 0) = false := by simpa using hne
                 clear hne
                 go_wp2_with fail
                 go_meet
                 exact ⟨rfl, BW, K4, K16, X⟩
           case rest =>
             as_aux_lemma =>
               obtain ⟨rfl, BW, K4, K16, X⟩ := hcut
               go_wp2_with fail
               refine (parse_all (mxl_below HM.out BW)).mono ?_
               rintro _ w23 ⟨g, er, rfl, hp, hb⟩
               replace K4 := K4.on hb
               replace K16 := K16.on hb
               replace X := X.kp (Kept.of hb)
               replace BW := BW.trans (hb.mono BW.size)
               clear hb
               obtain ⟨V24, e25, hb26, K27, -, -⟩ := alloc_new w23 [.bool g.n, .slice g.A g.xs.length g.c, .bool g.m, .slice g.B g.ds.length g.d] 27
               replace K4 := K4.on hb26
               replace K16 := K16.on hb26
               replace X := X.kp (Kept.of hb26)
               replace hp := hp.kp (Kept.of hb26)
               replace BW := BW.trans (hb26.mono BW.size)
               clear hb26
               go_upto_if 94 with fail
               rw [← e25]
               clear e25
               generalize w23.heap.size = b28 at *
               go_cut [6, 15, 16] (fun s6 s15 s16 wx => s6 = .bool false ∧ Below w.heap.size w wx ∧ Box wx (w.heap.size) [.bool x.n, .slice x.A x.xs.length x.c, .bool x.m, .slice x.B x.ds.length x.d] ∧ Box wx (b17) [.bool f1.n, .slice f1.A f1.xs.length f1.c, .bool f1.m, .slice f1.B f1.ds.length f1.d] ∧ Box wx (b28) [.bool g.n, .slice g.A g.xs.length g.c, .bool g.m, .slice g.B g.ds.length g.d] ∧ Fx wx x)
               case first =>
                 as_aux_lemma =>
                   rcases hp with ⟨rfl, hs, hfr, Lg⟩ | ⟨hne, -⟩
                   · have HS := Lib.hid (And.intro hs hfr)
                     clear hs hfr
                     obtain ⟨c29, c30, c31, c32⟩ := K27.c4
                     go_wp2_with fail
                     clear c29 c30 c31 c32
                     refine (r_text Lg (tab_below HT.out BW)).mono ?_
                     rintro _ w33 ⟨⟨t, er2, rfl, hx⟩, hb⟩
                     replace K4 := K4.on hb
                     replace K16 := K16.on hb
                     replace K27 := K27.on hb
                     replace X := X.kp (Kept.of hb)
                     replace Lg := Lg.kp (Kept.of hb)
                     replace BW := BW.trans (hb.mono BW.size)
                     clear hb
                     obtain ⟨rfl, rfl⟩ := text_of HS.out.1 HS.out.2 hx
                     clear hx
                     obtain ⟨c34, c35, c36, c37⟩ := K27.c4
                     go_wp2_with fail
                     clear c34 c35 c36 c37
                     refine (r_check Lg.fx).mono ?_
                     rintro _ w38 ⟨rfl, hb⟩
                     replace K4 := K4.on hb
                     replace K16 := K16.on hb
                     replace K27 := K27.on hb
                     replace X := X.kp (Kept.of hb)
                     replace Lg := Lg.kp (Kept.of hb)
                     replace BW := BW.trans (hb.mono BW.size)
                     clear hb
                     rw [chkv_ok Lg.okv]
                     go_wp2_with fail
                     go_meet
                     exact ⟨rfl, BW, K4, K16, K27, X⟩
                   · have he2 : (er == 0) = false := by simpa using hne
                     clear hne
                     go_wp2_with fail
                     go_meet
                     exact ⟨rfl, BW, K4, K16, K27, X⟩
               case rest =>
                 as_aux_lemma =>
                   obtain ⟨rfl, BW, K4, K16, K27, X⟩ := hcut
                   obtain ⟨c29, c30, c31, c32⟩ := K4.c4
                   go_wp2_with fail
                   clear c29 c30 c31 c32
                   by_cases hok : okv x
                   · obtain ⟨q, L⟩ := hok.ff X
                     clear X
                     refine (r_mul L L).mono ?_
                     rintro _ w33 ⟨f5, er, rfl, R5, hb⟩
                     replace K4 := K4.on hb
                     replace K16 := K16.on hb
                     replace K27 := K27.on hb
                     replace L := L.kp (Kept.of hb)
                     replace BW := BW.trans (hb.mono BW.size)
                     clear hb
                     by_cases hf : FitsQ (q * q)
                     · obtain ⟨rfl, L5⟩ := R5.yes not_false hf
                       clear R5
                       obtain ⟨V34, e35, hb36, K37, -, -⟩ := alloc_new w33 [.bool f5.n, .slice f5.A f5.xs.length f5.c, .bool f5.m, .slice f5.B f5.ds.length f5.d] 27
                       replace K4 := K4.on hb36
                       replace K16 := K16.on hb36
                       replace K27 := K27.on hb36
                       replace L := L.kp (Kept.of hb36)
                       replace L5 := L5.kp (Kept.of hb36)
                       replace BW := BW.trans (hb36.mono BW.size)
                       clear hb36
                       go_wp2_with fail
                       rw [← e35]
                       clear e35
                       generalize w33.heap.size = b38 at *
                       by_cases hq : q.num < 0
                       · have hnn : ¬ (-q).num < 0 := by rw [Rat.neg_num]; omega
                         replace L5 := L5.to (p := -q * -q) (by grind)
                         refine (r_root_sq (x := -q) (by omega) L5).mono ?_
                         rintro _ w39 ⟨f6, rfl, L6, hb⟩
                         replace K4 := K4.on hb
                         replace K16 := K16.on hb
                         replace K27 := K27.on hb
                         replace K37 := K37.on hb
                         replace L := L.kp (Kept.of hb)
                         replace L5 := L5.kp (Kept.of hb)
                         replace BW := BW.trans (hb.mono BW.size)
                         clear hb
                         obtain ⟨sa, esa⟩ : ∃ z, sgnQ (-q) = z := ⟨_, rfl⟩
                         have hsa := sgn_nn hnn
                         rw [esa] at hsa
                         have Hsa := Lib.hid esa
                         clear esa
                         obtain ⟨sb, esb⟩ : ∃ z, sgnQ q = z := ⟨_, rfl⟩
                         have hsb := sgn_lt hq
                         rw [esb] at hsb
                         have Hsb := Lib.hid esb
                         clear esb
                         clear hnn
                         have HF := Lib.hid (And.intro (show FitsQ (-q - -q) by rw [show -q - -q = ((0 : Int) : Rat) by grind]; exact fits_int (by decide)) (show FitsQ (-q - -q - -q) by rw [show -q - -q - -q = q by grind]; exact L.fits))
                         obtain ⟨V40, e41, hb42, K43, -, -⟩ := alloc_new w39 [.bool f6.n, .slice f6.A f6.xs.length f6.c, .bool f6.m, .slice f6.B f6.ds.length f6.d] 27
                         replace K4 := K4.on hb42
                         replace K16 := K16.on hb42
                         replace K27 := K27.on hb42
                         replace K37 := K37.on hb42
                         replace L := L.kp (Kept.of hb42)
                         replace L5 := L5.kp (Kept.of hb42)
                         replace L6 := L6.kp (Kept.of hb42)
                         replace BW := BW.trans (hb42.mono BW.size)
                         clear hb42
                         go_wp2_with fail
                         rw [← e41]
                         clear e41
                         generalize w39.heap.size = b44 at *
                         refine (r_sign L6).mono ?_
                         rintro _ w45 ⟨rfl, hb⟩
                         replace K4 := K4.on hb
                         replace K16 := K16.on hb
                         replace K27 := K27.on hb
                         replace K37 := K37.on hb
                         replace K43 := K43.on hb
                         replace L := L.kp (Kept.of hb)
                         replace L5 := L5.kp (Kept.of hb)
                         replace L6 := L6.kp (Kept.of hb)
                         replace BW := BW.trans (hb.mono BW.size)
                         clear hb
                         rw [Hsa.out]
                         obtain ⟨c46, c47, c48, c49⟩ := K4.c4
                         go_wp2_with fail
                         clear c46 c47 c48 c49
                         refine (r_sign L).mono ?_
                         rintro _ w50 ⟨rfl, hb⟩
                         replace K4 := K4.on hb
                         replace K16 := K16.on hb
                         replace K27 := K27.on hb
                         replace K37 := K37.on hb
                         replace K43 := K43.on hb
                         replace L := L.kp (Kept.of hb)
                         replace L5 := L5.kp (Kept.of hb)
                         replace L6 := L6.kp (Kept.of hb)
                         replace BW := BW.trans (hb.mono BW.size)
                         clear hb
                         rw [Hsb.out]
                         obtain ⟨c51, c52, c53, c54⟩ := K43.c4
                         go_wp2_with fail
                         clear c51 c52 c53 c54
                         refine (r_sub L6 L6).mono ?_
                         rintro _ w55 ⟨f7, er, rfl, R7, hb⟩
                         replace K4 := K4.on hb
                         replace K16 := K16.on hb
                         replace K27 := K27.on hb
                         replace K37 := K37.on hb
                         replace K43 := K43.on hb
                         replace L := L.kp (Kept.of hb)
                         replace L5 := L5.kp (Kept.of hb)
                         replace L6 := L6.kp (Kept.of hb)
                         replace BW := BW.trans (hb.mono BW.size)
                         clear hb
                         obtain ⟨rfl, L7⟩ := R7.yes not_false HF.out.1
                         clear R7
                         obtain ⟨V56, e57, hb58, K59, -, -⟩ := alloc_new w55 [.bool f7.n, .slice f7.A f7.xs.length f7.c, .bool f7.m, .slice f7.B f7.ds.length f7.d] 27
                         replace K4 := K4.on hb58
                         replace K16 := K16.on hb58
                         replace K27 := K27.on hb58
                         replace K37 := K37.on hb58
                         replace K43 := K43.on hb58
                         replace L := L.kp (Kept.of hb58)
                         replace L5 := L5.kp (Kept.of hb58)
                         replace L6 := L6.kp (Kept.of hb58)
                         replace L7 := L7.kp (Kept.of hb58)
                         replace BW := BW.trans (hb58.mono BW.size)
                         clear hb58
                         obtain ⟨c60, c61, c62, c63⟩ := K43.c4
                         rw [e57] at c60 c61 c62 c63
                         go_wp2_with fail
                         clear c60 c61 c62 c63
                         rw [← e57]
                         clear e57
                         generalize w55.heap.size = b64 at *
                         refine (r_sub L7 L6).mono ?_
                         rintro _ w65 ⟨f8, er, rfl, R8, hb⟩
                         replace K4 := K4.on hb
                         replace K16 := K16.on hb
                         replace K27 := K27.on hb
                         replace K37 := K37.on hb
                         replace K43 := K43.on hb
                         replace K59 := K59.on hb
                         replace L := L.kp (Kept.of hb)
                         replace L5 := L5.kp (Kept.of hb)
                         replace L6 := L6.kp (Kept.of hb)
                         replace L7 := L7.kp (Kept.of hb)
                         replace BW := BW.trans (hb.mono BW.size)
                         clear hb
                         obtain ⟨rfl, L8⟩ := R8.yes not_false HF.out.2
                         clear R8
                         replace L8 := L8.to (p := q) (by grind)
                         obtain ⟨V66, e67, hb68, K69, -, -⟩ := alloc_new w65 [.bool f8.n, .slice f8.A f8.xs.length f8.c, .bool f8.m, .slice f8.B f8.ds.length f8.d] 27
                         replace K4 := K4.on hb68
                         replace K16 := K16.on hb68
                         replace K27 := K27.on hb68
                         replace K37 := K37.on hb68
                         replace K43 := K43.on hb68
                         replace K59 := K59.on hb68
                         replace L := L.kp (Kept.of hb68)
                         replace L5 := L5.kp (Kept.of hb68)
                         replace L6 := L6.kp (Kept.of hb68)
                         replace L7 := L7.kp (Kept.of hb68)
                         replace L8 := L8.kp (Kept.of hb68)
                         replace BW := BW.trans (hb68.mono BW.size)
                         clear hb68
                         obtain ⟨c70, c71, c72, c73⟩ := K4.c4
                         rw [e67] at c70 c71 c72 c73
                         go_wp2_with fail
                         clear c70 c71 c72 c73
                         rw [← e67]
                         clear e67
                         generalize w65.heap.size = b74 at *
                         refine (r_same L8 L).mono ?_
                         rintro _ w75 ⟨rfl, hb⟩
                         replace K4 := K4.on hb
                         replace K16 := K16.on hb
                         replace K27 := K27.on hb
                         replace K37 := K37.on hb
                         replace K43 := K43.on hb
                         replace K59 := K59.on hb
                         replace K69 := K69.on hb
                         replace L := L.kp (Kept.of hb)
                         replace L5 := L5.kp (Kept.of hb)
                         replace L6 := L6.kp (Kept.of hb)
                         replace L7 := L7.kp (Kept.of hb)
                         replace L8 := L8.kp (Kept.of hb)
                         replace BW := BW.trans (hb.mono BW.size)
                         clear hb
                         rw [decide_eq_true rfl]
                         go_wp2_with fail
                         refine (lives_any _ (tab_below HT.out BW)).mono ?_
                         rintro _ w76 ⟨rfl, hb⟩
                         replace K4 := K4.on hb
                         replace K16 := K16.on hb
                         replace K27 := K27.on hb
                         replace K37 := K37.on hb
                         replace K43 := K43.on hb
                         replace K59 := K59.on hb
                         replace K69 := K69.on hb
                         replace L := L.kp (Kept.of hb)
                         replace L5 := L5.kp (Kept.of hb)
                         replace L6 := L6.kp (Kept.of hb)
                         replace L7 := L7.kp (Kept.of hb)
                         replace L8 := L8.kp (Kept.of hb)
                         replace BW := BW.trans (hb.mono BW.size)
                         clear hb
                         go_wp2_with fail
                         exact bodyPost_ret (v := .bool true) (by simp [results, Tryz.results3, go_sem]) rfl ⟨rfl, BW⟩
                       · refine (r_root_sq (x := q) (by omega) L5).mono ?_
                         rintro _ w39 ⟨f6, rfl, L6, hb⟩
                         replace K4 := K4.on hb
                         replace K16 := K16.on hb
                         replace K27 := K27.on hb
                         replace K37 := K37.on hb
                         replace L := L.kp (Kept.of hb)
                         replace L5 := L5.kp (Kept.of hb)
                         replace BW := BW.trans (hb.mono BW.size)
                         clear hb
                         obtain ⟨sa, esa⟩ : ∃ z, sgnQ q = z := ⟨_, rfl⟩
                         have hsa := sgn_nn hq
                         rw [esa] at hsa
                         have Hsa := Lib.hid esa
                         clear esa
                         obtain ⟨V40, e41, hb42, K43, -, -⟩ := alloc_new w39 [.bool f6.n, .slice f6.A f6.xs.length f6.c, .bool f6.m, .slice f6.B f6.ds.length f6.d] 27
                         replace K4 := K4.on hb42
                         replace K16 := K16.on hb42
                         replace K27 := K27.on hb42
                         replace K37 := K37.on hb42
                         replace L := L.kp (Kept.of hb42)
                         replace L5 := L5.kp (Kept.of hb42)
                         replace L6 := L6.kp (Kept.of hb42)
                         replace BW := BW.trans (hb42.mono BW.size)
                         clear hb42
                         go_wp2_with fail
                         rw [← e41]
                         clear e41
                         generalize w39.heap.size = b44 at *
                         refine (r_sign L6).mono ?_
                         rintro _ w45 ⟨rfl, hb⟩
                         replace K4 := K4.on hb
                         replace K16 := K16.on hb
                         replace K27 := K27.on hb
                         replace K37 := K37.on hb
                         replace K43 := K43.on hb
                         replace L := L.kp (Kept.of hb)
                         replace L5 := L5.kp (Kept.of hb)
                         replace L6 := L6.kp (Kept.of hb)
                         replace BW := BW.trans (hb.mono BW.size)
                         clear hb
                         rw [Hsa.out]
                         obtain ⟨c46, c47, c48, c49⟩ := K4.c4
                         go_wp2_with fail
                         clear c46 c47 c48 c49
                         refine (r_sign L).mono ?_
                         rintro _ w50 ⟨rfl, hb⟩
                         replace K4 := K4.on hb
                         replace K16 := K16.on hb
                         replace K27 := K27.on hb
                         replace K37 := K37.on hb
                         replace K43 := K43.on hb
                         replace L := L.kp (Kept.of hb)
                         replace L5 := L5.kp (Kept.of hb)
                         replace L6 := L6.kp (Kept.of hb)
                         replace BW := BW.trans (hb.mono BW.size)
                         clear hb
                         rw [Hsa.out]
                         obtain ⟨c51, c52, c53, c54⟩ := K4.c4
                         obtain ⟨c55, c56, c57, c58⟩ := K43.c4
                         go_wp2_with fail
                         clear c51 c52 c53 c54 c55 c56 c57 c58
                         refine (r_same L6 L).mono ?_
                         rintro _ w59 ⟨rfl, hb⟩
                         replace K4 := K4.on hb
                         replace K16 := K16.on hb
                         replace K27 := K27.on hb
                         replace K37 := K37.on hb
                         replace K43 := K43.on hb
                         replace L := L.kp (Kept.of hb)
                         replace L5 := L5.kp (Kept.of hb)
                         replace L6 := L6.kp (Kept.of hb)
                         replace BW := BW.trans (hb.mono BW.size)
                         clear hb
                         rw [decide_eq_true rfl]
                         go_wp2_with fail
                         refine (lives_any _ (tab_below HT.out BW)).mono ?_
                         rintro _ w60 ⟨rfl, hb⟩
                         replace K4 := K4.on hb
                         replace K16 := K16.on hb
                         replace K27 := K27.on hb
                         replace K37 := K37.on hb
                         replace K43 := K43.on hb
                         replace L := L.kp (Kept.of hb)
                         replace L5 := L5.kp (Kept.of hb)
                         replace L6 := L6.kp (Kept.of hb)
                         replace BW := BW.trans (hb.mono BW.size)
                         clear hb
                         go_wp2_with fail
                         exact bodyPost_ret (v := .bool true) (by simp [results, Tryz.results3, go_sem]) rfl ⟨rfl, BW⟩
                     · obtain rfl : er = 4 := by rcases R5 with ⟨_, h, _⟩ | ⟨⟨h, _⟩ | ⟨_, _, h⟩, _⟩; exact absurd h hf; exact h.elim; exact h
                       obtain ⟨V34, e35, hb36, K37, -, -⟩ := alloc_new w33 [.bool f5.n, .slice f5.A f5.xs.length f5.c, .bool f5.m, .slice f5.B f5.ds.length f5.d] 27
                       replace K4 := K4.on hb36
                       replace K16 := K16.on hb36
                       replace K27 := K27.on hb36
                       replace L := L.kp (Kept.of hb36)
                       replace R5 := R5.kp (Kept.of hb36)
                       replace BW := BW.trans (hb36.mono BW.size)
                       clear hb36
                       go_wp2_with fail
                       rw [← e35]
                       clear e35
                       generalize w33.heap.size = b38 at *
                       refine (lives_any _ (tab_below HT.out BW)).mono ?_
                       rintro _ w39 ⟨rfl, hb⟩
                       replace K4 := K4.on hb
                       replace K16 := K16.on hb
                       replace K27 := K27.on hb
                       replace K37 := K37.on hb
                       replace L := L.kp (Kept.of hb)
                       replace R5 := R5.kp (Kept.of hb)
                       replace BW := BW.trans (hb.mono BW.size)
                       clear hb
                       go_wp2_with fail
                       exact bodyPost_ret (v := .bool true) (by simp [results, Tryz.results3, go_sem]) rfl ⟨rfl, BW⟩
                   · refine (r_mul_bad X hok).mono ?_
                     rintro _ w33 ⟨rfl, hb⟩
                     replace K4 := K4.on hb
                     replace K16 := K16.on hb
                     replace K27 := K27.on hb
                     replace X := X.kp (Kept.of hb)
                     replace BW := BW.trans (hb.mono BW.size)
                     clear hb
                     obtain ⟨V34, e35, hb36, K37, -, -⟩ := alloc_new w33 [.bool false, .slice none 0 0, .bool false, .slice none 0 0] 27
                     replace K4 := K4.on hb36
                     replace K16 := K16.on hb36
                     replace K27 := K27.on hb36
                     replace X := X.kp (Kept.of hb36)
                     replace BW := BW.trans (hb36.mono BW.size)
                     clear hb36
                     go_wp2_with fail
                     rw [← e35]
                     clear e35
                     generalize w33.heap.size = b38 at *
                     refine (lives_any _ (tab_below HT.out BW)).mono ?_
                     rintro _ w39 ⟨rfl, hb⟩
                     replace K4 := K4.on hb
                     replace K16 := K16.on hb
                     replace K27 := K27.on hb
                     replace K37 := K37.on hb
                     replace X := X.kp (Kept.of hb)
                     replace BW := BW.trans (hb.mono BW.size)
                     clear hb
                     go_wp2_with fail
                     exact bodyPost_ret (v := .bool true) (by simp [results, Tryz.results3, go_sem]) rfl ⟨rfl, BW⟩
end Go.Proofs.YtobbedcaeffbaaaGreatDoor
