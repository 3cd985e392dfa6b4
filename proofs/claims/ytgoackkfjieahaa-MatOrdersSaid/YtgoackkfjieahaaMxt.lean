/-
  MatOrders: the walk. Condition: numbers of 64 bits.
-/
import Derived.Test.YtgoackkfjieahaaMyt
namespace Go.Proofs.Ytgoackkfjieahaa.T
open Go.RowKit D
set_option maxHeartbeats 8000000 in
set_option maxRecDepth 20000 in
theorem matOrders_huge (o m n : Mz) (k ca : Nat) (a : Option Addr) (l : List Mz) (w : World) (hl : (67108864 : Int) < (l.length : Int)) :
    Calls Try.prog 5 #[fv o, fv m, fv n, .int .u64 (k : Nat), .slice a l.length ca] w (fun e w' => e = .returned (.bool true) ∧ Below w.heap.size w w') := by
 have hsc := @run_store_c Try.prog
 have hfd := D.field_any 3
 have BW : Below w.heap.size w w := Below.refl _ _
 obtain ⟨V2, e3, hb4, K5, -, z1⟩ := alloc_new w [.int .i64 o.a, .int .i64 o.b, .int .i64 o.c, .int .i64 o.d] 23
 replace BW := BW.trans (hb4.mono BW.size)
 clear hb4
 obtain ⟨V7, e8, hb9, K10, -, z6⟩ := alloc_new V2 [.int .i64 m.a, .int .i64 m.b, .int .i64 m.c, .int .i64 m.d] 23
 rw [z1] at K10 z6
 replace BW := BW.trans (hb9.mono BW.size)
 clear hb9
 obtain ⟨V12, e13, hb14, K15, -, z11⟩ := alloc_new V7 [.int .i64 n.a, .int .i64 n.b, .int .i64 n.c, .int .i64 n.d] 23
 rw [z6] at K15 z11
 replace BW := BW.trans (hb14.mono BW.size)
 clear hb14
 obtain ⟨V16, e17, hb18, K19, -, -⟩ := alloc_new V12 [.int .i64 268435456] 3
 rw [z11] at K19
 replace BW := BW.trans (hb18.mono BW.size)
 clear hb18
 clear z1 z6 z11
 go_enter Try.func5, Try.ntmps5
 go_wp2_with fail
 rw [← e3, ← e8, ← e13, ← e17]
 clear e3 e8 e13 e17
 refine (beyond_yes K19.lt (K19.c1) (by omega) (by omega)).mono ?_
 rintro _ w20 ⟨rfl, hb⟩
 replace BW := BW.trans (hb.mono BW.size)
 clear hb
 go_wp2
 go_ret; exact ⟨rfl, BW⟩
set_option maxHeartbeats 8000000 in
set_option maxRecDepth 20000 in
theorem matOrders_long (o m n : Mz) (k ca : Nat) (a : Option Addr) (l : List Mz) (w : World) (hl : (l.length : Int) ≤ 67108864) (hl2 : (1048576 : Int) < 4 * (l.length : Int)) :
    Calls Try.prog 5 #[fv o, fv m, fv n, .int .u64 (k : Nat), .slice a l.length ca] w (fun e w' => e = .returned (.bool true) ∧ Below w.heap.size w w') := by
 have hsc := @run_store_c Try.prog
 have hfd := D.field_any 3
 have BW : Below w.heap.size w w := Below.refl _ _
 obtain ⟨V2, e3, hb4, K5, -, z1⟩ := alloc_new w [.int .i64 o.a, .int .i64 o.b, .int .i64 o.c, .int .i64 o.d] 23
 replace BW := BW.trans (hb4.mono BW.size)
 clear hb4
 obtain ⟨V7, e8, hb9, K10, -, z6⟩ := alloc_new V2 [.int .i64 m.a, .int .i64 m.b, .int .i64 m.c, .int .i64 m.d] 23
 rw [z1] at K10 z6
 replace BW := BW.trans (hb9.mono BW.size)
 clear hb9
 obtain ⟨V12, e13, hb14, K15, -, z11⟩ := alloc_new V7 [.int .i64 n.a, .int .i64 n.b, .int .i64 n.c, .int .i64 n.d] 23
 rw [z6] at K15 z11
 replace BW := BW.trans (hb14.mono BW.size)
 clear hb14
 obtain ⟨V16, e17, hb18, K19, -, -⟩ := alloc_new V12 [.int .i64 (4 * (l.length : Int))] 3
 rw [z11] at K19
 replace BW := BW.trans (hb18.mono BW.size)
 clear hb18
 clear z1 z6 z11
 go_enter Try.func5, Try.ntmps5
 go_wp2_with fail
 rw [← e3, ← e8, ← e13, ← e17]
 clear e3 e8 e13 e17
 refine (beyond_yes K19.lt (K19.c1) (by omega) (by omega)).mono ?_
 rintro _ w20 ⟨rfl, hb⟩
 replace BW := BW.trans (hb.mono BW.size)
 clear hb
 go_wp2
 go_ret; exact ⟨rfl, BW⟩
set_option maxHeartbeats 40000000 in
set_option maxRecDepth 100000 in
theorem matOrders_ok {R : Rg} (hR : Hid (R = rt)) (HR : RefR 3 R) (o m n O M N : Mz) (k ca : Nat) (a : Option Addr) (l ls : List Mz) (w : World) (hk : (k : Int) ≤ 18446744073709551615) (hl : 4 * (l.length : Int) ≤ 1048576) (HO : Hid (cv o = O)) (HM : Hid (cv m = M)) (HN : Hid (cv n = N)) (_HOO : Hid (OkR O)) (_HOM : Hid (OkR M)) (HLN : Hid (ls.length = l.length)) (HA : Hid (∀ (i : Nat) (mm : Mz), l[i]? = some mm → ∃ g off : Nat, a = some ⟨g, off, none⟩ ∧ At w g (off + i * 4) (W.mcv mm))) (HLS : Hid (∀ (i : Nat) (mm : Mz), l[i]? = some mm → ∃ cm, cv mm = cm ∧ ls[i]? = some cm)) (i0 : TypeInfo) (hi : Try.prog.info? 71 = some i0) (hz1 : i0.size = 4) (hz2 : i0.bytes = 32) (hz0 : i0.zero = some (.agg #[.int .i64 0, .int .i64 0, .int .i64 0, .int .i64 0])) (j0 : TypeInfo) (ji : Try.prog.info? 37 = some j0) (jz1 : j0.size = 12) (jz2 : j0.bytes = 128) (jz0 : j0.zero = some (.agg #[.int .i64 0, .int .i64 0, .complex .f64 0 0, .int .i64 0, .int .i64 0, .complex .f64 0 0, .int .i64 0, .int .i64 0, .complex .f64 0 0, .int .i64 0, .int .i64 0, .complex .f64 0 0])) :
    Calls Try.prog 5 #[fv o, fv m, fv n, .int .u64 (k : Nat), .slice a l.length ca] w (fun e w' => e = .returned (.bool true) ∧ Below w.heap.size w w') := by
 have hsc := @run_store_c Try.prog
 have hfd := D.field_any 3
 have BW : Below w.heap.size w w := Below.refl _ _
 obtain ⟨V2, e3, hb4, K5, -, z1⟩ := alloc_new w [.int .i64 o.a, .int .i64 o.b, .int .i64 o.c, .int .i64 o.d] 23
 replace BW := BW.trans (hb4.mono BW.size)
 clear hb4
 obtain ⟨V7, e8, hb9, K10, -, z6⟩ := alloc_new V2 [.int .i64 m.a, .int .i64 m.b, .int .i64 m.c, .int .i64 m.d] 23
 rw [z1] at K10 z6
 replace K5 := K5.on hb9
 replace BW := BW.trans (hb9.mono BW.size)
 clear hb9
 obtain ⟨V12, e13, hb14, K15, -, z11⟩ := alloc_new V7 [.int .i64 n.a, .int .i64 n.b, .int .i64 n.c, .int .i64 n.d] 23
 rw [z6] at K15 z11
 replace K5 := K5.on hb14
 replace K10 := K10.on hb14
 replace BW := BW.trans (hb14.mono BW.size)
 clear hb14
 obtain ⟨V16, e17, hb18, K19, -, -⟩ := alloc_new V12 [.int .i64 (4 * (l.length : Int))] 3
 rw [z11] at K19
 replace K5 := K5.on hb18
 replace K10 := K10.on hb18
 replace K15 := K15.on hb18
 replace BW := BW.trans (hb18.mono BW.size)
 clear hb18
 clear z1 z6 z11
 go_enter Try.func5, Try.ntmps5
 go_wp2_with fail
 rw [← e3, ← e8, ← e13, ← e17]
 clear e3 e8 e13 e17
 refine (beyond_no K19.lt (K19.c1) (by omega) (by omega)).mono ?_
 rintro _ w20 ⟨rfl, hb⟩
 replace K5 := K5.on hb
 replace K10 := K10.on hb
 replace K15 := K15.on hb
 replace K19 := K19.on hb
 replace BW := BW.trans (hb.mono BW.size)
 clear hb
 go_wp2_with fail
 have HB0 := Lib.hid (And.intro (And.intro BW K5) (And.intro K10 K15))
 clear K5 K10 K15 K19 BW
 go_wp2_with fail
 go_loopg [12, 13, 14] l.length (fun g fv bv iv wx => ∃ i : Nat, iv = .int .i64 (i : Nat) ∧ i + g = l.length ∧ Hid (LRow 4 wx w20.heap.size 71 fv i ((ls.take i).flatMap mcv) ∧ LRow 12 wx w20.heap.size 37 bv i ((ls.take i).flatMap (D.tcv 3)) ∧ (∀ q, InBlk fv q → ¬ InBlk bv q) ∧ Below w20.heap.size w20 wx))
 case atStart => exact ⟨0, rfl, by omega, Lib.hid ⟨LRow.nil _ _ _ _, LRow.nil _ _ _ _, (fun q h => by obtain ⟨_, _, h⟩ := h; cases h), Below.refl _ _⟩⟩
 case round =>
  obtain ⟨i, rfl, hi1, hrel2⟩ := hrel
  by_cases hlt : i < l.length
  ·have h1 : (i : Int) < (l.length : Int) := by omega
   obtain ⟨mm, hmm⟩ : ∃ mm, l[i]? = some mm := ⟨_, List.getElem?_eq_getElem hlt⟩
   obtain ⟨g, off, rfl, KA⟩ := HA.out i mm hmm
   obtain ⟨cm, hcm, hls⟩ := HLS.out i mm hmm
   obtain ⟨hrF, hrB, hdis, hbel⟩ := hrel2.out
   have hw0 := HB0.out.1.1.trans (hbel.mono HB0.out.1.1.size)
   have KR := KA.on hw0
   obtain ⟨c1, c2, c3, c4⟩ := KR.c4
   have HKA := Lib.hid KA
   have HCM := Lib.hid hcm
   have HH := Lib.hid (And.intro hls (And.intro hrF (And.intro hrB (And.intro hdis (And.intro hbel hw0)))))
   clear KA hmm hrF hrB hdis hbel hw0 KR hrel2 hcm hls
   go_wp2_with fail
   clear c1 c2 c3 c4
   refine (mkT HCM.out).mono ?_
   rintro _ w2 ⟨rfl, hb⟩
   obtain ⟨V, e1, hb1, K1, -, -⟩ := alloc_new w2 [.int .i64 cm.a, .int .i64 cm.b, .int .i64 cm.c, .int .i64 cm.d] 71
   have g2 : Below w20.heap.size w20 V := (HH.out.2.2.2.2.1.trans (hb.mono HH.out.2.2.2.2.1.size)).trans (hb1.mono (Nat.le_trans HH.out.2.2.2.2.1.size hb.size))
   have HS := Lib.hid (And.intro ((HH.out.2.1.on hb).on hb1) (And.intro K1.at_ g2.size))
   have HT := Lib.hid (And.intro ((HH.out.2.2.1.on hb).on hb1) g2)
   rw [e1] at HS HT
   clear e1 hb1 K1 g2 hb
   go_wp2_with (at_builtin; refine wpList_append_row _ rfl (.tmp 33) (.tmp 39) 68 rfl 4 w20.heap.size 71 i0 (.agg #[.int .i64 0, .int .i64 0, .int .i64 0, .int .i64 0]) 32 Try.underlying68 hi hz0 (by decide) hz1 hz2 rfl _ i ((ls.take i).flatMap mcv) rfl HS.out.1 ⟨w2.heap.size, 0, none⟩ 1 (mcv cm) rfl rfl HS.out.2.1 (mcv_one _) (by omega) (by omega) HS.out.2.2 ?_; intro v3 w3 h4 h5 h6; have HU := Lib.hid (And.intro h4 (And.intro (HT.out.1.oth h6 HH.out.2.2.2.1) (And.intro (h6.dis HT.out.1.lt HH.out.2.2.2.1) (HT.out.2.trans h5)))); clear h4 h5 h6 HS HT; have hw3 := HB0.out.1.1.trans (HU.out.2.2.2.mono HB0.out.1.1.size); have KR := HKA.out.on hw3; obtain ⟨c1, c2, c3, c4⟩ := KR.c4; clear hw3 KR)
   clear c1 c2 c3 c4
   refine (meantT HCM.out).mono ?_
   rintro _ w4 ⟨rfl, hb⟩
   obtain ⟨V, e1, hb1, K1, -, -⟩ := alloc_new w4 [.int .i64 3, .int .i64 cm.a, .complex .f64 0 0, .int .i64 3, .int .i64 cm.b, .complex .f64 0 0, .int .i64 3, .int .i64 cm.c, .complex .f64 0 0, .int .i64 3, .int .i64 cm.d, .complex .f64 0 0] 37
   have g2 : Below w20.heap.size w20 V := (HU.out.2.2.2.trans (hb.mono HU.out.2.2.2.size)).trans (hb1.mono (Nat.le_trans HU.out.2.2.2.size hb.size))
   have HS := Lib.hid (And.intro ((HU.out.2.1.on hb).on hb1) (And.intro K1.at_ g2.size))
   have HT := Lib.hid (And.intro ((HU.out.1.on hb).on hb1) g2)
   rw [e1] at HS HT
   clear e1 hb1 K1 g2 hb
   go_wp2_with (at_builtin; refine wpList_append_row _ rfl (.tmp 41) (.tmp 48) 28 rfl 12 w20.heap.size 37 j0 (.agg #[.int .i64 0, .int .i64 0, .complex .f64 0 0, .int .i64 0, .int .i64 0, .complex .f64 0 0, .int .i64 0, .int .i64 0, .complex .f64 0 0, .int .i64 0, .int .i64 0, .complex .f64 0 0]) 128 Try.underlying28 ji jz0 (by decide) jz1 jz2 rfl _ i ((ls.take i).flatMap (D.tcv 3)) rfl HS.out.1 ⟨w4.heap.size, 0, none⟩ 1 (D.tcv 3 cm) rfl rfl HS.out.2.1 (tcv_one _ _) (by omega) (by omega) HS.out.2.2 ?_; intro v5 w5 h4 h5 h6; have HX := Lib.hid (And.intro (HT.out.1.oth h6 (fun q h8 h9 => HU.out.2.2.1 q h9 h8)) (And.intro h4 (And.intro (fun q h8 h9 => h6.dis HT.out.1.lt (fun q h10 h11 => HU.out.2.2.1 q h11 h10) q h9 h8) (HT.out.2.trans h5)))); clear h4 h5 h6 HS HT HU HKA)
   go_roundg (gk - 1)
   case rel => exact ⟨i + 1, by go_num, by omega, Lib.hid ⟨by rw [snoc_map HH.out.1]; exact HX.out.1, by rw [snoc_map HH.out.1]; exact HX.out.2.1, HX.out.2.2.1, HX.out.2.2.2⟩⟩
   case measure => omega
  ·obtain rfl : i = l.length := by omega
   obtain ⟨hrF, hrB, hdis, hbel⟩ := hrel2.out
   rw [← HLN.out, List.take_length] at hrF hrB
   have KO := HB0.out.1.2.on hbel
   have KM := HB0.out.2.1.on hbel
   have KN := HB0.out.2.2.on hbel
   have BW := HB0.out.1.1.trans (hbel.mono HB0.out.1.1.size)
   clear hdis hbel hrel2 HB0 hlt hi1
   go_wp2_with fail
   go_cut [15, 16, 17] (fun sa sb sc wx => ∃ q0 q1 q2 : Nat, sa = .pointer (some ⟨q0, 0, none⟩) ∧ sb = .pointer (some ⟨q1, 0, none⟩) ∧ sc = .pointer (some ⟨q2, 0, none⟩) ∧ Box wx q0 [.int .i64 M.a, .int .i64 M.b, .int .i64 M.c, .int .i64 M.d] ∧ Box wx q1 [.int .i64 N.a, .int .i64 N.b, .int .i64 N.c, .int .i64 N.d] ∧ Box wx q2 [.int .i64 O.a, .int .i64 O.b, .int .i64 O.c, .int .i64 O.d] ∧ Below wr.heap.size wr wx)
   case first =>
    clear BW hrF hrB
    have BW := Below.refl wr.heap.size wr
    refine wp_region_noPanic ?_
    have hb : Below wr.heap.size wr wr.drew := (Below.refl _ _).drew
    replace KO := KO.on hb
    replace KM := KM.on hb
    replace KN := KN.on hb
    replace BW := BW.trans (hb.mono BW.size)
    clear hb
    refine wp_region_held_drew (S := (fun wx => Cs wx (w.heap.size) 0 [.int .i64 o.a, .int .i64 o.b, .int .i64 o.c, .int .i64 o.d] ∧ Cs wx (w.heap.size + 1) 0 [.int .i64 m.a, .int .i64 m.b, .int .i64 m.c, .int .i64 m.d] ∧ Cs wx (w.heap.size + 1 + 1) 0 [.int .i64 n.a, .int .i64 n.b, .int .i64 n.c, .int .i64 n.d])) (by kernel_rfl) (by exact ⟨(KO.on (Below.refl _ _)).cs, (KM.on (Below.refl _ _)).cs, (KN.on (Below.refl _ _)).cs⟩) (fun hHeld => ?_)
    generalize wr.drew = Vd701 at *
    refine pT 0 ?_
    (try simp only [p0, p1, p2, p3])
    refine pT 2 ?_
    (try simp only [p0, p1, p2, p3])
    refine pT 4 ?_
    (try simp only [p0, p1, p2, p3])
    have BW0 := BW
    refine nameH (fun OP QQ AA hOP hQQ hAA => ?_)
    have kya_3_7 : ∀ (q0 : Nat) (q1 : Nat) (q2 : Nat) (W : World) (hw : Below Vd701.heap.size Vd701 W) (b0 : Box W q0 [.int .i64 0, .int .i64 0, .int .i64 0, .int .i64 0]) (z0 : Fz W q0) (g0 : Vd701.heap.size ≤ q0) (b1 : Box W q1 [.int .i64 0, .int .i64 0, .int .i64 0, .int .i64 0]) (z1 : Fz W q1) (g1 : Vd701.heap.size ≤ q1) (b2 : Box W q2 [.int .i64 0, .int .i64 0, .int .i64 0, .int .i64 0]) (z2 : Fz W q2) (g2 : Vd701.heap.size ≤ q2) (n01 : q0 ≠ q1) (n02 : q0 ≠ q2) (n12 : q1 ≠ q2), wpAnyH Try.prog .any OP QQ (fun wx => Cs wx (w.heap.size) 0 [.int .i64 o.a, .int .i64 o.b, .int .i64 o.c, .int .i64 o.d] ∧ Cs wx (w.heap.size + 1) 0 [.int .i64 m.a, .int .i64 m.b, .int .i64 m.c, .int .i64 m.d] ∧ Cs wx (w.heap.size + 1 + 1) 0 [.int .i64 n.a, .int .i64 n.b, .int .i64 n.c, .int .i64 n.d]) 3 #[true, true, true, true, true, true, true, true, true, false, false, false] ((((((AA.put (some 51) ((.agg #[.int .i64 M.a, .int .i64 M.b, .int .i64 M.c, .int .i64 M.d]))).put (some 53) ((.agg #[.int .i64 N.a, .int .i64 N.b, .int .i64 N.c, .int .i64 N.d]))).put (some 55) ((.agg #[.int .i64 O.a, .int .i64 O.b, .int .i64 O.c, .int .i64 O.d]))).put (some 15) (.pointer (some ⟨q0, 0, none⟩))).put (some 16) (.pointer (some ⟨q1, 0, none⟩))).put (some 17) (.pointer (some ⟨q2, 0, none⟩))) W := by
     intro q0 q1 q2 W hw b0 z0 g0 b1 z1 g1 b2 z2 g2 n01 n02 n12
     subst hOP
     subst hQQ
     subst hAA
     (try simp only [p0, p1, p2, p3])
     have xKO := KO.on hw
     have xKM := KM.on hw
     have xKN := KN.on hw
     replace BW := BW.trans (hw.mono BW.size)
     have gw0 : wr.heap.size ≤ q0 := Nat.le_trans BW0.size g0
     have xKO0 : w.heap.size ≠ q0 := Nat.ne_of_lt (Nat.lt_of_lt_of_le KO.lt g0)
     have xKM0 : w.heap.size + 1 ≠ q0 := Nat.ne_of_lt (Nat.lt_of_lt_of_le KM.lt g0)
     have xKN0 : w.heap.size + 1 + 1 ≠ q0 := Nat.ne_of_lt (Nat.lt_of_lt_of_le KN.lt g0)
     have gw1 : wr.heap.size ≤ q1 := Nat.le_trans BW0.size g1
     have xKO1 : w.heap.size ≠ q1 := Nat.ne_of_lt (Nat.lt_of_lt_of_le KO.lt g1)
     have xKM1 : w.heap.size + 1 ≠ q1 := Nat.ne_of_lt (Nat.lt_of_lt_of_le KM.lt g1)
     have xKN1 : w.heap.size + 1 + 1 ≠ q1 := Nat.ne_of_lt (Nat.lt_of_lt_of_le KN.lt g1)
     have gw2 : wr.heap.size ≤ q2 := Nat.le_trans BW0.size g2
     have xKO2 : w.heap.size ≠ q2 := Nat.ne_of_lt (Nat.lt_of_lt_of_le KO.lt g2)
     have xKM2 : w.heap.size + 1 ≠ q2 := Nat.ne_of_lt (Nat.lt_of_lt_of_le KM.lt g2)
     have xKN2 : w.heap.size + 1 + 1 ≠ q2 := Nat.ne_of_lt (Nat.lt_of_lt_of_le KN.lt g2)
     refine pR1 9 (fun K hK => ?_)
     obtain ⟨c702, c703, c704, c705⟩ := b0.c4
     obtain ⟨c706, c707, c708, c709⟩ := z0.f4
     go_simp
     clear c702 c703 c704 c705 c706 c707 c708 c709
     obtain ⟨V710, hk712⟩ : ∃ V710, V710 = W.setCells (q0) 0 [.int .i64 M.a, .int .i64 M.b, .int .i64 M.c, .int .i64 M.d] := ⟨_, rfl⟩
     have e711 := hk712
     simp only [World.setCells, Nat.zero_add, Nat.reduceAdd] at e711
     have hk713 := Kept.overE hk712 b0 rfl (by simp)
     replace xKO := xKO.awayE hk712 xKO0
     replace xKM := xKM.awayE hk712 xKM0
     replace xKN := xKN.awayE hk712 xKN0
     replace b0 := b0.overE hk712 rfl
     replace b1 := b1.awayE hk712 n01.symm
     replace b2 := b2.awayE hk712 n02.symm
     replace z0 := z0.putE hk712
     replace z1 := z1.putE hk712
     replace z2 := z2.putE hk712
     replace BW := Below.putE BW hk712 gw0
     clear hk712 hk713
     rw [← e711]
     clear e711
     refine hK.out _ _ (by exact ⟨xKO.cs, xKM.cs, xKN.cs⟩) (fun hHeld => ?_)
     clear hK
     (try simp only [p1, p2, p3])
     refine pR1 10 (fun K hK => ?_)
     obtain ⟨c714, c715, c716, c717⟩ := b1.c4
     obtain ⟨c718, c719, c720, c721⟩ := z1.f4
     go_simp
     clear c714 c715 c716 c717 c718 c719 c720 c721
     obtain ⟨V722, hk724⟩ : ∃ V722, V722 = V710.setCells (q1) 0 [.int .i64 N.a, .int .i64 N.b, .int .i64 N.c, .int .i64 N.d] := ⟨_, rfl⟩
     have e723 := hk724
     simp only [World.setCells, Nat.zero_add, Nat.reduceAdd] at e723
     have hk725 := Kept.overE hk724 b1 rfl (by simp)
     replace xKO := xKO.awayE hk724 xKO1
     replace xKM := xKM.awayE hk724 xKM1
     replace xKN := xKN.awayE hk724 xKN1
     replace b0 := b0.awayE hk724 n01
     replace b1 := b1.overE hk724 rfl
     replace b2 := b2.awayE hk724 n12.symm
     replace z0 := z0.putE hk724
     replace z1 := z1.putE hk724
     replace z2 := z2.putE hk724
     replace BW := Below.putE BW hk724 gw1
     clear hk724 hk725
     rw [← e723]
     clear e723
     refine hK.out _ _ (by exact ⟨xKO.cs, xKM.cs, xKN.cs⟩) (fun hHeld => ?_)
     clear hK
     (try simp only [p1, p2, p3])
     refine pR1 11 (fun K hK => ?_)
     obtain ⟨c726, c727, c728, c729⟩ := b2.c4
     obtain ⟨c730, c731, c732, c733⟩ := z2.f4
     go_simp
     clear c726 c727 c728 c729 c730 c731 c732 c733
     obtain ⟨V734, hk736⟩ : ∃ V734, V734 = V722.setCells (q2) 0 [.int .i64 O.a, .int .i64 O.b, .int .i64 O.c, .int .i64 O.d] := ⟨_, rfl⟩
     have e735 := hk736
     simp only [World.setCells, Nat.zero_add, Nat.reduceAdd] at e735
     have hk737 := Kept.overE hk736 b2 rfl (by simp)
     replace xKO := xKO.awayE hk736 xKO2
     replace xKM := xKM.awayE hk736 xKM2
     replace xKN := xKN.awayE hk736 xKN2
     replace b0 := b0.awayE hk736 n02
     replace b1 := b1.awayE hk736 n12
     replace b2 := b2.overE hk736 rfl
     replace z0 := z0.putE hk736
     replace z1 := z1.putE hk736
     replace z2 := z2.putE hk736
     replace BW := Below.putE BW hk736 gw2
     clear hk736 hk737
     rw [← e735]
     clear e735
     refine hK.out _ _ (by exact ⟨xKO.cs, xKM.cs, xKN.cs⟩) (fun hHeld => ?_)
     clear hK
     (try simp only [p1, p2, p3])
     refine wpAnyH_done (by kernel_rfl) (NoPanic.normal ?_) _
     go_wp2
     go_meet
     exact ⟨q0, q1, q2, rfl, rfl, rfl, b0, b1, b2, BW⟩
    have kya_2_7 : ∀ (q0 : Nat) (q1 : Nat) (q2 : Nat) (W : World) (hw : Below Vd701.heap.size Vd701 W) (b0 : Box W q0 [.int .i64 0, .int .i64 0, .int .i64 0, .int .i64 0]) (z0 : Fz W q0) (g0 : Vd701.heap.size ≤ q0) (b1 : Box W q1 [.int .i64 0, .int .i64 0, .int .i64 0, .int .i64 0]) (z1 : Fz W q1) (g1 : Vd701.heap.size ≤ q1) (b2 : Box W q2 [.int .i64 0, .int .i64 0, .int .i64 0, .int .i64 0]) (z2 : Fz W q2) (g2 : Vd701.heap.size ≤ q2) (n01 : q0 ≠ q1) (n02 : q0 ≠ q2) (n12 : q1 ≠ q2), wpAnyH Try.prog .any OP QQ (fun wx => Cs wx (w.heap.size) 0 [.int .i64 o.a, .int .i64 o.b, .int .i64 o.c, .int .i64 o.d] ∧ Cs wx (w.heap.size + 1) 0 [.int .i64 m.a, .int .i64 m.b, .int .i64 m.c, .int .i64 m.d] ∧ Cs wx (w.heap.size + 1 + 1) 0 [.int .i64 n.a, .int .i64 n.b, .int .i64 n.c, .int .i64 n.d]) 4 #[true, true, true, true, true, false, true, true, true, false, false, false] (((((AA.put (some 51) ((.agg #[.int .i64 M.a, .int .i64 M.b, .int .i64 M.c, .int .i64 M.d]))).put (some 53) ((.agg #[.int .i64 N.a, .int .i64 N.b, .int .i64 N.c, .int .i64 N.d]))).put (some 15) (.pointer (some ⟨q0, 0, none⟩))).put (some 16) (.pointer (some ⟨q1, 0, none⟩))).put (some 17) (.pointer (some ⟨q2, 0, none⟩))) W := by
     intro q0 q1 q2 W hw b0 z0 g0 b1 z1 g1 b2 z2 g2 n01 n02 n12
     subst hOP
     subst hQQ
     subst hAA
     (try simp only [p0, p1, p2, p3])
     refine pR1 5 (fun K hK => ?_)
     go_simp
     (go_at_call 38; with_reducible refine (mkT HO.out).mono ?_)
     rintro _ W2 ⟨rfl, hb⟩
     (try go_wp2_with fail)
     have hw2 := hw.trans (hb.mono hw.size)
     refine hK.out _ _ (by exact ⟨(KO.on (hw2)).cs, (KM.on (hw2)).cs, (KN.on (hw2)).cs⟩) (fun hHeld => ?_)
     clear hK
     (try simp only [p1, p2, p3])
     have ky := kya_3_7 q0 q1 q2 W2 hw2 (b0.on hb) (z0.on hb) g0 (b1.on hb) (z1.on hb) g1 (b2.on hb) (z2.on hb) g2 n01 n02 n12
     (try simp only [p0, p1, p2, p3] at ky)
     exact castL (by kernel_rfl) ky
    have kya_3_3 : ∀ (q0 : Nat) (q1 : Nat) (W : World) (hw : Below Vd701.heap.size Vd701 W) (b0 : Box W q0 [.int .i64 0, .int .i64 0, .int .i64 0, .int .i64 0]) (z0 : Fz W q0) (g0 : Vd701.heap.size ≤ q0) (b1 : Box W q1 [.int .i64 0, .int .i64 0, .int .i64 0, .int .i64 0]) (z1 : Fz W q1) (g1 : Vd701.heap.size ≤ q1) (n01 : q0 ≠ q1), wpAnyH Try.prog .any OP QQ (fun wx => Cs wx (w.heap.size) 0 [.int .i64 o.a, .int .i64 o.b, .int .i64 o.c, .int .i64 o.d] ∧ Cs wx (w.heap.size + 1) 0 [.int .i64 m.a, .int .i64 m.b, .int .i64 m.c, .int .i64 m.d] ∧ Cs wx (w.heap.size + 1 + 1) 0 [.int .i64 n.a, .int .i64 n.b, .int .i64 n.c, .int .i64 n.d]) 4 #[true, true, true, true, true, true, true, true, false, false, false, false] (((((AA.put (some 51) ((.agg #[.int .i64 M.a, .int .i64 M.b, .int .i64 M.c, .int .i64 M.d]))).put (some 53) ((.agg #[.int .i64 N.a, .int .i64 N.b, .int .i64 N.c, .int .i64 N.d]))).put (some 55) ((.agg #[.int .i64 O.a, .int .i64 O.b, .int .i64 O.c, .int .i64 O.d]))).put (some 15) (.pointer (some ⟨q0, 0, none⟩))).put (some 16) (.pointer (some ⟨q1, 0, none⟩))) W := by
     intro q0 q1 W hw b0 z0 g0 b1 z1 g1 n01
     subst hOP
     subst hQQ
     subst hAA
     (try simp only [p0, p1, p2, p3])
     refine pR1 8 (fun K hK => ?_)
     go_simp
     obtain ⟨V2, e2, hb, K2, Z2, -⟩ := alloc_new W [.int .i64 0, .int .i64 0, .int .i64 0, .int .i64 0] 71
     rw [← e2]
     clear e2
     have hw2 := hw.trans (hb.mono hw.size)
     refine hK.out _ _ (by exact ⟨(KO.on (hw2)).cs, (KM.on (hw2)).cs, (KN.on (hw2)).cs⟩) (fun hHeld => ?_)
     clear hK
     (try simp only [p1, p2, p3])
     have ky := kya_3_7 q0 q1 W.heap.size V2 hw2 (b0.on hb) (z0.on hb) g0 (b1.on hb) (z1.on hb) g1 K2 Z2 hw.size n01 (Nat.ne_of_lt b0.lt) (Nat.ne_of_lt b1.lt)
     (try simp only [p0, p1, p2, p3] at ky)
     exact castL (by kernel_rfl) ky
    have kya_3_5 : ∀ (q0 : Nat) (q2 : Nat) (W : World) (hw : Below Vd701.heap.size Vd701 W) (b0 : Box W q0 [.int .i64 0, .int .i64 0, .int .i64 0, .int .i64 0]) (z0 : Fz W q0) (g0 : Vd701.heap.size ≤ q0) (b2 : Box W q2 [.int .i64 0, .int .i64 0, .int .i64 0, .int .i64 0]) (z2 : Fz W q2) (g2 : Vd701.heap.size ≤ q2) (n02 : q0 ≠ q2), wpAnyH Try.prog .any OP QQ (fun wx => Cs wx (w.heap.size) 0 [.int .i64 o.a, .int .i64 o.b, .int .i64 o.c, .int .i64 o.d] ∧ Cs wx (w.heap.size + 1) 0 [.int .i64 m.a, .int .i64 m.b, .int .i64 m.c, .int .i64 m.d] ∧ Cs wx (w.heap.size + 1 + 1) 0 [.int .i64 n.a, .int .i64 n.b, .int .i64 n.c, .int .i64 n.d]) 4 #[true, true, true, true, true, true, true, false, true, false, false, false] (((((AA.put (some 51) ((.agg #[.int .i64 M.a, .int .i64 M.b, .int .i64 M.c, .int .i64 M.d]))).put (some 53) ((.agg #[.int .i64 N.a, .int .i64 N.b, .int .i64 N.c, .int .i64 N.d]))).put (some 55) ((.agg #[.int .i64 O.a, .int .i64 O.b, .int .i64 O.c, .int .i64 O.d]))).put (some 15) (.pointer (some ⟨q0, 0, none⟩))).put (some 17) (.pointer (some ⟨q2, 0, none⟩))) W := by
     intro q0 q2 W hw b0 z0 g0 b2 z2 g2 n02
     subst hOP
     subst hQQ
     subst hAA
     (try simp only [p0, p1, p2, p3])
     refine pR1 7 (fun K hK => ?_)
     go_simp
     obtain ⟨V2, e2, hb, K2, Z2, -⟩ := alloc_new W [.int .i64 0, .int .i64 0, .int .i64 0, .int .i64 0] 71
     rw [← e2]
     clear e2
     have hw2 := hw.trans (hb.mono hw.size)
     refine hK.out _ _ (by exact ⟨(KO.on (hw2)).cs, (KM.on (hw2)).cs, (KN.on (hw2)).cs⟩) (fun hHeld => ?_)
     clear hK
     (try simp only [p1, p2, p3])
     have ky := kya_3_7 q0 W.heap.size q2 V2 hw2 (b0.on hb) (z0.on hb) g0 K2 Z2 hw.size (b2.on hb) (z2.on hb) g2 (Nat.ne_of_lt b0.lt) n02 (Nat.ne_of_lt b2.lt).symm
     (try simp only [p0, p1, p2, p3] at ky)
     exact castL (by kernel_rfl) ky
    have kya_3_6 : ∀ (q1 : Nat) (q2 : Nat) (W : World) (hw : Below Vd701.heap.size Vd701 W) (b1 : Box W q1 [.int .i64 0, .int .i64 0, .int .i64 0, .int .i64 0]) (z1 : Fz W q1) (g1 : Vd701.heap.size ≤ q1) (b2 : Box W q2 [.int .i64 0, .int .i64 0, .int .i64 0, .int .i64 0]) (z2 : Fz W q2) (g2 : Vd701.heap.size ≤ q2) (n12 : q1 ≠ q2), wpAnyH Try.prog .any OP QQ (fun wx => Cs wx (w.heap.size) 0 [.int .i64 o.a, .int .i64 o.b, .int .i64 o.c, .int .i64 o.d] ∧ Cs wx (w.heap.size + 1) 0 [.int .i64 m.a, .int .i64 m.b, .int .i64 m.c, .int .i64 m.d] ∧ Cs wx (w.heap.size + 1 + 1) 0 [.int .i64 n.a, .int .i64 n.b, .int .i64 n.c, .int .i64 n.d]) 4 #[true, true, true, true, true, true, false, true, true, false, false, false] (((((AA.put (some 51) ((.agg #[.int .i64 M.a, .int .i64 M.b, .int .i64 M.c, .int .i64 M.d]))).put (some 53) ((.agg #[.int .i64 N.a, .int .i64 N.b, .int .i64 N.c, .int .i64 N.d]))).put (some 55) ((.agg #[.int .i64 O.a, .int .i64 O.b, .int .i64 O.c, .int .i64 O.d]))).put (some 16) (.pointer (some ⟨q1, 0, none⟩))).put (some 17) (.pointer (some ⟨q2, 0, none⟩))) W := by
     intro q1 q2 W hw b1 z1 g1 b2 z2 g2 n12
     subst hOP
     subst hQQ
     subst hAA
     (try simp only [p0, p1, p2, p3])
     refine pR1 6 (fun K hK => ?_)
     go_simp
     obtain ⟨V2, e2, hb, K2, Z2, -⟩ := alloc_new W [.int .i64 0, .int .i64 0, .int .i64 0, .int .i64 0] 71
     rw [← e2]
     clear e2
     have hw2 := hw.trans (hb.mono hw.size)
     refine hK.out _ _ (by exact ⟨(KO.on (hw2)).cs, (KM.on (hw2)).cs, (KN.on (hw2)).cs⟩) (fun hHeld => ?_)
     clear hK
     (try simp only [p1, p2, p3])
     have ky := kya_3_7 W.heap.size q1 q2 V2 hw2 K2 Z2 hw.size (b1.on hb) (z1.on hb) g1 (b2.on hb) (z2.on hb) g2 (Nat.ne_of_lt b1.lt).symm (Nat.ne_of_lt b2.lt).symm n12
     (try simp only [p0, p1, p2, p3] at ky)
     exact castL (by kernel_rfl) ky
    have kya_1_7 : ∀ (q0 : Nat) (q1 : Nat) (q2 : Nat) (W : World) (hw : Below Vd701.heap.size Vd701 W) (b0 : Box W q0 [.int .i64 0, .int .i64 0, .int .i64 0, .int .i64 0]) (z0 : Fz W q0) (g0 : Vd701.heap.size ≤ q0) (b1 : Box W q1 [.int .i64 0, .int .i64 0, .int .i64 0, .int .i64 0]) (z1 : Fz W q1) (g1 : Vd701.heap.size ≤ q1) (b2 : Box W q2 [.int .i64 0, .int .i64 0, .int .i64 0, .int .i64 0]) (z2 : Fz W q2) (g2 : Vd701.heap.size ≤ q2) (n01 : q0 ≠ q1) (n02 : q0 ≠ q2) (n12 : q1 ≠ q2), wpAnyH Try.prog .any OP QQ (fun wx => Cs wx (w.heap.size) 0 [.int .i64 o.a, .int .i64 o.b, .int .i64 o.c, .int .i64 o.d] ∧ Cs wx (w.heap.size + 1) 0 [.int .i64 m.a, .int .i64 m.b, .int .i64 m.c, .int .i64 m.d] ∧ Cs wx (w.heap.size + 1 + 1) 0 [.int .i64 n.a, .int .i64 n.b, .int .i64 n.c, .int .i64 n.d]) 5 #[true, true, true, false, true, false, true, true, true, false, false, false] ((((AA.put (some 51) ((.agg #[.int .i64 M.a, .int .i64 M.b, .int .i64 M.c, .int .i64 M.d]))).put (some 15) (.pointer (some ⟨q0, 0, none⟩))).put (some 16) (.pointer (some ⟨q1, 0, none⟩))).put (some 17) (.pointer (some ⟨q2, 0, none⟩))) W := by
     intro q0 q1 q2 W hw b0 z0 g0 b1 z1 g1 b2 z2 g2 n01 n02 n12
     subst hOP
     subst hQQ
     subst hAA
     (try simp only [p0, p1, p2, p3])
     refine pR1 3 (fun K hK => ?_)
     go_simp
     (go_at_call 38; with_reducible refine (mkT HN.out).mono ?_)
     rintro _ W2 ⟨rfl, hb⟩
     (try go_wp2_with fail)
     have hw2 := hw.trans (hb.mono hw.size)
     refine hK.out _ _ (by exact ⟨(KO.on (hw2)).cs, (KM.on (hw2)).cs, (KN.on (hw2)).cs⟩) (fun hHeld => ?_)
     clear hK
     (try simp only [p1, p2, p3])
     have ky := kya_2_7 q0 q1 q2 W2 hw2 (b0.on hb) (z0.on hb) g0 (b1.on hb) (z1.on hb) g1 (b2.on hb) (z2.on hb) g2 n01 n02 n12
     (try simp only [p0, p1, p2, p3] at ky)
     exact castL (by kernel_rfl) ky
    have kya_2_3 : ∀ (q0 : Nat) (q1 : Nat) (W : World) (hw : Below Vd701.heap.size Vd701 W) (b0 : Box W q0 [.int .i64 0, .int .i64 0, .int .i64 0, .int .i64 0]) (z0 : Fz W q0) (g0 : Vd701.heap.size ≤ q0) (b1 : Box W q1 [.int .i64 0, .int .i64 0, .int .i64 0, .int .i64 0]) (z1 : Fz W q1) (g1 : Vd701.heap.size ≤ q1) (n01 : q0 ≠ q1), wpAnyH Try.prog .any OP QQ (fun wx => Cs wx (w.heap.size) 0 [.int .i64 o.a, .int .i64 o.b, .int .i64 o.c, .int .i64 o.d] ∧ Cs wx (w.heap.size + 1) 0 [.int .i64 m.a, .int .i64 m.b, .int .i64 m.c, .int .i64 m.d] ∧ Cs wx (w.heap.size + 1 + 1) 0 [.int .i64 n.a, .int .i64 n.b, .int .i64 n.c, .int .i64 n.d]) 5 #[true, true, true, true, true, false, true, true, false, false, false, false] ((((AA.put (some 51) ((.agg #[.int .i64 M.a, .int .i64 M.b, .int .i64 M.c, .int .i64 M.d]))).put (some 53) ((.agg #[.int .i64 N.a, .int .i64 N.b, .int .i64 N.c, .int .i64 N.d]))).put (some 15) (.pointer (some ⟨q0, 0, none⟩))).put (some 16) (.pointer (some ⟨q1, 0, none⟩))) W := by
     intro q0 q1 W hw b0 z0 g0 b1 z1 g1 n01
     subst hOP
     subst hQQ
     subst hAA
     (try simp only [p0, p1, p2, p3])
     refine pR2 5 8 (fun K hK => ?_) (fun K hK => ?_)
     ·go_simp
      (go_at_call 38; with_reducible refine (mkT HO.out).mono ?_)
      rintro _ W2 ⟨rfl, hb⟩
      (try go_wp2_with fail)
      have hw2 := hw.trans (hb.mono hw.size)
      refine hK.out _ _ (by exact ⟨(KO.on (hw2)).cs, (KM.on (hw2)).cs, (KN.on (hw2)).cs⟩) (fun hHeld => ?_)
      clear hK
      (try simp only [p1, p2, p3])
      have ky := kya_3_3 q0 q1 W2 hw2 (b0.on hb) (z0.on hb) g0 (b1.on hb) (z1.on hb) g1 n01
      (try simp only [p0, p1, p2, p3] at ky)
      exact castL (by kernel_rfl) ky
     ·go_simp
      obtain ⟨V2, e2, hb, K2, Z2, -⟩ := alloc_new W [.int .i64 0, .int .i64 0, .int .i64 0, .int .i64 0] 71
      rw [← e2]
      clear e2
      have hw2 := hw.trans (hb.mono hw.size)
      refine hK.out _ _ (by exact ⟨(KO.on (hw2)).cs, (KM.on (hw2)).cs, (KN.on (hw2)).cs⟩) (fun hHeld => ?_)
      clear hK
      (try simp only [p1, p2, p3])
      have ky := kya_2_7 q0 q1 W.heap.size V2 hw2 (b0.on hb) (z0.on hb) g0 (b1.on hb) (z1.on hb) g1 K2 Z2 hw.size n01 (Nat.ne_of_lt b0.lt) (Nat.ne_of_lt b1.lt)
      (try simp only [p0, p1, p2, p3] at ky)
      exact castL (by kernel_rfl) ky
    have kya_2_5 : ∀ (q0 : Nat) (q2 : Nat) (W : World) (hw : Below Vd701.heap.size Vd701 W) (b0 : Box W q0 [.int .i64 0, .int .i64 0, .int .i64 0, .int .i64 0]) (z0 : Fz W q0) (g0 : Vd701.heap.size ≤ q0) (b2 : Box W q2 [.int .i64 0, .int .i64 0, .int .i64 0, .int .i64 0]) (z2 : Fz W q2) (g2 : Vd701.heap.size ≤ q2) (n02 : q0 ≠ q2), wpAnyH Try.prog .any OP QQ (fun wx => Cs wx (w.heap.size) 0 [.int .i64 o.a, .int .i64 o.b, .int .i64 o.c, .int .i64 o.d] ∧ Cs wx (w.heap.size + 1) 0 [.int .i64 m.a, .int .i64 m.b, .int .i64 m.c, .int .i64 m.d] ∧ Cs wx (w.heap.size + 1 + 1) 0 [.int .i64 n.a, .int .i64 n.b, .int .i64 n.c, .int .i64 n.d]) 5 #[true, true, true, true, true, false, true, false, true, false, false, false] ((((AA.put (some 51) ((.agg #[.int .i64 M.a, .int .i64 M.b, .int .i64 M.c, .int .i64 M.d]))).put (some 53) ((.agg #[.int .i64 N.a, .int .i64 N.b, .int .i64 N.c, .int .i64 N.d]))).put (some 15) (.pointer (some ⟨q0, 0, none⟩))).put (some 17) (.pointer (some ⟨q2, 0, none⟩))) W := by
     intro q0 q2 W hw b0 z0 g0 b2 z2 g2 n02
     subst hOP
     subst hQQ
     subst hAA
     (try simp only [p0, p1, p2, p3])
     refine pR2 5 7 (fun K hK => ?_) (fun K hK => ?_)
     ·go_simp
      (go_at_call 38; with_reducible refine (mkT HO.out).mono ?_)
      rintro _ W2 ⟨rfl, hb⟩
      (try go_wp2_with fail)
      have hw2 := hw.trans (hb.mono hw.size)
      refine hK.out _ _ (by exact ⟨(KO.on (hw2)).cs, (KM.on (hw2)).cs, (KN.on (hw2)).cs⟩) (fun hHeld => ?_)
      clear hK
      (try simp only [p1, p2, p3])
      have ky := kya_3_5 q0 q2 W2 hw2 (b0.on hb) (z0.on hb) g0 (b2.on hb) (z2.on hb) g2 n02
      (try simp only [p0, p1, p2, p3] at ky)
      exact castL (by kernel_rfl) ky
     ·go_simp
      obtain ⟨V2, e2, hb, K2, Z2, -⟩ := alloc_new W [.int .i64 0, .int .i64 0, .int .i64 0, .int .i64 0] 71
      rw [← e2]
      clear e2
      have hw2 := hw.trans (hb.mono hw.size)
      refine hK.out _ _ (by exact ⟨(KO.on (hw2)).cs, (KM.on (hw2)).cs, (KN.on (hw2)).cs⟩) (fun hHeld => ?_)
      clear hK
      (try simp only [p1, p2, p3])
      have ky := kya_2_7 q0 W.heap.size q2 V2 hw2 (b0.on hb) (z0.on hb) g0 K2 Z2 hw.size (b2.on hb) (z2.on hb) g2 (Nat.ne_of_lt b0.lt) n02 (Nat.ne_of_lt b2.lt).symm
      (try simp only [p0, p1, p2, p3] at ky)
      exact castL (by kernel_rfl) ky
    have kya_2_6 : ∀ (q1 : Nat) (q2 : Nat) (W : World) (hw : Below Vd701.heap.size Vd701 W) (b1 : Box W q1 [.int .i64 0, .int .i64 0, .int .i64 0, .int .i64 0]) (z1 : Fz W q1) (g1 : Vd701.heap.size ≤ q1) (b2 : Box W q2 [.int .i64 0, .int .i64 0, .int .i64 0, .int .i64 0]) (z2 : Fz W q2) (g2 : Vd701.heap.size ≤ q2) (n12 : q1 ≠ q2), wpAnyH Try.prog .any OP QQ (fun wx => Cs wx (w.heap.size) 0 [.int .i64 o.a, .int .i64 o.b, .int .i64 o.c, .int .i64 o.d] ∧ Cs wx (w.heap.size + 1) 0 [.int .i64 m.a, .int .i64 m.b, .int .i64 m.c, .int .i64 m.d] ∧ Cs wx (w.heap.size + 1 + 1) 0 [.int .i64 n.a, .int .i64 n.b, .int .i64 n.c, .int .i64 n.d]) 5 #[true, true, true, true, true, false, false, true, true, false, false, false] ((((AA.put (some 51) ((.agg #[.int .i64 M.a, .int .i64 M.b, .int .i64 M.c, .int .i64 M.d]))).put (some 53) ((.agg #[.int .i64 N.a, .int .i64 N.b, .int .i64 N.c, .int .i64 N.d]))).put (some 16) (.pointer (some ⟨q1, 0, none⟩))).put (some 17) (.pointer (some ⟨q2, 0, none⟩))) W := by
     intro q1 q2 W hw b1 z1 g1 b2 z2 g2 n12
     subst hOP
     subst hQQ
     subst hAA
     (try simp only [p0, p1, p2, p3])
     refine pR2 5 6 (fun K hK => ?_) (fun K hK => ?_)
     ·go_simp
      (go_at_call 38; with_reducible refine (mkT HO.out).mono ?_)
      rintro _ W2 ⟨rfl, hb⟩
      (try go_wp2_with fail)
      have hw2 := hw.trans (hb.mono hw.size)
      refine hK.out _ _ (by exact ⟨(KO.on (hw2)).cs, (KM.on (hw2)).cs, (KN.on (hw2)).cs⟩) (fun hHeld => ?_)
      clear hK
      (try simp only [p1, p2, p3])
      have ky := kya_3_6 q1 q2 W2 hw2 (b1.on hb) (z1.on hb) g1 (b2.on hb) (z2.on hb) g2 n12
      (try simp only [p0, p1, p2, p3] at ky)
      exact castL (by kernel_rfl) ky
     ·go_simp
      obtain ⟨V2, e2, hb, K2, Z2, -⟩ := alloc_new W [.int .i64 0, .int .i64 0, .int .i64 0, .int .i64 0] 71
      rw [← e2]
      clear e2
      have hw2 := hw.trans (hb.mono hw.size)
      refine hK.out _ _ (by exact ⟨(KO.on (hw2)).cs, (KM.on (hw2)).cs, (KN.on (hw2)).cs⟩) (fun hHeld => ?_)
      clear hK
      (try simp only [p1, p2, p3])
      have ky := kya_2_7 W.heap.size q1 q2 V2 hw2 K2 Z2 hw.size (b1.on hb) (z1.on hb) g1 (b2.on hb) (z2.on hb) g2 (Nat.ne_of_lt b1.lt).symm (Nat.ne_of_lt b2.lt).symm n12
      (try simp only [p0, p1, p2, p3] at ky)
      exact castL (by kernel_rfl) ky
    have kya_3_1 : ∀ (q0 : Nat) (W : World) (hw : Below Vd701.heap.size Vd701 W) (b0 : Box W q0 [.int .i64 0, .int .i64 0, .int .i64 0, .int .i64 0]) (z0 : Fz W q0) (g0 : Vd701.heap.size ≤ q0) , wpAnyH Try.prog .any OP QQ (fun wx => Cs wx (w.heap.size) 0 [.int .i64 o.a, .int .i64 o.b, .int .i64 o.c, .int .i64 o.d] ∧ Cs wx (w.heap.size + 1) 0 [.int .i64 m.a, .int .i64 m.b, .int .i64 m.c, .int .i64 m.d] ∧ Cs wx (w.heap.size + 1 + 1) 0 [.int .i64 n.a, .int .i64 n.b, .int .i64 n.c, .int .i64 n.d]) 5 #[true, true, true, true, true, true, true, false, false, false, false, false] ((((AA.put (some 51) ((.agg #[.int .i64 M.a, .int .i64 M.b, .int .i64 M.c, .int .i64 M.d]))).put (some 53) ((.agg #[.int .i64 N.a, .int .i64 N.b, .int .i64 N.c, .int .i64 N.d]))).put (some 55) ((.agg #[.int .i64 O.a, .int .i64 O.b, .int .i64 O.c, .int .i64 O.d]))).put (some 15) (.pointer (some ⟨q0, 0, none⟩))) W := by
     intro q0 W hw b0 z0 g0
     subst hOP
     subst hQQ
     subst hAA
     (try simp only [p0, p1, p2, p3])
     refine pR2 7 8 (fun K hK => ?_) (fun K hK => ?_)
     ·go_simp
      obtain ⟨V2, e2, hb, K2, Z2, -⟩ := alloc_new W [.int .i64 0, .int .i64 0, .int .i64 0, .int .i64 0] 71
      rw [← e2]
      clear e2
      have hw2 := hw.trans (hb.mono hw.size)
      refine hK.out _ _ (by exact ⟨(KO.on (hw2)).cs, (KM.on (hw2)).cs, (KN.on (hw2)).cs⟩) (fun hHeld => ?_)
      clear hK
      (try simp only [p1, p2, p3])
      have ky := kya_3_3 q0 W.heap.size V2 hw2 (b0.on hb) (z0.on hb) g0 K2 Z2 hw.size (Nat.ne_of_lt b0.lt)
      (try simp only [p0, p1, p2, p3] at ky)
      exact castL (by kernel_rfl) ky
     ·go_simp
      obtain ⟨V2, e2, hb, K2, Z2, -⟩ := alloc_new W [.int .i64 0, .int .i64 0, .int .i64 0, .int .i64 0] 71
      rw [← e2]
      clear e2
      have hw2 := hw.trans (hb.mono hw.size)
      refine hK.out _ _ (by exact ⟨(KO.on (hw2)).cs, (KM.on (hw2)).cs, (KN.on (hw2)).cs⟩) (fun hHeld => ?_)
      clear hK
      (try simp only [p1, p2, p3])
      have ky := kya_3_5 q0 W.heap.size V2 hw2 (b0.on hb) (z0.on hb) g0 K2 Z2 hw.size (Nat.ne_of_lt b0.lt)
      (try simp only [p0, p1, p2, p3] at ky)
      exact castL (by kernel_rfl) ky
    have kya_3_2 : ∀ (q1 : Nat) (W : World) (hw : Below Vd701.heap.size Vd701 W) (b1 : Box W q1 [.int .i64 0, .int .i64 0, .int .i64 0, .int .i64 0]) (z1 : Fz W q1) (g1 : Vd701.heap.size ≤ q1) , wpAnyH Try.prog .any OP QQ (fun wx => Cs wx (w.heap.size) 0 [.int .i64 o.a, .int .i64 o.b, .int .i64 o.c, .int .i64 o.d] ∧ Cs wx (w.heap.size + 1) 0 [.int .i64 m.a, .int .i64 m.b, .int .i64 m.c, .int .i64 m.d] ∧ Cs wx (w.heap.size + 1 + 1) 0 [.int .i64 n.a, .int .i64 n.b, .int .i64 n.c, .int .i64 n.d]) 5 #[true, true, true, true, true, true, false, true, false, false, false, false] ((((AA.put (some 51) ((.agg #[.int .i64 M.a, .int .i64 M.b, .int .i64 M.c, .int .i64 M.d]))).put (some 53) ((.agg #[.int .i64 N.a, .int .i64 N.b, .int .i64 N.c, .int .i64 N.d]))).put (some 55) ((.agg #[.int .i64 O.a, .int .i64 O.b, .int .i64 O.c, .int .i64 O.d]))).put (some 16) (.pointer (some ⟨q1, 0, none⟩))) W := by
     intro q1 W hw b1 z1 g1
     subst hOP
     subst hQQ
     subst hAA
     (try simp only [p0, p1, p2, p3])
     refine pR2 6 8 (fun K hK => ?_) (fun K hK => ?_)
     ·go_simp
      obtain ⟨V2, e2, hb, K2, Z2, -⟩ := alloc_new W [.int .i64 0, .int .i64 0, .int .i64 0, .int .i64 0] 71
      rw [← e2]
      clear e2
      have hw2 := hw.trans (hb.mono hw.size)
      refine hK.out _ _ (by exact ⟨(KO.on (hw2)).cs, (KM.on (hw2)).cs, (KN.on (hw2)).cs⟩) (fun hHeld => ?_)
      clear hK
      (try simp only [p1, p2, p3])
      have ky := kya_3_3 W.heap.size q1 V2 hw2 K2 Z2 hw.size (b1.on hb) (z1.on hb) g1 (Nat.ne_of_lt b1.lt).symm
      (try simp only [p0, p1, p2, p3] at ky)
      exact castL (by kernel_rfl) ky
     ·go_simp
      obtain ⟨V2, e2, hb, K2, Z2, -⟩ := alloc_new W [.int .i64 0, .int .i64 0, .int .i64 0, .int .i64 0] 71
      rw [← e2]
      clear e2
      have hw2 := hw.trans (hb.mono hw.size)
      refine hK.out _ _ (by exact ⟨(KO.on (hw2)).cs, (KM.on (hw2)).cs, (KN.on (hw2)).cs⟩) (fun hHeld => ?_)
      clear hK
      (try simp only [p1, p2, p3])
      have ky := kya_3_6 q1 W.heap.size V2 hw2 (b1.on hb) (z1.on hb) g1 K2 Z2 hw.size (Nat.ne_of_lt b1.lt)
      (try simp only [p0, p1, p2, p3] at ky)
      exact castL (by kernel_rfl) ky
    have kya_3_4 : ∀ (q2 : Nat) (W : World) (hw : Below Vd701.heap.size Vd701 W) (b2 : Box W q2 [.int .i64 0, .int .i64 0, .int .i64 0, .int .i64 0]) (z2 : Fz W q2) (g2 : Vd701.heap.size ≤ q2) , wpAnyH Try.prog .any OP QQ (fun wx => Cs wx (w.heap.size) 0 [.int .i64 o.a, .int .i64 o.b, .int .i64 o.c, .int .i64 o.d] ∧ Cs wx (w.heap.size + 1) 0 [.int .i64 m.a, .int .i64 m.b, .int .i64 m.c, .int .i64 m.d] ∧ Cs wx (w.heap.size + 1 + 1) 0 [.int .i64 n.a, .int .i64 n.b, .int .i64 n.c, .int .i64 n.d]) 5 #[true, true, true, true, true, true, false, false, true, false, false, false] ((((AA.put (some 51) ((.agg #[.int .i64 M.a, .int .i64 M.b, .int .i64 M.c, .int .i64 M.d]))).put (some 53) ((.agg #[.int .i64 N.a, .int .i64 N.b, .int .i64 N.c, .int .i64 N.d]))).put (some 55) ((.agg #[.int .i64 O.a, .int .i64 O.b, .int .i64 O.c, .int .i64 O.d]))).put (some 17) (.pointer (some ⟨q2, 0, none⟩))) W := by
     intro q2 W hw b2 z2 g2
     subst hOP
     subst hQQ
     subst hAA
     (try simp only [p0, p1, p2, p3])
     refine pR2 6 7 (fun K hK => ?_) (fun K hK => ?_)
     ·go_simp
      obtain ⟨V2, e2, hb, K2, Z2, -⟩ := alloc_new W [.int .i64 0, .int .i64 0, .int .i64 0, .int .i64 0] 71
      rw [← e2]
      clear e2
      have hw2 := hw.trans (hb.mono hw.size)
      refine hK.out _ _ (by exact ⟨(KO.on (hw2)).cs, (KM.on (hw2)).cs, (KN.on (hw2)).cs⟩) (fun hHeld => ?_)
      clear hK
      (try simp only [p1, p2, p3])
      have ky := kya_3_5 W.heap.size q2 V2 hw2 K2 Z2 hw.size (b2.on hb) (z2.on hb) g2 (Nat.ne_of_lt b2.lt).symm
      (try simp only [p0, p1, p2, p3] at ky)
      exact castL (by kernel_rfl) ky
     ·go_simp
      obtain ⟨V2, e2, hb, K2, Z2, -⟩ := alloc_new W [.int .i64 0, .int .i64 0, .int .i64 0, .int .i64 0] 71
      rw [← e2]
      clear e2
      have hw2 := hw.trans (hb.mono hw.size)
      refine hK.out _ _ (by exact ⟨(KO.on (hw2)).cs, (KM.on (hw2)).cs, (KN.on (hw2)).cs⟩) (fun hHeld => ?_)
      clear hK
      (try simp only [p1, p2, p3])
      have ky := kya_3_6 W.heap.size q2 V2 hw2 K2 Z2 hw.size (b2.on hb) (z2.on hb) g2 (Nat.ne_of_lt b2.lt).symm
      (try simp only [p0, p1, p2, p3] at ky)
      exact castL (by kernel_rfl) ky
    have kya_0_7 : ∀ (q0 : Nat) (q1 : Nat) (q2 : Nat) (W : World) (hw : Below Vd701.heap.size Vd701 W) (b0 : Box W q0 [.int .i64 0, .int .i64 0, .int .i64 0, .int .i64 0]) (z0 : Fz W q0) (g0 : Vd701.heap.size ≤ q0) (b1 : Box W q1 [.int .i64 0, .int .i64 0, .int .i64 0, .int .i64 0]) (z1 : Fz W q1) (g1 : Vd701.heap.size ≤ q1) (b2 : Box W q2 [.int .i64 0, .int .i64 0, .int .i64 0, .int .i64 0]) (z2 : Fz W q2) (g2 : Vd701.heap.size ≤ q2) (n01 : q0 ≠ q1) (n02 : q0 ≠ q2) (n12 : q1 ≠ q2), wpAnyH Try.prog .any OP QQ (fun wx => Cs wx (w.heap.size) 0 [.int .i64 o.a, .int .i64 o.b, .int .i64 o.c, .int .i64 o.d] ∧ Cs wx (w.heap.size + 1) 0 [.int .i64 m.a, .int .i64 m.b, .int .i64 m.c, .int .i64 m.d] ∧ Cs wx (w.heap.size + 1 + 1) 0 [.int .i64 n.a, .int .i64 n.b, .int .i64 n.c, .int .i64 n.d]) 6 #[true, false, true, false, true, false, true, true, true, false, false, false] (((AA.put (some 15) (.pointer (some ⟨q0, 0, none⟩))).put (some 16) (.pointer (some ⟨q1, 0, none⟩))).put (some 17) (.pointer (some ⟨q2, 0, none⟩))) W := by
     intro q0 q1 q2 W hw b0 z0 g0 b1 z1 g1 b2 z2 g2 n01 n02 n12
     subst hOP
     subst hQQ
     subst hAA
     (try simp only [p0, p1, p2, p3])
     refine pR1 1 (fun K hK => ?_)
     go_simp
     (go_at_call 38; with_reducible refine (mkT HM.out).mono ?_)
     rintro _ W2 ⟨rfl, hb⟩
     (try go_wp2_with fail)
     have hw2 := hw.trans (hb.mono hw.size)
     refine hK.out _ _ (by exact ⟨(KO.on (hw2)).cs, (KM.on (hw2)).cs, (KN.on (hw2)).cs⟩) (fun hHeld => ?_)
     clear hK
     (try simp only [p1, p2, p3])
     have ky := kya_1_7 q0 q1 q2 W2 hw2 (b0.on hb) (z0.on hb) g0 (b1.on hb) (z1.on hb) g1 (b2.on hb) (z2.on hb) g2 n01 n02 n12
     (try simp only [p0, p1, p2, p3] at ky)
     exact castL (by kernel_rfl) ky
    have kya_1_3 : ∀ (q0 : Nat) (q1 : Nat) (W : World) (hw : Below Vd701.heap.size Vd701 W) (b0 : Box W q0 [.int .i64 0, .int .i64 0, .int .i64 0, .int .i64 0]) (z0 : Fz W q0) (g0 : Vd701.heap.size ≤ q0) (b1 : Box W q1 [.int .i64 0, .int .i64 0, .int .i64 0, .int .i64 0]) (z1 : Fz W q1) (g1 : Vd701.heap.size ≤ q1) (n01 : q0 ≠ q1), wpAnyH Try.prog .any OP QQ (fun wx => Cs wx (w.heap.size) 0 [.int .i64 o.a, .int .i64 o.b, .int .i64 o.c, .int .i64 o.d] ∧ Cs wx (w.heap.size + 1) 0 [.int .i64 m.a, .int .i64 m.b, .int .i64 m.c, .int .i64 m.d] ∧ Cs wx (w.heap.size + 1 + 1) 0 [.int .i64 n.a, .int .i64 n.b, .int .i64 n.c, .int .i64 n.d]) 6 #[true, true, true, false, true, false, true, true, false, false, false, false] (((AA.put (some 51) ((.agg #[.int .i64 M.a, .int .i64 M.b, .int .i64 M.c, .int .i64 M.d]))).put (some 15) (.pointer (some ⟨q0, 0, none⟩))).put (some 16) (.pointer (some ⟨q1, 0, none⟩))) W := by
     intro q0 q1 W hw b0 z0 g0 b1 z1 g1 n01
     subst hOP
     subst hQQ
     subst hAA
     (try simp only [p0, p1, p2, p3])
     refine pR2 3 8 (fun K hK => ?_) (fun K hK => ?_)
     ·go_simp
      (go_at_call 38; with_reducible refine (mkT HN.out).mono ?_)
      rintro _ W2 ⟨rfl, hb⟩
      (try go_wp2_with fail)
      have hw2 := hw.trans (hb.mono hw.size)
      refine hK.out _ _ (by exact ⟨(KO.on (hw2)).cs, (KM.on (hw2)).cs, (KN.on (hw2)).cs⟩) (fun hHeld => ?_)
      clear hK
      (try simp only [p1, p2, p3])
      have ky := kya_2_3 q0 q1 W2 hw2 (b0.on hb) (z0.on hb) g0 (b1.on hb) (z1.on hb) g1 n01
      (try simp only [p0, p1, p2, p3] at ky)
      exact castL (by kernel_rfl) ky
     ·go_simp
      obtain ⟨V2, e2, hb, K2, Z2, -⟩ := alloc_new W [.int .i64 0, .int .i64 0, .int .i64 0, .int .i64 0] 71
      rw [← e2]
      clear e2
      have hw2 := hw.trans (hb.mono hw.size)
      refine hK.out _ _ (by exact ⟨(KO.on (hw2)).cs, (KM.on (hw2)).cs, (KN.on (hw2)).cs⟩) (fun hHeld => ?_)
      clear hK
      (try simp only [p1, p2, p3])
      have ky := kya_1_7 q0 q1 W.heap.size V2 hw2 (b0.on hb) (z0.on hb) g0 (b1.on hb) (z1.on hb) g1 K2 Z2 hw.size n01 (Nat.ne_of_lt b0.lt) (Nat.ne_of_lt b1.lt)
      (try simp only [p0, p1, p2, p3] at ky)
      exact castL (by kernel_rfl) ky
    have kya_1_5 : ∀ (q0 : Nat) (q2 : Nat) (W : World) (hw : Below Vd701.heap.size Vd701 W) (b0 : Box W q0 [.int .i64 0, .int .i64 0, .int .i64 0, .int .i64 0]) (z0 : Fz W q0) (g0 : Vd701.heap.size ≤ q0) (b2 : Box W q2 [.int .i64 0, .int .i64 0, .int .i64 0, .int .i64 0]) (z2 : Fz W q2) (g2 : Vd701.heap.size ≤ q2) (n02 : q0 ≠ q2), wpAnyH Try.prog .any OP QQ (fun wx => Cs wx (w.heap.size) 0 [.int .i64 o.a, .int .i64 o.b, .int .i64 o.c, .int .i64 o.d] ∧ Cs wx (w.heap.size + 1) 0 [.int .i64 m.a, .int .i64 m.b, .int .i64 m.c, .int .i64 m.d] ∧ Cs wx (w.heap.size + 1 + 1) 0 [.int .i64 n.a, .int .i64 n.b, .int .i64 n.c, .int .i64 n.d]) 6 #[true, true, true, false, true, false, true, false, true, false, false, false] (((AA.put (some 51) ((.agg #[.int .i64 M.a, .int .i64 M.b, .int .i64 M.c, .int .i64 M.d]))).put (some 15) (.pointer (some ⟨q0, 0, none⟩))).put (some 17) (.pointer (some ⟨q2, 0, none⟩))) W := by
     intro q0 q2 W hw b0 z0 g0 b2 z2 g2 n02
     subst hOP
     subst hQQ
     subst hAA
     (try simp only [p0, p1, p2, p3])
     refine pR2 3 7 (fun K hK => ?_) (fun K hK => ?_)
     ·go_simp
      (go_at_call 38; with_reducible refine (mkT HN.out).mono ?_)
      rintro _ W2 ⟨rfl, hb⟩
      (try go_wp2_with fail)
      have hw2 := hw.trans (hb.mono hw.size)
      refine hK.out _ _ (by exact ⟨(KO.on (hw2)).cs, (KM.on (hw2)).cs, (KN.on (hw2)).cs⟩) (fun hHeld => ?_)
      clear hK
      (try simp only [p1, p2, p3])
      have ky := kya_2_5 q0 q2 W2 hw2 (b0.on hb) (z0.on hb) g0 (b2.on hb) (z2.on hb) g2 n02
      (try simp only [p0, p1, p2, p3] at ky)
      exact castL (by kernel_rfl) ky
     ·go_simp
      obtain ⟨V2, e2, hb, K2, Z2, -⟩ := alloc_new W [.int .i64 0, .int .i64 0, .int .i64 0, .int .i64 0] 71
      rw [← e2]
      clear e2
      have hw2 := hw.trans (hb.mono hw.size)
      refine hK.out _ _ (by exact ⟨(KO.on (hw2)).cs, (KM.on (hw2)).cs, (KN.on (hw2)).cs⟩) (fun hHeld => ?_)
      clear hK
      (try simp only [p1, p2, p3])
      have ky := kya_1_7 q0 W.heap.size q2 V2 hw2 (b0.on hb) (z0.on hb) g0 K2 Z2 hw.size (b2.on hb) (z2.on hb) g2 (Nat.ne_of_lt b0.lt) n02 (Nat.ne_of_lt b2.lt).symm
      (try simp only [p0, p1, p2, p3] at ky)
      exact castL (by kernel_rfl) ky
    have kya_1_6 : ∀ (q1 : Nat) (q2 : Nat) (W : World) (hw : Below Vd701.heap.size Vd701 W) (b1 : Box W q1 [.int .i64 0, .int .i64 0, .int .i64 0, .int .i64 0]) (z1 : Fz W q1) (g1 : Vd701.heap.size ≤ q1) (b2 : Box W q2 [.int .i64 0, .int .i64 0, .int .i64 0, .int .i64 0]) (z2 : Fz W q2) (g2 : Vd701.heap.size ≤ q2) (n12 : q1 ≠ q2), wpAnyH Try.prog .any OP QQ (fun wx => Cs wx (w.heap.size) 0 [.int .i64 o.a, .int .i64 o.b, .int .i64 o.c, .int .i64 o.d] ∧ Cs wx (w.heap.size + 1) 0 [.int .i64 m.a, .int .i64 m.b, .int .i64 m.c, .int .i64 m.d] ∧ Cs wx (w.heap.size + 1 + 1) 0 [.int .i64 n.a, .int .i64 n.b, .int .i64 n.c, .int .i64 n.d]) 6 #[true, true, true, false, true, false, false, true, true, false, false, false] (((AA.put (some 51) ((.agg #[.int .i64 M.a, .int .i64 M.b, .int .i64 M.c, .int .i64 M.d]))).put (some 16) (.pointer (some ⟨q1, 0, none⟩))).put (some 17) (.pointer (some ⟨q2, 0, none⟩))) W := by
     intro q1 q2 W hw b1 z1 g1 b2 z2 g2 n12
     subst hOP
     subst hQQ
     subst hAA
     (try simp only [p0, p1, p2, p3])
     refine pR2 3 6 (fun K hK => ?_) (fun K hK => ?_)
     ·go_simp
      (go_at_call 38; with_reducible refine (mkT HN.out).mono ?_)
      rintro _ W2 ⟨rfl, hb⟩
      (try go_wp2_with fail)
      have hw2 := hw.trans (hb.mono hw.size)
      refine hK.out _ _ (by exact ⟨(KO.on (hw2)).cs, (KM.on (hw2)).cs, (KN.on (hw2)).cs⟩) (fun hHeld => ?_)
      clear hK
      (try simp only [p1, p2, p3])
      have ky := kya_2_6 q1 q2 W2 hw2 (b1.on hb) (z1.on hb) g1 (b2.on hb) (z2.on hb) g2 n12
      (try simp only [p0, p1, p2, p3] at ky)
      exact castL (by kernel_rfl) ky
     ·go_simp
      obtain ⟨V2, e2, hb, K2, Z2, -⟩ := alloc_new W [.int .i64 0, .int .i64 0, .int .i64 0, .int .i64 0] 71
      rw [← e2]
      clear e2
      have hw2 := hw.trans (hb.mono hw.size)
      refine hK.out _ _ (by exact ⟨(KO.on (hw2)).cs, (KM.on (hw2)).cs, (KN.on (hw2)).cs⟩) (fun hHeld => ?_)
      clear hK
      (try simp only [p1, p2, p3])
      have ky := kya_1_7 W.heap.size q1 q2 V2 hw2 K2 Z2 hw.size (b1.on hb) (z1.on hb) g1 (b2.on hb) (z2.on hb) g2 (Nat.ne_of_lt b1.lt).symm (Nat.ne_of_lt b2.lt).symm n12
      (try simp only [p0, p1, p2, p3] at ky)
      exact castL (by kernel_rfl) ky
    have kya_2_1 : ∀ (q0 : Nat) (W : World) (hw : Below Vd701.heap.size Vd701 W) (b0 : Box W q0 [.int .i64 0, .int .i64 0, .int .i64 0, .int .i64 0]) (z0 : Fz W q0) (g0 : Vd701.heap.size ≤ q0) , wpAnyH Try.prog .any OP QQ (fun wx => Cs wx (w.heap.size) 0 [.int .i64 o.a, .int .i64 o.b, .int .i64 o.c, .int .i64 o.d] ∧ Cs wx (w.heap.size + 1) 0 [.int .i64 m.a, .int .i64 m.b, .int .i64 m.c, .int .i64 m.d] ∧ Cs wx (w.heap.size + 1 + 1) 0 [.int .i64 n.a, .int .i64 n.b, .int .i64 n.c, .int .i64 n.d]) 6 #[true, true, true, true, true, false, true, false, false, false, false, false] (((AA.put (some 51) ((.agg #[.int .i64 M.a, .int .i64 M.b, .int .i64 M.c, .int .i64 M.d]))).put (some 53) ((.agg #[.int .i64 N.a, .int .i64 N.b, .int .i64 N.c, .int .i64 N.d]))).put (some 15) (.pointer (some ⟨q0, 0, none⟩))) W := by
     intro q0 W hw b0 z0 g0
     subst hOP
     subst hQQ
     subst hAA
     (try simp only [p0, p1, p2, p3])
     refine pR3 5 7 8 (fun K hK => ?_) (fun K hK => ?_) (fun K hK => ?_)
     ·go_simp
      (go_at_call 38; with_reducible refine (mkT HO.out).mono ?_)
      rintro _ W2 ⟨rfl, hb⟩
      (try go_wp2_with fail)
      have hw2 := hw.trans (hb.mono hw.size)
      refine hK.out _ _ (by exact ⟨(KO.on (hw2)).cs, (KM.on (hw2)).cs, (KN.on (hw2)).cs⟩) (fun hHeld => ?_)
      clear hK
      (try simp only [p1, p2, p3])
      have ky := kya_3_1 q0 W2 hw2 (b0.on hb) (z0.on hb) g0 
      (try simp only [p0, p1, p2, p3] at ky)
      exact castL (by kernel_rfl) ky
     ·go_simp
      obtain ⟨V2, e2, hb, K2, Z2, -⟩ := alloc_new W [.int .i64 0, .int .i64 0, .int .i64 0, .int .i64 0] 71
      rw [← e2]
      clear e2
      have hw2 := hw.trans (hb.mono hw.size)
      refine hK.out _ _ (by exact ⟨(KO.on (hw2)).cs, (KM.on (hw2)).cs, (KN.on (hw2)).cs⟩) (fun hHeld => ?_)
      clear hK
      (try simp only [p1, p2, p3])
      have ky := kya_2_3 q0 W.heap.size V2 hw2 (b0.on hb) (z0.on hb) g0 K2 Z2 hw.size (Nat.ne_of_lt b0.lt)
      (try simp only [p0, p1, p2, p3] at ky)
      exact castL (by kernel_rfl) ky
     ·go_simp
      obtain ⟨V2, e2, hb, K2, Z2, -⟩ := alloc_new W [.int .i64 0, .int .i64 0, .int .i64 0, .int .i64 0] 71
      rw [← e2]
      clear e2
      have hw2 := hw.trans (hb.mono hw.size)
      refine hK.out _ _ (by exact ⟨(KO.on (hw2)).cs, (KM.on (hw2)).cs, (KN.on (hw2)).cs⟩) (fun hHeld => ?_)
      clear hK
      (try simp only [p1, p2, p3])
      have ky := kya_2_5 q0 W.heap.size V2 hw2 (b0.on hb) (z0.on hb) g0 K2 Z2 hw.size (Nat.ne_of_lt b0.lt)
      (try simp only [p0, p1, p2, p3] at ky)
      exact castL (by kernel_rfl) ky
    have kya_2_2 : ∀ (q1 : Nat) (W : World) (hw : Below Vd701.heap.size Vd701 W) (b1 : Box W q1 [.int .i64 0, .int .i64 0, .int .i64 0, .int .i64 0]) (z1 : Fz W q1) (g1 : Vd701.heap.size ≤ q1) , wpAnyH Try.prog .any OP QQ (fun wx => Cs wx (w.heap.size) 0 [.int .i64 o.a, .int .i64 o.b, .int .i64 o.c, .int .i64 o.d] ∧ Cs wx (w.heap.size + 1) 0 [.int .i64 m.a, .int .i64 m.b, .int .i64 m.c, .int .i64 m.d] ∧ Cs wx (w.heap.size + 1 + 1) 0 [.int .i64 n.a, .int .i64 n.b, .int .i64 n.c, .int .i64 n.d]) 6 #[true, true, true, true, true, false, false, true, false, false, false, false] (((AA.put (some 51) ((.agg #[.int .i64 M.a, .int .i64 M.b, .int .i64 M.c, .int .i64 M.d]))).put (some 53) ((.agg #[.int .i64 N.a, .int .i64 N.b, .int .i64 N.c, .int .i64 N.d]))).put (some 16) (.pointer (some ⟨q1, 0, none⟩))) W := by
     intro q1 W hw b1 z1 g1
     subst hOP
     subst hQQ
     subst hAA
     (try simp only [p0, p1, p2, p3])
     refine pR3 5 6 8 (fun K hK => ?_) (fun K hK => ?_) (fun K hK => ?_)
     ·go_simp
      (go_at_call 38; with_reducible refine (mkT HO.out).mono ?_)
      rintro _ W2 ⟨rfl, hb⟩
      (try go_wp2_with fail)
      have hw2 := hw.trans (hb.mono hw.size)
      refine hK.out _ _ (by exact ⟨(KO.on (hw2)).cs, (KM.on (hw2)).cs, (KN.on (hw2)).cs⟩) (fun hHeld => ?_)
      clear hK
      (try simp only [p1, p2, p3])
      have ky := kya_3_2 q1 W2 hw2 (b1.on hb) (z1.on hb) g1 
      (try simp only [p0, p1, p2, p3] at ky)
      exact castL (by kernel_rfl) ky
     ·go_simp
      obtain ⟨V2, e2, hb, K2, Z2, -⟩ := alloc_new W [.int .i64 0, .int .i64 0, .int .i64 0, .int .i64 0] 71
      rw [← e2]
      clear e2
      have hw2 := hw.trans (hb.mono hw.size)
      refine hK.out _ _ (by exact ⟨(KO.on (hw2)).cs, (KM.on (hw2)).cs, (KN.on (hw2)).cs⟩) (fun hHeld => ?_)
      clear hK
      (try simp only [p1, p2, p3])
      have ky := kya_2_3 W.heap.size q1 V2 hw2 K2 Z2 hw.size (b1.on hb) (z1.on hb) g1 (Nat.ne_of_lt b1.lt).symm
      (try simp only [p0, p1, p2, p3] at ky)
      exact castL (by kernel_rfl) ky
     ·go_simp
      obtain ⟨V2, e2, hb, K2, Z2, -⟩ := alloc_new W [.int .i64 0, .int .i64 0, .int .i64 0, .int .i64 0] 71
      rw [← e2]
      clear e2
      have hw2 := hw.trans (hb.mono hw.size)
      refine hK.out _ _ (by exact ⟨(KO.on (hw2)).cs, (KM.on (hw2)).cs, (KN.on (hw2)).cs⟩) (fun hHeld => ?_)
      clear hK
      (try simp only [p1, p2, p3])
      have ky := kya_2_6 q1 W.heap.size V2 hw2 (b1.on hb) (z1.on hb) g1 K2 Z2 hw.size (Nat.ne_of_lt b1.lt)
      (try simp only [p0, p1, p2, p3] at ky)
      exact castL (by kernel_rfl) ky
    have kya_2_4 : ∀ (q2 : Nat) (W : World) (hw : Below Vd701.heap.size Vd701 W) (b2 : Box W q2 [.int .i64 0, .int .i64 0, .int .i64 0, .int .i64 0]) (z2 : Fz W q2) (g2 : Vd701.heap.size ≤ q2) , wpAnyH Try.prog .any OP QQ (fun wx => Cs wx (w.heap.size) 0 [.int .i64 o.a, .int .i64 o.b, .int .i64 o.c, .int .i64 o.d] ∧ Cs wx (w.heap.size + 1) 0 [.int .i64 m.a, .int .i64 m.b, .int .i64 m.c, .int .i64 m.d] ∧ Cs wx (w.heap.size + 1 + 1) 0 [.int .i64 n.a, .int .i64 n.b, .int .i64 n.c, .int .i64 n.d]) 6 #[true, true, true, true, true, false, false, false, true, false, false, false] (((AA.put (some 51) ((.agg #[.int .i64 M.a, .int .i64 M.b, .int .i64 M.c, .int .i64 M.d]))).put (some 53) ((.agg #[.int .i64 N.a, .int .i64 N.b, .int .i64 N.c, .int .i64 N.d]))).put (some 17) (.pointer (some ⟨q2, 0, none⟩))) W := by
     intro q2 W hw b2 z2 g2
     subst hOP
     subst hQQ
     subst hAA
     (try simp only [p0, p1, p2, p3])
     refine pR3 5 6 7 (fun K hK => ?_) (fun K hK => ?_) (fun K hK => ?_)
     ·go_simp
      (go_at_call 38; with_reducible refine (mkT HO.out).mono ?_)
      rintro _ W2 ⟨rfl, hb⟩
      (try go_wp2_with fail)
      have hw2 := hw.trans (hb.mono hw.size)
      refine hK.out _ _ (by exact ⟨(KO.on (hw2)).cs, (KM.on (hw2)).cs, (KN.on (hw2)).cs⟩) (fun hHeld => ?_)
      clear hK
      (try simp only [p1, p2, p3])
      have ky := kya_3_4 q2 W2 hw2 (b2.on hb) (z2.on hb) g2 
      (try simp only [p0, p1, p2, p3] at ky)
      exact castL (by kernel_rfl) ky
     ·go_simp
      obtain ⟨V2, e2, hb, K2, Z2, -⟩ := alloc_new W [.int .i64 0, .int .i64 0, .int .i64 0, .int .i64 0] 71
      rw [← e2]
      clear e2
      have hw2 := hw.trans (hb.mono hw.size)
      refine hK.out _ _ (by exact ⟨(KO.on (hw2)).cs, (KM.on (hw2)).cs, (KN.on (hw2)).cs⟩) (fun hHeld => ?_)
      clear hK
      (try simp only [p1, p2, p3])
      have ky := kya_2_5 W.heap.size q2 V2 hw2 K2 Z2 hw.size (b2.on hb) (z2.on hb) g2 (Nat.ne_of_lt b2.lt).symm
      (try simp only [p0, p1, p2, p3] at ky)
      exact castL (by kernel_rfl) ky
     ·go_simp
      obtain ⟨V2, e2, hb, K2, Z2, -⟩ := alloc_new W [.int .i64 0, .int .i64 0, .int .i64 0, .int .i64 0] 71
      rw [← e2]
      clear e2
      have hw2 := hw.trans (hb.mono hw.size)
      refine hK.out _ _ (by exact ⟨(KO.on (hw2)).cs, (KM.on (hw2)).cs, (KN.on (hw2)).cs⟩) (fun hHeld => ?_)
      clear hK
      (try simp only [p1, p2, p3])
      have ky := kya_2_6 W.heap.size q2 V2 hw2 K2 Z2 hw.size (b2.on hb) (z2.on hb) g2 (Nat.ne_of_lt b2.lt).symm
      (try simp only [p0, p1, p2, p3] at ky)
      exact castL (by kernel_rfl) ky
    have kya_3_0 : ∀  (W : World) (hw : Below Vd701.heap.size Vd701 W)  , wpAnyH Try.prog .any OP QQ (fun wx => Cs wx (w.heap.size) 0 [.int .i64 o.a, .int .i64 o.b, .int .i64 o.c, .int .i64 o.d] ∧ Cs wx (w.heap.size + 1) 0 [.int .i64 m.a, .int .i64 m.b, .int .i64 m.c, .int .i64 m.d] ∧ Cs wx (w.heap.size + 1 + 1) 0 [.int .i64 n.a, .int .i64 n.b, .int .i64 n.c, .int .i64 n.d]) 6 #[true, true, true, true, true, true, false, false, false, false, false, false] (((AA.put (some 51) ((.agg #[.int .i64 M.a, .int .i64 M.b, .int .i64 M.c, .int .i64 M.d]))).put (some 53) ((.agg #[.int .i64 N.a, .int .i64 N.b, .int .i64 N.c, .int .i64 N.d]))).put (some 55) ((.agg #[.int .i64 O.a, .int .i64 O.b, .int .i64 O.c, .int .i64 O.d]))) W := by
     intro W hw
     subst hOP
     subst hQQ
     subst hAA
     (try simp only [p0, p1, p2, p3])
     refine pR3 6 7 8 (fun K hK => ?_) (fun K hK => ?_) (fun K hK => ?_)
     ·go_simp
      obtain ⟨V2, e2, hb, K2, Z2, -⟩ := alloc_new W [.int .i64 0, .int .i64 0, .int .i64 0, .int .i64 0] 71
      rw [← e2]
      clear e2
      have hw2 := hw.trans (hb.mono hw.size)
      refine hK.out _ _ (by exact ⟨(KO.on (hw2)).cs, (KM.on (hw2)).cs, (KN.on (hw2)).cs⟩) (fun hHeld => ?_)
      clear hK
      (try simp only [p1, p2, p3])
      have ky := kya_3_1 W.heap.size V2 hw2 K2 Z2 hw.size 
      (try simp only [p0, p1, p2, p3] at ky)
      exact castL (by kernel_rfl) ky
     ·go_simp
      obtain ⟨V2, e2, hb, K2, Z2, -⟩ := alloc_new W [.int .i64 0, .int .i64 0, .int .i64 0, .int .i64 0] 71
      rw [← e2]
      clear e2
      have hw2 := hw.trans (hb.mono hw.size)
      refine hK.out _ _ (by exact ⟨(KO.on (hw2)).cs, (KM.on (hw2)).cs, (KN.on (hw2)).cs⟩) (fun hHeld => ?_)
      clear hK
      (try simp only [p1, p2, p3])
      have ky := kya_3_2 W.heap.size V2 hw2 K2 Z2 hw.size 
      (try simp only [p0, p1, p2, p3] at ky)
      exact castL (by kernel_rfl) ky
     ·go_simp
      obtain ⟨V2, e2, hb, K2, Z2, -⟩ := alloc_new W [.int .i64 0, .int .i64 0, .int .i64 0, .int .i64 0] 71
      rw [← e2]
      clear e2
      have hw2 := hw.trans (hb.mono hw.size)
      refine hK.out _ _ (by exact ⟨(KO.on (hw2)).cs, (KM.on (hw2)).cs, (KN.on (hw2)).cs⟩) (fun hHeld => ?_)
      clear hK
      (try simp only [p1, p2, p3])
      have ky := kya_3_4 W.heap.size V2 hw2 K2 Z2 hw.size 
      (try simp only [p0, p1, p2, p3] at ky)
      exact castL (by kernel_rfl) ky
    have kya_0_3 : ∀ (q0 : Nat) (q1 : Nat) (W : World) (hw : Below Vd701.heap.size Vd701 W) (b0 : Box W q0 [.int .i64 0, .int .i64 0, .int .i64 0, .int .i64 0]) (z0 : Fz W q0) (g0 : Vd701.heap.size ≤ q0) (b1 : Box W q1 [.int .i64 0, .int .i64 0, .int .i64 0, .int .i64 0]) (z1 : Fz W q1) (g1 : Vd701.heap.size ≤ q1) (n01 : q0 ≠ q1), wpAnyH Try.prog .any OP QQ (fun wx => Cs wx (w.heap.size) 0 [.int .i64 o.a, .int .i64 o.b, .int .i64 o.c, .int .i64 o.d] ∧ Cs wx (w.heap.size + 1) 0 [.int .i64 m.a, .int .i64 m.b, .int .i64 m.c, .int .i64 m.d] ∧ Cs wx (w.heap.size + 1 + 1) 0 [.int .i64 n.a, .int .i64 n.b, .int .i64 n.c, .int .i64 n.d]) 7 #[true, false, true, false, true, false, true, true, false, false, false, false] ((AA.put (some 15) (.pointer (some ⟨q0, 0, none⟩))).put (some 16) (.pointer (some ⟨q1, 0, none⟩))) W := by
     intro q0 q1 W hw b0 z0 g0 b1 z1 g1 n01
     subst hOP
     subst hQQ
     subst hAA
     (try simp only [p0, p1, p2, p3])
     refine pR2 1 8 (fun K hK => ?_) (fun K hK => ?_)
     ·go_simp
      (go_at_call 38; with_reducible refine (mkT HM.out).mono ?_)
      rintro _ W2 ⟨rfl, hb⟩
      (try go_wp2_with fail)
      have hw2 := hw.trans (hb.mono hw.size)
      refine hK.out _ _ (by exact ⟨(KO.on (hw2)).cs, (KM.on (hw2)).cs, (KN.on (hw2)).cs⟩) (fun hHeld => ?_)
      clear hK
      (try simp only [p1, p2, p3])
      have ky := kya_1_3 q0 q1 W2 hw2 (b0.on hb) (z0.on hb) g0 (b1.on hb) (z1.on hb) g1 n01
      (try simp only [p0, p1, p2, p3] at ky)
      exact castL (by kernel_rfl) ky
     ·go_simp
      obtain ⟨V2, e2, hb, K2, Z2, -⟩ := alloc_new W [.int .i64 0, .int .i64 0, .int .i64 0, .int .i64 0] 71
      rw [← e2]
      clear e2
      have hw2 := hw.trans (hb.mono hw.size)
      refine hK.out _ _ (by exact ⟨(KO.on (hw2)).cs, (KM.on (hw2)).cs, (KN.on (hw2)).cs⟩) (fun hHeld => ?_)
      clear hK
      (try simp only [p1, p2, p3])
      have ky := kya_0_7 q0 q1 W.heap.size V2 hw2 (b0.on hb) (z0.on hb) g0 (b1.on hb) (z1.on hb) g1 K2 Z2 hw.size n01 (Nat.ne_of_lt b0.lt) (Nat.ne_of_lt b1.lt)
      (try simp only [p0, p1, p2, p3] at ky)
      exact castL (by kernel_rfl) ky
    have kya_0_5 : ∀ (q0 : Nat) (q2 : Nat) (W : World) (hw : Below Vd701.heap.size Vd701 W) (b0 : Box W q0 [.int .i64 0, .int .i64 0, .int .i64 0, .int .i64 0]) (z0 : Fz W q0) (g0 : Vd701.heap.size ≤ q0) (b2 : Box W q2 [.int .i64 0, .int .i64 0, .int .i64 0, .int .i64 0]) (z2 : Fz W q2) (g2 : Vd701.heap.size ≤ q2) (n02 : q0 ≠ q2), wpAnyH Try.prog .any OP QQ (fun wx => Cs wx (w.heap.size) 0 [.int .i64 o.a, .int .i64 o.b, .int .i64 o.c, .int .i64 o.d] ∧ Cs wx (w.heap.size + 1) 0 [.int .i64 m.a, .int .i64 m.b, .int .i64 m.c, .int .i64 m.d] ∧ Cs wx (w.heap.size + 1 + 1) 0 [.int .i64 n.a, .int .i64 n.b, .int .i64 n.c, .int .i64 n.d]) 7 #[true, false, true, false, true, false, true, false, true, false, false, false] ((AA.put (some 15) (.pointer (some ⟨q0, 0, none⟩))).put (some 17) (.pointer (some ⟨q2, 0, none⟩))) W := by
     intro q0 q2 W hw b0 z0 g0 b2 z2 g2 n02
     subst hOP
     subst hQQ
     subst hAA
     (try simp only [p0, p1, p2, p3])
     refine pR2 1 7 (fun K hK => ?_) (fun K hK => ?_)
     ·go_simp
      (go_at_call 38; with_reducible refine (mkT HM.out).mono ?_)
      rintro _ W2 ⟨rfl, hb⟩
      (try go_wp2_with fail)
      have hw2 := hw.trans (hb.mono hw.size)
      refine hK.out _ _ (by exact ⟨(KO.on (hw2)).cs, (KM.on (hw2)).cs, (KN.on (hw2)).cs⟩) (fun hHeld => ?_)
      clear hK
      (try simp only [p1, p2, p3])
      have ky := kya_1_5 q0 q2 W2 hw2 (b0.on hb) (z0.on hb) g0 (b2.on hb) (z2.on hb) g2 n02
      (try simp only [p0, p1, p2, p3] at ky)
      exact castL (by kernel_rfl) ky
     ·go_simp
      obtain ⟨V2, e2, hb, K2, Z2, -⟩ := alloc_new W [.int .i64 0, .int .i64 0, .int .i64 0, .int .i64 0] 71
      rw [← e2]
      clear e2
      have hw2 := hw.trans (hb.mono hw.size)
      refine hK.out _ _ (by exact ⟨(KO.on (hw2)).cs, (KM.on (hw2)).cs, (KN.on (hw2)).cs⟩) (fun hHeld => ?_)
      clear hK
      (try simp only [p1, p2, p3])
      have ky := kya_0_7 q0 W.heap.size q2 V2 hw2 (b0.on hb) (z0.on hb) g0 K2 Z2 hw.size (b2.on hb) (z2.on hb) g2 (Nat.ne_of_lt b0.lt) n02 (Nat.ne_of_lt b2.lt).symm
      (try simp only [p0, p1, p2, p3] at ky)
      exact castL (by kernel_rfl) ky
    have kya_0_6 : ∀ (q1 : Nat) (q2 : Nat) (W : World) (hw : Below Vd701.heap.size Vd701 W) (b1 : Box W q1 [.int .i64 0, .int .i64 0, .int .i64 0, .int .i64 0]) (z1 : Fz W q1) (g1 : Vd701.heap.size ≤ q1) (b2 : Box W q2 [.int .i64 0, .int .i64 0, .int .i64 0, .int .i64 0]) (z2 : Fz W q2) (g2 : Vd701.heap.size ≤ q2) (n12 : q1 ≠ q2), wpAnyH Try.prog .any OP QQ (fun wx => Cs wx (w.heap.size) 0 [.int .i64 o.a, .int .i64 o.b, .int .i64 o.c, .int .i64 o.d] ∧ Cs wx (w.heap.size + 1) 0 [.int .i64 m.a, .int .i64 m.b, .int .i64 m.c, .int .i64 m.d] ∧ Cs wx (w.heap.size + 1 + 1) 0 [.int .i64 n.a, .int .i64 n.b, .int .i64 n.c, .int .i64 n.d]) 7 #[true, false, true, false, true, false, false, true, true, false, false, false] ((AA.put (some 16) (.pointer (some ⟨q1, 0, none⟩))).put (some 17) (.pointer (some ⟨q2, 0, none⟩))) W := by
     intro q1 q2 W hw b1 z1 g1 b2 z2 g2 n12
     subst hOP
     subst hQQ
     subst hAA
     (try simp only [p0, p1, p2, p3])
     refine pR2 1 6 (fun K hK => ?_) (fun K hK => ?_)
     ·go_simp
      (go_at_call 38; with_reducible refine (mkT HM.out).mono ?_)
      rintro _ W2 ⟨rfl, hb⟩
      (try go_wp2_with fail)
      have hw2 := hw.trans (hb.mono hw.size)
      refine hK.out _ _ (by exact ⟨(KO.on (hw2)).cs, (KM.on (hw2)).cs, (KN.on (hw2)).cs⟩) (fun hHeld => ?_)
      clear hK
      (try simp only [p1, p2, p3])
      have ky := kya_1_6 q1 q2 W2 hw2 (b1.on hb) (z1.on hb) g1 (b2.on hb) (z2.on hb) g2 n12
      (try simp only [p0, p1, p2, p3] at ky)
      exact castL (by kernel_rfl) ky
     ·go_simp
      obtain ⟨V2, e2, hb, K2, Z2, -⟩ := alloc_new W [.int .i64 0, .int .i64 0, .int .i64 0, .int .i64 0] 71
      rw [← e2]
      clear e2
      have hw2 := hw.trans (hb.mono hw.size)
      refine hK.out _ _ (by exact ⟨(KO.on (hw2)).cs, (KM.on (hw2)).cs, (KN.on (hw2)).cs⟩) (fun hHeld => ?_)
      clear hK
      (try simp only [p1, p2, p3])
      have ky := kya_0_7 W.heap.size q1 q2 V2 hw2 K2 Z2 hw.size (b1.on hb) (z1.on hb) g1 (b2.on hb) (z2.on hb) g2 (Nat.ne_of_lt b1.lt).symm (Nat.ne_of_lt b2.lt).symm n12
      (try simp only [p0, p1, p2, p3] at ky)
      exact castL (by kernel_rfl) ky
    have kya_1_1 : ∀ (q0 : Nat) (W : World) (hw : Below Vd701.heap.size Vd701 W) (b0 : Box W q0 [.int .i64 0, .int .i64 0, .int .i64 0, .int .i64 0]) (z0 : Fz W q0) (g0 : Vd701.heap.size ≤ q0) , wpAnyH Try.prog .any OP QQ (fun wx => Cs wx (w.heap.size) 0 [.int .i64 o.a, .int .i64 o.b, .int .i64 o.c, .int .i64 o.d] ∧ Cs wx (w.heap.size + 1) 0 [.int .i64 m.a, .int .i64 m.b, .int .i64 m.c, .int .i64 m.d] ∧ Cs wx (w.heap.size + 1 + 1) 0 [.int .i64 n.a, .int .i64 n.b, .int .i64 n.c, .int .i64 n.d]) 7 #[true, true, true, false, true, false, true, false, false, false, false, false] ((AA.put (some 51) ((.agg #[.int .i64 M.a, .int .i64 M.b, .int .i64 M.c, .int .i64 M.d]))).put (some 15) (.pointer (some ⟨q0, 0, none⟩))) W := by
     intro q0 W hw b0 z0 g0
     subst hOP
     subst hQQ
     subst hAA
     (try simp only [p0, p1, p2, p3])
     refine pR3 3 7 8 (fun K hK => ?_) (fun K hK => ?_) (fun K hK => ?_)
     ·go_simp
      (go_at_call 38; with_reducible refine (mkT HN.out).mono ?_)
      rintro _ W2 ⟨rfl, hb⟩
      (try go_wp2_with fail)
      have hw2 := hw.trans (hb.mono hw.size)
      refine hK.out _ _ (by exact ⟨(KO.on (hw2)).cs, (KM.on (hw2)).cs, (KN.on (hw2)).cs⟩) (fun hHeld => ?_)
      clear hK
      (try simp only [p1, p2, p3])
      have ky := kya_2_1 q0 W2 hw2 (b0.on hb) (z0.on hb) g0 
      (try simp only [p0, p1, p2, p3] at ky)
      exact castL (by kernel_rfl) ky
     ·go_simp
      obtain ⟨V2, e2, hb, K2, Z2, -⟩ := alloc_new W [.int .i64 0, .int .i64 0, .int .i64 0, .int .i64 0] 71
      rw [← e2]
      clear e2
      have hw2 := hw.trans (hb.mono hw.size)
      refine hK.out _ _ (by exact ⟨(KO.on (hw2)).cs, (KM.on (hw2)).cs, (KN.on (hw2)).cs⟩) (fun hHeld => ?_)
      clear hK
      (try simp only [p1, p2, p3])
      have ky := kya_1_3 q0 W.heap.size V2 hw2 (b0.on hb) (z0.on hb) g0 K2 Z2 hw.size (Nat.ne_of_lt b0.lt)
      (try simp only [p0, p1, p2, p3] at ky)
      exact castL (by kernel_rfl) ky
     ·go_simp
      obtain ⟨V2, e2, hb, K2, Z2, -⟩ := alloc_new W [.int .i64 0, .int .i64 0, .int .i64 0, .int .i64 0] 71
      rw [← e2]
      clear e2
      have hw2 := hw.trans (hb.mono hw.size)
      refine hK.out _ _ (by exact ⟨(KO.on (hw2)).cs, (KM.on (hw2)).cs, (KN.on (hw2)).cs⟩) (fun hHeld => ?_)
      clear hK
      (try simp only [p1, p2, p3])
      have ky := kya_1_5 q0 W.heap.size V2 hw2 (b0.on hb) (z0.on hb) g0 K2 Z2 hw.size (Nat.ne_of_lt b0.lt)
      (try simp only [p0, p1, p2, p3] at ky)
      exact castL (by kernel_rfl) ky
    have kya_1_2 : ∀ (q1 : Nat) (W : World) (hw : Below Vd701.heap.size Vd701 W) (b1 : Box W q1 [.int .i64 0, .int .i64 0, .int .i64 0, .int .i64 0]) (z1 : Fz W q1) (g1 : Vd701.heap.size ≤ q1) , wpAnyH Try.prog .any OP QQ (fun wx => Cs wx (w.heap.size) 0 [.int .i64 o.a, .int .i64 o.b, .int .i64 o.c, .int .i64 o.d] ∧ Cs wx (w.heap.size + 1) 0 [.int .i64 m.a, .int .i64 m.b, .int .i64 m.c, .int .i64 m.d] ∧ Cs wx (w.heap.size + 1 + 1) 0 [.int .i64 n.a, .int .i64 n.b, .int .i64 n.c, .int .i64 n.d]) 7 #[true, true, true, false, true, false, false, true, false, false, false, false] ((AA.put (some 51) ((.agg #[.int .i64 M.a, .int .i64 M.b, .int .i64 M.c, .int .i64 M.d]))).put (some 16) (.pointer (some ⟨q1, 0, none⟩))) W := by
     intro q1 W hw b1 z1 g1
     subst hOP
     subst hQQ
     subst hAA
     (try simp only [p0, p1, p2, p3])
     refine pR3 3 6 8 (fun K hK => ?_) (fun K hK => ?_) (fun K hK => ?_)
     ·go_simp
      (go_at_call 38; with_reducible refine (mkT HN.out).mono ?_)
      rintro _ W2 ⟨rfl, hb⟩
      (try go_wp2_with fail)
      have hw2 := hw.trans (hb.mono hw.size)
      refine hK.out _ _ (by exact ⟨(KO.on (hw2)).cs, (KM.on (hw2)).cs, (KN.on (hw2)).cs⟩) (fun hHeld => ?_)
      clear hK
      (try simp only [p1, p2, p3])
      have ky := kya_2_2 q1 W2 hw2 (b1.on hb) (z1.on hb) g1 
      (try simp only [p0, p1, p2, p3] at ky)
      exact castL (by kernel_rfl) ky
     ·go_simp
      obtain ⟨V2, e2, hb, K2, Z2, -⟩ := alloc_new W [.int .i64 0, .int .i64 0, .int .i64 0, .int .i64 0] 71
      rw [← e2]
      clear e2
      have hw2 := hw.trans (hb.mono hw.size)
      refine hK.out _ _ (by exact ⟨(KO.on (hw2)).cs, (KM.on (hw2)).cs, (KN.on (hw2)).cs⟩) (fun hHeld => ?_)
      clear hK
      (try simp only [p1, p2, p3])
      have ky := kya_1_3 W.heap.size q1 V2 hw2 K2 Z2 hw.size (b1.on hb) (z1.on hb) g1 (Nat.ne_of_lt b1.lt).symm
      (try simp only [p0, p1, p2, p3] at ky)
      exact castL (by kernel_rfl) ky
     ·go_simp
      obtain ⟨V2, e2, hb, K2, Z2, -⟩ := alloc_new W [.int .i64 0, .int .i64 0, .int .i64 0, .int .i64 0] 71
      rw [← e2]
      clear e2
      have hw2 := hw.trans (hb.mono hw.size)
      refine hK.out _ _ (by exact ⟨(KO.on (hw2)).cs, (KM.on (hw2)).cs, (KN.on (hw2)).cs⟩) (fun hHeld => ?_)
      clear hK
      (try simp only [p1, p2, p3])
      have ky := kya_1_6 q1 W.heap.size V2 hw2 (b1.on hb) (z1.on hb) g1 K2 Z2 hw.size (Nat.ne_of_lt b1.lt)
      (try simp only [p0, p1, p2, p3] at ky)
      exact castL (by kernel_rfl) ky
    have kya_1_4 : ∀ (q2 : Nat) (W : World) (hw : Below Vd701.heap.size Vd701 W) (b2 : Box W q2 [.int .i64 0, .int .i64 0, .int .i64 0, .int .i64 0]) (z2 : Fz W q2) (g2 : Vd701.heap.size ≤ q2) , wpAnyH Try.prog .any OP QQ (fun wx => Cs wx (w.heap.size) 0 [.int .i64 o.a, .int .i64 o.b, .int .i64 o.c, .int .i64 o.d] ∧ Cs wx (w.heap.size + 1) 0 [.int .i64 m.a, .int .i64 m.b, .int .i64 m.c, .int .i64 m.d] ∧ Cs wx (w.heap.size + 1 + 1) 0 [.int .i64 n.a, .int .i64 n.b, .int .i64 n.c, .int .i64 n.d]) 7 #[true, true, true, false, true, false, false, false, true, false, false, false] ((AA.put (some 51) ((.agg #[.int .i64 M.a, .int .i64 M.b, .int .i64 M.c, .int .i64 M.d]))).put (some 17) (.pointer (some ⟨q2, 0, none⟩))) W := by
     intro q2 W hw b2 z2 g2
     subst hOP
     subst hQQ
     subst hAA
     (try simp only [p0, p1, p2, p3])
     refine pR3 3 6 7 (fun K hK => ?_) (fun K hK => ?_) (fun K hK => ?_)
     ·go_simp
      (go_at_call 38; with_reducible refine (mkT HN.out).mono ?_)
      rintro _ W2 ⟨rfl, hb⟩
      (try go_wp2_with fail)
      have hw2 := hw.trans (hb.mono hw.size)
      refine hK.out _ _ (by exact ⟨(KO.on (hw2)).cs, (KM.on (hw2)).cs, (KN.on (hw2)).cs⟩) (fun hHeld => ?_)
      clear hK
      (try simp only [p1, p2, p3])
      have ky := kya_2_4 q2 W2 hw2 (b2.on hb) (z2.on hb) g2 
      (try simp only [p0, p1, p2, p3] at ky)
      exact castL (by kernel_rfl) ky
     ·go_simp
      obtain ⟨V2, e2, hb, K2, Z2, -⟩ := alloc_new W [.int .i64 0, .int .i64 0, .int .i64 0, .int .i64 0] 71
      rw [← e2]
      clear e2
      have hw2 := hw.trans (hb.mono hw.size)
      refine hK.out _ _ (by exact ⟨(KO.on (hw2)).cs, (KM.on (hw2)).cs, (KN.on (hw2)).cs⟩) (fun hHeld => ?_)
      clear hK
      (try simp only [p1, p2, p3])
      have ky := kya_1_5 W.heap.size q2 V2 hw2 K2 Z2 hw.size (b2.on hb) (z2.on hb) g2 (Nat.ne_of_lt b2.lt).symm
      (try simp only [p0, p1, p2, p3] at ky)
      exact castL (by kernel_rfl) ky
     ·go_simp
      obtain ⟨V2, e2, hb, K2, Z2, -⟩ := alloc_new W [.int .i64 0, .int .i64 0, .int .i64 0, .int .i64 0] 71
      rw [← e2]
      clear e2
      have hw2 := hw.trans (hb.mono hw.size)
      refine hK.out _ _ (by exact ⟨(KO.on (hw2)).cs, (KM.on (hw2)).cs, (KN.on (hw2)).cs⟩) (fun hHeld => ?_)
      clear hK
      (try simp only [p1, p2, p3])
      have ky := kya_1_6 W.heap.size q2 V2 hw2 K2 Z2 hw.size (b2.on hb) (z2.on hb) g2 (Nat.ne_of_lt b2.lt).symm
      (try simp only [p0, p1, p2, p3] at ky)
      exact castL (by kernel_rfl) ky
    have kya_2_0 : ∀  (W : World) (hw : Below Vd701.heap.size Vd701 W)  , wpAnyH Try.prog .any OP QQ (fun wx => Cs wx (w.heap.size) 0 [.int .i64 o.a, .int .i64 o.b, .int .i64 o.c, .int .i64 o.d] ∧ Cs wx (w.heap.size + 1) 0 [.int .i64 m.a, .int .i64 m.b, .int .i64 m.c, .int .i64 m.d] ∧ Cs wx (w.heap.size + 1 + 1) 0 [.int .i64 n.a, .int .i64 n.b, .int .i64 n.c, .int .i64 n.d]) 7 #[true, true, true, true, true, false, false, false, false, false, false, false] ((AA.put (some 51) ((.agg #[.int .i64 M.a, .int .i64 M.b, .int .i64 M.c, .int .i64 M.d]))).put (some 53) ((.agg #[.int .i64 N.a, .int .i64 N.b, .int .i64 N.c, .int .i64 N.d]))) W := by
     intro W hw
     subst hOP
     subst hQQ
     subst hAA
     (try simp only [p0, p1, p2, p3])
     refine pR4 5 6 7 8 (fun K hK => ?_) (fun K hK => ?_) (fun K hK => ?_) (fun K hK => ?_)
     ·go_simp
      (go_at_call 38; with_reducible refine (mkT HO.out).mono ?_)
      rintro _ W2 ⟨rfl, hb⟩
      (try go_wp2_with fail)
      have hw2 := hw.trans (hb.mono hw.size)
      refine hK.out _ _ (by exact ⟨(KO.on (hw2)).cs, (KM.on (hw2)).cs, (KN.on (hw2)).cs⟩) (fun hHeld => ?_)
      clear hK
      (try simp only [p1, p2, p3])
      have ky := kya_3_0  W2 hw2  
      (try simp only [p0, p1, p2, p3] at ky)
      exact castL (by kernel_rfl) ky
     ·go_simp
      obtain ⟨V2, e2, hb, K2, Z2, -⟩ := alloc_new W [.int .i64 0, .int .i64 0, .int .i64 0, .int .i64 0] 71
      rw [← e2]
      clear e2
      have hw2 := hw.trans (hb.mono hw.size)
      refine hK.out _ _ (by exact ⟨(KO.on (hw2)).cs, (KM.on (hw2)).cs, (KN.on (hw2)).cs⟩) (fun hHeld => ?_)
      clear hK
      (try simp only [p1, p2, p3])
      have ky := kya_2_1 W.heap.size V2 hw2 K2 Z2 hw.size 
      (try simp only [p0, p1, p2, p3] at ky)
      exact castL (by kernel_rfl) ky
     ·go_simp
      obtain ⟨V2, e2, hb, K2, Z2, -⟩ := alloc_new W [.int .i64 0, .int .i64 0, .int .i64 0, .int .i64 0] 71
      rw [← e2]
      clear e2
      have hw2 := hw.trans (hb.mono hw.size)
      refine hK.out _ _ (by exact ⟨(KO.on (hw2)).cs, (KM.on (hw2)).cs, (KN.on (hw2)).cs⟩) (fun hHeld => ?_)
      clear hK
      (try simp only [p1, p2, p3])
      have ky := kya_2_2 W.heap.size V2 hw2 K2 Z2 hw.size 
      (try simp only [p0, p1, p2, p3] at ky)
      exact castL (by kernel_rfl) ky
     ·go_simp
      obtain ⟨V2, e2, hb, K2, Z2, -⟩ := alloc_new W [.int .i64 0, .int .i64 0, .int .i64 0, .int .i64 0] 71
      rw [← e2]
      clear e2
      have hw2 := hw.trans (hb.mono hw.size)
      refine hK.out _ _ (by exact ⟨(KO.on (hw2)).cs, (KM.on (hw2)).cs, (KN.on (hw2)).cs⟩) (fun hHeld => ?_)
      clear hK
      (try simp only [p1, p2, p3])
      have ky := kya_2_4 W.heap.size V2 hw2 K2 Z2 hw.size 
      (try simp only [p0, p1, p2, p3] at ky)
      exact castL (by kernel_rfl) ky
    have kya_0_1 : ∀ (q0 : Nat) (W : World) (hw : Below Vd701.heap.size Vd701 W) (b0 : Box W q0 [.int .i64 0, .int .i64 0, .int .i64 0, .int .i64 0]) (z0 : Fz W q0) (g0 : Vd701.heap.size ≤ q0) , wpAnyH Try.prog .any OP QQ (fun wx => Cs wx (w.heap.size) 0 [.int .i64 o.a, .int .i64 o.b, .int .i64 o.c, .int .i64 o.d] ∧ Cs wx (w.heap.size + 1) 0 [.int .i64 m.a, .int .i64 m.b, .int .i64 m.c, .int .i64 m.d] ∧ Cs wx (w.heap.size + 1 + 1) 0 [.int .i64 n.a, .int .i64 n.b, .int .i64 n.c, .int .i64 n.d]) 8 #[true, false, true, false, true, false, true, false, false, false, false, false] (AA.put (some 15) (.pointer (some ⟨q0, 0, none⟩))) W := by
     intro q0 W hw b0 z0 g0
     subst hOP
     subst hQQ
     subst hAA
     (try simp only [p0, p1, p2, p3])
     refine pR3 1 7 8 (fun K hK => ?_) (fun K hK => ?_) (fun K hK => ?_)
     ·go_simp
      (go_at_call 38; with_reducible refine (mkT HM.out).mono ?_)
      rintro _ W2 ⟨rfl, hb⟩
      (try go_wp2_with fail)
      have hw2 := hw.trans (hb.mono hw.size)
      refine hK.out _ _ (by exact ⟨(KO.on (hw2)).cs, (KM.on (hw2)).cs, (KN.on (hw2)).cs⟩) (fun hHeld => ?_)
      clear hK
      (try simp only [p1, p2, p3])
      have ky := kya_1_1 q0 W2 hw2 (b0.on hb) (z0.on hb) g0 
      (try simp only [p0, p1, p2, p3] at ky)
      exact castL (by kernel_rfl) ky
     ·go_simp
      obtain ⟨V2, e2, hb, K2, Z2, -⟩ := alloc_new W [.int .i64 0, .int .i64 0, .int .i64 0, .int .i64 0] 71
      rw [← e2]
      clear e2
      have hw2 := hw.trans (hb.mono hw.size)
      refine hK.out _ _ (by exact ⟨(KO.on (hw2)).cs, (KM.on (hw2)).cs, (KN.on (hw2)).cs⟩) (fun hHeld => ?_)
      clear hK
      (try simp only [p1, p2, p3])
      have ky := kya_0_3 q0 W.heap.size V2 hw2 (b0.on hb) (z0.on hb) g0 K2 Z2 hw.size (Nat.ne_of_lt b0.lt)
      (try simp only [p0, p1, p2, p3] at ky)
      exact castL (by kernel_rfl) ky
     ·go_simp
      obtain ⟨V2, e2, hb, K2, Z2, -⟩ := alloc_new W [.int .i64 0, .int .i64 0, .int .i64 0, .int .i64 0] 71
      rw [← e2]
      clear e2
      have hw2 := hw.trans (hb.mono hw.size)
      refine hK.out _ _ (by exact ⟨(KO.on (hw2)).cs, (KM.on (hw2)).cs, (KN.on (hw2)).cs⟩) (fun hHeld => ?_)
      clear hK
      (try simp only [p1, p2, p3])
      have ky := kya_0_5 q0 W.heap.size V2 hw2 (b0.on hb) (z0.on hb) g0 K2 Z2 hw.size (Nat.ne_of_lt b0.lt)
      (try simp only [p0, p1, p2, p3] at ky)
      exact castL (by kernel_rfl) ky
    have kya_0_2 : ∀ (q1 : Nat) (W : World) (hw : Below Vd701.heap.size Vd701 W) (b1 : Box W q1 [.int .i64 0, .int .i64 0, .int .i64 0, .int .i64 0]) (z1 : Fz W q1) (g1 : Vd701.heap.size ≤ q1) , wpAnyH Try.prog .any OP QQ (fun wx => Cs wx (w.heap.size) 0 [.int .i64 o.a, .int .i64 o.b, .int .i64 o.c, .int .i64 o.d] ∧ Cs wx (w.heap.size + 1) 0 [.int .i64 m.a, .int .i64 m.b, .int .i64 m.c, .int .i64 m.d] ∧ Cs wx (w.heap.size + 1 + 1) 0 [.int .i64 n.a, .int .i64 n.b, .int .i64 n.c, .int .i64 n.d]) 8 #[true, false, true, false, true, false, false, true, false, false, false, false] (AA.put (some 16) (.pointer (some ⟨q1, 0, none⟩))) W := by
     intro q1 W hw b1 z1 g1
     subst hOP
     subst hQQ
     subst hAA
     (try simp only [p0, p1, p2, p3])
     refine pR3 1 6 8 (fun K hK => ?_) (fun K hK => ?_) (fun K hK => ?_)
     ·go_simp
      (go_at_call 38; with_reducible refine (mkT HM.out).mono ?_)
      rintro _ W2 ⟨rfl, hb⟩
      (try go_wp2_with fail)
      have hw2 := hw.trans (hb.mono hw.size)
      refine hK.out _ _ (by exact ⟨(KO.on (hw2)).cs, (KM.on (hw2)).cs, (KN.on (hw2)).cs⟩) (fun hHeld => ?_)
      clear hK
      (try simp only [p1, p2, p3])
      have ky := kya_1_2 q1 W2 hw2 (b1.on hb) (z1.on hb) g1 
      (try simp only [p0, p1, p2, p3] at ky)
      exact castL (by kernel_rfl) ky
     ·go_simp
      obtain ⟨V2, e2, hb, K2, Z2, -⟩ := alloc_new W [.int .i64 0, .int .i64 0, .int .i64 0, .int .i64 0] 71
      rw [← e2]
      clear e2
      have hw2 := hw.trans (hb.mono hw.size)
      refine hK.out _ _ (by exact ⟨(KO.on (hw2)).cs, (KM.on (hw2)).cs, (KN.on (hw2)).cs⟩) (fun hHeld => ?_)
      clear hK
      (try simp only [p1, p2, p3])
      have ky := kya_0_3 W.heap.size q1 V2 hw2 K2 Z2 hw.size (b1.on hb) (z1.on hb) g1 (Nat.ne_of_lt b1.lt).symm
      (try simp only [p0, p1, p2, p3] at ky)
      exact castL (by kernel_rfl) ky
     ·go_simp
      obtain ⟨V2, e2, hb, K2, Z2, -⟩ := alloc_new W [.int .i64 0, .int .i64 0, .int .i64 0, .int .i64 0] 71
      rw [← e2]
      clear e2
      have hw2 := hw.trans (hb.mono hw.size)
      refine hK.out _ _ (by exact ⟨(KO.on (hw2)).cs, (KM.on (hw2)).cs, (KN.on (hw2)).cs⟩) (fun hHeld => ?_)
      clear hK
      (try simp only [p1, p2, p3])
      have ky := kya_0_6 q1 W.heap.size V2 hw2 (b1.on hb) (z1.on hb) g1 K2 Z2 hw.size (Nat.ne_of_lt b1.lt)
      (try simp only [p0, p1, p2, p3] at ky)
      exact castL (by kernel_rfl) ky
    have kya_0_4 : ∀ (q2 : Nat) (W : World) (hw : Below Vd701.heap.size Vd701 W) (b2 : Box W q2 [.int .i64 0, .int .i64 0, .int .i64 0, .int .i64 0]) (z2 : Fz W q2) (g2 : Vd701.heap.size ≤ q2) , wpAnyH Try.prog .any OP QQ (fun wx => Cs wx (w.heap.size) 0 [.int .i64 o.a, .int .i64 o.b, .int .i64 o.c, .int .i64 o.d] ∧ Cs wx (w.heap.size + 1) 0 [.int .i64 m.a, .int .i64 m.b, .int .i64 m.c, .int .i64 m.d] ∧ Cs wx (w.heap.size + 1 + 1) 0 [.int .i64 n.a, .int .i64 n.b, .int .i64 n.c, .int .i64 n.d]) 8 #[true, false, true, false, true, false, false, false, true, false, false, false] (AA.put (some 17) (.pointer (some ⟨q2, 0, none⟩))) W := by
     intro q2 W hw b2 z2 g2
     subst hOP
     subst hQQ
     subst hAA
     (try simp only [p0, p1, p2, p3])
     refine pR3 1 6 7 (fun K hK => ?_) (fun K hK => ?_) (fun K hK => ?_)
     ·go_simp
      (go_at_call 38; with_reducible refine (mkT HM.out).mono ?_)
      rintro _ W2 ⟨rfl, hb⟩
      (try go_wp2_with fail)
      have hw2 := hw.trans (hb.mono hw.size)
      refine hK.out _ _ (by exact ⟨(KO.on (hw2)).cs, (KM.on (hw2)).cs, (KN.on (hw2)).cs⟩) (fun hHeld => ?_)
      clear hK
      (try simp only [p1, p2, p3])
      have ky := kya_1_4 q2 W2 hw2 (b2.on hb) (z2.on hb) g2 
      (try simp only [p0, p1, p2, p3] at ky)
      exact castL (by kernel_rfl) ky
     ·go_simp
      obtain ⟨V2, e2, hb, K2, Z2, -⟩ := alloc_new W [.int .i64 0, .int .i64 0, .int .i64 0, .int .i64 0] 71
      rw [← e2]
      clear e2
      have hw2 := hw.trans (hb.mono hw.size)
      refine hK.out _ _ (by exact ⟨(KO.on (hw2)).cs, (KM.on (hw2)).cs, (KN.on (hw2)).cs⟩) (fun hHeld => ?_)
      clear hK
      (try simp only [p1, p2, p3])
      have ky := kya_0_5 W.heap.size q2 V2 hw2 K2 Z2 hw.size (b2.on hb) (z2.on hb) g2 (Nat.ne_of_lt b2.lt).symm
      (try simp only [p0, p1, p2, p3] at ky)
      exact castL (by kernel_rfl) ky
     ·go_simp
      obtain ⟨V2, e2, hb, K2, Z2, -⟩ := alloc_new W [.int .i64 0, .int .i64 0, .int .i64 0, .int .i64 0] 71
      rw [← e2]
      clear e2
      have hw2 := hw.trans (hb.mono hw.size)
      refine hK.out _ _ (by exact ⟨(KO.on (hw2)).cs, (KM.on (hw2)).cs, (KN.on (hw2)).cs⟩) (fun hHeld => ?_)
      clear hK
      (try simp only [p1, p2, p3])
      have ky := kya_0_6 W.heap.size q2 V2 hw2 K2 Z2 hw.size (b2.on hb) (z2.on hb) g2 (Nat.ne_of_lt b2.lt).symm
      (try simp only [p0, p1, p2, p3] at ky)
      exact castL (by kernel_rfl) ky
    have kya_1_0 : ∀  (W : World) (hw : Below Vd701.heap.size Vd701 W)  , wpAnyH Try.prog .any OP QQ (fun wx => Cs wx (w.heap.size) 0 [.int .i64 o.a, .int .i64 o.b, .int .i64 o.c, .int .i64 o.d] ∧ Cs wx (w.heap.size + 1) 0 [.int .i64 m.a, .int .i64 m.b, .int .i64 m.c, .int .i64 m.d] ∧ Cs wx (w.heap.size + 1 + 1) 0 [.int .i64 n.a, .int .i64 n.b, .int .i64 n.c, .int .i64 n.d]) 8 #[true, true, true, false, true, false, false, false, false, false, false, false] (AA.put (some 51) ((.agg #[.int .i64 M.a, .int .i64 M.b, .int .i64 M.c, .int .i64 M.d]))) W := by
     intro W hw
     subst hOP
     subst hQQ
     subst hAA
     (try simp only [p0, p1, p2, p3])
     refine pR4 3 6 7 8 (fun K hK => ?_) (fun K hK => ?_) (fun K hK => ?_) (fun K hK => ?_)
     ·go_simp
      (go_at_call 38; with_reducible refine (mkT HN.out).mono ?_)
      rintro _ W2 ⟨rfl, hb⟩
      (try go_wp2_with fail)
      have hw2 := hw.trans (hb.mono hw.size)
      refine hK.out _ _ (by exact ⟨(KO.on (hw2)).cs, (KM.on (hw2)).cs, (KN.on (hw2)).cs⟩) (fun hHeld => ?_)
      clear hK
      (try simp only [p1, p2, p3])
      have ky := kya_2_0  W2 hw2  
      (try simp only [p0, p1, p2, p3] at ky)
      exact castL (by kernel_rfl) ky
     ·go_simp
      obtain ⟨V2, e2, hb, K2, Z2, -⟩ := alloc_new W [.int .i64 0, .int .i64 0, .int .i64 0, .int .i64 0] 71
      rw [← e2]
      clear e2
      have hw2 := hw.trans (hb.mono hw.size)
      refine hK.out _ _ (by exact ⟨(KO.on (hw2)).cs, (KM.on (hw2)).cs, (KN.on (hw2)).cs⟩) (fun hHeld => ?_)
      clear hK
      (try simp only [p1, p2, p3])
      have ky := kya_1_1 W.heap.size V2 hw2 K2 Z2 hw.size 
      (try simp only [p0, p1, p2, p3] at ky)
      exact castL (by kernel_rfl) ky
     ·go_simp
      obtain ⟨V2, e2, hb, K2, Z2, -⟩ := alloc_new W [.int .i64 0, .int .i64 0, .int .i64 0, .int .i64 0] 71
      rw [← e2]
      clear e2
      have hw2 := hw.trans (hb.mono hw.size)
      refine hK.out _ _ (by exact ⟨(KO.on (hw2)).cs, (KM.on (hw2)).cs, (KN.on (hw2)).cs⟩) (fun hHeld => ?_)
      clear hK
      (try simp only [p1, p2, p3])
      have ky := kya_1_2 W.heap.size V2 hw2 K2 Z2 hw.size 
      (try simp only [p0, p1, p2, p3] at ky)
      exact castL (by kernel_rfl) ky
     ·go_simp
      obtain ⟨V2, e2, hb, K2, Z2, -⟩ := alloc_new W [.int .i64 0, .int .i64 0, .int .i64 0, .int .i64 0] 71
      rw [← e2]
      clear e2
      have hw2 := hw.trans (hb.mono hw.size)
      refine hK.out _ _ (by exact ⟨(KO.on (hw2)).cs, (KM.on (hw2)).cs, (KN.on (hw2)).cs⟩) (fun hHeld => ?_)
      clear hK
      (try simp only [p1, p2, p3])
      have ky := kya_1_4 W.heap.size V2 hw2 K2 Z2 hw.size 
      (try simp only [p0, p1, p2, p3] at ky)
      exact castL (by kernel_rfl) ky
    have kya_0_0 : ∀  (W : World) (hw : Below Vd701.heap.size Vd701 W)  , wpAnyH Try.prog .any OP QQ (fun wx => Cs wx (w.heap.size) 0 [.int .i64 o.a, .int .i64 o.b, .int .i64 o.c, .int .i64 o.d] ∧ Cs wx (w.heap.size + 1) 0 [.int .i64 m.a, .int .i64 m.b, .int .i64 m.c, .int .i64 m.d] ∧ Cs wx (w.heap.size + 1 + 1) 0 [.int .i64 n.a, .int .i64 n.b, .int .i64 n.c, .int .i64 n.d]) 9 #[true, false, true, false, true, false, false, false, false, false, false, false] AA W := by
     intro W hw
     subst hOP
     subst hQQ
     subst hAA
     (try simp only [p0, p1, p2, p3])
     refine pR4 1 6 7 8 (fun K hK => ?_) (fun K hK => ?_) (fun K hK => ?_) (fun K hK => ?_)
     ·go_simp
      (go_at_call 38; with_reducible refine (mkT HM.out).mono ?_)
      rintro _ W2 ⟨rfl, hb⟩
      (try go_wp2_with fail)
      have hw2 := hw.trans (hb.mono hw.size)
      refine hK.out _ _ (by exact ⟨(KO.on (hw2)).cs, (KM.on (hw2)).cs, (KN.on (hw2)).cs⟩) (fun hHeld => ?_)
      clear hK
      (try simp only [p1, p2, p3])
      have ky := kya_1_0  W2 hw2  
      (try simp only [p0, p1, p2, p3] at ky)
      exact castL (by kernel_rfl) ky
     ·go_simp
      obtain ⟨V2, e2, hb, K2, Z2, -⟩ := alloc_new W [.int .i64 0, .int .i64 0, .int .i64 0, .int .i64 0] 71
      rw [← e2]
      clear e2
      have hw2 := hw.trans (hb.mono hw.size)
      refine hK.out _ _ (by exact ⟨(KO.on (hw2)).cs, (KM.on (hw2)).cs, (KN.on (hw2)).cs⟩) (fun hHeld => ?_)
      clear hK
      (try simp only [p1, p2, p3])
      have ky := kya_0_1 W.heap.size V2 hw2 K2 Z2 hw.size 
      (try simp only [p0, p1, p2, p3] at ky)
      exact castL (by kernel_rfl) ky
     ·go_simp
      obtain ⟨V2, e2, hb, K2, Z2, -⟩ := alloc_new W [.int .i64 0, .int .i64 0, .int .i64 0, .int .i64 0] 71
      rw [← e2]
      clear e2
      have hw2 := hw.trans (hb.mono hw.size)
      refine hK.out _ _ (by exact ⟨(KO.on (hw2)).cs, (KM.on (hw2)).cs, (KN.on (hw2)).cs⟩) (fun hHeld => ?_)
      clear hK
      (try simp only [p1, p2, p3])
      have ky := kya_0_2 W.heap.size V2 hw2 K2 Z2 hw.size 
      (try simp only [p0, p1, p2, p3] at ky)
      exact castL (by kernel_rfl) ky
     ·go_simp
      obtain ⟨V2, e2, hb, K2, Z2, -⟩ := alloc_new W [.int .i64 0, .int .i64 0, .int .i64 0, .int .i64 0] 71
      rw [← e2]
      clear e2
      have hw2 := hw.trans (hb.mono hw.size)
      refine hK.out _ _ (by exact ⟨(KO.on (hw2)).cs, (KM.on (hw2)).cs, (KN.on (hw2)).cs⟩) (fun hHeld => ?_)
      clear hK
      (try simp only [p1, p2, p3])
      have ky := kya_0_4 W.heap.size V2 hw2 K2 Z2 hw.size 
      (try simp only [p0, p1, p2, p3] at ky)
      exact castL (by kernel_rfl) ky
    exact castL (by kernel_rfl) (kya_0_0 Vd701 (Below.refl _ _))
   case rest =>
    obtain ⟨ya0, ya1, ya2, rfl, rfl, rfl, Pa0, Pa1, Pa2, hb⟩ := hcut
    replace KO := KO.on hb
    replace KM := KM.on hb
    replace KN := KN.on hb
    replace hrF := hrF.on hb
    replace hrB := hrB.on hb
    replace BW := BW.trans (hb.mono BW.size)
    clear hb
    go_wp2_with fail
    go_cut [18, 19, 20] (fun sa sb sc wx => ∃ q0 q1 q2 : Nat, sa = .pointer (some ⟨q0, 0, none⟩) ∧ sb = .pointer (some ⟨q1, 0, none⟩) ∧ sc = .pointer (some ⟨q2, 0, none⟩) ∧ Box wx q0 [.int .i64 3, .int .i64 M.a, .complex .f64 0 0, .int .i64 3, .int .i64 M.b, .complex .f64 0 0, .int .i64 3, .int .i64 M.c, .complex .f64 0 0, .int .i64 3, .int .i64 M.d, .complex .f64 0 0] ∧ Box wx q1 [.int .i64 3, .int .i64 N.a, .complex .f64 0 0, .int .i64 3, .int .i64 N.b, .complex .f64 0 0, .int .i64 3, .int .i64 N.c, .complex .f64 0 0, .int .i64 3, .int .i64 N.d, .complex .f64 0 0] ∧ Box wx q2 [.int .i64 3, .int .i64 O.a, .complex .f64 0 0, .int .i64 3, .int .i64 O.b, .complex .f64 0 0, .int .i64 3, .int .i64 O.c, .complex .f64 0 0, .int .i64 3, .int .i64 O.d, .complex .f64 0 0] ∧ Below wc.heap.size wc wx)
    case first =>
     clear BW hrF hrB
     have BW := Below.refl wc.heap.size wc
     clear Pa0
     clear Pa1
     clear Pa2
     refine wp_region_noPanic ?_
     have hb : Below wc.heap.size wc wc.drew := (Below.refl _ _).drew
     replace KO := KO.on hb
     replace KM := KM.on hb
     replace KN := KN.on hb
     replace BW := BW.trans (hb.mono BW.size)
     clear hb
     refine wp_region_held_drew (S := (fun wx => Cs wx (w.heap.size) 0 [.int .i64 o.a, .int .i64 o.b, .int .i64 o.c, .int .i64 o.d] ∧ Cs wx (w.heap.size + 1) 0 [.int .i64 m.a, .int .i64 m.b, .int .i64 m.c, .int .i64 m.d] ∧ Cs wx (w.heap.size + 1 + 1) 0 [.int .i64 n.a, .int .i64 n.b, .int .i64 n.c, .int .i64 n.d])) (by kernel_rfl) (by exact ⟨(KO.on (Below.refl _ _)).cs, (KM.on (Below.refl _ _)).cs, (KN.on (Below.refl _ _)).cs⟩) (fun hHeld => ?_)
     generalize wc.drew = Vd801 at *
     refine pT 0 ?_
     (try simp only [p0, p1, p2, p3])
     refine pT 1 ?_
     (try simp only [p0, p1, p2, p3])
     refine pT 3 ?_
     (try simp only [p0, p1, p2, p3])
     refine pT 4 ?_
     (try simp only [p0, p1, p2, p3])
     refine pT 6 ?_
     (try simp only [p0, p1, p2, p3])
     refine pT 7 ?_
     (try simp only [p0, p1, p2, p3])
     have BW0 := BW
     refine nameH (fun OP QQ AA hOP hQQ hAA => ?_)
     have kyb_3_7 : ∀ (q0 : Nat) (q1 : Nat) (q2 : Nat) (W : World) (hw : Below Vd801.heap.size Vd801 W) (b0 : Box W q0 [.int .i64 0, .int .i64 0, .complex .f64 0 0, .int .i64 0, .int .i64 0, .complex .f64 0 0, .int .i64 0, .int .i64 0, .complex .f64 0 0, .int .i64 0, .int .i64 0, .complex .f64 0 0]) (z0 : Fz W q0) (g0 : Vd801.heap.size ≤ q0) (b1 : Box W q1 [.int .i64 0, .int .i64 0, .complex .f64 0 0, .int .i64 0, .int .i64 0, .complex .f64 0 0, .int .i64 0, .int .i64 0, .complex .f64 0 0, .int .i64 0, .int .i64 0, .complex .f64 0 0]) (z1 : Fz W q1) (g1 : Vd801.heap.size ≤ q1) (b2 : Box W q2 [.int .i64 0, .int .i64 0, .complex .f64 0 0, .int .i64 0, .int .i64 0, .complex .f64 0 0, .int .i64 0, .int .i64 0, .complex .f64 0 0, .int .i64 0, .int .i64 0, .complex .f64 0 0]) (z2 : Fz W q2) (g2 : Vd801.heap.size ≤ q2) (n01 : q0 ≠ q1) (n02 : q0 ≠ q2) (n12 : q1 ≠ q2), wpAnyH Try.prog .any OP QQ (fun wx => Cs wx (w.heap.size) 0 [.int .i64 o.a, .int .i64 o.b, .int .i64 o.c, .int .i64 o.d] ∧ Cs wx (w.heap.size + 1) 0 [.int .i64 m.a, .int .i64 m.b, .int .i64 m.c, .int .i64 m.d] ∧ Cs wx (w.heap.size + 1 + 1) 0 [.int .i64 n.a, .int .i64 n.b, .int .i64 n.c, .int .i64 n.d]) 3 #[true, true, true, true, true, true, true, true, true, true, true, true, false, false, false] ((((((AA.put (some 58) ((.agg #[.int .i64 3, .int .i64 M.a, .complex .f64 0 0, .int .i64 3, .int .i64 M.b, .complex .f64 0 0, .int .i64 3, .int .i64 M.c, .complex .f64 0 0, .int .i64 3, .int .i64 M.d, .complex .f64 0 0]))).put (some 61) ((.agg #[.int .i64 3, .int .i64 N.a, .complex .f64 0 0, .int .i64 3, .int .i64 N.b, .complex .f64 0 0, .int .i64 3, .int .i64 N.c, .complex .f64 0 0, .int .i64 3, .int .i64 N.d, .complex .f64 0 0]))).put (some 64) ((.agg #[.int .i64 3, .int .i64 O.a, .complex .f64 0 0, .int .i64 3, .int .i64 O.b, .complex .f64 0 0, .int .i64 3, .int .i64 O.c, .complex .f64 0 0, .int .i64 3, .int .i64 O.d, .complex .f64 0 0]))).put (some 18) (.pointer (some ⟨q0, 0, none⟩))).put (some 19) (.pointer (some ⟨q1, 0, none⟩))).put (some 20) (.pointer (some ⟨q2, 0, none⟩))) W := by
      intro q0 q1 q2 W hw b0 z0 g0 b1 z1 g1 b2 z2 g2 n01 n02 n12
      subst hOP
      subst hQQ
      subst hAA
      (try simp only [p0, p1, p2, p3])
      have xKO := KO.on hw
      have xKM := KM.on hw
      have xKN := KN.on hw
      replace BW := BW.trans (hw.mono BW.size)
      have gw0 : wc.heap.size ≤ q0 := Nat.le_trans BW0.size g0
      have xKO0 : w.heap.size ≠ q0 := Nat.ne_of_lt (Nat.lt_of_lt_of_le KO.lt g0)
      have xKM0 : w.heap.size + 1 ≠ q0 := Nat.ne_of_lt (Nat.lt_of_lt_of_le KM.lt g0)
      have xKN0 : w.heap.size + 1 + 1 ≠ q0 := Nat.ne_of_lt (Nat.lt_of_lt_of_le KN.lt g0)
      have gw1 : wc.heap.size ≤ q1 := Nat.le_trans BW0.size g1
      have xKO1 : w.heap.size ≠ q1 := Nat.ne_of_lt (Nat.lt_of_lt_of_le KO.lt g1)
      have xKM1 : w.heap.size + 1 ≠ q1 := Nat.ne_of_lt (Nat.lt_of_lt_of_le KM.lt g1)
      have xKN1 : w.heap.size + 1 + 1 ≠ q1 := Nat.ne_of_lt (Nat.lt_of_lt_of_le KN.lt g1)
      have gw2 : wc.heap.size ≤ q2 := Nat.le_trans BW0.size g2
      have xKO2 : w.heap.size ≠ q2 := Nat.ne_of_lt (Nat.lt_of_lt_of_le KO.lt g2)
      have xKM2 : w.heap.size + 1 ≠ q2 := Nat.ne_of_lt (Nat.lt_of_lt_of_le KM.lt g2)
      have xKN2 : w.heap.size + 1 + 1 ≠ q2 := Nat.ne_of_lt (Nat.lt_of_lt_of_le KN.lt g2)
      refine pR1 12 (fun K hK => ?_)
      obtain ⟨c802, c803, c804, c805, c806, c807, c808, c809, c810, c811, c812, c813⟩ := b0.c12
      obtain ⟨c814, c815, c816, c817, c818, c819, c820, c821, c822, c823, c824, c825⟩ := z0.f12
      go_simp
      clear c802 c803 c804 c805 c806 c807 c808 c809 c810 c811 c812 c813 c814 c815 c816 c817 c818 c819 c820 c821 c822 c823 c824 c825
      obtain ⟨V826, hk828⟩ : ∃ V826, V826 = W.setCells (q0) 0 [.int .i64 3, .int .i64 M.a, .complex .f64 0 0, .int .i64 3, .int .i64 M.b, .complex .f64 0 0, .int .i64 3, .int .i64 M.c, .complex .f64 0 0, .int .i64 3, .int .i64 M.d, .complex .f64 0 0] := ⟨_, rfl⟩
      have e827 := hk828
      simp only [World.setCells, Nat.zero_add, Nat.reduceAdd] at e827
      have hk829 := Kept.overE hk828 b0 rfl (by simp)
      replace xKO := xKO.awayE hk828 xKO0
      replace xKM := xKM.awayE hk828 xKM0
      replace xKN := xKN.awayE hk828 xKN0
      replace b0 := b0.overE hk828 rfl
      replace b1 := b1.awayE hk828 n01.symm
      replace b2 := b2.awayE hk828 n02.symm
      replace z0 := z0.putE hk828
      replace z1 := z1.putE hk828
      replace z2 := z2.putE hk828
      replace BW := Below.putE BW hk828 gw0
      clear hk828 hk829
      rw [← e827]
      clear e827
      refine hK.out _ _ (by exact ⟨xKO.cs, xKM.cs, xKN.cs⟩) (fun hHeld => ?_)
      clear hK
      (try simp only [p1, p2, p3])
      refine pR1 13 (fun K hK => ?_)
      obtain ⟨c830, c831, c832, c833, c834, c835, c836, c837, c838, c839, c840, c841⟩ := b1.c12
      obtain ⟨c842, c843, c844, c845, c846, c847, c848, c849, c850, c851, c852, c853⟩ := z1.f12
      go_simp
      clear c830 c831 c832 c833 c834 c835 c836 c837 c838 c839 c840 c841 c842 c843 c844 c845 c846 c847 c848 c849 c850 c851 c852 c853
      obtain ⟨V854, hk856⟩ : ∃ V854, V854 = V826.setCells (q1) 0 [.int .i64 3, .int .i64 N.a, .complex .f64 0 0, .int .i64 3, .int .i64 N.b, .complex .f64 0 0, .int .i64 3, .int .i64 N.c, .complex .f64 0 0, .int .i64 3, .int .i64 N.d, .complex .f64 0 0] := ⟨_, rfl⟩
      have e855 := hk856
      simp only [World.setCells, Nat.zero_add, Nat.reduceAdd] at e855
      have hk857 := Kept.overE hk856 b1 rfl (by simp)
      replace xKO := xKO.awayE hk856 xKO1
      replace xKM := xKM.awayE hk856 xKM1
      replace xKN := xKN.awayE hk856 xKN1
      replace b0 := b0.awayE hk856 n01
      replace b1 := b1.overE hk856 rfl
      replace b2 := b2.awayE hk856 n12.symm
      replace z0 := z0.putE hk856
      replace z1 := z1.putE hk856
      replace z2 := z2.putE hk856
      replace BW := Below.putE BW hk856 gw1
      clear hk856 hk857
      rw [← e855]
      clear e855
      refine hK.out _ _ (by exact ⟨xKO.cs, xKM.cs, xKN.cs⟩) (fun hHeld => ?_)
      clear hK
      (try simp only [p1, p2, p3])
      refine pR1 14 (fun K hK => ?_)
      obtain ⟨c858, c859, c860, c861, c862, c863, c864, c865, c866, c867, c868, c869⟩ := b2.c12
      obtain ⟨c870, c871, c872, c873, c874, c875, c876, c877, c878, c879, c880, c881⟩ := z2.f12
      go_simp
      clear c858 c859 c860 c861 c862 c863 c864 c865 c866 c867 c868 c869 c870 c871 c872 c873 c874 c875 c876 c877 c878 c879 c880 c881
      obtain ⟨V882, hk884⟩ : ∃ V882, V882 = V854.setCells (q2) 0 [.int .i64 3, .int .i64 O.a, .complex .f64 0 0, .int .i64 3, .int .i64 O.b, .complex .f64 0 0, .int .i64 3, .int .i64 O.c, .complex .f64 0 0, .int .i64 3, .int .i64 O.d, .complex .f64 0 0] := ⟨_, rfl⟩
      have e883 := hk884
      simp only [World.setCells, Nat.zero_add, Nat.reduceAdd] at e883
      have hk885 := Kept.overE hk884 b2 rfl (by simp)
      replace xKO := xKO.awayE hk884 xKO2
      replace xKM := xKM.awayE hk884 xKM2
      replace xKN := xKN.awayE hk884 xKN2
      replace b0 := b0.awayE hk884 n02
      replace b1 := b1.awayE hk884 n12
      replace b2 := b2.overE hk884 rfl
      replace z0 := z0.putE hk884
      replace z1 := z1.putE hk884
      replace z2 := z2.putE hk884
      replace BW := Below.putE BW hk884 gw2
      clear hk884 hk885
      rw [← e883]
      clear e883
      refine hK.out _ _ (by exact ⟨xKO.cs, xKM.cs, xKN.cs⟩) (fun hHeld => ?_)
      clear hK
      (try simp only [p1, p2, p3])
      refine wpAnyH_done (by kernel_rfl) (NoPanic.normal ?_) _
      go_wp2
      go_meet
      exact ⟨q0, q1, q2, rfl, rfl, rfl, b0, b1, b2, BW⟩
     have kyb_2_7 : ∀ (q0 : Nat) (q1 : Nat) (q2 : Nat) (W : World) (hw : Below Vd801.heap.size Vd801 W) (b0 : Box W q0 [.int .i64 0, .int .i64 0, .complex .f64 0 0, .int .i64 0, .int .i64 0, .complex .f64 0 0, .int .i64 0, .int .i64 0, .complex .f64 0 0, .int .i64 0, .int .i64 0, .complex .f64 0 0]) (z0 : Fz W q0) (g0 : Vd801.heap.size ≤ q0) (b1 : Box W q1 [.int .i64 0, .int .i64 0, .complex .f64 0 0, .int .i64 0, .int .i64 0, .complex .f64 0 0, .int .i64 0, .int .i64 0, .complex .f64 0 0, .int .i64 0, .int .i64 0, .complex .f64 0 0]) (z1 : Fz W q1) (g1 : Vd801.heap.size ≤ q1) (b2 : Box W q2 [.int .i64 0, .int .i64 0, .complex .f64 0 0, .int .i64 0, .int .i64 0, .complex .f64 0 0, .int .i64 0, .int .i64 0, .complex .f64 0 0, .int .i64 0, .int .i64 0, .complex .f64 0 0]) (z2 : Fz W q2) (g2 : Vd801.heap.size ≤ q2) (n01 : q0 ≠ q1) (n02 : q0 ≠ q2) (n12 : q1 ≠ q2), wpAnyH Try.prog .any OP QQ (fun wx => Cs wx (w.heap.size) 0 [.int .i64 o.a, .int .i64 o.b, .int .i64 o.c, .int .i64 o.d] ∧ Cs wx (w.heap.size + 1) 0 [.int .i64 m.a, .int .i64 m.b, .int .i64 m.c, .int .i64 m.d] ∧ Cs wx (w.heap.size + 1 + 1) 0 [.int .i64 n.a, .int .i64 n.b, .int .i64 n.c, .int .i64 n.d]) 4 #[true, true, true, true, true, true, true, true, false, true, true, true, false, false, false] (((((AA.put (some 58) ((.agg #[.int .i64 3, .int .i64 M.a, .complex .f64 0 0, .int .i64 3, .int .i64 M.b, .complex .f64 0 0, .int .i64 3, .int .i64 M.c, .complex .f64 0 0, .int .i64 3, .int .i64 M.d, .complex .f64 0 0]))).put (some 61) ((.agg #[.int .i64 3, .int .i64 N.a, .complex .f64 0 0, .int .i64 3, .int .i64 N.b, .complex .f64 0 0, .int .i64 3, .int .i64 N.c, .complex .f64 0 0, .int .i64 3, .int .i64 N.d, .complex .f64 0 0]))).put (some 18) (.pointer (some ⟨q0, 0, none⟩))).put (some 19) (.pointer (some ⟨q1, 0, none⟩))).put (some 20) (.pointer (some ⟨q2, 0, none⟩))) W := by
      intro q0 q1 q2 W hw b0 z0 g0 b1 z1 g1 b2 z2 g2 n01 n02 n12
      subst hOP
      subst hQQ
      subst hAA
      (try simp only [p0, p1, p2, p3])
      refine pR1 8 (fun K hK => ?_)
      go_simp
      (go_at_call 11; with_reducible refine (meantT HO.out).mono ?_)
      rintro _ W2 ⟨rfl, hb⟩
      (try go_wp2_with fail)
      have hw2 := hw.trans (hb.mono hw.size)
      refine hK.out _ _ (by exact ⟨(KO.on (hw2)).cs, (KM.on (hw2)).cs, (KN.on (hw2)).cs⟩) (fun hHeld => ?_)
      clear hK
      (try simp only [p1, p2, p3])
      have ky := kyb_3_7 q0 q1 q2 W2 hw2 (b0.on hb) (z0.on hb) g0 (b1.on hb) (z1.on hb) g1 (b2.on hb) (z2.on hb) g2 n01 n02 n12
      (try simp only [p0, p1, p2, p3] at ky)
      exact castL (by kernel_rfl) ky
     have kyb_3_3 : ∀ (q0 : Nat) (q1 : Nat) (W : World) (hw : Below Vd801.heap.size Vd801 W) (b0 : Box W q0 [.int .i64 0, .int .i64 0, .complex .f64 0 0, .int .i64 0, .int .i64 0, .complex .f64 0 0, .int .i64 0, .int .i64 0, .complex .f64 0 0, .int .i64 0, .int .i64 0, .complex .f64 0 0]) (z0 : Fz W q0) (g0 : Vd801.heap.size ≤ q0) (b1 : Box W q1 [.int .i64 0, .int .i64 0, .complex .f64 0 0, .int .i64 0, .int .i64 0, .complex .f64 0 0, .int .i64 0, .int .i64 0, .complex .f64 0 0, .int .i64 0, .int .i64 0, .complex .f64 0 0]) (z1 : Fz W q1) (g1 : Vd801.heap.size ≤ q1) (n01 : q0 ≠ q1), wpAnyH Try.prog .any OP QQ (fun wx => Cs wx (w.heap.size) 0 [.int .i64 o.a, .int .i64 o.b, .int .i64 o.c, .int .i64 o.d] ∧ Cs wx (w.heap.size + 1) 0 [.int .i64 m.a, .int .i64 m.b, .int .i64 m.c, .int .i64 m.d] ∧ Cs wx (w.heap.size + 1 + 1) 0 [.int .i64 n.a, .int .i64 n.b, .int .i64 n.c, .int .i64 n.d]) 4 #[true, true, true, true, true, true, true, true, true, true, true, false, false, false, false] (((((AA.put (some 58) ((.agg #[.int .i64 3, .int .i64 M.a, .complex .f64 0 0, .int .i64 3, .int .i64 M.b, .complex .f64 0 0, .int .i64 3, .int .i64 M.c, .complex .f64 0 0, .int .i64 3, .int .i64 M.d, .complex .f64 0 0]))).put (some 61) ((.agg #[.int .i64 3, .int .i64 N.a, .complex .f64 0 0, .int .i64 3, .int .i64 N.b, .complex .f64 0 0, .int .i64 3, .int .i64 N.c, .complex .f64 0 0, .int .i64 3, .int .i64 N.d, .complex .f64 0 0]))).put (some 64) ((.agg #[.int .i64 3, .int .i64 O.a, .complex .f64 0 0, .int .i64 3, .int .i64 O.b, .complex .f64 0 0, .int .i64 3, .int .i64 O.c, .complex .f64 0 0, .int .i64 3, .int .i64 O.d, .complex .f64 0 0]))).put (some 18) (.pointer (some ⟨q0, 0, none⟩))).put (some 19) (.pointer (some ⟨q1, 0, none⟩))) W := by
      intro q0 q1 W hw b0 z0 g0 b1 z1 g1 n01
      subst hOP
      subst hQQ
      subst hAA
      (try simp only [p0, p1, p2, p3])
      refine pR1 11 (fun K hK => ?_)
      go_simp
      obtain ⟨V2, e2, hb, K2, Z2, -⟩ := alloc_new W [.int .i64 0, .int .i64 0, .complex .f64 0 0, .int .i64 0, .int .i64 0, .complex .f64 0 0, .int .i64 0, .int .i64 0, .complex .f64 0 0, .int .i64 0, .int .i64 0, .complex .f64 0 0] 37
      rw [← e2]
      clear e2
      have hw2 := hw.trans (hb.mono hw.size)
      refine hK.out _ _ (by exact ⟨(KO.on (hw2)).cs, (KM.on (hw2)).cs, (KN.on (hw2)).cs⟩) (fun hHeld => ?_)
      clear hK
      (try simp only [p1, p2, p3])
      have ky := kyb_3_7 q0 q1 W.heap.size V2 hw2 (b0.on hb) (z0.on hb) g0 (b1.on hb) (z1.on hb) g1 K2 Z2 hw.size n01 (Nat.ne_of_lt b0.lt) (Nat.ne_of_lt b1.lt)
      (try simp only [p0, p1, p2, p3] at ky)
      exact castL (by kernel_rfl) ky
     have kyb_3_5 : ∀ (q0 : Nat) (q2 : Nat) (W : World) (hw : Below Vd801.heap.size Vd801 W) (b0 : Box W q0 [.int .i64 0, .int .i64 0, .complex .f64 0 0, .int .i64 0, .int .i64 0, .complex .f64 0 0, .int .i64 0, .int .i64 0, .complex .f64 0 0, .int .i64 0, .int .i64 0, .complex .f64 0 0]) (z0 : Fz W q0) (g0 : Vd801.heap.size ≤ q0) (b2 : Box W q2 [.int .i64 0, .int .i64 0, .complex .f64 0 0, .int .i64 0, .int .i64 0, .complex .f64 0 0, .int .i64 0, .int .i64 0, .complex .f64 0 0, .int .i64 0, .int .i64 0, .complex .f64 0 0]) (z2 : Fz W q2) (g2 : Vd801.heap.size ≤ q2) (n02 : q0 ≠ q2), wpAnyH Try.prog .any OP QQ (fun wx => Cs wx (w.heap.size) 0 [.int .i64 o.a, .int .i64 o.b, .int .i64 o.c, .int .i64 o.d] ∧ Cs wx (w.heap.size + 1) 0 [.int .i64 m.a, .int .i64 m.b, .int .i64 m.c, .int .i64 m.d] ∧ Cs wx (w.heap.size + 1 + 1) 0 [.int .i64 n.a, .int .i64 n.b, .int .i64 n.c, .int .i64 n.d]) 4 #[true, true, true, true, true, true, true, true, true, true, false, true, false, false, false] (((((AA.put (some 58) ((.agg #[.int .i64 3, .int .i64 M.a, .complex .f64 0 0, .int .i64 3, .int .i64 M.b, .complex .f64 0 0, .int .i64 3, .int .i64 M.c, .complex .f64 0 0, .int .i64 3, .int .i64 M.d, .complex .f64 0 0]))).put (some 61) ((.agg #[.int .i64 3, .int .i64 N.a, .complex .f64 0 0, .int .i64 3, .int .i64 N.b, .complex .f64 0 0, .int .i64 3, .int .i64 N.c, .complex .f64 0 0, .int .i64 3, .int .i64 N.d, .complex .f64 0 0]))).put (some 64) ((.agg #[.int .i64 3, .int .i64 O.a, .complex .f64 0 0, .int .i64 3, .int .i64 O.b, .complex .f64 0 0, .int .i64 3, .int .i64 O.c, .complex .f64 0 0, .int .i64 3, .int .i64 O.d, .complex .f64 0 0]))).put (some 18) (.pointer (some ⟨q0, 0, none⟩))).put (some 20) (.pointer (some ⟨q2, 0, none⟩))) W := by
      intro q0 q2 W hw b0 z0 g0 b2 z2 g2 n02
      subst hOP
      subst hQQ
      subst hAA
      (try simp only [p0, p1, p2, p3])
      refine pR1 10 (fun K hK => ?_)
      go_simp
      obtain ⟨V2, e2, hb, K2, Z2, -⟩ := alloc_new W [.int .i64 0, .int .i64 0, .complex .f64 0 0, .int .i64 0, .int .i64 0, .complex .f64 0 0, .int .i64 0, .int .i64 0, .complex .f64 0 0, .int .i64 0, .int .i64 0, .complex .f64 0 0] 37
      rw [← e2]
      clear e2
      have hw2 := hw.trans (hb.mono hw.size)
      refine hK.out _ _ (by exact ⟨(KO.on (hw2)).cs, (KM.on (hw2)).cs, (KN.on (hw2)).cs⟩) (fun hHeld => ?_)
      clear hK
      (try simp only [p1, p2, p3])
      have ky := kyb_3_7 q0 W.heap.size q2 V2 hw2 (b0.on hb) (z0.on hb) g0 K2 Z2 hw.size (b2.on hb) (z2.on hb) g2 (Nat.ne_of_lt b0.lt) n02 (Nat.ne_of_lt b2.lt).symm
      (try simp only [p0, p1, p2, p3] at ky)
      exact castL (by kernel_rfl) ky
     have kyb_3_6 : ∀ (q1 : Nat) (q2 : Nat) (W : World) (hw : Below Vd801.heap.size Vd801 W) (b1 : Box W q1 [.int .i64 0, .int .i64 0, .complex .f64 0 0, .int .i64 0, .int .i64 0, .complex .f64 0 0, .int .i64 0, .int .i64 0, .complex .f64 0 0, .int .i64 0, .int .i64 0, .complex .f64 0 0]) (z1 : Fz W q1) (g1 : Vd801.heap.size ≤ q1) (b2 : Box W q2 [.int .i64 0, .int .i64 0, .complex .f64 0 0, .int .i64 0, .int .i64 0, .complex .f64 0 0, .int .i64 0, .int .i64 0, .complex .f64 0 0, .int .i64 0, .int .i64 0, .complex .f64 0 0]) (z2 : Fz W q2) (g2 : Vd801.heap.size ≤ q2) (n12 : q1 ≠ q2), wpAnyH Try.prog .any OP QQ (fun wx => Cs wx (w.heap.size) 0 [.int .i64 o.a, .int .i64 o.b, .int .i64 o.c, .int .i64 o.d] ∧ Cs wx (w.heap.size + 1) 0 [.int .i64 m.a, .int .i64 m.b, .int .i64 m.c, .int .i64 m.d] ∧ Cs wx (w.heap.size + 1 + 1) 0 [.int .i64 n.a, .int .i64 n.b, .int .i64 n.c, .int .i64 n.d]) 4 #[true, true, true, true, true, true, true, true, true, false, true, true, false, false, false] (((((AA.put (some 58) ((.agg #[.int .i64 3, .int .i64 M.a, .complex .f64 0 0, .int .i64 3, .int .i64 M.b, .complex .f64 0 0, .int .i64 3, .int .i64 M.c, .complex .f64 0 0, .int .i64 3, .int .i64 M.d, .complex .f64 0 0]))).put (some 61) ((.agg #[.int .i64 3, .int .i64 N.a, .complex .f64 0 0, .int .i64 3, .int .i64 N.b, .complex .f64 0 0, .int .i64 3, .int .i64 N.c, .complex .f64 0 0, .int .i64 3, .int .i64 N.d, .complex .f64 0 0]))).put (some 64) ((.agg #[.int .i64 3, .int .i64 O.a, .complex .f64 0 0, .int .i64 3, .int .i64 O.b, .complex .f64 0 0, .int .i64 3, .int .i64 O.c, .complex .f64 0 0, .int .i64 3, .int .i64 O.d, .complex .f64 0 0]))).put (some 19) (.pointer (some ⟨q1, 0, none⟩))).put (some 20) (.pointer (some ⟨q2, 0, none⟩))) W := by
      intro q1 q2 W hw b1 z1 g1 b2 z2 g2 n12
      subst hOP
      subst hQQ
      subst hAA
      (try simp only [p0, p1, p2, p3])
      refine pR1 9 (fun K hK => ?_)
      go_simp
      obtain ⟨V2, e2, hb, K2, Z2, -⟩ := alloc_new W [.int .i64 0, .int .i64 0, .complex .f64 0 0, .int .i64 0, .int .i64 0, .complex .f64 0 0, .int .i64 0, .int .i64 0, .complex .f64 0 0, .int .i64 0, .int .i64 0, .complex .f64 0 0] 37
      rw [← e2]
      clear e2
      have hw2 := hw.trans (hb.mono hw.size)
      refine hK.out _ _ (by exact ⟨(KO.on (hw2)).cs, (KM.on (hw2)).cs, (KN.on (hw2)).cs⟩) (fun hHeld => ?_)
      clear hK
      (try simp only [p1, p2, p3])
      have ky := kyb_3_7 W.heap.size q1 q2 V2 hw2 K2 Z2 hw.size (b1.on hb) (z1.on hb) g1 (b2.on hb) (z2.on hb) g2 (Nat.ne_of_lt b1.lt).symm (Nat.ne_of_lt b2.lt).symm n12
      (try simp only [p0, p1, p2, p3] at ky)
      exact castL (by kernel_rfl) ky
     have kyb_1_7 : ∀ (q0 : Nat) (q1 : Nat) (q2 : Nat) (W : World) (hw : Below Vd801.heap.size Vd801 W) (b0 : Box W q0 [.int .i64 0, .int .i64 0, .complex .f64 0 0, .int .i64 0, .int .i64 0, .complex .f64 0 0, .int .i64 0, .int .i64 0, .complex .f64 0 0, .int .i64 0, .int .i64 0, .complex .f64 0 0]) (z0 : Fz W q0) (g0 : Vd801.heap.size ≤ q0) (b1 : Box W q1 [.int .i64 0, .int .i64 0, .complex .f64 0 0, .int .i64 0, .int .i64 0, .complex .f64 0 0, .int .i64 0, .int .i64 0, .complex .f64 0 0, .int .i64 0, .int .i64 0, .complex .f64 0 0]) (z1 : Fz W q1) (g1 : Vd801.heap.size ≤ q1) (b2 : Box W q2 [.int .i64 0, .int .i64 0, .complex .f64 0 0, .int .i64 0, .int .i64 0, .complex .f64 0 0, .int .i64 0, .int .i64 0, .complex .f64 0 0, .int .i64 0, .int .i64 0, .complex .f64 0 0]) (z2 : Fz W q2) (g2 : Vd801.heap.size ≤ q2) (n01 : q0 ≠ q1) (n02 : q0 ≠ q2) (n12 : q1 ≠ q2), wpAnyH Try.prog .any OP QQ (fun wx => Cs wx (w.heap.size) 0 [.int .i64 o.a, .int .i64 o.b, .int .i64 o.c, .int .i64 o.d] ∧ Cs wx (w.heap.size + 1) 0 [.int .i64 m.a, .int .i64 m.b, .int .i64 m.c, .int .i64 m.d] ∧ Cs wx (w.heap.size + 1 + 1) 0 [.int .i64 n.a, .int .i64 n.b, .int .i64 n.c, .int .i64 n.d]) 5 #[true, true, true, true, true, false, true, true, false, true, true, true, false, false, false] ((((AA.put (some 58) ((.agg #[.int .i64 3, .int .i64 M.a, .complex .f64 0 0, .int .i64 3, .int .i64 M.b, .complex .f64 0 0, .int .i64 3, .int .i64 M.c, .complex .f64 0 0, .int .i64 3, .int .i64 M.d, .complex .f64 0 0]))).put (some 18) (.pointer (some ⟨q0, 0, none⟩))).put (some 19) (.pointer (some ⟨q1, 0, none⟩))).put (some 20) (.pointer (some ⟨q2, 0, none⟩))) W := by
      intro q0 q1 q2 W hw b0 z0 g0 b1 z1 g1 b2 z2 g2 n01 n02 n12
      subst hOP
      subst hQQ
      subst hAA
      (try simp only [p0, p1, p2, p3])
      refine pR1 5 (fun K hK => ?_)
      go_simp
      (go_at_call 11; with_reducible refine (meantT HN.out).mono ?_)
      rintro _ W2 ⟨rfl, hb⟩
      (try go_wp2_with fail)
      have hw2 := hw.trans (hb.mono hw.size)
      refine hK.out _ _ (by exact ⟨(KO.on (hw2)).cs, (KM.on (hw2)).cs, (KN.on (hw2)).cs⟩) (fun hHeld => ?_)
      clear hK
      (try simp only [p1, p2, p3])
      have ky := kyb_2_7 q0 q1 q2 W2 hw2 (b0.on hb) (z0.on hb) g0 (b1.on hb) (z1.on hb) g1 (b2.on hb) (z2.on hb) g2 n01 n02 n12
      (try simp only [p0, p1, p2, p3] at ky)
      exact castL (by kernel_rfl) ky
     have kyb_2_3 : ∀ (q0 : Nat) (q1 : Nat) (W : World) (hw : Below Vd801.heap.size Vd801 W) (b0 : Box W q0 [.int .i64 0, .int .i64 0, .complex .f64 0 0, .int .i64 0, .int .i64 0, .complex .f64 0 0, .int .i64 0, .int .i64 0, .complex .f64 0 0, .int .i64 0, .int .i64 0, .complex .f64 0 0]) (z0 : Fz W q0) (g0 : Vd801.heap.size ≤ q0) (b1 : Box W q1 [.int .i64 0, .int .i64 0, .complex .f64 0 0, .int .i64 0, .int .i64 0, .complex .f64 0 0, .int .i64 0, .int .i64 0, .complex .f64 0 0, .int .i64 0, .int .i64 0, .complex .f64 0 0]) (z1 : Fz W q1) (g1 : Vd801.heap.size ≤ q1) (n01 : q0 ≠ q1), wpAnyH Try.prog .any OP QQ (fun wx => Cs wx (w.heap.size) 0 [.int .i64 o.a, .int .i64 o.b, .int .i64 o.c, .int .i64 o.d] ∧ Cs wx (w.heap.size + 1) 0 [.int .i64 m.a, .int .i64 m.b, .int .i64 m.c, .int .i64 m.d] ∧ Cs wx (w.heap.size + 1 + 1) 0 [.int .i64 n.a, .int .i64 n.b, .int .i64 n.c, .int .i64 n.d]) 5 #[true, true, true, true, true, true, true, true, false, true, true, false, false, false, false] ((((AA.put (some 58) ((.agg #[.int .i64 3, .int .i64 M.a, .complex .f64 0 0, .int .i64 3, .int .i64 M.b, .complex .f64 0 0, .int .i64 3, .int .i64 M.c, .complex .f64 0 0, .int .i64 3, .int .i64 M.d, .complex .f64 0 0]))).put (some 61) ((.agg #[.int .i64 3, .int .i64 N.a, .complex .f64 0 0, .int .i64 3, .int .i64 N.b, .complex .f64 0 0, .int .i64 3, .int .i64 N.c, .complex .f64 0 0, .int .i64 3, .int .i64 N.d, .complex .f64 0 0]))).put (some 18) (.pointer (some ⟨q0, 0, none⟩))).put (some 19) (.pointer (some ⟨q1, 0, none⟩))) W := by
      intro q0 q1 W hw b0 z0 g0 b1 z1 g1 n01
      subst hOP
      subst hQQ
      subst hAA
      (try simp only [p0, p1, p2, p3])
      refine pR2 8 11 (fun K hK => ?_) (fun K hK => ?_)
      ·go_simp
       (go_at_call 11; with_reducible refine (meantT HO.out).mono ?_)
       rintro _ W2 ⟨rfl, hb⟩
       (try go_wp2_with fail)
       have hw2 := hw.trans (hb.mono hw.size)
       refine hK.out _ _ (by exact ⟨(KO.on (hw2)).cs, (KM.on (hw2)).cs, (KN.on (hw2)).cs⟩) (fun hHeld => ?_)
       clear hK
       (try simp only [p1, p2, p3])
       have ky := kyb_3_3 q0 q1 W2 hw2 (b0.on hb) (z0.on hb) g0 (b1.on hb) (z1.on hb) g1 n01
       (try simp only [p0, p1, p2, p3] at ky)
       exact castL (by kernel_rfl) ky
      ·go_simp
       obtain ⟨V2, e2, hb, K2, Z2, -⟩ := alloc_new W [.int .i64 0, .int .i64 0, .complex .f64 0 0, .int .i64 0, .int .i64 0, .complex .f64 0 0, .int .i64 0, .int .i64 0, .complex .f64 0 0, .int .i64 0, .int .i64 0, .complex .f64 0 0] 37
       rw [← e2]
       clear e2
       have hw2 := hw.trans (hb.mono hw.size)
       refine hK.out _ _ (by exact ⟨(KO.on (hw2)).cs, (KM.on (hw2)).cs, (KN.on (hw2)).cs⟩) (fun hHeld => ?_)
       clear hK
       (try simp only [p1, p2, p3])
       have ky := kyb_2_7 q0 q1 W.heap.size V2 hw2 (b0.on hb) (z0.on hb) g0 (b1.on hb) (z1.on hb) g1 K2 Z2 hw.size n01 (Nat.ne_of_lt b0.lt) (Nat.ne_of_lt b1.lt)
       (try simp only [p0, p1, p2, p3] at ky)
       exact castL (by kernel_rfl) ky
     have kyb_2_5 : ∀ (q0 : Nat) (q2 : Nat) (W : World) (hw : Below Vd801.heap.size Vd801 W) (b0 : Box W q0 [.int .i64 0, .int .i64 0, .complex .f64 0 0, .int .i64 0, .int .i64 0, .complex .f64 0 0, .int .i64 0, .int .i64 0, .complex .f64 0 0, .int .i64 0, .int .i64 0, .complex .f64 0 0]) (z0 : Fz W q0) (g0 : Vd801.heap.size ≤ q0) (b2 : Box W q2 [.int .i64 0, .int .i64 0, .complex .f64 0 0, .int .i64 0, .int .i64 0, .complex .f64 0 0, .int .i64 0, .int .i64 0, .complex .f64 0 0, .int .i64 0, .int .i64 0, .complex .f64 0 0]) (z2 : Fz W q2) (g2 : Vd801.heap.size ≤ q2) (n02 : q0 ≠ q2), wpAnyH Try.prog .any OP QQ (fun wx => Cs wx (w.heap.size) 0 [.int .i64 o.a, .int .i64 o.b, .int .i64 o.c, .int .i64 o.d] ∧ Cs wx (w.heap.size + 1) 0 [.int .i64 m.a, .int .i64 m.b, .int .i64 m.c, .int .i64 m.d] ∧ Cs wx (w.heap.size + 1 + 1) 0 [.int .i64 n.a, .int .i64 n.b, .int .i64 n.c, .int .i64 n.d]) 5 #[true, true, true, true, true, true, true, true, false, true, false, true, false, false, false] ((((AA.put (some 58) ((.agg #[.int .i64 3, .int .i64 M.a, .complex .f64 0 0, .int .i64 3, .int .i64 M.b, .complex .f64 0 0, .int .i64 3, .int .i64 M.c, .complex .f64 0 0, .int .i64 3, .int .i64 M.d, .complex .f64 0 0]))).put (some 61) ((.agg #[.int .i64 3, .int .i64 N.a, .complex .f64 0 0, .int .i64 3, .int .i64 N.b, .complex .f64 0 0, .int .i64 3, .int .i64 N.c, .complex .f64 0 0, .int .i64 3, .int .i64 N.d, .complex .f64 0 0]))).put (some 18) (.pointer (some ⟨q0, 0, none⟩))).put (some 20) (.pointer (some ⟨q2, 0, none⟩))) W := by
      intro q0 q2 W hw b0 z0 g0 b2 z2 g2 n02
      subst hOP
      subst hQQ
      subst hAA
      (try simp only [p0, p1, p2, p3])
      refine pR2 8 10 (fun K hK => ?_) (fun K hK => ?_)
      ·go_simp
       (go_at_call 11; with_reducible refine (meantT HO.out).mono ?_)
       rintro _ W2 ⟨rfl, hb⟩
       (try go_wp2_with fail)
       have hw2 := hw.trans (hb.mono hw.size)
       refine hK.out _ _ (by exact ⟨(KO.on (hw2)).cs, (KM.on (hw2)).cs, (KN.on (hw2)).cs⟩) (fun hHeld => ?_)
       clear hK
       (try simp only [p1, p2, p3])
       have ky := kyb_3_5 q0 q2 W2 hw2 (b0.on hb) (z0.on hb) g0 (b2.on hb) (z2.on hb) g2 n02
       (try simp only [p0, p1, p2, p3] at ky)
       exact castL (by kernel_rfl) ky
      ·go_simp
       obtain ⟨V2, e2, hb, K2, Z2, -⟩ := alloc_new W [.int .i64 0, .int .i64 0, .complex .f64 0 0, .int .i64 0, .int .i64 0, .complex .f64 0 0, .int .i64 0, .int .i64 0, .complex .f64 0 0, .int .i64 0, .int .i64 0, .complex .f64 0 0] 37
       rw [← e2]
       clear e2
       have hw2 := hw.trans (hb.mono hw.size)
       refine hK.out _ _ (by exact ⟨(KO.on (hw2)).cs, (KM.on (hw2)).cs, (KN.on (hw2)).cs⟩) (fun hHeld => ?_)
       clear hK
       (try simp only [p1, p2, p3])
       have ky := kyb_2_7 q0 W.heap.size q2 V2 hw2 (b0.on hb) (z0.on hb) g0 K2 Z2 hw.size (b2.on hb) (z2.on hb) g2 (Nat.ne_of_lt b0.lt) n02 (Nat.ne_of_lt b2.lt).symm
       (try simp only [p0, p1, p2, p3] at ky)
       exact castL (by kernel_rfl) ky
     have kyb_2_6 : ∀ (q1 : Nat) (q2 : Nat) (W : World) (hw : Below Vd801.heap.size Vd801 W) (b1 : Box W q1 [.int .i64 0, .int .i64 0, .complex .f64 0 0, .int .i64 0, .int .i64 0, .complex .f64 0 0, .int .i64 0, .int .i64 0, .complex .f64 0 0, .int .i64 0, .int .i64 0, .complex .f64 0 0]) (z1 : Fz W q1) (g1 : Vd801.heap.size ≤ q1) (b2 : Box W q2 [.int .i64 0, .int .i64 0, .complex .f64 0 0, .int .i64 0, .int .i64 0, .complex .f64 0 0, .int .i64 0, .int .i64 0, .complex .f64 0 0, .int .i64 0, .int .i64 0, .complex .f64 0 0]) (z2 : Fz W q2) (g2 : Vd801.heap.size ≤ q2) (n12 : q1 ≠ q2), wpAnyH Try.prog .any OP QQ (fun wx => Cs wx (w.heap.size) 0 [.int .i64 o.a, .int .i64 o.b, .int .i64 o.c, .int .i64 o.d] ∧ Cs wx (w.heap.size + 1) 0 [.int .i64 m.a, .int .i64 m.b, .int .i64 m.c, .int .i64 m.d] ∧ Cs wx (w.heap.size + 1 + 1) 0 [.int .i64 n.a, .int .i64 n.b, .int .i64 n.c, .int .i64 n.d]) 5 #[true, true, true, true, true, true, true, true, false, false, true, true, false, false, false] ((((AA.put (some 58) ((.agg #[.int .i64 3, .int .i64 M.a, .complex .f64 0 0, .int .i64 3, .int .i64 M.b, .complex .f64 0 0, .int .i64 3, .int .i64 M.c, .complex .f64 0 0, .int .i64 3, .int .i64 M.d, .complex .f64 0 0]))).put (some 61) ((.agg #[.int .i64 3, .int .i64 N.a, .complex .f64 0 0, .int .i64 3, .int .i64 N.b, .complex .f64 0 0, .int .i64 3, .int .i64 N.c, .complex .f64 0 0, .int .i64 3, .int .i64 N.d, .complex .f64 0 0]))).put (some 19) (.pointer (some ⟨q1, 0, none⟩))).put (some 20) (.pointer (some ⟨q2, 0, none⟩))) W := by
      intro q1 q2 W hw b1 z1 g1 b2 z2 g2 n12
      subst hOP
      subst hQQ
      subst hAA
      (try simp only [p0, p1, p2, p3])
      refine pR2 8 9 (fun K hK => ?_) (fun K hK => ?_)
      ·go_simp
       (go_at_call 11; with_reducible refine (meantT HO.out).mono ?_)
       rintro _ W2 ⟨rfl, hb⟩
       (try go_wp2_with fail)
       have hw2 := hw.trans (hb.mono hw.size)
       refine hK.out _ _ (by exact ⟨(KO.on (hw2)).cs, (KM.on (hw2)).cs, (KN.on (hw2)).cs⟩) (fun hHeld => ?_)
       clear hK
       (try simp only [p1, p2, p3])
       have ky := kyb_3_6 q1 q2 W2 hw2 (b1.on hb) (z1.on hb) g1 (b2.on hb) (z2.on hb) g2 n12
       (try simp only [p0, p1, p2, p3] at ky)
       exact castL (by kernel_rfl) ky
      ·go_simp
       obtain ⟨V2, e2, hb, K2, Z2, -⟩ := alloc_new W [.int .i64 0, .int .i64 0, .complex .f64 0 0, .int .i64 0, .int .i64 0, .complex .f64 0 0, .int .i64 0, .int .i64 0, .complex .f64 0 0, .int .i64 0, .int .i64 0, .complex .f64 0 0] 37
       rw [← e2]
       clear e2
       have hw2 := hw.trans (hb.mono hw.size)
       refine hK.out _ _ (by exact ⟨(KO.on (hw2)).cs, (KM.on (hw2)).cs, (KN.on (hw2)).cs⟩) (fun hHeld => ?_)
       clear hK
       (try simp only [p1, p2, p3])
       have ky := kyb_2_7 W.heap.size q1 q2 V2 hw2 K2 Z2 hw.size (b1.on hb) (z1.on hb) g1 (b2.on hb) (z2.on hb) g2 (Nat.ne_of_lt b1.lt).symm (Nat.ne_of_lt b2.lt).symm n12
       (try simp only [p0, p1, p2, p3] at ky)
       exact castL (by kernel_rfl) ky
     have kyb_3_1 : ∀ (q0 : Nat) (W : World) (hw : Below Vd801.heap.size Vd801 W) (b0 : Box W q0 [.int .i64 0, .int .i64 0, .complex .f64 0 0, .int .i64 0, .int .i64 0, .complex .f64 0 0, .int .i64 0, .int .i64 0, .complex .f64 0 0, .int .i64 0, .int .i64 0, .complex .f64 0 0]) (z0 : Fz W q0) (g0 : Vd801.heap.size ≤ q0) , wpAnyH Try.prog .any OP QQ (fun wx => Cs wx (w.heap.size) 0 [.int .i64 o.a, .int .i64 o.b, .int .i64 o.c, .int .i64 o.d] ∧ Cs wx (w.heap.size + 1) 0 [.int .i64 m.a, .int .i64 m.b, .int .i64 m.c, .int .i64 m.d] ∧ Cs wx (w.heap.size + 1 + 1) 0 [.int .i64 n.a, .int .i64 n.b, .int .i64 n.c, .int .i64 n.d]) 5 #[true, true, true, true, true, true, true, true, true, true, false, false, false, false, false] ((((AA.put (some 58) ((.agg #[.int .i64 3, .int .i64 M.a, .complex .f64 0 0, .int .i64 3, .int .i64 M.b, .complex .f64 0 0, .int .i64 3, .int .i64 M.c, .complex .f64 0 0, .int .i64 3, .int .i64 M.d, .complex .f64 0 0]))).put (some 61) ((.agg #[.int .i64 3, .int .i64 N.a, .complex .f64 0 0, .int .i64 3, .int .i64 N.b, .complex .f64 0 0, .int .i64 3, .int .i64 N.c, .complex .f64 0 0, .int .i64 3, .int .i64 N.d, .complex .f64 0 0]))).put (some 64) ((.agg #[.int .i64 3, .int .i64 O.a, .complex .f64 0 0, .int .i64 3, .int .i64 O.b, .complex .f64 0 0, .int .i64 3, .int .i64 O.c, .complex .f64 0 0, .int .i64 3, .int .i64 O.d, .complex .f64 0 0]))).put (some 18) (.pointer (some ⟨q0, 0, none⟩))) W := by
      intro q0 W hw b0 z0 g0
      subst hOP
      subst hQQ
      subst hAA
      (try simp only [p0, p1, p2, p3])
      refine pR2 10 11 (fun K hK => ?_) (fun K hK => ?_)
      ·go_simp
       obtain ⟨V2, e2, hb, K2, Z2, -⟩ := alloc_new W [.int .i64 0, .int .i64 0, .complex .f64 0 0, .int .i64 0, .int .i64 0, .complex .f64 0 0, .int .i64 0, .int .i64 0, .complex .f64 0 0, .int .i64 0, .int .i64 0, .complex .f64 0 0] 37
       rw [← e2]
       clear e2
       have hw2 := hw.trans (hb.mono hw.size)
       refine hK.out _ _ (by exact ⟨(KO.on (hw2)).cs, (KM.on (hw2)).cs, (KN.on (hw2)).cs⟩) (fun hHeld => ?_)
       clear hK
       (try simp only [p1, p2, p3])
       have ky := kyb_3_3 q0 W.heap.size V2 hw2 (b0.on hb) (z0.on hb) g0 K2 Z2 hw.size (Nat.ne_of_lt b0.lt)
       (try simp only [p0, p1, p2, p3] at ky)
       exact castL (by kernel_rfl) ky
      ·go_simp
       obtain ⟨V2, e2, hb, K2, Z2, -⟩ := alloc_new W [.int .i64 0, .int .i64 0, .complex .f64 0 0, .int .i64 0, .int .i64 0, .complex .f64 0 0, .int .i64 0, .int .i64 0, .complex .f64 0 0, .int .i64 0, .int .i64 0, .complex .f64 0 0] 37
       rw [← e2]
       clear e2
       have hw2 := hw.trans (hb.mono hw.size)
       refine hK.out _ _ (by exact ⟨(KO.on (hw2)).cs, (KM.on (hw2)).cs, (KN.on (hw2)).cs⟩) (fun hHeld => ?_)
       clear hK
       (try simp only [p1, p2, p3])
       have ky := kyb_3_5 q0 W.heap.size V2 hw2 (b0.on hb) (z0.on hb) g0 K2 Z2 hw.size (Nat.ne_of_lt b0.lt)
       (try simp only [p0, p1, p2, p3] at ky)
       exact castL (by kernel_rfl) ky
     have kyb_3_2 : ∀ (q1 : Nat) (W : World) (hw : Below Vd801.heap.size Vd801 W) (b1 : Box W q1 [.int .i64 0, .int .i64 0, .complex .f64 0 0, .int .i64 0, .int .i64 0, .complex .f64 0 0, .int .i64 0, .int .i64 0, .complex .f64 0 0, .int .i64 0, .int .i64 0, .complex .f64 0 0]) (z1 : Fz W q1) (g1 : Vd801.heap.size ≤ q1) , wpAnyH Try.prog .any OP QQ (fun wx => Cs wx (w.heap.size) 0 [.int .i64 o.a, .int .i64 o.b, .int .i64 o.c, .int .i64 o.d] ∧ Cs wx (w.heap.size + 1) 0 [.int .i64 m.a, .int .i64 m.b, .int .i64 m.c, .int .i64 m.d] ∧ Cs wx (w.heap.size + 1 + 1) 0 [.int .i64 n.a, .int .i64 n.b, .int .i64 n.c, .int .i64 n.d]) 5 #[true, true, true, true, true, true, true, true, true, false, true, false, false, false, false] ((((AA.put (some 58) ((.agg #[.int .i64 3, .int .i64 M.a, .complex .f64 0 0, .int .i64 3, .int .i64 M.b, .complex .f64 0 0, .int .i64 3, .int .i64 M.c, .complex .f64 0 0, .int .i64 3, .int .i64 M.d, .complex .f64 0 0]))).put (some 61) ((.agg #[.int .i64 3, .int .i64 N.a, .complex .f64 0 0, .int .i64 3, .int .i64 N.b, .complex .f64 0 0, .int .i64 3, .int .i64 N.c, .complex .f64 0 0, .int .i64 3, .int .i64 N.d, .complex .f64 0 0]))).put (some 64) ((.agg #[.int .i64 3, .int .i64 O.a, .complex .f64 0 0, .int .i64 3, .int .i64 O.b, .complex .f64 0 0, .int .i64 3, .int .i64 O.c, .complex .f64 0 0, .int .i64 3, .int .i64 O.d, .complex .f64 0 0]))).put (some 19) (.pointer (some ⟨q1, 0, none⟩))) W := by
      intro q1 W hw b1 z1 g1
      subst hOP
      subst hQQ
      subst hAA
      (try simp only [p0, p1, p2, p3])
      refine pR2 9 11 (fun K hK => ?_) (fun K hK => ?_)
      ·go_simp
       obtain ⟨V2, e2, hb, K2, Z2, -⟩ := alloc_new W [.int .i64 0, .int .i64 0, .complex .f64 0 0, .int .i64 0, .int .i64 0, .complex .f64 0 0, .int .i64 0, .int .i64 0, .complex .f64 0 0, .int .i64 0, .int .i64 0, .complex .f64 0 0] 37
       rw [← e2]
       clear e2
       have hw2 := hw.trans (hb.mono hw.size)
       refine hK.out _ _ (by exact ⟨(KO.on (hw2)).cs, (KM.on (hw2)).cs, (KN.on (hw2)).cs⟩) (fun hHeld => ?_)
       clear hK
       (try simp only [p1, p2, p3])
       have ky := kyb_3_3 W.heap.size q1 V2 hw2 K2 Z2 hw.size (b1.on hb) (z1.on hb) g1 (Nat.ne_of_lt b1.lt).symm
       (try simp only [p0, p1, p2, p3] at ky)
       exact castL (by kernel_rfl) ky
      ·go_simp
       obtain ⟨V2, e2, hb, K2, Z2, -⟩ := alloc_new W [.int .i64 0, .int .i64 0, .complex .f64 0 0, .int .i64 0, .int .i64 0, .complex .f64 0 0, .int .i64 0, .int .i64 0, .complex .f64 0 0, .int .i64 0, .int .i64 0, .complex .f64 0 0] 37
       rw [← e2]
       clear e2
       have hw2 := hw.trans (hb.mono hw.size)
       refine hK.out _ _ (by exact ⟨(KO.on (hw2)).cs, (KM.on (hw2)).cs, (KN.on (hw2)).cs⟩) (fun hHeld => ?_)
       clear hK
       (try simp only [p1, p2, p3])
       have ky := kyb_3_6 q1 W.heap.size V2 hw2 (b1.on hb) (z1.on hb) g1 K2 Z2 hw.size (Nat.ne_of_lt b1.lt)
       (try simp only [p0, p1, p2, p3] at ky)
       exact castL (by kernel_rfl) ky
     have kyb_3_4 : ∀ (q2 : Nat) (W : World) (hw : Below Vd801.heap.size Vd801 W) (b2 : Box W q2 [.int .i64 0, .int .i64 0, .complex .f64 0 0, .int .i64 0, .int .i64 0, .complex .f64 0 0, .int .i64 0, .int .i64 0, .complex .f64 0 0, .int .i64 0, .int .i64 0, .complex .f64 0 0]) (z2 : Fz W q2) (g2 : Vd801.heap.size ≤ q2) , wpAnyH Try.prog .any OP QQ (fun wx => Cs wx (w.heap.size) 0 [.int .i64 o.a, .int .i64 o.b, .int .i64 o.c, .int .i64 o.d] ∧ Cs wx (w.heap.size + 1) 0 [.int .i64 m.a, .int .i64 m.b, .int .i64 m.c, .int .i64 m.d] ∧ Cs wx (w.heap.size + 1 + 1) 0 [.int .i64 n.a, .int .i64 n.b, .int .i64 n.c, .int .i64 n.d]) 5 #[true, true, true, true, true, true, true, true, true, false, false, true, false, false, false] ((((AA.put (some 58) ((.agg #[.int .i64 3, .int .i64 M.a, .complex .f64 0 0, .int .i64 3, .int .i64 M.b, .complex .f64 0 0, .int .i64 3, .int .i64 M.c, .complex .f64 0 0, .int .i64 3, .int .i64 M.d, .complex .f64 0 0]))).put (some 61) ((.agg #[.int .i64 3, .int .i64 N.a, .complex .f64 0 0, .int .i64 3, .int .i64 N.b, .complex .f64 0 0, .int .i64 3, .int .i64 N.c, .complex .f64 0 0, .int .i64 3, .int .i64 N.d, .complex .f64 0 0]))).put (some 64) ((.agg #[.int .i64 3, .int .i64 O.a, .complex .f64 0 0, .int .i64 3, .int .i64 O.b, .complex .f64 0 0, .int .i64 3, .int .i64 O.c, .complex .f64 0 0, .int .i64 3, .int .i64 O.d, .complex .f64 0 0]))).put (some 20) (.pointer (some ⟨q2, 0, none⟩))) W := by
      intro q2 W hw b2 z2 g2
      subst hOP
      subst hQQ
      subst hAA
      (try simp only [p0, p1, p2, p3])
      refine pR2 9 10 (fun K hK => ?_) (fun K hK => ?_)
      ·go_simp
       obtain ⟨V2, e2, hb, K2, Z2, -⟩ := alloc_new W [.int .i64 0, .int .i64 0, .complex .f64 0 0, .int .i64 0, .int .i64 0, .complex .f64 0 0, .int .i64 0, .int .i64 0, .complex .f64 0 0, .int .i64 0, .int .i64 0, .complex .f64 0 0] 37
       rw [← e2]
       clear e2
       have hw2 := hw.trans (hb.mono hw.size)
       refine hK.out _ _ (by exact ⟨(KO.on (hw2)).cs, (KM.on (hw2)).cs, (KN.on (hw2)).cs⟩) (fun hHeld => ?_)
       clear hK
       (try simp only [p1, p2, p3])
       have ky := kyb_3_5 W.heap.size q2 V2 hw2 K2 Z2 hw.size (b2.on hb) (z2.on hb) g2 (Nat.ne_of_lt b2.lt).symm
       (try simp only [p0, p1, p2, p3] at ky)
       exact castL (by kernel_rfl) ky
      ·go_simp
       obtain ⟨V2, e2, hb, K2, Z2, -⟩ := alloc_new W [.int .i64 0, .int .i64 0, .complex .f64 0 0, .int .i64 0, .int .i64 0, .complex .f64 0 0, .int .i64 0, .int .i64 0, .complex .f64 0 0, .int .i64 0, .int .i64 0, .complex .f64 0 0] 37
       rw [← e2]
       clear e2
       have hw2 := hw.trans (hb.mono hw.size)
       refine hK.out _ _ (by exact ⟨(KO.on (hw2)).cs, (KM.on (hw2)).cs, (KN.on (hw2)).cs⟩) (fun hHeld => ?_)
       clear hK
       (try simp only [p1, p2, p3])
       have ky := kyb_3_6 W.heap.size q2 V2 hw2 K2 Z2 hw.size (b2.on hb) (z2.on hb) g2 (Nat.ne_of_lt b2.lt).symm
       (try simp only [p0, p1, p2, p3] at ky)
       exact castL (by kernel_rfl) ky
     have kyb_0_7 : ∀ (q0 : Nat) (q1 : Nat) (q2 : Nat) (W : World) (hw : Below Vd801.heap.size Vd801 W) (b0 : Box W q0 [.int .i64 0, .int .i64 0, .complex .f64 0 0, .int .i64 0, .int .i64 0, .complex .f64 0 0, .int .i64 0, .int .i64 0, .complex .f64 0 0, .int .i64 0, .int .i64 0, .complex .f64 0 0]) (z0 : Fz W q0) (g0 : Vd801.heap.size ≤ q0) (b1 : Box W q1 [.int .i64 0, .int .i64 0, .complex .f64 0 0, .int .i64 0, .int .i64 0, .complex .f64 0 0, .int .i64 0, .int .i64 0, .complex .f64 0 0, .int .i64 0, .int .i64 0, .complex .f64 0 0]) (z1 : Fz W q1) (g1 : Vd801.heap.size ≤ q1) (b2 : Box W q2 [.int .i64 0, .int .i64 0, .complex .f64 0 0, .int .i64 0, .int .i64 0, .complex .f64 0 0, .int .i64 0, .int .i64 0, .complex .f64 0 0, .int .i64 0, .int .i64 0, .complex .f64 0 0]) (z2 : Fz W q2) (g2 : Vd801.heap.size ≤ q2) (n01 : q0 ≠ q1) (n02 : q0 ≠ q2) (n12 : q1 ≠ q2), wpAnyH Try.prog .any OP QQ (fun wx => Cs wx (w.heap.size) 0 [.int .i64 o.a, .int .i64 o.b, .int .i64 o.c, .int .i64 o.d] ∧ Cs wx (w.heap.size + 1) 0 [.int .i64 m.a, .int .i64 m.b, .int .i64 m.c, .int .i64 m.d] ∧ Cs wx (w.heap.size + 1 + 1) 0 [.int .i64 n.a, .int .i64 n.b, .int .i64 n.c, .int .i64 n.d]) 6 #[true, true, false, true, true, false, true, true, false, true, true, true, false, false, false] (((AA.put (some 18) (.pointer (some ⟨q0, 0, none⟩))).put (some 19) (.pointer (some ⟨q1, 0, none⟩))).put (some 20) (.pointer (some ⟨q2, 0, none⟩))) W := by
      intro q0 q1 q2 W hw b0 z0 g0 b1 z1 g1 b2 z2 g2 n01 n02 n12
      subst hOP
      subst hQQ
      subst hAA
      (try simp only [p0, p1, p2, p3])
      refine pR1 2 (fun K hK => ?_)
      go_simp
      (go_at_call 11; with_reducible refine (meantT HM.out).mono ?_)
      rintro _ W2 ⟨rfl, hb⟩
      (try go_wp2_with fail)
      have hw2 := hw.trans (hb.mono hw.size)
      refine hK.out _ _ (by exact ⟨(KO.on (hw2)).cs, (KM.on (hw2)).cs, (KN.on (hw2)).cs⟩) (fun hHeld => ?_)
      clear hK
      (try simp only [p1, p2, p3])
      have ky := kyb_1_7 q0 q1 q2 W2 hw2 (b0.on hb) (z0.on hb) g0 (b1.on hb) (z1.on hb) g1 (b2.on hb) (z2.on hb) g2 n01 n02 n12
      (try simp only [p0, p1, p2, p3] at ky)
      exact castL (by kernel_rfl) ky
     have kyb_1_3 : ∀ (q0 : Nat) (q1 : Nat) (W : World) (hw : Below Vd801.heap.size Vd801 W) (b0 : Box W q0 [.int .i64 0, .int .i64 0, .complex .f64 0 0, .int .i64 0, .int .i64 0, .complex .f64 0 0, .int .i64 0, .int .i64 0, .complex .f64 0 0, .int .i64 0, .int .i64 0, .complex .f64 0 0]) (z0 : Fz W q0) (g0 : Vd801.heap.size ≤ q0) (b1 : Box W q1 [.int .i64 0, .int .i64 0, .complex .f64 0 0, .int .i64 0, .int .i64 0, .complex .f64 0 0, .int .i64 0, .int .i64 0, .complex .f64 0 0, .int .i64 0, .int .i64 0, .complex .f64 0 0]) (z1 : Fz W q1) (g1 : Vd801.heap.size ≤ q1) (n01 : q0 ≠ q1), wpAnyH Try.prog .any OP QQ (fun wx => Cs wx (w.heap.size) 0 [.int .i64 o.a, .int .i64 o.b, .int .i64 o.c, .int .i64 o.d] ∧ Cs wx (w.heap.size + 1) 0 [.int .i64 m.a, .int .i64 m.b, .int .i64 m.c, .int .i64 m.d] ∧ Cs wx (w.heap.size + 1 + 1) 0 [.int .i64 n.a, .int .i64 n.b, .int .i64 n.c, .int .i64 n.d]) 6 #[true, true, true, true, true, false, true, true, false, true, true, false, false, false, false] (((AA.put (some 58) ((.agg #[.int .i64 3, .int .i64 M.a, .complex .f64 0 0, .int .i64 3, .int .i64 M.b, .complex .f64 0 0, .int .i64 3, .int .i64 M.c, .complex .f64 0 0, .int .i64 3, .int .i64 M.d, .complex .f64 0 0]))).put (some 18) (.pointer (some ⟨q0, 0, none⟩))).put (some 19) (.pointer (some ⟨q1, 0, none⟩))) W := by
      intro q0 q1 W hw b0 z0 g0 b1 z1 g1 n01
      subst hOP
      subst hQQ
      subst hAA
      (try simp only [p0, p1, p2, p3])
      refine pR2 5 11 (fun K hK => ?_) (fun K hK => ?_)
      ·go_simp
       (go_at_call 11; with_reducible refine (meantT HN.out).mono ?_)
       rintro _ W2 ⟨rfl, hb⟩
       (try go_wp2_with fail)
       have hw2 := hw.trans (hb.mono hw.size)
       refine hK.out _ _ (by exact ⟨(KO.on (hw2)).cs, (KM.on (hw2)).cs, (KN.on (hw2)).cs⟩) (fun hHeld => ?_)
       clear hK
       (try simp only [p1, p2, p3])
       have ky := kyb_2_3 q0 q1 W2 hw2 (b0.on hb) (z0.on hb) g0 (b1.on hb) (z1.on hb) g1 n01
       (try simp only [p0, p1, p2, p3] at ky)
       exact castL (by kernel_rfl) ky
      ·go_simp
       obtain ⟨V2, e2, hb, K2, Z2, -⟩ := alloc_new W [.int .i64 0, .int .i64 0, .complex .f64 0 0, .int .i64 0, .int .i64 0, .complex .f64 0 0, .int .i64 0, .int .i64 0, .complex .f64 0 0, .int .i64 0, .int .i64 0, .complex .f64 0 0] 37
       rw [← e2]
       clear e2
       have hw2 := hw.trans (hb.mono hw.size)
       refine hK.out _ _ (by exact ⟨(KO.on (hw2)).cs, (KM.on (hw2)).cs, (KN.on (hw2)).cs⟩) (fun hHeld => ?_)
       clear hK
       (try simp only [p1, p2, p3])
       have ky := kyb_1_7 q0 q1 W.heap.size V2 hw2 (b0.on hb) (z0.on hb) g0 (b1.on hb) (z1.on hb) g1 K2 Z2 hw.size n01 (Nat.ne_of_lt b0.lt) (Nat.ne_of_lt b1.lt)
       (try simp only [p0, p1, p2, p3] at ky)
       exact castL (by kernel_rfl) ky
     have kyb_1_5 : ∀ (q0 : Nat) (q2 : Nat) (W : World) (hw : Below Vd801.heap.size Vd801 W) (b0 : Box W q0 [.int .i64 0, .int .i64 0, .complex .f64 0 0, .int .i64 0, .int .i64 0, .complex .f64 0 0, .int .i64 0, .int .i64 0, .complex .f64 0 0, .int .i64 0, .int .i64 0, .complex .f64 0 0]) (z0 : Fz W q0) (g0 : Vd801.heap.size ≤ q0) (b2 : Box W q2 [.int .i64 0, .int .i64 0, .complex .f64 0 0, .int .i64 0, .int .i64 0, .complex .f64 0 0, .int .i64 0, .int .i64 0, .complex .f64 0 0, .int .i64 0, .int .i64 0, .complex .f64 0 0]) (z2 : Fz W q2) (g2 : Vd801.heap.size ≤ q2) (n02 : q0 ≠ q2), wpAnyH Try.prog .any OP QQ (fun wx => Cs wx (w.heap.size) 0 [.int .i64 o.a, .int .i64 o.b, .int .i64 o.c, .int .i64 o.d] ∧ Cs wx (w.heap.size + 1) 0 [.int .i64 m.a, .int .i64 m.b, .int .i64 m.c, .int .i64 m.d] ∧ Cs wx (w.heap.size + 1 + 1) 0 [.int .i64 n.a, .int .i64 n.b, .int .i64 n.c, .int .i64 n.d]) 6 #[true, true, true, true, true, false, true, true, false, true, false, true, false, false, false] (((AA.put (some 58) ((.agg #[.int .i64 3, .int .i64 M.a, .complex .f64 0 0, .int .i64 3, .int .i64 M.b, .complex .f64 0 0, .int .i64 3, .int .i64 M.c, .complex .f64 0 0, .int .i64 3, .int .i64 M.d, .complex .f64 0 0]))).put (some 18) (.pointer (some ⟨q0, 0, none⟩))).put (some 20) (.pointer (some ⟨q2, 0, none⟩))) W := by
      intro q0 q2 W hw b0 z0 g0 b2 z2 g2 n02
      subst hOP
      subst hQQ
      subst hAA
      (try simp only [p0, p1, p2, p3])
      refine pR2 5 10 (fun K hK => ?_) (fun K hK => ?_)
      ·go_simp
       (go_at_call 11; with_reducible refine (meantT HN.out).mono ?_)
       rintro _ W2 ⟨rfl, hb⟩
       (try go_wp2_with fail)
       have hw2 := hw.trans (hb.mono hw.size)
       refine hK.out _ _ (by exact ⟨(KO.on (hw2)).cs, (KM.on (hw2)).cs, (KN.on (hw2)).cs⟩) (fun hHeld => ?_)
       clear hK
       (try simp only [p1, p2, p3])
       have ky := kyb_2_5 q0 q2 W2 hw2 (b0.on hb) (z0.on hb) g0 (b2.on hb) (z2.on hb) g2 n02
       (try simp only [p0, p1, p2, p3] at ky)
       exact castL (by kernel_rfl) ky
      ·go_simp
       obtain ⟨V2, e2, hb, K2, Z2, -⟩ := alloc_new W [.int .i64 0, .int .i64 0, .complex .f64 0 0, .int .i64 0, .int .i64 0, .complex .f64 0 0, .int .i64 0, .int .i64 0, .complex .f64 0 0, .int .i64 0, .int .i64 0, .complex .f64 0 0] 37
       rw [← e2]
       clear e2
       have hw2 := hw.trans (hb.mono hw.size)
       refine hK.out _ _ (by exact ⟨(KO.on (hw2)).cs, (KM.on (hw2)).cs, (KN.on (hw2)).cs⟩) (fun hHeld => ?_)
       clear hK
       (try simp only [p1, p2, p3])
       have ky := kyb_1_7 q0 W.heap.size q2 V2 hw2 (b0.on hb) (z0.on hb) g0 K2 Z2 hw.size (b2.on hb) (z2.on hb) g2 (Nat.ne_of_lt b0.lt) n02 (Nat.ne_of_lt b2.lt).symm
       (try simp only [p0, p1, p2, p3] at ky)
       exact castL (by kernel_rfl) ky
     have kyb_1_6 : ∀ (q1 : Nat) (q2 : Nat) (W : World) (hw : Below Vd801.heap.size Vd801 W) (b1 : Box W q1 [.int .i64 0, .int .i64 0, .complex .f64 0 0, .int .i64 0, .int .i64 0, .complex .f64 0 0, .int .i64 0, .int .i64 0, .complex .f64 0 0, .int .i64 0, .int .i64 0, .complex .f64 0 0]) (z1 : Fz W q1) (g1 : Vd801.heap.size ≤ q1) (b2 : Box W q2 [.int .i64 0, .int .i64 0, .complex .f64 0 0, .int .i64 0, .int .i64 0, .complex .f64 0 0, .int .i64 0, .int .i64 0, .complex .f64 0 0, .int .i64 0, .int .i64 0, .complex .f64 0 0]) (z2 : Fz W q2) (g2 : Vd801.heap.size ≤ q2) (n12 : q1 ≠ q2), wpAnyH Try.prog .any OP QQ (fun wx => Cs wx (w.heap.size) 0 [.int .i64 o.a, .int .i64 o.b, .int .i64 o.c, .int .i64 o.d] ∧ Cs wx (w.heap.size + 1) 0 [.int .i64 m.a, .int .i64 m.b, .int .i64 m.c, .int .i64 m.d] ∧ Cs wx (w.heap.size + 1 + 1) 0 [.int .i64 n.a, .int .i64 n.b, .int .i64 n.c, .int .i64 n.d]) 6 #[true, true, true, true, true, false, true, true, false, false, true, true, false, false, false] (((AA.put (some 58) ((.agg #[.int .i64 3, .int .i64 M.a, .complex .f64 0 0, .int .i64 3, .int .i64 M.b, .complex .f64 0 0, .int .i64 3, .int .i64 M.c, .complex .f64 0 0, .int .i64 3, .int .i64 M.d, .complex .f64 0 0]))).put (some 19) (.pointer (some ⟨q1, 0, none⟩))).put (some 20) (.pointer (some ⟨q2, 0, none⟩))) W := by
      intro q1 q2 W hw b1 z1 g1 b2 z2 g2 n12
      subst hOP
      subst hQQ
      subst hAA
      (try simp only [p0, p1, p2, p3])
      refine pR2 5 9 (fun K hK => ?_) (fun K hK => ?_)
      ·go_simp
       (go_at_call 11; with_reducible refine (meantT HN.out).mono ?_)
       rintro _ W2 ⟨rfl, hb⟩
       (try go_wp2_with fail)
       have hw2 := hw.trans (hb.mono hw.size)
       refine hK.out _ _ (by exact ⟨(KO.on (hw2)).cs, (KM.on (hw2)).cs, (KN.on (hw2)).cs⟩) (fun hHeld => ?_)
       clear hK
       (try simp only [p1, p2, p3])
       have ky := kyb_2_6 q1 q2 W2 hw2 (b1.on hb) (z1.on hb) g1 (b2.on hb) (z2.on hb) g2 n12
       (try simp only [p0, p1, p2, p3] at ky)
       exact castL (by kernel_rfl) ky
      ·go_simp
       obtain ⟨V2, e2, hb, K2, Z2, -⟩ := alloc_new W [.int .i64 0, .int .i64 0, .complex .f64 0 0, .int .i64 0, .int .i64 0, .complex .f64 0 0, .int .i64 0, .int .i64 0, .complex .f64 0 0, .int .i64 0, .int .i64 0, .complex .f64 0 0] 37
       rw [← e2]
       clear e2
       have hw2 := hw.trans (hb.mono hw.size)
       refine hK.out _ _ (by exact ⟨(KO.on (hw2)).cs, (KM.on (hw2)).cs, (KN.on (hw2)).cs⟩) (fun hHeld => ?_)
       clear hK
       (try simp only [p1, p2, p3])
       have ky := kyb_1_7 W.heap.size q1 q2 V2 hw2 K2 Z2 hw.size (b1.on hb) (z1.on hb) g1 (b2.on hb) (z2.on hb) g2 (Nat.ne_of_lt b1.lt).symm (Nat.ne_of_lt b2.lt).symm n12
       (try simp only [p0, p1, p2, p3] at ky)
       exact castL (by kernel_rfl) ky
     have kyb_2_1 : ∀ (q0 : Nat) (W : World) (hw : Below Vd801.heap.size Vd801 W) (b0 : Box W q0 [.int .i64 0, .int .i64 0, .complex .f64 0 0, .int .i64 0, .int .i64 0, .complex .f64 0 0, .int .i64 0, .int .i64 0, .complex .f64 0 0, .int .i64 0, .int .i64 0, .complex .f64 0 0]) (z0 : Fz W q0) (g0 : Vd801.heap.size ≤ q0) , wpAnyH Try.prog .any OP QQ (fun wx => Cs wx (w.heap.size) 0 [.int .i64 o.a, .int .i64 o.b, .int .i64 o.c, .int .i64 o.d] ∧ Cs wx (w.heap.size + 1) 0 [.int .i64 m.a, .int .i64 m.b, .int .i64 m.c, .int .i64 m.d] ∧ Cs wx (w.heap.size + 1 + 1) 0 [.int .i64 n.a, .int .i64 n.b, .int .i64 n.c, .int .i64 n.d]) 6 #[true, true, true, true, true, true, true, true, false, true, false, false, false, false, false] (((AA.put (some 58) ((.agg #[.int .i64 3, .int .i64 M.a, .complex .f64 0 0, .int .i64 3, .int .i64 M.b, .complex .f64 0 0, .int .i64 3, .int .i64 M.c, .complex .f64 0 0, .int .i64 3, .int .i64 M.d, .complex .f64 0 0]))).put (some 61) ((.agg #[.int .i64 3, .int .i64 N.a, .complex .f64 0 0, .int .i64 3, .int .i64 N.b, .complex .f64 0 0, .int .i64 3, .int .i64 N.c, .complex .f64 0 0, .int .i64 3, .int .i64 N.d, .complex .f64 0 0]))).put (some 18) (.pointer (some ⟨q0, 0, none⟩))) W := by
      intro q0 W hw b0 z0 g0
      subst hOP
      subst hQQ
      subst hAA
      (try simp only [p0, p1, p2, p3])
      refine pR3 8 10 11 (fun K hK => ?_) (fun K hK => ?_) (fun K hK => ?_)
      ·go_simp
       (go_at_call 11; with_reducible refine (meantT HO.out).mono ?_)
       rintro _ W2 ⟨rfl, hb⟩
       (try go_wp2_with fail)
       have hw2 := hw.trans (hb.mono hw.size)
       refine hK.out _ _ (by exact ⟨(KO.on (hw2)).cs, (KM.on (hw2)).cs, (KN.on (hw2)).cs⟩) (fun hHeld => ?_)
       clear hK
       (try simp only [p1, p2, p3])
       have ky := kyb_3_1 q0 W2 hw2 (b0.on hb) (z0.on hb) g0 
       (try simp only [p0, p1, p2, p3] at ky)
       exact castL (by kernel_rfl) ky
      ·go_simp
       obtain ⟨V2, e2, hb, K2, Z2, -⟩ := alloc_new W [.int .i64 0, .int .i64 0, .complex .f64 0 0, .int .i64 0, .int .i64 0, .complex .f64 0 0, .int .i64 0, .int .i64 0, .complex .f64 0 0, .int .i64 0, .int .i64 0, .complex .f64 0 0] 37
       rw [← e2]
       clear e2
       have hw2 := hw.trans (hb.mono hw.size)
       refine hK.out _ _ (by exact ⟨(KO.on (hw2)).cs, (KM.on (hw2)).cs, (KN.on (hw2)).cs⟩) (fun hHeld => ?_)
       clear hK
       (try simp only [p1, p2, p3])
       have ky := kyb_2_3 q0 W.heap.size V2 hw2 (b0.on hb) (z0.on hb) g0 K2 Z2 hw.size (Nat.ne_of_lt b0.lt)
       (try simp only [p0, p1, p2, p3] at ky)
       exact castL (by kernel_rfl) ky
      ·go_simp
       obtain ⟨V2, e2, hb, K2, Z2, -⟩ := alloc_new W [.int .i64 0, .int .i64 0, .complex .f64 0 0, .int .i64 0, .int .i64 0, .complex .f64 0 0, .int .i64 0, .int .i64 0, .complex .f64 0 0, .int .i64 0, .int .i64 0, .complex .f64 0 0] 37
       rw [← e2]
       clear e2
       have hw2 := hw.trans (hb.mono hw.size)
       refine hK.out _ _ (by exact ⟨(KO.on (hw2)).cs, (KM.on (hw2)).cs, (KN.on (hw2)).cs⟩) (fun hHeld => ?_)
       clear hK
       (try simp only [p1, p2, p3])
       have ky := kyb_2_5 q0 W.heap.size V2 hw2 (b0.on hb) (z0.on hb) g0 K2 Z2 hw.size (Nat.ne_of_lt b0.lt)
       (try simp only [p0, p1, p2, p3] at ky)
       exact castL (by kernel_rfl) ky
     have kyb_2_2 : ∀ (q1 : Nat) (W : World) (hw : Below Vd801.heap.size Vd801 W) (b1 : Box W q1 [.int .i64 0, .int .i64 0, .complex .f64 0 0, .int .i64 0, .int .i64 0, .complex .f64 0 0, .int .i64 0, .int .i64 0, .complex .f64 0 0, .int .i64 0, .int .i64 0, .complex .f64 0 0]) (z1 : Fz W q1) (g1 : Vd801.heap.size ≤ q1) , wpAnyH Try.prog .any OP QQ (fun wx => Cs wx (w.heap.size) 0 [.int .i64 o.a, .int .i64 o.b, .int .i64 o.c, .int .i64 o.d] ∧ Cs wx (w.heap.size + 1) 0 [.int .i64 m.a, .int .i64 m.b, .int .i64 m.c, .int .i64 m.d] ∧ Cs wx (w.heap.size + 1 + 1) 0 [.int .i64 n.a, .int .i64 n.b, .int .i64 n.c, .int .i64 n.d]) 6 #[true, true, true, true, true, true, true, true, false, false, true, false, false, false, false] (((AA.put (some 58) ((.agg #[.int .i64 3, .int .i64 M.a, .complex .f64 0 0, .int .i64 3, .int .i64 M.b, .complex .f64 0 0, .int .i64 3, .int .i64 M.c, .complex .f64 0 0, .int .i64 3, .int .i64 M.d, .complex .f64 0 0]))).put (some 61) ((.agg #[.int .i64 3, .int .i64 N.a, .complex .f64 0 0, .int .i64 3, .int .i64 N.b, .complex .f64 0 0, .int .i64 3, .int .i64 N.c, .complex .f64 0 0, .int .i64 3, .int .i64 N.d, .complex .f64 0 0]))).put (some 19) (.pointer (some ⟨q1, 0, none⟩))) W := by
      intro q1 W hw b1 z1 g1
      subst hOP
      subst hQQ
      subst hAA
      (try simp only [p0, p1, p2, p3])
      refine pR3 8 9 11 (fun K hK => ?_) (fun K hK => ?_) (fun K hK => ?_)
      ·go_simp
       (go_at_call 11; with_reducible refine (meantT HO.out).mono ?_)
       rintro _ W2 ⟨rfl, hb⟩
       (try go_wp2_with fail)
       have hw2 := hw.trans (hb.mono hw.size)
       refine hK.out _ _ (by exact ⟨(KO.on (hw2)).cs, (KM.on (hw2)).cs, (KN.on (hw2)).cs⟩) (fun hHeld => ?_)
       clear hK
       (try simp only [p1, p2, p3])
       have ky := kyb_3_2 q1 W2 hw2 (b1.on hb) (z1.on hb) g1 
       (try simp only [p0, p1, p2, p3] at ky)
       exact castL (by kernel_rfl) ky
      ·go_simp
       obtain ⟨V2, e2, hb, K2, Z2, -⟩ := alloc_new W [.int .i64 0, .int .i64 0, .complex .f64 0 0, .int .i64 0, .int .i64 0, .complex .f64 0 0, .int .i64 0, .int .i64 0, .complex .f64 0 0, .int .i64 0, .int .i64 0, .complex .f64 0 0] 37
       rw [← e2]
       clear e2
       have hw2 := hw.trans (hb.mono hw.size)
       refine hK.out _ _ (by exact ⟨(KO.on (hw2)).cs, (KM.on (hw2)).cs, (KN.on (hw2)).cs⟩) (fun hHeld => ?_)
       clear hK
       (try simp only [p1, p2, p3])
       have ky := kyb_2_3 W.heap.size q1 V2 hw2 K2 Z2 hw.size (b1.on hb) (z1.on hb) g1 (Nat.ne_of_lt b1.lt).symm
       (try simp only [p0, p1, p2, p3] at ky)
       exact castL (by kernel_rfl) ky
      ·go_simp
       obtain ⟨V2, e2, hb, K2, Z2, -⟩ := alloc_new W [.int .i64 0, .int .i64 0, .complex .f64 0 0, .int .i64 0, .int .i64 0, .complex .f64 0 0, .int .i64 0, .int .i64 0, .complex .f64 0 0, .int .i64 0, .int .i64 0, .complex .f64 0 0] 37
       rw [← e2]
       clear e2
       have hw2 := hw.trans (hb.mono hw.size)
       refine hK.out _ _ (by exact ⟨(KO.on (hw2)).cs, (KM.on (hw2)).cs, (KN.on (hw2)).cs⟩) (fun hHeld => ?_)
       clear hK
       (try simp only [p1, p2, p3])
       have ky := kyb_2_6 q1 W.heap.size V2 hw2 (b1.on hb) (z1.on hb) g1 K2 Z2 hw.size (Nat.ne_of_lt b1.lt)
       (try simp only [p0, p1, p2, p3] at ky)
       exact castL (by kernel_rfl) ky
     have kyb_2_4 : ∀ (q2 : Nat) (W : World) (hw : Below Vd801.heap.size Vd801 W) (b2 : Box W q2 [.int .i64 0, .int .i64 0, .complex .f64 0 0, .int .i64 0, .int .i64 0, .complex .f64 0 0, .int .i64 0, .int .i64 0, .complex .f64 0 0, .int .i64 0, .int .i64 0, .complex .f64 0 0]) (z2 : Fz W q2) (g2 : Vd801.heap.size ≤ q2) , wpAnyH Try.prog .any OP QQ (fun wx => Cs wx (w.heap.size) 0 [.int .i64 o.a, .int .i64 o.b, .int .i64 o.c, .int .i64 o.d] ∧ Cs wx (w.heap.size + 1) 0 [.int .i64 m.a, .int .i64 m.b, .int .i64 m.c, .int .i64 m.d] ∧ Cs wx (w.heap.size + 1 + 1) 0 [.int .i64 n.a, .int .i64 n.b, .int .i64 n.c, .int .i64 n.d]) 6 #[true, true, true, true, true, true, true, true, false, false, false, true, false, false, false] (((AA.put (some 58) ((.agg #[.int .i64 3, .int .i64 M.a, .complex .f64 0 0, .int .i64 3, .int .i64 M.b, .complex .f64 0 0, .int .i64 3, .int .i64 M.c, .complex .f64 0 0, .int .i64 3, .int .i64 M.d, .complex .f64 0 0]))).put (some 61) ((.agg #[.int .i64 3, .int .i64 N.a, .complex .f64 0 0, .int .i64 3, .int .i64 N.b, .complex .f64 0 0, .int .i64 3, .int .i64 N.c, .complex .f64 0 0, .int .i64 3, .int .i64 N.d, .complex .f64 0 0]))).put (some 20) (.pointer (some ⟨q2, 0, none⟩))) W := by
      intro q2 W hw b2 z2 g2
      subst hOP
      subst hQQ
      subst hAA
      (try simp only [p0, p1, p2, p3])
      refine pR3 8 9 10 (fun K hK => ?_) (fun K hK => ?_) (fun K hK => ?_)
      ·go_simp
       (go_at_call 11; with_reducible refine (meantT HO.out).mono ?_)
       rintro _ W2 ⟨rfl, hb⟩
       (try go_wp2_with fail)
       have hw2 := hw.trans (hb.mono hw.size)
       refine hK.out _ _ (by exact ⟨(KO.on (hw2)).cs, (KM.on (hw2)).cs, (KN.on (hw2)).cs⟩) (fun hHeld => ?_)
       clear hK
       (try simp only [p1, p2, p3])
       have ky := kyb_3_4 q2 W2 hw2 (b2.on hb) (z2.on hb) g2 
       (try simp only [p0, p1, p2, p3] at ky)
       exact castL (by kernel_rfl) ky
      ·go_simp
       obtain ⟨V2, e2, hb, K2, Z2, -⟩ := alloc_new W [.int .i64 0, .int .i64 0, .complex .f64 0 0, .int .i64 0, .int .i64 0, .complex .f64 0 0, .int .i64 0, .int .i64 0, .complex .f64 0 0, .int .i64 0, .int .i64 0, .complex .f64 0 0] 37
       rw [← e2]
       clear e2
       have hw2 := hw.trans (hb.mono hw.size)
       refine hK.out _ _ (by exact ⟨(KO.on (hw2)).cs, (KM.on (hw2)).cs, (KN.on (hw2)).cs⟩) (fun hHeld => ?_)
       clear hK
       (try simp only [p1, p2, p3])
       have ky := kyb_2_5 W.heap.size q2 V2 hw2 K2 Z2 hw.size (b2.on hb) (z2.on hb) g2 (Nat.ne_of_lt b2.lt).symm
       (try simp only [p0, p1, p2, p3] at ky)
       exact castL (by kernel_rfl) ky
      ·go_simp
       obtain ⟨V2, e2, hb, K2, Z2, -⟩ := alloc_new W [.int .i64 0, .int .i64 0, .complex .f64 0 0, .int .i64 0, .int .i64 0, .complex .f64 0 0, .int .i64 0, .int .i64 0, .complex .f64 0 0, .int .i64 0, .int .i64 0, .complex .f64 0 0] 37
       rw [← e2]
       clear e2
       have hw2 := hw.trans (hb.mono hw.size)
       refine hK.out _ _ (by exact ⟨(KO.on (hw2)).cs, (KM.on (hw2)).cs, (KN.on (hw2)).cs⟩) (fun hHeld => ?_)
       clear hK
       (try simp only [p1, p2, p3])
       have ky := kyb_2_6 W.heap.size q2 V2 hw2 K2 Z2 hw.size (b2.on hb) (z2.on hb) g2 (Nat.ne_of_lt b2.lt).symm
       (try simp only [p0, p1, p2, p3] at ky)
       exact castL (by kernel_rfl) ky
     have kyb_3_0 : ∀  (W : World) (hw : Below Vd801.heap.size Vd801 W)  , wpAnyH Try.prog .any OP QQ (fun wx => Cs wx (w.heap.size) 0 [.int .i64 o.a, .int .i64 o.b, .int .i64 o.c, .int .i64 o.d] ∧ Cs wx (w.heap.size + 1) 0 [.int .i64 m.a, .int .i64 m.b, .int .i64 m.c, .int .i64 m.d] ∧ Cs wx (w.heap.size + 1 + 1) 0 [.int .i64 n.a, .int .i64 n.b, .int .i64 n.c, .int .i64 n.d]) 6 #[true, true, true, true, true, true, true, true, true, false, false, false, false, false, false] (((AA.put (some 58) ((.agg #[.int .i64 3, .int .i64 M.a, .complex .f64 0 0, .int .i64 3, .int .i64 M.b, .complex .f64 0 0, .int .i64 3, .int .i64 M.c, .complex .f64 0 0, .int .i64 3, .int .i64 M.d, .complex .f64 0 0]))).put (some 61) ((.agg #[.int .i64 3, .int .i64 N.a, .complex .f64 0 0, .int .i64 3, .int .i64 N.b, .complex .f64 0 0, .int .i64 3, .int .i64 N.c, .complex .f64 0 0, .int .i64 3, .int .i64 N.d, .complex .f64 0 0]))).put (some 64) ((.agg #[.int .i64 3, .int .i64 O.a, .complex .f64 0 0, .int .i64 3, .int .i64 O.b, .complex .f64 0 0, .int .i64 3, .int .i64 O.c, .complex .f64 0 0, .int .i64 3, .int .i64 O.d, .complex .f64 0 0]))) W := by
      intro W hw
      subst hOP
      subst hQQ
      subst hAA
      (try simp only [p0, p1, p2, p3])
      refine pR3 9 10 11 (fun K hK => ?_) (fun K hK => ?_) (fun K hK => ?_)
      ·go_simp
       obtain ⟨V2, e2, hb, K2, Z2, -⟩ := alloc_new W [.int .i64 0, .int .i64 0, .complex .f64 0 0, .int .i64 0, .int .i64 0, .complex .f64 0 0, .int .i64 0, .int .i64 0, .complex .f64 0 0, .int .i64 0, .int .i64 0, .complex .f64 0 0] 37
       rw [← e2]
       clear e2
       have hw2 := hw.trans (hb.mono hw.size)
       refine hK.out _ _ (by exact ⟨(KO.on (hw2)).cs, (KM.on (hw2)).cs, (KN.on (hw2)).cs⟩) (fun hHeld => ?_)
       clear hK
       (try simp only [p1, p2, p3])
       have ky := kyb_3_1 W.heap.size V2 hw2 K2 Z2 hw.size 
       (try simp only [p0, p1, p2, p3] at ky)
       exact castL (by kernel_rfl) ky
      ·go_simp
       obtain ⟨V2, e2, hb, K2, Z2, -⟩ := alloc_new W [.int .i64 0, .int .i64 0, .complex .f64 0 0, .int .i64 0, .int .i64 0, .complex .f64 0 0, .int .i64 0, .int .i64 0, .complex .f64 0 0, .int .i64 0, .int .i64 0, .complex .f64 0 0] 37
       rw [← e2]
       clear e2
       have hw2 := hw.trans (hb.mono hw.size)
       refine hK.out _ _ (by exact ⟨(KO.on (hw2)).cs, (KM.on (hw2)).cs, (KN.on (hw2)).cs⟩) (fun hHeld => ?_)
       clear hK
       (try simp only [p1, p2, p3])
       have ky := kyb_3_2 W.heap.size V2 hw2 K2 Z2 hw.size 
       (try simp only [p0, p1, p2, p3] at ky)
       exact castL (by kernel_rfl) ky
      ·go_simp
       obtain ⟨V2, e2, hb, K2, Z2, -⟩ := alloc_new W [.int .i64 0, .int .i64 0, .complex .f64 0 0, .int .i64 0, .int .i64 0, .complex .f64 0 0, .int .i64 0, .int .i64 0, .complex .f64 0 0, .int .i64 0, .int .i64 0, .complex .f64 0 0] 37
       rw [← e2]
       clear e2
       have hw2 := hw.trans (hb.mono hw.size)
       refine hK.out _ _ (by exact ⟨(KO.on (hw2)).cs, (KM.on (hw2)).cs, (KN.on (hw2)).cs⟩) (fun hHeld => ?_)
       clear hK
       (try simp only [p1, p2, p3])
       have ky := kyb_3_4 W.heap.size V2 hw2 K2 Z2 hw.size 
       (try simp only [p0, p1, p2, p3] at ky)
       exact castL (by kernel_rfl) ky
     have kyb_0_3 : ∀ (q0 : Nat) (q1 : Nat) (W : World) (hw : Below Vd801.heap.size Vd801 W) (b0 : Box W q0 [.int .i64 0, .int .i64 0, .complex .f64 0 0, .int .i64 0, .int .i64 0, .complex .f64 0 0, .int .i64 0, .int .i64 0, .complex .f64 0 0, .int .i64 0, .int .i64 0, .complex .f64 0 0]) (z0 : Fz W q0) (g0 : Vd801.heap.size ≤ q0) (b1 : Box W q1 [.int .i64 0, .int .i64 0, .complex .f64 0 0, .int .i64 0, .int .i64 0, .complex .f64 0 0, .int .i64 0, .int .i64 0, .complex .f64 0 0, .int .i64 0, .int .i64 0, .complex .f64 0 0]) (z1 : Fz W q1) (g1 : Vd801.heap.size ≤ q1) (n01 : q0 ≠ q1), wpAnyH Try.prog .any OP QQ (fun wx => Cs wx (w.heap.size) 0 [.int .i64 o.a, .int .i64 o.b, .int .i64 o.c, .int .i64 o.d] ∧ Cs wx (w.heap.size + 1) 0 [.int .i64 m.a, .int .i64 m.b, .int .i64 m.c, .int .i64 m.d] ∧ Cs wx (w.heap.size + 1 + 1) 0 [.int .i64 n.a, .int .i64 n.b, .int .i64 n.c, .int .i64 n.d]) 7 #[true, true, false, true, true, false, true, true, false, true, true, false, false, false, false] ((AA.put (some 18) (.pointer (some ⟨q0, 0, none⟩))).put (some 19) (.pointer (some ⟨q1, 0, none⟩))) W := by
      intro q0 q1 W hw b0 z0 g0 b1 z1 g1 n01
      subst hOP
      subst hQQ
      subst hAA
      (try simp only [p0, p1, p2, p3])
      refine pR2 2 11 (fun K hK => ?_) (fun K hK => ?_)
      ·go_simp
       (go_at_call 11; with_reducible refine (meantT HM.out).mono ?_)
       rintro _ W2 ⟨rfl, hb⟩
       (try go_wp2_with fail)
       have hw2 := hw.trans (hb.mono hw.size)
       refine hK.out _ _ (by exact ⟨(KO.on (hw2)).cs, (KM.on (hw2)).cs, (KN.on (hw2)).cs⟩) (fun hHeld => ?_)
       clear hK
       (try simp only [p1, p2, p3])
       have ky := kyb_1_3 q0 q1 W2 hw2 (b0.on hb) (z0.on hb) g0 (b1.on hb) (z1.on hb) g1 n01
       (try simp only [p0, p1, p2, p3] at ky)
       exact castL (by kernel_rfl) ky
      ·go_simp
       obtain ⟨V2, e2, hb, K2, Z2, -⟩ := alloc_new W [.int .i64 0, .int .i64 0, .complex .f64 0 0, .int .i64 0, .int .i64 0, .complex .f64 0 0, .int .i64 0, .int .i64 0, .complex .f64 0 0, .int .i64 0, .int .i64 0, .complex .f64 0 0] 37
       rw [← e2]
       clear e2
       have hw2 := hw.trans (hb.mono hw.size)
       refine hK.out _ _ (by exact ⟨(KO.on (hw2)).cs, (KM.on (hw2)).cs, (KN.on (hw2)).cs⟩) (fun hHeld => ?_)
       clear hK
       (try simp only [p1, p2, p3])
       have ky := kyb_0_7 q0 q1 W.heap.size V2 hw2 (b0.on hb) (z0.on hb) g0 (b1.on hb) (z1.on hb) g1 K2 Z2 hw.size n01 (Nat.ne_of_lt b0.lt) (Nat.ne_of_lt b1.lt)
       (try simp only [p0, p1, p2, p3] at ky)
       exact castL (by kernel_rfl) ky
     have kyb_0_5 : ∀ (q0 : Nat) (q2 : Nat) (W : World) (hw : Below Vd801.heap.size Vd801 W) (b0 : Box W q0 [.int .i64 0, .int .i64 0, .complex .f64 0 0, .int .i64 0, .int .i64 0, .complex .f64 0 0, .int .i64 0, .int .i64 0, .complex .f64 0 0, .int .i64 0, .int .i64 0, .complex .f64 0 0]) (z0 : Fz W q0) (g0 : Vd801.heap.size ≤ q0) (b2 : Box W q2 [.int .i64 0, .int .i64 0, .complex .f64 0 0, .int .i64 0, .int .i64 0, .complex .f64 0 0, .int .i64 0, .int .i64 0, .complex .f64 0 0, .int .i64 0, .int .i64 0, .complex .f64 0 0]) (z2 : Fz W q2) (g2 : Vd801.heap.size ≤ q2) (n02 : q0 ≠ q2), wpAnyH Try.prog .any OP QQ (fun wx => Cs wx (w.heap.size) 0 [.int .i64 o.a, .int .i64 o.b, .int .i64 o.c, .int .i64 o.d] ∧ Cs wx (w.heap.size + 1) 0 [.int .i64 m.a, .int .i64 m.b, .int .i64 m.c, .int .i64 m.d] ∧ Cs wx (w.heap.size + 1 + 1) 0 [.int .i64 n.a, .int .i64 n.b, .int .i64 n.c, .int .i64 n.d]) 7 #[true, true, false, true, true, false, true, true, false, true, false, true, false, false, false] ((AA.put (some 18) (.pointer (some ⟨q0, 0, none⟩))).put (some 20) (.pointer (some ⟨q2, 0, none⟩))) W := by
      intro q0 q2 W hw b0 z0 g0 b2 z2 g2 n02
      subst hOP
      subst hQQ
      subst hAA
      (try simp only [p0, p1, p2, p3])
      refine pR2 2 10 (fun K hK => ?_) (fun K hK => ?_)
      ·go_simp
       (go_at_call 11; with_reducible refine (meantT HM.out).mono ?_)
       rintro _ W2 ⟨rfl, hb⟩
       (try go_wp2_with fail)
       have hw2 := hw.trans (hb.mono hw.size)
       refine hK.out _ _ (by exact ⟨(KO.on (hw2)).cs, (KM.on (hw2)).cs, (KN.on (hw2)).cs⟩) (fun hHeld => ?_)
       clear hK
       (try simp only [p1, p2, p3])
       have ky := kyb_1_5 q0 q2 W2 hw2 (b0.on hb) (z0.on hb) g0 (b2.on hb) (z2.on hb) g2 n02
       (try simp only [p0, p1, p2, p3] at ky)
       exact castL (by kernel_rfl) ky
      ·go_simp
       obtain ⟨V2, e2, hb, K2, Z2, -⟩ := alloc_new W [.int .i64 0, .int .i64 0, .complex .f64 0 0, .int .i64 0, .int .i64 0, .complex .f64 0 0, .int .i64 0, .int .i64 0, .complex .f64 0 0, .int .i64 0, .int .i64 0, .complex .f64 0 0] 37
       rw [← e2]
       clear e2
       have hw2 := hw.trans (hb.mono hw.size)
       refine hK.out _ _ (by exact ⟨(KO.on (hw2)).cs, (KM.on (hw2)).cs, (KN.on (hw2)).cs⟩) (fun hHeld => ?_)
       clear hK
       (try simp only [p1, p2, p3])
       have ky := kyb_0_7 q0 W.heap.size q2 V2 hw2 (b0.on hb) (z0.on hb) g0 K2 Z2 hw.size (b2.on hb) (z2.on hb) g2 (Nat.ne_of_lt b0.lt) n02 (Nat.ne_of_lt b2.lt).symm
       (try simp only [p0, p1, p2, p3] at ky)
       exact castL (by kernel_rfl) ky
     have kyb_0_6 : ∀ (q1 : Nat) (q2 : Nat) (W : World) (hw : Below Vd801.heap.size Vd801 W) (b1 : Box W q1 [.int .i64 0, .int .i64 0, .complex .f64 0 0, .int .i64 0, .int .i64 0, .complex .f64 0 0, .int .i64 0, .int .i64 0, .complex .f64 0 0, .int .i64 0, .int .i64 0, .complex .f64 0 0]) (z1 : Fz W q1) (g1 : Vd801.heap.size ≤ q1) (b2 : Box W q2 [.int .i64 0, .int .i64 0, .complex .f64 0 0, .int .i64 0, .int .i64 0, .complex .f64 0 0, .int .i64 0, .int .i64 0, .complex .f64 0 0, .int .i64 0, .int .i64 0, .complex .f64 0 0]) (z2 : Fz W q2) (g2 : Vd801.heap.size ≤ q2) (n12 : q1 ≠ q2), wpAnyH Try.prog .any OP QQ (fun wx => Cs wx (w.heap.size) 0 [.int .i64 o.a, .int .i64 o.b, .int .i64 o.c, .int .i64 o.d] ∧ Cs wx (w.heap.size + 1) 0 [.int .i64 m.a, .int .i64 m.b, .int .i64 m.c, .int .i64 m.d] ∧ Cs wx (w.heap.size + 1 + 1) 0 [.int .i64 n.a, .int .i64 n.b, .int .i64 n.c, .int .i64 n.d]) 7 #[true, true, false, true, true, false, true, true, false, false, true, true, false, false, false] ((AA.put (some 19) (.pointer (some ⟨q1, 0, none⟩))).put (some 20) (.pointer (some ⟨q2, 0, none⟩))) W := by
      intro q1 q2 W hw b1 z1 g1 b2 z2 g2 n12
      subst hOP
      subst hQQ
      subst hAA
      (try simp only [p0, p1, p2, p3])
      refine pR2 2 9 (fun K hK => ?_) (fun K hK => ?_)
      ·go_simp
       (go_at_call 11; with_reducible refine (meantT HM.out).mono ?_)
       rintro _ W2 ⟨rfl, hb⟩
       (try go_wp2_with fail)
       have hw2 := hw.trans (hb.mono hw.size)
       refine hK.out _ _ (by exact ⟨(KO.on (hw2)).cs, (KM.on (hw2)).cs, (KN.on (hw2)).cs⟩) (fun hHeld => ?_)
       clear hK
       (try simp only [p1, p2, p3])
       have ky := kyb_1_6 q1 q2 W2 hw2 (b1.on hb) (z1.on hb) g1 (b2.on hb) (z2.on hb) g2 n12
       (try simp only [p0, p1, p2, p3] at ky)
       exact castL (by kernel_rfl) ky
      ·go_simp
       obtain ⟨V2, e2, hb, K2, Z2, -⟩ := alloc_new W [.int .i64 0, .int .i64 0, .complex .f64 0 0, .int .i64 0, .int .i64 0, .complex .f64 0 0, .int .i64 0, .int .i64 0, .complex .f64 0 0, .int .i64 0, .int .i64 0, .complex .f64 0 0] 37
       rw [← e2]
       clear e2
       have hw2 := hw.trans (hb.mono hw.size)
       refine hK.out _ _ (by exact ⟨(KO.on (hw2)).cs, (KM.on (hw2)).cs, (KN.on (hw2)).cs⟩) (fun hHeld => ?_)
       clear hK
       (try simp only [p1, p2, p3])
       have ky := kyb_0_7 W.heap.size q1 q2 V2 hw2 K2 Z2 hw.size (b1.on hb) (z1.on hb) g1 (b2.on hb) (z2.on hb) g2 (Nat.ne_of_lt b1.lt).symm (Nat.ne_of_lt b2.lt).symm n12
       (try simp only [p0, p1, p2, p3] at ky)
       exact castL (by kernel_rfl) ky
     have kyb_1_1 : ∀ (q0 : Nat) (W : World) (hw : Below Vd801.heap.size Vd801 W) (b0 : Box W q0 [.int .i64 0, .int .i64 0, .complex .f64 0 0, .int .i64 0, .int .i64 0, .complex .f64 0 0, .int .i64 0, .int .i64 0, .complex .f64 0 0, .int .i64 0, .int .i64 0, .complex .f64 0 0]) (z0 : Fz W q0) (g0 : Vd801.heap.size ≤ q0) , wpAnyH Try.prog .any OP QQ (fun wx => Cs wx (w.heap.size) 0 [.int .i64 o.a, .int .i64 o.b, .int .i64 o.c, .int .i64 o.d] ∧ Cs wx (w.heap.size + 1) 0 [.int .i64 m.a, .int .i64 m.b, .int .i64 m.c, .int .i64 m.d] ∧ Cs wx (w.heap.size + 1 + 1) 0 [.int .i64 n.a, .int .i64 n.b, .int .i64 n.c, .int .i64 n.d]) 7 #[true, true, true, true, true, false, true, true, false, true, false, false, false, false, false] ((AA.put (some 58) ((.agg #[.int .i64 3, .int .i64 M.a, .complex .f64 0 0, .int .i64 3, .int .i64 M.b, .complex .f64 0 0, .int .i64 3, .int .i64 M.c, .complex .f64 0 0, .int .i64 3, .int .i64 M.d, .complex .f64 0 0]))).put (some 18) (.pointer (some ⟨q0, 0, none⟩))) W := by
      intro q0 W hw b0 z0 g0
      subst hOP
      subst hQQ
      subst hAA
      (try simp only [p0, p1, p2, p3])
      refine pR3 5 10 11 (fun K hK => ?_) (fun K hK => ?_) (fun K hK => ?_)
      ·go_simp
       (go_at_call 11; with_reducible refine (meantT HN.out).mono ?_)
       rintro _ W2 ⟨rfl, hb⟩
       (try go_wp2_with fail)
       have hw2 := hw.trans (hb.mono hw.size)
       refine hK.out _ _ (by exact ⟨(KO.on (hw2)).cs, (KM.on (hw2)).cs, (KN.on (hw2)).cs⟩) (fun hHeld => ?_)
       clear hK
       (try simp only [p1, p2, p3])
       have ky := kyb_2_1 q0 W2 hw2 (b0.on hb) (z0.on hb) g0 
       (try simp only [p0, p1, p2, p3] at ky)
       exact castL (by kernel_rfl) ky
      ·go_simp
       obtain ⟨V2, e2, hb, K2, Z2, -⟩ := alloc_new W [.int .i64 0, .int .i64 0, .complex .f64 0 0, .int .i64 0, .int .i64 0, .complex .f64 0 0, .int .i64 0, .int .i64 0, .complex .f64 0 0, .int .i64 0, .int .i64 0, .complex .f64 0 0] 37
       rw [← e2]
       clear e2
       have hw2 := hw.trans (hb.mono hw.size)
       refine hK.out _ _ (by exact ⟨(KO.on (hw2)).cs, (KM.on (hw2)).cs, (KN.on (hw2)).cs⟩) (fun hHeld => ?_)
       clear hK
       (try simp only [p1, p2, p3])
       have ky := kyb_1_3 q0 W.heap.size V2 hw2 (b0.on hb) (z0.on hb) g0 K2 Z2 hw.size (Nat.ne_of_lt b0.lt)
       (try simp only [p0, p1, p2, p3] at ky)
       exact castL (by kernel_rfl) ky
      ·go_simp
       obtain ⟨V2, e2, hb, K2, Z2, -⟩ := alloc_new W [.int .i64 0, .int .i64 0, .complex .f64 0 0, .int .i64 0, .int .i64 0, .complex .f64 0 0, .int .i64 0, .int .i64 0, .complex .f64 0 0, .int .i64 0, .int .i64 0, .complex .f64 0 0] 37
       rw [← e2]
       clear e2
       have hw2 := hw.trans (hb.mono hw.size)
       refine hK.out _ _ (by exact ⟨(KO.on (hw2)).cs, (KM.on (hw2)).cs, (KN.on (hw2)).cs⟩) (fun hHeld => ?_)
       clear hK
       (try simp only [p1, p2, p3])
       have ky := kyb_1_5 q0 W.heap.size V2 hw2 (b0.on hb) (z0.on hb) g0 K2 Z2 hw.size (Nat.ne_of_lt b0.lt)
       (try simp only [p0, p1, p2, p3] at ky)
       exact castL (by kernel_rfl) ky
     have kyb_1_2 : ∀ (q1 : Nat) (W : World) (hw : Below Vd801.heap.size Vd801 W) (b1 : Box W q1 [.int .i64 0, .int .i64 0, .complex .f64 0 0, .int .i64 0, .int .i64 0, .complex .f64 0 0, .int .i64 0, .int .i64 0, .complex .f64 0 0, .int .i64 0, .int .i64 0, .complex .f64 0 0]) (z1 : Fz W q1) (g1 : Vd801.heap.size ≤ q1) , wpAnyH Try.prog .any OP QQ (fun wx => Cs wx (w.heap.size) 0 [.int .i64 o.a, .int .i64 o.b, .int .i64 o.c, .int .i64 o.d] ∧ Cs wx (w.heap.size + 1) 0 [.int .i64 m.a, .int .i64 m.b, .int .i64 m.c, .int .i64 m.d] ∧ Cs wx (w.heap.size + 1 + 1) 0 [.int .i64 n.a, .int .i64 n.b, .int .i64 n.c, .int .i64 n.d]) 7 #[true, true, true, true, true, false, true, true, false, false, true, false, false, false, false] ((AA.put (some 58) ((.agg #[.int .i64 3, .int .i64 M.a, .complex .f64 0 0, .int .i64 3, .int .i64 M.b, .complex .f64 0 0, .int .i64 3, .int .i64 M.c, .complex .f64 0 0, .int .i64 3, .int .i64 M.d, .complex .f64 0 0]))).put (some 19) (.pointer (some ⟨q1, 0, none⟩))) W := by
      intro q1 W hw b1 z1 g1
      subst hOP
      subst hQQ
      subst hAA
      (try simp only [p0, p1, p2, p3])
      refine pR3 5 9 11 (fun K hK => ?_) (fun K hK => ?_) (fun K hK => ?_)
      ·go_simp
       (go_at_call 11; with_reducible refine (meantT HN.out).mono ?_)
       rintro _ W2 ⟨rfl, hb⟩
       (try go_wp2_with fail)
       have hw2 := hw.trans (hb.mono hw.size)
       refine hK.out _ _ (by exact ⟨(KO.on (hw2)).cs, (KM.on (hw2)).cs, (KN.on (hw2)).cs⟩) (fun hHeld => ?_)
       clear hK
       (try simp only [p1, p2, p3])
       have ky := kyb_2_2 q1 W2 hw2 (b1.on hb) (z1.on hb) g1 
       (try simp only [p0, p1, p2, p3] at ky)
       exact castL (by kernel_rfl) ky
      ·go_simp
       obtain ⟨V2, e2, hb, K2, Z2, -⟩ := alloc_new W [.int .i64 0, .int .i64 0, .complex .f64 0 0, .int .i64 0, .int .i64 0, .complex .f64 0 0, .int .i64 0, .int .i64 0, .complex .f64 0 0, .int .i64 0, .int .i64 0, .complex .f64 0 0] 37
       rw [← e2]
       clear e2
       have hw2 := hw.trans (hb.mono hw.size)
       refine hK.out _ _ (by exact ⟨(KO.on (hw2)).cs, (KM.on (hw2)).cs, (KN.on (hw2)).cs⟩) (fun hHeld => ?_)
       clear hK
       (try simp only [p1, p2, p3])
       have ky := kyb_1_3 W.heap.size q1 V2 hw2 K2 Z2 hw.size (b1.on hb) (z1.on hb) g1 (Nat.ne_of_lt b1.lt).symm
       (try simp only [p0, p1, p2, p3] at ky)
       exact castL (by kernel_rfl) ky
      ·go_simp
       obtain ⟨V2, e2, hb, K2, Z2, -⟩ := alloc_new W [.int .i64 0, .int .i64 0, .complex .f64 0 0, .int .i64 0, .int .i64 0, .complex .f64 0 0, .int .i64 0, .int .i64 0, .complex .f64 0 0, .int .i64 0, .int .i64 0, .complex .f64 0 0] 37
       rw [← e2]
       clear e2
       have hw2 := hw.trans (hb.mono hw.size)
       refine hK.out _ _ (by exact ⟨(KO.on (hw2)).cs, (KM.on (hw2)).cs, (KN.on (hw2)).cs⟩) (fun hHeld => ?_)
       clear hK
       (try simp only [p1, p2, p3])
       have ky := kyb_1_6 q1 W.heap.size V2 hw2 (b1.on hb) (z1.on hb) g1 K2 Z2 hw.size (Nat.ne_of_lt b1.lt)
       (try simp only [p0, p1, p2, p3] at ky)
       exact castL (by kernel_rfl) ky
     have kyb_1_4 : ∀ (q2 : Nat) (W : World) (hw : Below Vd801.heap.size Vd801 W) (b2 : Box W q2 [.int .i64 0, .int .i64 0, .complex .f64 0 0, .int .i64 0, .int .i64 0, .complex .f64 0 0, .int .i64 0, .int .i64 0, .complex .f64 0 0, .int .i64 0, .int .i64 0, .complex .f64 0 0]) (z2 : Fz W q2) (g2 : Vd801.heap.size ≤ q2) , wpAnyH Try.prog .any OP QQ (fun wx => Cs wx (w.heap.size) 0 [.int .i64 o.a, .int .i64 o.b, .int .i64 o.c, .int .i64 o.d] ∧ Cs wx (w.heap.size + 1) 0 [.int .i64 m.a, .int .i64 m.b, .int .i64 m.c, .int .i64 m.d] ∧ Cs wx (w.heap.size + 1 + 1) 0 [.int .i64 n.a, .int .i64 n.b, .int .i64 n.c, .int .i64 n.d]) 7 #[true, true, true, true, true, false, true, true, false, false, false, true, false, false, false] ((AA.put (some 58) ((.agg #[.int .i64 3, .int .i64 M.a, .complex .f64 0 0, .int .i64 3, .int .i64 M.b, .complex .f64 0 0, .int .i64 3, .int .i64 M.c, .complex .f64 0 0, .int .i64 3, .int .i64 M.d, .complex .f64 0 0]))).put (some 20) (.pointer (some ⟨q2, 0, none⟩))) W := by
      intro q2 W hw b2 z2 g2
      subst hOP
      subst hQQ
      subst hAA
      (try simp only [p0, p1, p2, p3])
      refine pR3 5 9 10 (fun K hK => ?_) (fun K hK => ?_) (fun K hK => ?_)
      ·go_simp
       (go_at_call 11; with_reducible refine (meantT HN.out).mono ?_)
       rintro _ W2 ⟨rfl, hb⟩
       (try go_wp2_with fail)
       have hw2 := hw.trans (hb.mono hw.size)
       refine hK.out _ _ (by exact ⟨(KO.on (hw2)).cs, (KM.on (hw2)).cs, (KN.on (hw2)).cs⟩) (fun hHeld => ?_)
       clear hK
       (try simp only [p1, p2, p3])
       have ky := kyb_2_4 q2 W2 hw2 (b2.on hb) (z2.on hb) g2 
       (try simp only [p0, p1, p2, p3] at ky)
       exact castL (by kernel_rfl) ky
      ·go_simp
       obtain ⟨V2, e2, hb, K2, Z2, -⟩ := alloc_new W [.int .i64 0, .int .i64 0, .complex .f64 0 0, .int .i64 0, .int .i64 0, .complex .f64 0 0, .int .i64 0, .int .i64 0, .complex .f64 0 0, .int .i64 0, .int .i64 0, .complex .f64 0 0] 37
       rw [← e2]
       clear e2
       have hw2 := hw.trans (hb.mono hw.size)
       refine hK.out _ _ (by exact ⟨(KO.on (hw2)).cs, (KM.on (hw2)).cs, (KN.on (hw2)).cs⟩) (fun hHeld => ?_)
       clear hK
       (try simp only [p1, p2, p3])
       have ky := kyb_1_5 W.heap.size q2 V2 hw2 K2 Z2 hw.size (b2.on hb) (z2.on hb) g2 (Nat.ne_of_lt b2.lt).symm
       (try simp only [p0, p1, p2, p3] at ky)
       exact castL (by kernel_rfl) ky
      ·go_simp
       obtain ⟨V2, e2, hb, K2, Z2, -⟩ := alloc_new W [.int .i64 0, .int .i64 0, .complex .f64 0 0, .int .i64 0, .int .i64 0, .complex .f64 0 0, .int .i64 0, .int .i64 0, .complex .f64 0 0, .int .i64 0, .int .i64 0, .complex .f64 0 0] 37
       rw [← e2]
       clear e2
       have hw2 := hw.trans (hb.mono hw.size)
       refine hK.out _ _ (by exact ⟨(KO.on (hw2)).cs, (KM.on (hw2)).cs, (KN.on (hw2)).cs⟩) (fun hHeld => ?_)
       clear hK
       (try simp only [p1, p2, p3])
       have ky := kyb_1_6 W.heap.size q2 V2 hw2 K2 Z2 hw.size (b2.on hb) (z2.on hb) g2 (Nat.ne_of_lt b2.lt).symm
       (try simp only [p0, p1, p2, p3] at ky)
       exact castL (by kernel_rfl) ky
     have kyb_2_0 : ∀  (W : World) (hw : Below Vd801.heap.size Vd801 W)  , wpAnyH Try.prog .any OP QQ (fun wx => Cs wx (w.heap.size) 0 [.int .i64 o.a, .int .i64 o.b, .int .i64 o.c, .int .i64 o.d] ∧ Cs wx (w.heap.size + 1) 0 [.int .i64 m.a, .int .i64 m.b, .int .i64 m.c, .int .i64 m.d] ∧ Cs wx (w.heap.size + 1 + 1) 0 [.int .i64 n.a, .int .i64 n.b, .int .i64 n.c, .int .i64 n.d]) 7 #[true, true, true, true, true, true, true, true, false, false, false, false, false, false, false] ((AA.put (some 58) ((.agg #[.int .i64 3, .int .i64 M.a, .complex .f64 0 0, .int .i64 3, .int .i64 M.b, .complex .f64 0 0, .int .i64 3, .int .i64 M.c, .complex .f64 0 0, .int .i64 3, .int .i64 M.d, .complex .f64 0 0]))).put (some 61) ((.agg #[.int .i64 3, .int .i64 N.a, .complex .f64 0 0, .int .i64 3, .int .i64 N.b, .complex .f64 0 0, .int .i64 3, .int .i64 N.c, .complex .f64 0 0, .int .i64 3, .int .i64 N.d, .complex .f64 0 0]))) W := by
      intro W hw
      subst hOP
      subst hQQ
      subst hAA
      (try simp only [p0, p1, p2, p3])
      refine pR4 8 9 10 11 (fun K hK => ?_) (fun K hK => ?_) (fun K hK => ?_) (fun K hK => ?_)
      ·go_simp
       (go_at_call 11; with_reducible refine (meantT HO.out).mono ?_)
       rintro _ W2 ⟨rfl, hb⟩
       (try go_wp2_with fail)
       have hw2 := hw.trans (hb.mono hw.size)
       refine hK.out _ _ (by exact ⟨(KO.on (hw2)).cs, (KM.on (hw2)).cs, (KN.on (hw2)).cs⟩) (fun hHeld => ?_)
       clear hK
       (try simp only [p1, p2, p3])
       have ky := kyb_3_0  W2 hw2  
       (try simp only [p0, p1, p2, p3] at ky)
       exact castL (by kernel_rfl) ky
      ·go_simp
       obtain ⟨V2, e2, hb, K2, Z2, -⟩ := alloc_new W [.int .i64 0, .int .i64 0, .complex .f64 0 0, .int .i64 0, .int .i64 0, .complex .f64 0 0, .int .i64 0, .int .i64 0, .complex .f64 0 0, .int .i64 0, .int .i64 0, .complex .f64 0 0] 37
       rw [← e2]
       clear e2
       have hw2 := hw.trans (hb.mono hw.size)
       refine hK.out _ _ (by exact ⟨(KO.on (hw2)).cs, (KM.on (hw2)).cs, (KN.on (hw2)).cs⟩) (fun hHeld => ?_)
       clear hK
       (try simp only [p1, p2, p3])
       have ky := kyb_2_1 W.heap.size V2 hw2 K2 Z2 hw.size 
       (try simp only [p0, p1, p2, p3] at ky)
       exact castL (by kernel_rfl) ky
      ·go_simp
       obtain ⟨V2, e2, hb, K2, Z2, -⟩ := alloc_new W [.int .i64 0, .int .i64 0, .complex .f64 0 0, .int .i64 0, .int .i64 0, .complex .f64 0 0, .int .i64 0, .int .i64 0, .complex .f64 0 0, .int .i64 0, .int .i64 0, .complex .f64 0 0] 37
       rw [← e2]
       clear e2
       have hw2 := hw.trans (hb.mono hw.size)
       refine hK.out _ _ (by exact ⟨(KO.on (hw2)).cs, (KM.on (hw2)).cs, (KN.on (hw2)).cs⟩) (fun hHeld => ?_)
       clear hK
       (try simp only [p1, p2, p3])
       have ky := kyb_2_2 W.heap.size V2 hw2 K2 Z2 hw.size 
       (try simp only [p0, p1, p2, p3] at ky)
       exact castL (by kernel_rfl) ky
      ·go_simp
       obtain ⟨V2, e2, hb, K2, Z2, -⟩ := alloc_new W [.int .i64 0, .int .i64 0, .complex .f64 0 0, .int .i64 0, .int .i64 0, .complex .f64 0 0, .int .i64 0, .int .i64 0, .complex .f64 0 0, .int .i64 0, .int .i64 0, .complex .f64 0 0] 37
       rw [← e2]
       clear e2
       have hw2 := hw.trans (hb.mono hw.size)
       refine hK.out _ _ (by exact ⟨(KO.on (hw2)).cs, (KM.on (hw2)).cs, (KN.on (hw2)).cs⟩) (fun hHeld => ?_)
       clear hK
       (try simp only [p1, p2, p3])
       have ky := kyb_2_4 W.heap.size V2 hw2 K2 Z2 hw.size 
       (try simp only [p0, p1, p2, p3] at ky)
       exact castL (by kernel_rfl) ky
     have kyb_0_1 : ∀ (q0 : Nat) (W : World) (hw : Below Vd801.heap.size Vd801 W) (b0 : Box W q0 [.int .i64 0, .int .i64 0, .complex .f64 0 0, .int .i64 0, .int .i64 0, .complex .f64 0 0, .int .i64 0, .int .i64 0, .complex .f64 0 0, .int .i64 0, .int .i64 0, .complex .f64 0 0]) (z0 : Fz W q0) (g0 : Vd801.heap.size ≤ q0) , wpAnyH Try.prog .any OP QQ (fun wx => Cs wx (w.heap.size) 0 [.int .i64 o.a, .int .i64 o.b, .int .i64 o.c, .int .i64 o.d] ∧ Cs wx (w.heap.size + 1) 0 [.int .i64 m.a, .int .i64 m.b, .int .i64 m.c, .int .i64 m.d] ∧ Cs wx (w.heap.size + 1 + 1) 0 [.int .i64 n.a, .int .i64 n.b, .int .i64 n.c, .int .i64 n.d]) 8 #[true, true, false, true, true, false, true, true, false, true, false, false, false, false, false] (AA.put (some 18) (.pointer (some ⟨q0, 0, none⟩))) W := by
      intro q0 W hw b0 z0 g0
      subst hOP
      subst hQQ
      subst hAA
      (try simp only [p0, p1, p2, p3])
      refine pR3 2 10 11 (fun K hK => ?_) (fun K hK => ?_) (fun K hK => ?_)
      ·go_simp
       (go_at_call 11; with_reducible refine (meantT HM.out).mono ?_)
       rintro _ W2 ⟨rfl, hb⟩
       (try go_wp2_with fail)
       have hw2 := hw.trans (hb.mono hw.size)
       refine hK.out _ _ (by exact ⟨(KO.on (hw2)).cs, (KM.on (hw2)).cs, (KN.on (hw2)).cs⟩) (fun hHeld => ?_)
       clear hK
       (try simp only [p1, p2, p3])
       have ky := kyb_1_1 q0 W2 hw2 (b0.on hb) (z0.on hb) g0 
       (try simp only [p0, p1, p2, p3] at ky)
       exact castL (by kernel_rfl) ky
      ·go_simp
       obtain ⟨V2, e2, hb, K2, Z2, -⟩ := alloc_new W [.int .i64 0, .int .i64 0, .complex .f64 0 0, .int .i64 0, .int .i64 0, .complex .f64 0 0, .int .i64 0, .int .i64 0, .complex .f64 0 0, .int .i64 0, .int .i64 0, .complex .f64 0 0] 37
       rw [← e2]
       clear e2
       have hw2 := hw.trans (hb.mono hw.size)
       refine hK.out _ _ (by exact ⟨(KO.on (hw2)).cs, (KM.on (hw2)).cs, (KN.on (hw2)).cs⟩) (fun hHeld => ?_)
       clear hK
       (try simp only [p1, p2, p3])
       have ky := kyb_0_3 q0 W.heap.size V2 hw2 (b0.on hb) (z0.on hb) g0 K2 Z2 hw.size (Nat.ne_of_lt b0.lt)
       (try simp only [p0, p1, p2, p3] at ky)
       exact castL (by kernel_rfl) ky
      ·go_simp
       obtain ⟨V2, e2, hb, K2, Z2, -⟩ := alloc_new W [.int .i64 0, .int .i64 0, .complex .f64 0 0, .int .i64 0, .int .i64 0, .complex .f64 0 0, .int .i64 0, .int .i64 0, .complex .f64 0 0, .int .i64 0, .int .i64 0, .complex .f64 0 0] 37
       rw [← e2]
       clear e2
       have hw2 := hw.trans (hb.mono hw.size)
       refine hK.out _ _ (by exact ⟨(KO.on (hw2)).cs, (KM.on (hw2)).cs, (KN.on (hw2)).cs⟩) (fun hHeld => ?_)
       clear hK
       (try simp only [p1, p2, p3])
       have ky := kyb_0_5 q0 W.heap.size V2 hw2 (b0.on hb) (z0.on hb) g0 K2 Z2 hw.size (Nat.ne_of_lt b0.lt)
       (try simp only [p0, p1, p2, p3] at ky)
       exact castL (by kernel_rfl) ky
     have kyb_0_2 : ∀ (q1 : Nat) (W : World) (hw : Below Vd801.heap.size Vd801 W) (b1 : Box W q1 [.int .i64 0, .int .i64 0, .complex .f64 0 0, .int .i64 0, .int .i64 0, .complex .f64 0 0, .int .i64 0, .int .i64 0, .complex .f64 0 0, .int .i64 0, .int .i64 0, .complex .f64 0 0]) (z1 : Fz W q1) (g1 : Vd801.heap.size ≤ q1) , wpAnyH Try.prog .any OP QQ (fun wx => Cs wx (w.heap.size) 0 [.int .i64 o.a, .int .i64 o.b, .int .i64 o.c, .int .i64 o.d] ∧ Cs wx (w.heap.size + 1) 0 [.int .i64 m.a, .int .i64 m.b, .int .i64 m.c, .int .i64 m.d] ∧ Cs wx (w.heap.size + 1 + 1) 0 [.int .i64 n.a, .int .i64 n.b, .int .i64 n.c, .int .i64 n.d]) 8 #[true, true, false, true, true, false, true, true, false, false, true, false, false, false, false] (AA.put (some 19) (.pointer (some ⟨q1, 0, none⟩))) W := by
      intro q1 W hw b1 z1 g1
      subst hOP
      subst hQQ
      subst hAA
      (try simp only [p0, p1, p2, p3])
      refine pR3 2 9 11 (fun K hK => ?_) (fun K hK => ?_) (fun K hK => ?_)
      ·go_simp
       (go_at_call 11; with_reducible refine (meantT HM.out).mono ?_)
       rintro _ W2 ⟨rfl, hb⟩
       (try go_wp2_with fail)
       have hw2 := hw.trans (hb.mono hw.size)
       refine hK.out _ _ (by exact ⟨(KO.on (hw2)).cs, (KM.on (hw2)).cs, (KN.on (hw2)).cs⟩) (fun hHeld => ?_)
       clear hK
       (try simp only [p1, p2, p3])
       have ky := kyb_1_2 q1 W2 hw2 (b1.on hb) (z1.on hb) g1 
       (try simp only [p0, p1, p2, p3] at ky)
       exact castL (by kernel_rfl) ky
      ·go_simp
       obtain ⟨V2, e2, hb, K2, Z2, -⟩ := alloc_new W [.int .i64 0, .int .i64 0, .complex .f64 0 0, .int .i64 0, .int .i64 0, .complex .f64 0 0, .int .i64 0, .int .i64 0, .complex .f64 0 0, .int .i64 0, .int .i64 0, .complex .f64 0 0] 37
       rw [← e2]
       clear e2
       have hw2 := hw.trans (hb.mono hw.size)
       refine hK.out _ _ (by exact ⟨(KO.on (hw2)).cs, (KM.on (hw2)).cs, (KN.on (hw2)).cs⟩) (fun hHeld => ?_)
       clear hK
       (try simp only [p1, p2, p3])
       have ky := kyb_0_3 W.heap.size q1 V2 hw2 K2 Z2 hw.size (b1.on hb) (z1.on hb) g1 (Nat.ne_of_lt b1.lt).symm
       (try simp only [p0, p1, p2, p3] at ky)
       exact castL (by kernel_rfl) ky
      ·go_simp
       obtain ⟨V2, e2, hb, K2, Z2, -⟩ := alloc_new W [.int .i64 0, .int .i64 0, .complex .f64 0 0, .int .i64 0, .int .i64 0, .complex .f64 0 0, .int .i64 0, .int .i64 0, .complex .f64 0 0, .int .i64 0, .int .i64 0, .complex .f64 0 0] 37
       rw [← e2]
       clear e2
       have hw2 := hw.trans (hb.mono hw.size)
       refine hK.out _ _ (by exact ⟨(KO.on (hw2)).cs, (KM.on (hw2)).cs, (KN.on (hw2)).cs⟩) (fun hHeld => ?_)
       clear hK
       (try simp only [p1, p2, p3])
       have ky := kyb_0_6 q1 W.heap.size V2 hw2 (b1.on hb) (z1.on hb) g1 K2 Z2 hw.size (Nat.ne_of_lt b1.lt)
       (try simp only [p0, p1, p2, p3] at ky)
       exact castL (by kernel_rfl) ky
     have kyb_0_4 : ∀ (q2 : Nat) (W : World) (hw : Below Vd801.heap.size Vd801 W) (b2 : Box W q2 [.int .i64 0, .int .i64 0, .complex .f64 0 0, .int .i64 0, .int .i64 0, .complex .f64 0 0, .int .i64 0, .int .i64 0, .complex .f64 0 0, .int .i64 0, .int .i64 0, .complex .f64 0 0]) (z2 : Fz W q2) (g2 : Vd801.heap.size ≤ q2) , wpAnyH Try.prog .any OP QQ (fun wx => Cs wx (w.heap.size) 0 [.int .i64 o.a, .int .i64 o.b, .int .i64 o.c, .int .i64 o.d] ∧ Cs wx (w.heap.size + 1) 0 [.int .i64 m.a, .int .i64 m.b, .int .i64 m.c, .int .i64 m.d] ∧ Cs wx (w.heap.size + 1 + 1) 0 [.int .i64 n.a, .int .i64 n.b, .int .i64 n.c, .int .i64 n.d]) 8 #[true, true, false, true, true, false, true, true, false, false, false, true, false, false, false] (AA.put (some 20) (.pointer (some ⟨q2, 0, none⟩))) W := by
      intro q2 W hw b2 z2 g2
      subst hOP
      subst hQQ
      subst hAA
      (try simp only [p0, p1, p2, p3])
      refine pR3 2 9 10 (fun K hK => ?_) (fun K hK => ?_) (fun K hK => ?_)
      ·go_simp
       (go_at_call 11; with_reducible refine (meantT HM.out).mono ?_)
       rintro _ W2 ⟨rfl, hb⟩
       (try go_wp2_with fail)
       have hw2 := hw.trans (hb.mono hw.size)
       refine hK.out _ _ (by exact ⟨(KO.on (hw2)).cs, (KM.on (hw2)).cs, (KN.on (hw2)).cs⟩) (fun hHeld => ?_)
       clear hK
       (try simp only [p1, p2, p3])
       have ky := kyb_1_4 q2 W2 hw2 (b2.on hb) (z2.on hb) g2 
       (try simp only [p0, p1, p2, p3] at ky)
       exact castL (by kernel_rfl) ky
      ·go_simp
       obtain ⟨V2, e2, hb, K2, Z2, -⟩ := alloc_new W [.int .i64 0, .int .i64 0, .complex .f64 0 0, .int .i64 0, .int .i64 0, .complex .f64 0 0, .int .i64 0, .int .i64 0, .complex .f64 0 0, .int .i64 0, .int .i64 0, .complex .f64 0 0] 37
       rw [← e2]
       clear e2
       have hw2 := hw.trans (hb.mono hw.size)
       refine hK.out _ _ (by exact ⟨(KO.on (hw2)).cs, (KM.on (hw2)).cs, (KN.on (hw2)).cs⟩) (fun hHeld => ?_)
       clear hK
       (try simp only [p1, p2, p3])
       have ky := kyb_0_5 W.heap.size q2 V2 hw2 K2 Z2 hw.size (b2.on hb) (z2.on hb) g2 (Nat.ne_of_lt b2.lt).symm
       (try simp only [p0, p1, p2, p3] at ky)
       exact castL (by kernel_rfl) ky
      ·go_simp
       obtain ⟨V2, e2, hb, K2, Z2, -⟩ := alloc_new W [.int .i64 0, .int .i64 0, .complex .f64 0 0, .int .i64 0, .int .i64 0, .complex .f64 0 0, .int .i64 0, .int .i64 0, .complex .f64 0 0, .int .i64 0, .int .i64 0, .complex .f64 0 0] 37
       rw [← e2]
       clear e2
       have hw2 := hw.trans (hb.mono hw.size)
       refine hK.out _ _ (by exact ⟨(KO.on (hw2)).cs, (KM.on (hw2)).cs, (KN.on (hw2)).cs⟩) (fun hHeld => ?_)
       clear hK
       (try simp only [p1, p2, p3])
       have ky := kyb_0_6 W.heap.size q2 V2 hw2 K2 Z2 hw.size (b2.on hb) (z2.on hb) g2 (Nat.ne_of_lt b2.lt).symm
       (try simp only [p0, p1, p2, p3] at ky)
       exact castL (by kernel_rfl) ky
     have kyb_1_0 : ∀  (W : World) (hw : Below Vd801.heap.size Vd801 W)  , wpAnyH Try.prog .any OP QQ (fun wx => Cs wx (w.heap.size) 0 [.int .i64 o.a, .int .i64 o.b, .int .i64 o.c, .int .i64 o.d] ∧ Cs wx (w.heap.size + 1) 0 [.int .i64 m.a, .int .i64 m.b, .int .i64 m.c, .int .i64 m.d] ∧ Cs wx (w.heap.size + 1 + 1) 0 [.int .i64 n.a, .int .i64 n.b, .int .i64 n.c, .int .i64 n.d]) 8 #[true, true, true, true, true, false, true, true, false, false, false, false, false, false, false] (AA.put (some 58) ((.agg #[.int .i64 3, .int .i64 M.a, .complex .f64 0 0, .int .i64 3, .int .i64 M.b, .complex .f64 0 0, .int .i64 3, .int .i64 M.c, .complex .f64 0 0, .int .i64 3, .int .i64 M.d, .complex .f64 0 0]))) W := by
      intro W hw
      subst hOP
      subst hQQ
      subst hAA
      (try simp only [p0, p1, p2, p3])
      refine pR4 5 9 10 11 (fun K hK => ?_) (fun K hK => ?_) (fun K hK => ?_) (fun K hK => ?_)
      ·go_simp
       (go_at_call 11; with_reducible refine (meantT HN.out).mono ?_)
       rintro _ W2 ⟨rfl, hb⟩
       (try go_wp2_with fail)
       have hw2 := hw.trans (hb.mono hw.size)
       refine hK.out _ _ (by exact ⟨(KO.on (hw2)).cs, (KM.on (hw2)).cs, (KN.on (hw2)).cs⟩) (fun hHeld => ?_)
       clear hK
       (try simp only [p1, p2, p3])
       have ky := kyb_2_0  W2 hw2  
       (try simp only [p0, p1, p2, p3] at ky)
       exact castL (by kernel_rfl) ky
      ·go_simp
       obtain ⟨V2, e2, hb, K2, Z2, -⟩ := alloc_new W [.int .i64 0, .int .i64 0, .complex .f64 0 0, .int .i64 0, .int .i64 0, .complex .f64 0 0, .int .i64 0, .int .i64 0, .complex .f64 0 0, .int .i64 0, .int .i64 0, .complex .f64 0 0] 37
       rw [← e2]
       clear e2
       have hw2 := hw.trans (hb.mono hw.size)
       refine hK.out _ _ (by exact ⟨(KO.on (hw2)).cs, (KM.on (hw2)).cs, (KN.on (hw2)).cs⟩) (fun hHeld => ?_)
       clear hK
       (try simp only [p1, p2, p3])
       have ky := kyb_1_1 W.heap.size V2 hw2 K2 Z2 hw.size 
       (try simp only [p0, p1, p2, p3] at ky)
       exact castL (by kernel_rfl) ky
      ·go_simp
       obtain ⟨V2, e2, hb, K2, Z2, -⟩ := alloc_new W [.int .i64 0, .int .i64 0, .complex .f64 0 0, .int .i64 0, .int .i64 0, .complex .f64 0 0, .int .i64 0, .int .i64 0, .complex .f64 0 0, .int .i64 0, .int .i64 0, .complex .f64 0 0] 37
       rw [← e2]
       clear e2
       have hw2 := hw.trans (hb.mono hw.size)
       refine hK.out _ _ (by exact ⟨(KO.on (hw2)).cs, (KM.on (hw2)).cs, (KN.on (hw2)).cs⟩) (fun hHeld => ?_)
       clear hK
       (try simp only [p1, p2, p3])
       have ky := kyb_1_2 W.heap.size V2 hw2 K2 Z2 hw.size 
       (try simp only [p0, p1, p2, p3] at ky)
       exact castL (by kernel_rfl) ky
      ·go_simp
       obtain ⟨V2, e2, hb, K2, Z2, -⟩ := alloc_new W [.int .i64 0, .int .i64 0, .complex .f64 0 0, .int .i64 0, .int .i64 0, .complex .f64 0 0, .int .i64 0, .int .i64 0, .complex .f64 0 0, .int .i64 0, .int .i64 0, .complex .f64 0 0] 37
       rw [← e2]
       clear e2
       have hw2 := hw.trans (hb.mono hw.size)
       refine hK.out _ _ (by exact ⟨(KO.on (hw2)).cs, (KM.on (hw2)).cs, (KN.on (hw2)).cs⟩) (fun hHeld => ?_)
       clear hK
       (try simp only [p1, p2, p3])
       have ky := kyb_1_4 W.heap.size V2 hw2 K2 Z2 hw.size 
       (try simp only [p0, p1, p2, p3] at ky)
       exact castL (by kernel_rfl) ky
     have kyb_0_0 : ∀  (W : World) (hw : Below Vd801.heap.size Vd801 W)  , wpAnyH Try.prog .any OP QQ (fun wx => Cs wx (w.heap.size) 0 [.int .i64 o.a, .int .i64 o.b, .int .i64 o.c, .int .i64 o.d] ∧ Cs wx (w.heap.size + 1) 0 [.int .i64 m.a, .int .i64 m.b, .int .i64 m.c, .int .i64 m.d] ∧ Cs wx (w.heap.size + 1 + 1) 0 [.int .i64 n.a, .int .i64 n.b, .int .i64 n.c, .int .i64 n.d]) 9 #[true, true, false, true, true, false, true, true, false, false, false, false, false, false, false] AA W := by
      intro W hw
      subst hOP
      subst hQQ
      subst hAA
      (try simp only [p0, p1, p2, p3])
      refine pR4 2 9 10 11 (fun K hK => ?_) (fun K hK => ?_) (fun K hK => ?_) (fun K hK => ?_)
      ·go_simp
       (go_at_call 11; with_reducible refine (meantT HM.out).mono ?_)
       rintro _ W2 ⟨rfl, hb⟩
       (try go_wp2_with fail)
       have hw2 := hw.trans (hb.mono hw.size)
       refine hK.out _ _ (by exact ⟨(KO.on (hw2)).cs, (KM.on (hw2)).cs, (KN.on (hw2)).cs⟩) (fun hHeld => ?_)
       clear hK
       (try simp only [p1, p2, p3])
       have ky := kyb_1_0  W2 hw2  
       (try simp only [p0, p1, p2, p3] at ky)
       exact castL (by kernel_rfl) ky
      ·go_simp
       obtain ⟨V2, e2, hb, K2, Z2, -⟩ := alloc_new W [.int .i64 0, .int .i64 0, .complex .f64 0 0, .int .i64 0, .int .i64 0, .complex .f64 0 0, .int .i64 0, .int .i64 0, .complex .f64 0 0, .int .i64 0, .int .i64 0, .complex .f64 0 0] 37
       rw [← e2]
       clear e2
       have hw2 := hw.trans (hb.mono hw.size)
       refine hK.out _ _ (by exact ⟨(KO.on (hw2)).cs, (KM.on (hw2)).cs, (KN.on (hw2)).cs⟩) (fun hHeld => ?_)
       clear hK
       (try simp only [p1, p2, p3])
       have ky := kyb_0_1 W.heap.size V2 hw2 K2 Z2 hw.size 
       (try simp only [p0, p1, p2, p3] at ky)
       exact castL (by kernel_rfl) ky
      ·go_simp
       obtain ⟨V2, e2, hb, K2, Z2, -⟩ := alloc_new W [.int .i64 0, .int .i64 0, .complex .f64 0 0, .int .i64 0, .int .i64 0, .complex .f64 0 0, .int .i64 0, .int .i64 0, .complex .f64 0 0, .int .i64 0, .int .i64 0, .complex .f64 0 0] 37
       rw [← e2]
       clear e2
       have hw2 := hw.trans (hb.mono hw.size)
       refine hK.out _ _ (by exact ⟨(KO.on (hw2)).cs, (KM.on (hw2)).cs, (KN.on (hw2)).cs⟩) (fun hHeld => ?_)
       clear hK
       (try simp only [p1, p2, p3])
       have ky := kyb_0_2 W.heap.size V2 hw2 K2 Z2 hw.size 
       (try simp only [p0, p1, p2, p3] at ky)
       exact castL (by kernel_rfl) ky
      ·go_simp
       obtain ⟨V2, e2, hb, K2, Z2, -⟩ := alloc_new W [.int .i64 0, .int .i64 0, .complex .f64 0 0, .int .i64 0, .int .i64 0, .complex .f64 0 0, .int .i64 0, .int .i64 0, .complex .f64 0 0, .int .i64 0, .int .i64 0, .complex .f64 0 0] 37
       rw [← e2]
       clear e2
       have hw2 := hw.trans (hb.mono hw.size)
       refine hK.out _ _ (by exact ⟨(KO.on (hw2)).cs, (KM.on (hw2)).cs, (KN.on (hw2)).cs⟩) (fun hHeld => ?_)
       clear hK
       (try simp only [p1, p2, p3])
       have ky := kyb_0_4 W.heap.size V2 hw2 K2 Z2 hw.size 
       (try simp only [p0, p1, p2, p3] at ky)
       exact castL (by kernel_rfl) ky
     exact castL (by kernel_rfl) (kyb_0_0 Vd801 (Below.refl _ _))
    case rest =>
     obtain ⟨yb0, yb1, yb2, rfl, rfl, rfl, Pb0, Pb1, Pb2, hb⟩ := hcut
     replace KO := KO.on hb
     replace KM := KM.on hb
     replace KN := KN.on hb
     replace hrF := hrF.on hb
     replace hrB := hrB.on hb
     replace Pa0 := Pa0.on hb
     replace Pa1 := Pa1.on hb
     replace Pa2 := Pa2.on hb
     replace BW := BW.trans (hb.mono BW.size)
     clear hb
     clear KO KM KN
     go_wp2_with fail
     refine wp_region_noPanic ?_
     have hb : Below wc.heap.size wc wc.drew := (Below.refl _ _).drew
     replace hrF := hrF.on hb
     replace hrB := hrB.on hb
     replace Pa0 := Pa0.on hb
     replace Pa1 := Pa1.on hb
     replace Pa2 := Pa2.on hb
     replace Pb0 := Pb0.on hb
     replace Pb1 := Pb1.on hb
     replace Pb2 := Pb2.on hb
     replace BW := BW.trans (hb.mono BW.size)
     clear hb
     refine wp_region_held_drew (S := (fun wx => Cs wx (ya0) 0 [.int .i64 M.a, .int .i64 M.b, .int .i64 M.c, .int .i64 M.d] ∧ Cs wx (ya1) 0 [.int .i64 N.a, .int .i64 N.b, .int .i64 N.c, .int .i64 N.d] ∧ Cs wx (yb0) 0 [.int .i64 3, .int .i64 M.a, .complex .f64 0 0, .int .i64 3, .int .i64 M.b, .complex .f64 0 0, .int .i64 3, .int .i64 M.c, .complex .f64 0 0, .int .i64 3, .int .i64 M.d, .complex .f64 0 0] ∧ Cs wx (yb1) 0 [.int .i64 3, .int .i64 N.a, .complex .f64 0 0, .int .i64 3, .int .i64 N.b, .complex .f64 0 0, .int .i64 3, .int .i64 N.c, .complex .f64 0 0, .int .i64 3, .int .i64 N.d, .complex .f64 0 0])) (by kernel_rfl) (by exact ⟨Pa0.cs, Pa1.cs, Pb0.cs, Pb1.cs⟩) (fun hHeld => ?_)
     generalize wc.drew = Vd901 at *
     refine pT 0 ?_
     (try simp only [p0, p1, p2, p3])
     refine pT 1 ?_
     (try simp only [p0, p1, p2, p3])
     refine pT 3 ?_
     (try simp only [p0, p1, p2, p3])
     refine pT 4 ?_
     (try simp only [p0, p1, p2, p3])
     refine pR1 2 (fun K hK => ?_)
     go_simp
     (go_at_call 40; with_reducible refine (mul hR M N _).mono ?_)
     rintro _ w902 ⟨rfl, hb⟩
     (try go_wp2_with fail)
     replace hrF := hrF.on hb
     replace hrB := hrB.on hb
     replace Pa0 := Pa0.on hb
     replace Pa1 := Pa1.on hb
     replace Pa2 := Pa2.on hb
     replace Pb0 := Pb0.on hb
     replace Pb1 := Pb1.on hb
     replace Pb2 := Pb2.on hb
     replace BW := BW.trans (hb.mono BW.size)
     clear hb
     refine hK.out _ _ (by exact ⟨Pa0.cs, Pa1.cs, Pb0.cs, Pb1.cs⟩) (fun hHeld => ?_)
     clear hK
     (try simp only [p0, p1, p2, p3])
     refine pR1 5 (fun K hK => ?_)
     go_simp
     (go_at_call 14; with_reducible refine (D.rmul HR M N _).mono ?_)
     rintro _ w903 ⟨rfl, hb⟩
     (try go_wp2_with fail)
     replace hrF := hrF.on hb
     replace hrB := hrB.on hb
     replace Pa0 := Pa0.on hb
     replace Pa1 := Pa1.on hb
     replace Pa2 := Pa2.on hb
     replace Pb0 := Pb0.on hb
     replace Pb1 := Pb1.on hb
     replace Pb2 := Pb2.on hb
     replace BW := BW.trans (hb.mono BW.size)
     clear hb
     refine hK.out _ _ (by exact ⟨Pa0.cs, Pa1.cs, Pb0.cs, Pb1.cs⟩) (fun hHeld => ?_)
     clear hK
     (try simp only [p0, p1, p2, p3])
     refine pR1 6 (fun K hK => ?_)
     go_simp
     (go_at_call 39; with_reducible refine (same_eq (ok_any _) _).mono ?_)
     rintro _ w904 ⟨rfl, hb⟩
     (try go_wp2_with fail)
     replace hrF := hrF.on hb
     replace hrB := hrB.on hb
     replace Pa0 := Pa0.on hb
     replace Pa1 := Pa1.on hb
     replace Pa2 := Pa2.on hb
     replace Pb0 := Pb0.on hb
     replace Pb1 := Pb1.on hb
     replace Pb2 := Pb2.on hb
     replace BW := BW.trans (hb.mono BW.size)
     clear hb
     refine hK.out _ _ (by exact ⟨Pa0.cs, Pa1.cs, Pb0.cs, Pb1.cs⟩) (fun hHeld => ?_)
     clear hK
     (try simp only [p0, p1, p2, p3])
     refine pT 7 ?_
     (try simp only [p0, p1, p2, p3])
     refine pT 8 ?_
     (try simp only [p0, p1, p2, p3])
     refine pT 9 ?_
     (try simp only [p0, p1, p2, p3])
     refine pT 11 ?_
     (try simp only [p0, p1, p2, p3])
     refine pR1 10 (fun K hK => ?_)
     go_simp
     (go_at_call 41; with_reducible refine (det hR M _).mono ?_)
     rintro _ w905 ⟨rfl, hb⟩
     (try go_wp2_with fail)
     replace hrF := hrF.on hb
     replace hrB := hrB.on hb
     replace Pa0 := Pa0.on hb
     replace Pa1 := Pa1.on hb
     replace Pa2 := Pa2.on hb
     replace Pb0 := Pb0.on hb
     replace Pb1 := Pb1.on hb
     replace Pb2 := Pb2.on hb
     replace BW := BW.trans (hb.mono BW.size)
     clear hb
     refine hK.out _ _ (by exact ⟨Pa0.cs, Pa1.cs, Pb0.cs, Pb1.cs⟩) (fun hHeld => ?_)
     clear hK
     (try simp only [p0, p1, p2, p3])
     refine pR1 12 (fun K hK => ?_)
     go_simp
     (go_at_call 16; with_reducible refine (D.rdet HR M _).mono ?_)
     rintro _ w906 ⟨rfl, hb⟩
     (try go_wp2_with fail)
     replace hrF := hrF.on hb
     replace hrB := hrB.on hb
     replace Pa0 := Pa0.on hb
     replace Pa1 := Pa1.on hb
     replace Pa2 := Pa2.on hb
     replace Pb0 := Pb0.on hb
     replace Pb1 := Pb1.on hb
     replace Pb2 := Pb2.on hb
     replace BW := BW.trans (hb.mono BW.size)
     clear hb
     refine hK.out _ _ (by exact ⟨Pa0.cs, Pa1.cs, Pb0.cs, Pb1.cs⟩) (fun hHeld => ?_)
     clear hK
     (try simp only [p0, p1, p2, p3])
     refine pT 13 ?_
     (try simp only [p0, p1, p2, p3])
     refine pT 14 ?_
     (try simp only [p0, p1, p2, p3])
     refine pT 15 ?_
     (try simp only [p0, p1, p2, p3])
     refine pT 16 ?_
     (try simp only [p0, p1, p2, p3])
     refine pT 17 ?_
     (try simp only [p0, p1, p2, p3])
     refine pT 19 ?_
     (try simp only [p0, p1, p2, p3])
     refine pR1 18 (fun K hK => ?_)
     go_simp
     (go_at_call 42; with_reducible refine (trace hR M _).mono ?_)
     rintro _ w907 ⟨rfl, hb⟩
     (try go_wp2_with fail)
     replace hrF := hrF.on hb
     replace hrB := hrB.on hb
     replace Pa0 := Pa0.on hb
     replace Pa1 := Pa1.on hb
     replace Pa2 := Pa2.on hb
     replace Pb0 := Pb0.on hb
     replace Pb1 := Pb1.on hb
     replace Pb2 := Pb2.on hb
     replace BW := BW.trans (hb.mono BW.size)
     clear hb
     refine hK.out _ _ (by exact ⟨Pa0.cs, Pa1.cs, Pb0.cs, Pb1.cs⟩) (fun hHeld => ?_)
     clear hK
     (try simp only [p0, p1, p2, p3])
     refine pR1 20 (fun K hK => ?_)
     go_simp
     (go_at_call 18; with_reducible refine (D.rtrace HR M _).mono ?_)
     rintro _ w908 ⟨rfl, hb⟩
     (try go_wp2_with fail)
     replace hrF := hrF.on hb
     replace hrB := hrB.on hb
     replace Pa0 := Pa0.on hb
     replace Pa1 := Pa1.on hb
     replace Pa2 := Pa2.on hb
     replace Pb0 := Pb0.on hb
     replace Pb1 := Pb1.on hb
     replace Pb2 := Pb2.on hb
     replace BW := BW.trans (hb.mono BW.size)
     clear hb
     refine hK.out _ _ (by exact ⟨Pa0.cs, Pa1.cs, Pb0.cs, Pb1.cs⟩) (fun hHeld => ?_)
     clear hK
     (try simp only [p0, p1, p2, p3])
     refine pT 21 ?_
     (try simp only [p0, p1, p2, p3])
     refine pT 22 ?_
     (try simp only [p0, p1, p2, p3])
     refine pT 23 ?_
     (try simp only [p0, p1, p2, p3])
     refine pT 24 ?_
     (try simp only [p0, p1, p2, p3])
     refine pT 25 ?_
     (try simp only [p0, p1, p2, p3])
     refine pT 27 ?_
     (try simp only [p0, p1, p2, p3])
     refine pR1 26 (fun K hK => ?_)
     go_simp
     (go_at_call 43; with_reducible refine (turned hR M _).mono ?_)
     rintro _ w909 ⟨rfl, hb⟩
     (try go_wp2_with fail)
     replace hrF := hrF.on hb
     replace hrB := hrB.on hb
     replace Pa0 := Pa0.on hb
     replace Pa1 := Pa1.on hb
     replace Pa2 := Pa2.on hb
     replace Pb0 := Pb0.on hb
     replace Pb1 := Pb1.on hb
     replace Pb2 := Pb2.on hb
     replace BW := BW.trans (hb.mono BW.size)
     clear hb
     refine hK.out _ _ (by exact ⟨Pa0.cs, Pa1.cs, Pb0.cs, Pb1.cs⟩) (fun hHeld => ?_)
     clear hK
     (try simp only [p0, p1, p2, p3])
     refine pR1 28 (fun K hK => ?_)
     go_simp
     (go_at_call 20; with_reducible refine (D.rturned HR M _).mono ?_)
     rintro _ w910 ⟨rfl, hb⟩
     (try go_wp2_with fail)
     replace hrF := hrF.on hb
     replace hrB := hrB.on hb
     replace Pa0 := Pa0.on hb
     replace Pa1 := Pa1.on hb
     replace Pa2 := Pa2.on hb
     replace Pb0 := Pb0.on hb
     replace Pb1 := Pb1.on hb
     replace Pb2 := Pb2.on hb
     replace BW := BW.trans (hb.mono BW.size)
     clear hb
     refine hK.out _ _ (by exact ⟨Pa0.cs, Pa1.cs, Pb0.cs, Pb1.cs⟩) (fun hHeld => ?_)
     clear hK
     (try simp only [p0, p1, p2, p3])
     refine pR1 29 (fun K hK => ?_)
     go_simp
     (go_at_call 39; with_reducible refine (same_eq (ok_any _) _).mono ?_)
     rintro _ w911 ⟨rfl, hb⟩
     (try go_wp2_with fail)
     replace hrF := hrF.on hb
     replace hrB := hrB.on hb
     replace Pa0 := Pa0.on hb
     replace Pa1 := Pa1.on hb
     replace Pa2 := Pa2.on hb
     replace Pb0 := Pb0.on hb
     replace Pb1 := Pb1.on hb
     replace Pb2 := Pb2.on hb
     replace BW := BW.trans (hb.mono BW.size)
     clear hb
     refine hK.out _ _ (by exact ⟨Pa0.cs, Pa1.cs, Pb0.cs, Pb1.cs⟩) (fun hHeld => ?_)
     clear hK
     (try simp only [p0, p1, p2, p3])
     refine pT 30 ?_
     (try simp only [p0, p1, p2, p3])
     refine pT 31 ?_
     (try simp only [p0, p1, p2, p3])
     refine wpAnyH_done (by kernel_rfl) (NoPanic.normal ?_) _
     go_wp2_with fail
     refine wp_region_noPanic ?_
     have hb : Below w911.heap.size w911 w911.drew := (Below.refl _ _).drew
     replace hrF := hrF.on hb
     replace hrB := hrB.on hb
     replace Pa0 := Pa0.on hb
     replace Pa1 := Pa1.on hb
     replace Pa2 := Pa2.on hb
     replace Pb0 := Pb0.on hb
     replace Pb1 := Pb1.on hb
     replace Pb2 := Pb2.on hb
     replace BW := BW.trans (hb.mono BW.size)
     clear hb
     refine wp_region_held_drew (S := (fun wx => Cs wx (ya0) 0 [.int .i64 M.a, .int .i64 M.b, .int .i64 M.c, .int .i64 M.d] ∧ Cs wx (ya1) 0 [.int .i64 N.a, .int .i64 N.b, .int .i64 N.c, .int .i64 N.d] ∧ Cs wx (ya2) 0 [.int .i64 O.a, .int .i64 O.b, .int .i64 O.c, .int .i64 O.d] ∧ Cs wx (yb0) 0 [.int .i64 3, .int .i64 M.a, .complex .f64 0 0, .int .i64 3, .int .i64 M.b, .complex .f64 0 0, .int .i64 3, .int .i64 M.c, .complex .f64 0 0, .int .i64 3, .int .i64 M.d, .complex .f64 0 0] ∧ Cs wx (yb1) 0 [.int .i64 3, .int .i64 N.a, .complex .f64 0 0, .int .i64 3, .int .i64 N.b, .complex .f64 0 0, .int .i64 3, .int .i64 N.c, .complex .f64 0 0, .int .i64 3, .int .i64 N.d, .complex .f64 0 0] ∧ Cs wx (yb2) 0 [.int .i64 3, .int .i64 O.a, .complex .f64 0 0, .int .i64 3, .int .i64 O.b, .complex .f64 0 0, .int .i64 3, .int .i64 O.c, .complex .f64 0 0, .int .i64 3, .int .i64 O.d, .complex .f64 0 0])) (by kernel_rfl) (by exact ⟨Pa0.cs, Pa1.cs, Pa2.cs, Pb0.cs, Pb1.cs, Pb2.cs⟩) (fun hHeld => ?_)
     generalize w911.drew = Vd912 at *
     refine pT 0 ?_
     (try simp only [p0, p1, p2, p3])
     refine pT 1 ?_
     (try simp only [p0, p1, p2, p3])
     refine pT 2 ?_
     (try simp only [p0, p1, p2, p3])
     refine pT 4 ?_
     (try simp only [p0, p1, p2, p3])
     refine pT 5 ?_
     (try simp only [p0, p1, p2, p3])
     refine pT 6 ?_
     (try simp only [p0, p1, p2, p3])
     refine pR1 3 (fun K hK => ?_)
     go_simp
     (go_at_call 44; with_reducible refine (powI hR rfl (by omega) rfl).mono ?_)
     rintro _ w913 ⟨rfl, hb⟩
     (try go_wp2_with fail)
     replace hrF := hrF.on hb
     replace hrB := hrB.on hb
     replace Pa0 := Pa0.on hb
     replace Pa1 := Pa1.on hb
     replace Pa2 := Pa2.on hb
     replace Pb0 := Pb0.on hb
     replace Pb1 := Pb1.on hb
     replace Pb2 := Pb2.on hb
     replace BW := BW.trans (hb.mono BW.size)
     clear hb
     refine hK.out _ _ (by exact ⟨Pa0.cs, Pa1.cs, Pa2.cs, Pb0.cs, Pb1.cs, Pb2.cs⟩) (fun hHeld => ?_)
     clear hK
     (try simp only [p0, p1, p2, p3])
     refine pR1 7 (fun K hK => ?_)
     go_simp
     (go_at_call 22; with_reducible refine (D.rpowI HR rfl (by omega)).mono ?_)
     rintro _ w914 ⟨rfl, hb⟩
     (try go_wp2_with fail)
     replace hrF := hrF.on hb
     replace hrB := hrB.on hb
     replace Pa0 := Pa0.on hb
     replace Pa1 := Pa1.on hb
     replace Pa2 := Pa2.on hb
     replace Pb0 := Pb0.on hb
     replace Pb1 := Pb1.on hb
     replace Pb2 := Pb2.on hb
     replace BW := BW.trans (hb.mono BW.size)
     clear hb
     refine hK.out _ _ (by exact ⟨Pa0.cs, Pa1.cs, Pa2.cs, Pb0.cs, Pb1.cs, Pb2.cs⟩) (fun hHeld => ?_)
     clear hK
     (try simp only [p0, p1, p2, p3])
     refine pR1 8 (fun K hK => ?_)
     go_simp
     (go_at_call 39; with_reducible refine (same_eq (ok_any _) _).mono ?_)
     rintro _ w915 ⟨rfl, hb⟩
     (try go_wp2_with fail)
     replace hrF := hrF.on hb
     replace hrB := hrB.on hb
     replace Pa0 := Pa0.on hb
     replace Pa1 := Pa1.on hb
     replace Pa2 := Pa2.on hb
     replace Pb0 := Pb0.on hb
     replace Pb1 := Pb1.on hb
     replace Pb2 := Pb2.on hb
     replace BW := BW.trans (hb.mono BW.size)
     clear hb
     refine hK.out _ _ (by exact ⟨Pa0.cs, Pa1.cs, Pa2.cs, Pb0.cs, Pb1.cs, Pb2.cs⟩) (fun hHeld => ?_)
     clear hK
     (try simp only [p0, p1, p2, p3])
     refine pT 9 ?_
     (try simp only [p0, p1, p2, p3])
     refine pT 10 ?_
     (try simp only [p0, p1, p2, p3])
     refine pT 11 ?_
     (try simp only [p0, p1, p2, p3])
     refine pT 13 ?_
     (try simp only [p0, p1, p2, p3])
     refine pT 14 ?_
     (try simp only [p0, p1, p2, p3])
     refine pR1 12 (fun K hK => ?_)
     go_simp
     (go_at_call 45; with_reducible refine (chain_any hR hrF rfl).mono ?_)
     rintro _ w916 ⟨rfl, hb⟩
     (try go_wp2_with fail)
     replace hrB := hrB.on hb
     replace Pa0 := Pa0.on hb
     replace Pa1 := Pa1.on hb
     replace Pa2 := Pa2.on hb
     replace Pb0 := Pb0.on hb
     replace Pb1 := Pb1.on hb
     replace Pb2 := Pb2.on hb
     replace BW := BW.trans (hb.mono BW.size)
     clear hb
     refine hK.out _ _ (by exact ⟨Pa0.cs, Pa1.cs, Pa2.cs, Pb0.cs, Pb1.cs, Pb2.cs⟩) (fun hHeld => ?_)
     clear hK
     (try simp only [p0, p1, p2, p3])
     refine pR1 15 (fun K hK => ?_)
     go_simp
     (go_at_call 24; with_reducible refine (D.rchain HR hrB).mono ?_)
     rintro _ w917 ⟨rfl, hb⟩
     (try go_wp2_with fail)
     replace Pa0 := Pa0.on hb
     replace Pa1 := Pa1.on hb
     replace Pa2 := Pa2.on hb
     replace Pb0 := Pb0.on hb
     replace Pb1 := Pb1.on hb
     replace Pb2 := Pb2.on hb
     replace BW := BW.trans (hb.mono BW.size)
     clear hb
     refine hK.out _ _ (by exact ⟨Pa0.cs, Pa1.cs, Pa2.cs, Pb0.cs, Pb1.cs, Pb2.cs⟩) (fun hHeld => ?_)
     clear hK
     (try simp only [p0, p1, p2, p3])
     refine pR1 16 (fun K hK => ?_)
     go_simp
     (go_at_call 39; with_reducible refine (same_eq (ok_any _) _).mono ?_)
     rintro _ w918 ⟨rfl, hb⟩
     (try go_wp2_with fail)
     replace Pa0 := Pa0.on hb
     replace Pa1 := Pa1.on hb
     replace Pa2 := Pa2.on hb
     replace Pb0 := Pb0.on hb
     replace Pb1 := Pb1.on hb
     replace Pb2 := Pb2.on hb
     replace BW := BW.trans (hb.mono BW.size)
     clear hb
     refine hK.out _ _ (by exact ⟨Pa0.cs, Pa1.cs, Pa2.cs, Pb0.cs, Pb1.cs, Pb2.cs⟩) (fun hHeld => ?_)
     clear hK
     (try simp only [p0, p1, p2, p3])
     refine pT 17 ?_
     (try simp only [p0, p1, p2, p3])
     refine pT 18 ?_
     (try simp only [p0, p1, p2, p3])
     refine pT 19 ?_
     (try simp only [p0, p1, p2, p3])
     refine pT 20 ?_
     (try simp only [p0, p1, p2, p3])
     refine pT 22 ?_
     (try simp only [p0, p1, p2, p3])
     refine pT 23 ?_
     (try simp only [p0, p1, p2, p3])
     refine pR1 21 (fun K hK => ?_)
     go_simp
     (go_at_call 46; with_reducible refine (like M N _).mono ?_)
     rintro _ w919 ⟨rfl, hb⟩
     (try go_wp2_with fail)
     replace Pa0 := Pa0.on hb
     replace Pa1 := Pa1.on hb
     replace Pa2 := Pa2.on hb
     replace Pb0 := Pb0.on hb
     replace Pb1 := Pb1.on hb
     replace Pb2 := Pb2.on hb
     replace BW := BW.trans (hb.mono BW.size)
     clear hb
     refine hK.out _ _ (by exact ⟨Pa0.cs, Pa1.cs, Pa2.cs, Pb0.cs, Pb1.cs, Pb2.cs⟩) (fun hHeld => ?_)
     clear hK
     (try simp only [p0, p1, p2, p3])
     refine pR1 24 (fun K hK => ?_)
     go_simp
     (go_at_call 26; with_reducible refine (D.rlike HR M N _).mono ?_)
     rintro _ w920 ⟨rfl, hb⟩
     (try go_wp2_with fail)
     replace Pa0 := Pa0.on hb
     replace Pa1 := Pa1.on hb
     replace Pa2 := Pa2.on hb
     replace Pb0 := Pb0.on hb
     replace Pb1 := Pb1.on hb
     replace Pb2 := Pb2.on hb
     replace BW := BW.trans (hb.mono BW.size)
     clear hb
     refine hK.out _ _ (by exact ⟨Pa0.cs, Pa1.cs, Pa2.cs, Pb0.cs, Pb1.cs, Pb2.cs⟩) (fun hHeld => ?_)
     clear hK
     (try simp only [p0, p1, p2, p3])
     refine pT 25 ?_
     (try simp only [p0, p1, p2, p3])
     refine pT 26 ?_
     (try simp only [p0, p1, p2, p3])
     refine pT 27 ?_
     (try simp only [p0, p1, p2, p3])
     refine pR1 28 (fun K hK => ?_)
     go_simp
     (go_at_call 27; with_reducible refine (W.lives _).mono ?_)
     rintro _ w921 ⟨rfl, hb⟩
     (try go_wp2_with fail)
     replace Pa0 := Pa0.on hb
     replace Pa1 := Pa1.on hb
     replace Pa2 := Pa2.on hb
     replace Pb0 := Pb0.on hb
     replace Pb1 := Pb1.on hb
     replace Pb2 := Pb2.on hb
     replace BW := BW.trans (hb.mono BW.size)
     clear hb
     refine hK.out _ _ (by exact ⟨Pa0.cs, Pa1.cs, Pa2.cs, Pb0.cs, Pb1.cs, Pb2.cs⟩) (fun hHeld => ?_)
     clear hK
     (try simp only [p0, p1, p2, p3])
     refine pT 29 ?_
     (try simp only [p0, p1, p2, p3])
     refine pT 30 ?_
     (try simp only [p0, p1, p2, p3])
     refine wpAnyH_done (by kernel_rfl) (NoPanic.normal ?_) _
     go_wp2
     go_ret; exact ⟨rfl, BW⟩
end Go.Proofs.Ytgoackkfjieahaa.T
