/-
  The matrix of two benches, one behind the other, is the product of both: yes. Conditions: that benches are no longer than memory.
-/
import Derived.Test.YtjamfkafgfpobaaGreatXtb
import Derived.Test.YtjamfkafgfpobaaGreatBc3
import Derived.Test.YtjamfkafgfpobaaGreatRgm
import Derived.Test.YtjamfkafgfpobaaGreatRlc
import Derived.Deep.RegionHeld3
import Derived.Deep.DeepCutAuto
import Derived.BigRegion
namespace Go.Proofs.YtjamfkafgfpobaaGreat
open Go.RowKit Nb
set_option maxHeartbeats 16000000 in
set_option maxRecDepth 100000 in
theorem joins_walk {a b : Option Addr} {c d : Nat} {es ds : List Ev} {w : World} (S : Sle w a c es) (T : Sle w b d ds) :
    Calls Tryz.prog 3 #[.slice a es.length c, .slice b ds.length d] w (fun e w' => e = .returned (.bool true) ∧ Below w.heap.size w w') := by
 have HS := Lib.hid S
 have HT := Lib.hid T
 clear S T
 have BW : Below w.heap.size w w := Below.refl _ _
 go_enter Tryz.func3, Tryz.ntmps3
 go_wp2_with fail
 refine (b_alive).mono ?_
 rintro _ w1 ⟨rfl, hb⟩
 replace BW := BW.trans (hb.mono BW.size)
 clear hb
 go_wp2_with fail
 have BW0 := Lib.hid BW
 refine (b_fits (HS.out.on BW) (HT.out.on BW)).mono ?_
 rintro _ w2 ⟨r, rfl, hr, hb⟩
 replace BW := BW.trans (hb.mono BW.size)
 clear hb
 have HR := Lib.hid hr
 clear hr
 rcases Bool.eq_false_or_eq_true r with rfl | rfl
 · obtain ⟨hl, hm1, hm2⟩ := HR.out (by trivial)
   clear HR
   obtain ⟨zs, F1⟩ := (hm1.at HS.out.2.2.1).fes
   obtain ⟨ys, F2⟩ := (hm2.at HT.out.2.2.1).fes
   have HL := Lib.hid hl
   clear hm1 hm2 hl
   replace F1 := F1.kp (Kept.of BW)
   replace F2 := F2.kp (Kept.of BW)
   go_wp2_with fail
   refine (b_Matrix (HS.out.on BW) F1 (by have := HL.out; omega)).mono ?_
   rintro _ w3 ⟨m1, e1, rfl, h1, hb⟩
   replace F1 := F1.kp (Kept.of hb)
   replace F2 := F2.kp (Kept.of hb)
   replace BW := BW.trans (hb.mono BW.size)
   clear hb
   obtain ⟨V4, e5, hb6, K7, Z8, -⟩ := alloc_new w3 [.bool m1.A.n, .slice m1.A.A m1.A.xs.length m1.A.c, .bool m1.A.m, .slice m1.A.B m1.A.ds.length m1.A.d, .bool m1.B.n, .slice m1.B.A m1.B.xs.length m1.B.c, .bool m1.B.m, .slice m1.B.B m1.B.ds.length m1.B.d, .bool m1.C.n, .slice m1.C.A m1.C.xs.length m1.C.c, .bool m1.C.m, .slice m1.C.B m1.C.ds.length m1.C.d, .bool m1.D.n, .slice m1.D.A m1.D.xs.length m1.D.c, .bool m1.D.m, .slice m1.D.B m1.D.ds.length m1.D.d] 31
   replace K7 : Box V4 (w3.heap.size) (mcs m1) := K7
   have g9 : w.heap.size ≤ w3.heap.size := BW.size
   replace F1 := F1.kp (Kept.of hb6)
   replace F2 := F2.kp (Kept.of hb6)
   replace h1 := h1.kp (Kept.of hb6)
   replace BW := BW.trans (hb6.mono BW.size)
   clear hb6
   go_wp2_with (first | (refine wpList_stNew (by rfl) (by rfl) (by rfl) (by rfl) (by rfl) (by rfl) (by rfl) ?_))
   rw [← e5]
   clear e5
   generalize w3.heap.size = b10 at *
   refine (b_Matrix (HT.out.on BW) F2 (by have := HL.out; omega)).mono ?_
   rintro _ w11 ⟨m2, e2, rfl, h2, hb⟩
   replace K7 := K7.on hb
   replace F1 := F1.kp (Kept.of hb)
   replace F2 := F2.kp (Kept.of hb)
   replace h1 := h1.kp (Kept.of hb)
   replace BW := BW.trans (hb.mono BW.size)
   clear hb
   obtain ⟨V12, e13, hb14, K15, Z16, -⟩ := alloc_new w11 [.bool m2.A.n, .slice m2.A.A m2.A.xs.length m2.A.c, .bool m2.A.m, .slice m2.A.B m2.A.ds.length m2.A.d, .bool m2.B.n, .slice m2.B.A m2.B.xs.length m2.B.c, .bool m2.B.m, .slice m2.B.B m2.B.ds.length m2.B.d, .bool m2.C.n, .slice m2.C.A m2.C.xs.length m2.C.c, .bool m2.C.m, .slice m2.C.B m2.C.ds.length m2.C.d, .bool m2.D.n, .slice m2.D.A m2.D.xs.length m2.D.c, .bool m2.D.m, .slice m2.D.B m2.D.ds.length m2.D.d] 31
   replace K15 : Box V12 (w11.heap.size) (mcs m2) := K15
   have n17 : b10 ≠ w11.heap.size := Nat.ne_of_lt (K7.lt)
   have g18 : w.heap.size ≤ w11.heap.size := BW.size
   replace K7 := K7.on hb14
   replace F1 := F1.kp (Kept.of hb14)
   replace F2 := F2.kp (Kept.of hb14)
   replace h1 := h1.kp (Kept.of hb14)
   replace h2 := h2.kp (Kept.of hb14)
   replace BW := BW.trans (hb14.mono BW.size)
   clear hb14
   go_wp2_with (first | (refine wpList_stNew (by rfl) (by rfl) (by rfl) (by rfl) (by rfl) (by rfl) (by rfl) ?_))
   rw [← e13]
   clear e13
   generalize w11.heap.size = b19 at *
   refine (b_join (HS.out.on BW) (HT.out.on BW) HL.out).mono ?_
   rintro _ w20 ⟨a3, c3, rfl, S3, hb⟩
   replace K7 := K7.on hb
   replace K15 := K15.on hb
   replace F1 := F1.kp (Kept.of hb)
   replace F2 := F2.kp (Kept.of hb)
   replace h1 := h1.kp (Kept.of hb)
   replace h2 := h2.kp (Kept.of hb)
   replace BW := BW.trans (hb.mono BW.size)
   clear hb
   have hgl : (es ++ ds).length ≤ 4096 := by rw [List.length_append]; exact HL.out
   generalize hgs : es ++ ds = gs at *
   have HGS := Lib.hid hgs
   have HGL := Lib.hid hgl
   clear hgs hgl
   have BWJ : Below w20.heap.size w20 w20 := Below.refl _ _
   go_wp2_with fail
   refine (b_Matrix (S3.on BWJ) (HGS.out ▸ F1.app F2) HGL.out).mono ?_
   rintro _ w21 ⟨m3, e3, rfl, h3, hb⟩
   replace K7 := K7.on hb
   replace K15 := K15.on hb
   replace F1 := F1.kp (Kept.of hb)
   replace F2 := F2.kp (Kept.of hb)
   replace h1 := h1.kp (Kept.of hb)
   replace h2 := h2.kp (Kept.of hb)
   replace BW := BW.trans (hb.mono BW.size)
   clear hb
   clear F1 F2
   rcases h1 with ⟨rfl, hF1, M1⟩ | ⟨rfl, -⟩
   · rcases h2 with ⟨rfl, hF2, M2⟩ | ⟨rfl, -⟩
     · rcases h3 with ⟨rfl, hF3, M3⟩ | ⟨rfl, -⟩
       · have HF3 := Lib.hid hF3
         clear hF1 hF2 hF3
         obtain ⟨V22, e23, hb24, K25, Z26, -⟩ := alloc_new w21 [.bool m3.A.n, .slice m3.A.A m3.A.xs.length m3.A.c, .bool m3.A.m, .slice m3.A.B m3.A.ds.length m3.A.d, .bool m3.B.n, .slice m3.B.A m3.B.xs.length m3.B.c, .bool m3.B.m, .slice m3.B.B m3.B.ds.length m3.B.d, .bool m3.C.n, .slice m3.C.A m3.C.xs.length m3.C.c, .bool m3.C.m, .slice m3.C.B m3.C.ds.length m3.C.d, .bool m3.D.n, .slice m3.D.A m3.D.xs.length m3.D.c, .bool m3.D.m, .slice m3.D.B m3.D.ds.length m3.D.d] 31
         replace K25 : Box V22 (w21.heap.size) (mcs m3) := K25
         have n27 : b10 ≠ w21.heap.size := Nat.ne_of_lt (K7.lt)
         have n28 : b19 ≠ w21.heap.size := Nat.ne_of_lt (K15.lt)
         have g29 : w.heap.size ≤ w21.heap.size := BW.size
         replace K7 := K7.on hb24
         replace K15 := K15.on hb24
         replace M1 := M1.kp (Kept.of hb24)
         replace M2 := M2.kp (Kept.of hb24)
         replace M3 := M3.kp (Kept.of hb24)
         replace BW := BW.trans (hb24.mono BW.size)
         clear hb24
         go_upto_region 6 with (first | (refine wpList_stNew (by rfl) (by rfl) (by rfl) (by rfl) (by rfl) (by rfl) (by rfl) ?_))
         rw [← e23]
         clear e23
         generalize w21.heap.size = b30 at *
         go_upto_region 8 with fail
         have c31 : Box V22 (b19) [.bool m2.A.n, .slice m2.A.A m2.A.xs.length m2.A.c, .bool m2.A.m, .slice m2.A.B m2.A.ds.length m2.A.d, .bool m2.B.n, .slice m2.B.A m2.B.xs.length m2.B.c, .bool m2.B.m, .slice m2.B.B m2.B.ds.length m2.B.d, .bool m2.C.n, .slice m2.C.A m2.C.xs.length m2.C.c, .bool m2.C.m, .slice m2.C.B m2.C.ds.length m2.C.d, .bool m2.D.n, .slice m2.D.A m2.D.xs.length m2.D.c, .bool m2.D.m, .slice m2.D.B m2.D.ds.length m2.D.d] := K15
         have c32 : Box V22 (b10) [.bool m1.A.n, .slice m1.A.A m1.A.xs.length m1.A.c, .bool m1.A.m, .slice m1.A.B m1.A.ds.length m1.A.d, .bool m1.B.n, .slice m1.B.A m1.B.xs.length m1.B.c, .bool m1.B.m, .slice m1.B.B m1.B.ds.length m1.B.d, .bool m1.C.n, .slice m1.C.A m1.C.xs.length m1.C.c, .bool m1.C.m, .slice m1.C.B m1.C.ds.length m1.C.d, .bool m1.D.n, .slice m1.D.A m1.D.xs.length m1.D.c, .bool m1.D.m, .slice m1.D.B m1.D.ds.length m1.D.d] := K7
         go_wp2_with (first | (refine wpList_ldM (by rfl) (by rfl) (by rfl) c31 (by rfl) ?_) | (refine wpList_ldM (by rfl) (by rfl) (by rfl) c32 (by rfl) ?_))
         clear c31 c32
         refine (y_Mul M2 M1 (benchM_det _) (benchM_det _)).mono ?_
         rintro _ w33 ⟨p, ep, rfl, hp, hb⟩
         replace K7 := K7.on hb
         replace K15 := K15.on hb
         replace K25 := K25.on hb
         replace Z26 := Z26.on hb
         replace M1 := M1.kp (Kept.of hb)
         replace M2 := M2.kp (Kept.of hb)
         replace M3 := M3.kp (Kept.of hb)
         replace BW := BW.trans (hb.mono BW.size)
         clear hb
         obtain ⟨rfl, MP⟩ := hp.yes (by rw [← benchM_app]; exact HF3.out)
         clear hp
         obtain ⟨V34, e35, hb36, K37, Z38, -⟩ := alloc_new w33 [.bool p.A.n, .slice p.A.A p.A.xs.length p.A.c, .bool p.A.m, .slice p.A.B p.A.ds.length p.A.d, .bool p.B.n, .slice p.B.A p.B.xs.length p.B.c, .bool p.B.m, .slice p.B.B p.B.ds.length p.B.d, .bool p.C.n, .slice p.C.A p.C.xs.length p.C.c, .bool p.C.m, .slice p.C.B p.C.ds.length p.C.d, .bool p.D.n, .slice p.D.A p.D.xs.length p.D.c, .bool p.D.m, .slice p.D.B p.D.ds.length p.D.d] 31
         replace K37 : Box V34 (w33.heap.size) (mcs p) := K37
         have n39 : b10 ≠ w33.heap.size := Nat.ne_of_lt (K7.lt)
         have n40 : b19 ≠ w33.heap.size := Nat.ne_of_lt (K15.lt)
         have n41 : b30 ≠ w33.heap.size := Nat.ne_of_lt (K25.lt)
         have g42 : w.heap.size ≤ w33.heap.size := BW.size
         replace K7 := K7.on hb36
         replace K15 := K15.on hb36
         replace K25 := K25.on hb36
         replace Z26 := Z26.on hb36
         replace M1 := M1.kp (Kept.of hb36)
         replace M2 := M2.kp (Kept.of hb36)
         replace M3 := M3.kp (Kept.of hb36)
         replace MP := MP.kp (Kept.of hb36)
         replace BW := BW.trans (hb36.mono BW.size)
         clear hb36
         go_upto_region 9 with (first | (refine wpList_stNew (by rfl) (by rfl) (by rfl) (by rfl) (by rfl) (by rfl) (by rfl) ?_))
         rw [← e35]
         clear e35
         generalize w33.heap.size = b43 at *
         have c44 : Box V34 (b43) [.bool p.A.n, .slice p.A.A p.A.xs.length p.A.c, .bool p.A.m, .slice p.A.B p.A.ds.length p.A.d, .bool p.B.n, .slice p.B.A p.B.xs.length p.B.c, .bool p.B.m, .slice p.B.B p.B.ds.length p.B.d, .bool p.C.n, .slice p.C.A p.C.xs.length p.C.c, .bool p.C.m, .slice p.C.B p.C.ds.length p.C.d, .bool p.D.n, .slice p.D.A p.D.xs.length p.D.c, .bool p.D.m, .slice p.D.B p.D.ds.length p.D.d] := K37
         have c45 : Box V34 (b30) [.bool m3.A.n, .slice m3.A.A m3.A.xs.length m3.A.c, .bool m3.A.m, .slice m3.A.B m3.A.ds.length m3.A.d, .bool m3.B.n, .slice m3.B.A m3.B.xs.length m3.B.c, .bool m3.B.m, .slice m3.B.B m3.B.ds.length m3.B.d, .bool m3.C.n, .slice m3.C.A m3.C.xs.length m3.C.c, .bool m3.C.m, .slice m3.C.B m3.C.ds.length m3.C.d, .bool m3.D.n, .slice m3.D.A m3.D.xs.length m3.D.c, .bool m3.D.m, .slice m3.D.B m3.D.ds.length m3.D.d] := K25
         go_wp2_with (first | (refine wpList_ldG (by rfl) (by rfl) (by rfl) c44 (by rfl) ?_) | (refine wpList_ldG (by rfl) (by rfl) (by rfl) c45 (by rfl) ?_))
         clear c44 c45
         refine (y_sameM MP (M3.to (benchM_app zs ys))).mono ?_
         rintro _ w46 ⟨rfl, hb⟩
         replace K7 := K7.on hb
         replace K15 := K15.on hb
         replace K25 := K25.on hb
         replace Z26 := Z26.on hb
         replace M1 := M1.kp (Kept.of hb)
         replace M2 := M2.kp (Kept.of hb)
         replace M3 := M3.kp (Kept.of hb)
         replace BW := BW.trans (hb.mono BW.size)
         clear hb
         have c47 : Box w46 (b10) [.bool m1.A.n, .slice m1.A.A m1.A.xs.length m1.A.c, .bool m1.A.m, .slice m1.A.B m1.A.ds.length m1.A.d, .bool m1.B.n, .slice m1.B.A m1.B.xs.length m1.B.c, .bool m1.B.m, .slice m1.B.B m1.B.ds.length m1.B.d, .bool m1.C.n, .slice m1.C.A m1.C.xs.length m1.C.c, .bool m1.C.m, .slice m1.C.B m1.C.ds.length m1.C.d, .bool m1.D.n, .slice m1.D.A m1.D.xs.length m1.D.c, .bool m1.D.m, .slice m1.D.B m1.D.ds.length m1.D.d] := K7
         go_wp2_with (first | (refine wpList_ldG (by rfl) (by rfl) (by rfl) c47 (by rfl) ?_))
         clear c47
         refine (y_check0 M1 (benchM_det _)).mono ?_
         rintro _ w48 ⟨rfl, hb⟩
         replace K7 := K7.on hb
         replace K15 := K15.on hb
         replace K25 := K25.on hb
         replace Z26 := Z26.on hb
         replace M2 := M2.kp (Kept.of hb)
         replace M3 := M3.kp (Kept.of hb)
         replace BW := BW.trans (hb.mono BW.size)
         clear hb
         have c49 : Box w48 (b19) [.bool m2.A.n, .slice m2.A.A m2.A.xs.length m2.A.c, .bool m2.A.m, .slice m2.A.B m2.A.ds.length m2.A.d, .bool m2.B.n, .slice m2.B.A m2.B.xs.length m2.B.c, .bool m2.B.m, .slice m2.B.B m2.B.ds.length m2.B.d, .bool m2.C.n, .slice m2.C.A m2.C.xs.length m2.C.c, .bool m2.C.m, .slice m2.C.B m2.C.ds.length m2.C.d, .bool m2.D.n, .slice m2.D.A m2.D.xs.length m2.D.c, .bool m2.D.m, .slice m2.D.B m2.D.ds.length m2.D.d] := K15
         go_wp2_with (first | (refine wpList_ldG (by rfl) (by rfl) (by rfl) c49 (by rfl) ?_))
         clear c49
         refine (y_check0 M2 (benchM_det _)).mono ?_
         rintro _ w50 ⟨rfl, hb⟩
         replace K7 := K7.on hb
         replace K15 := K15.on hb
         replace K25 := K25.on hb
         replace Z26 := Z26.on hb
         replace M2 := M2.kp (Kept.of hb)
         replace M3 := M3.kp (Kept.of hb)
         replace BW := BW.trans (hb.mono BW.size)
         clear hb
         have c51 : Box w50 (b30) [.bool m3.A.n, .slice m3.A.A m3.A.xs.length m3.A.c, .bool m3.A.m, .slice m3.A.B m3.A.ds.length m3.A.d, .bool m3.B.n, .slice m3.B.A m3.B.xs.length m3.B.c, .bool m3.B.m, .slice m3.B.B m3.B.ds.length m3.B.d, .bool m3.C.n, .slice m3.C.A m3.C.xs.length m3.C.c, .bool m3.C.m, .slice m3.C.B m3.C.ds.length m3.C.d, .bool m3.D.n, .slice m3.D.A m3.D.xs.length m3.D.c, .bool m3.D.m, .slice m3.D.B m3.D.ds.length m3.D.d] := K25
         go_wp2_with (first | (refine wpList_ldG (by rfl) (by rfl) (by rfl) c51 (by rfl) ?_))
         clear c51
         refine (y_check0 M3 (benchM_det _)).mono ?_
         rintro _ w52 ⟨rfl, hb⟩
         replace K7 := K7.on hb
         replace K15 := K15.on hb
         replace K25 := K25.on hb
         replace Z26 := Z26.on hb
         replace M2 := M2.kp (Kept.of hb)
         replace M3 := M3.kp (Kept.of hb)
         replace BW := BW.trans (hb.mono BW.size)
         clear hb
         go_wp2_with fail
         exact bodyPost_ret (v := .bool true) (by simp [results, Tryz.results3, go_sem]) rfl ⟨rfl, BW⟩
       · obtain ⟨V22, e23, hb24, K25, Z26, -⟩ := alloc_new w21 [.bool m3.A.n, .slice m3.A.A m3.A.xs.length m3.A.c, .bool m3.A.m, .slice m3.A.B m3.A.ds.length m3.A.d, .bool m3.B.n, .slice m3.B.A m3.B.xs.length m3.B.c, .bool m3.B.m, .slice m3.B.B m3.B.ds.length m3.B.d, .bool m3.C.n, .slice m3.C.A m3.C.xs.length m3.C.c, .bool m3.C.m, .slice m3.C.B m3.C.ds.length m3.C.d, .bool m3.D.n, .slice m3.D.A m3.D.xs.length m3.D.c, .bool m3.D.m, .slice m3.D.B m3.D.ds.length m3.D.d] 31
         replace K25 : Box V22 (w21.heap.size) (mcs m3) := K25
         have n27 : b10 ≠ w21.heap.size := Nat.ne_of_lt (K7.lt)
         have n28 : b19 ≠ w21.heap.size := Nat.ne_of_lt (K15.lt)
         have g29 : w.heap.size ≤ w21.heap.size := BW.size
         replace K7 := K7.on hb24
         replace K15 := K15.on hb24
         replace M2 := M2.kp (Kept.of hb24)
         replace BW := BW.trans (hb24.mono BW.size)
         clear hb24
         go_wp2_with (first | (refine wpList_stNew (by rfl) (by rfl) (by rfl) (by rfl) (by rfl) (by rfl) (by rfl) ?_))
         rw [← e23]
         clear e23
         generalize w21.heap.size = b30 at *
         exact bodyPost_ret (v := .bool true) (by simp [results, Tryz.results3, go_sem]) rfl ⟨rfl, BW⟩
     · rcases h3 with ⟨rfl, hF3, M3⟩ | ⟨rfl, -⟩
       · obtain ⟨V22, e23, hb24, K25, Z26, -⟩ := alloc_new w21 [.bool m3.A.n, .slice m3.A.A m3.A.xs.length m3.A.c, .bool m3.A.m, .slice m3.A.B m3.A.ds.length m3.A.d, .bool m3.B.n, .slice m3.B.A m3.B.xs.length m3.B.c, .bool m3.B.m, .slice m3.B.B m3.B.ds.length m3.B.d, .bool m3.C.n, .slice m3.C.A m3.C.xs.length m3.C.c, .bool m3.C.m, .slice m3.C.B m3.C.ds.length m3.C.d, .bool m3.D.n, .slice m3.D.A m3.D.xs.length m3.D.c, .bool m3.D.m, .slice m3.D.B m3.D.ds.length m3.D.d] 31
         replace K25 : Box V22 (w21.heap.size) (mcs m3) := K25
         have n27 : b10 ≠ w21.heap.size := Nat.ne_of_lt (K7.lt)
         have n28 : b19 ≠ w21.heap.size := Nat.ne_of_lt (K15.lt)
         have g29 : w.heap.size ≤ w21.heap.size := BW.size
         replace K7 := K7.on hb24
         replace K15 := K15.on hb24
         replace M3 := M3.kp (Kept.of hb24)
         replace BW := BW.trans (hb24.mono BW.size)
         clear hb24
         go_wp2_with (first | (refine wpList_stNew (by rfl) (by rfl) (by rfl) (by rfl) (by rfl) (by rfl) (by rfl) ?_))
         rw [← e23]
         clear e23
         generalize w21.heap.size = b30 at *
         exact bodyPost_ret (v := .bool true) (by simp [results, Tryz.results3, go_sem]) rfl ⟨rfl, BW⟩
       · obtain ⟨V22, e23, hb24, K25, Z26, -⟩ := alloc_new w21 [.bool m3.A.n, .slice m3.A.A m3.A.xs.length m3.A.c, .bool m3.A.m, .slice m3.A.B m3.A.ds.length m3.A.d, .bool m3.B.n, .slice m3.B.A m3.B.xs.length m3.B.c, .bool m3.B.m, .slice m3.B.B m3.B.ds.length m3.B.d, .bool m3.C.n, .slice m3.C.A m3.C.xs.length m3.C.c, .bool m3.C.m, .slice m3.C.B m3.C.ds.length m3.C.d, .bool m3.D.n, .slice m3.D.A m3.D.xs.length m3.D.c, .bool m3.D.m, .slice m3.D.B m3.D.ds.length m3.D.d] 31
         replace K25 : Box V22 (w21.heap.size) (mcs m3) := K25
         have n27 : b10 ≠ w21.heap.size := Nat.ne_of_lt (K7.lt)
         have n28 : b19 ≠ w21.heap.size := Nat.ne_of_lt (K15.lt)
         have g29 : w.heap.size ≤ w21.heap.size := BW.size
         replace K7 := K7.on hb24
         replace K15 := K15.on hb24
         replace BW := BW.trans (hb24.mono BW.size)
         clear hb24
         go_wp2_with (first | (refine wpList_stNew (by rfl) (by rfl) (by rfl) (by rfl) (by rfl) (by rfl) (by rfl) ?_))
         rw [← e23]
         clear e23
         generalize w21.heap.size = b30 at *
         exact bodyPost_ret (v := .bool true) (by simp [results, Tryz.results3, go_sem]) rfl ⟨rfl, BW⟩
   · rcases h2 with ⟨rfl, hF2, M2⟩ | ⟨rfl, -⟩
     · rcases h3 with ⟨rfl, hF3, M3⟩ | ⟨rfl, -⟩
       · obtain ⟨V22, e23, hb24, K25, Z26, -⟩ := alloc_new w21 [.bool m3.A.n, .slice m3.A.A m3.A.xs.length m3.A.c, .bool m3.A.m, .slice m3.A.B m3.A.ds.length m3.A.d, .bool m3.B.n, .slice m3.B.A m3.B.xs.length m3.B.c, .bool m3.B.m, .slice m3.B.B m3.B.ds.length m3.B.d, .bool m3.C.n, .slice m3.C.A m3.C.xs.length m3.C.c, .bool m3.C.m, .slice m3.C.B m3.C.ds.length m3.C.d, .bool m3.D.n, .slice m3.D.A m3.D.xs.length m3.D.c, .bool m3.D.m, .slice m3.D.B m3.D.ds.length m3.D.d] 31
         replace K25 : Box V22 (w21.heap.size) (mcs m3) := K25
         have n27 : b10 ≠ w21.heap.size := Nat.ne_of_lt (K7.lt)
         have n28 : b19 ≠ w21.heap.size := Nat.ne_of_lt (K15.lt)
         have g29 : w.heap.size ≤ w21.heap.size := BW.size
         replace K7 := K7.on hb24
         replace K15 := K15.on hb24
         replace M3 := M3.kp (Kept.of hb24)
         replace BW := BW.trans (hb24.mono BW.size)
         clear hb24
         go_wp2_with (first | (refine wpList_stNew (by rfl) (by rfl) (by rfl) (by rfl) (by rfl) (by rfl) (by rfl) ?_))
         rw [← e23]
         clear e23
         generalize w21.heap.size = b30 at *
         exact bodyPost_ret (v := .bool true) (by simp [results, Tryz.results3, go_sem]) rfl ⟨rfl, BW⟩
       · obtain ⟨V22, e23, hb24, K25, Z26, -⟩ := alloc_new w21 [.bool m3.A.n, .slice m3.A.A m3.A.xs.length m3.A.c, .bool m3.A.m, .slice m3.A.B m3.A.ds.length m3.A.d, .bool m3.B.n, .slice m3.B.A m3.B.xs.length m3.B.c, .bool m3.B.m, .slice m3.B.B m3.B.ds.length m3.B.d, .bool m3.C.n, .slice m3.C.A m3.C.xs.length m3.C.c, .bool m3.C.m, .slice m3.C.B m3.C.ds.length m3.C.d, .bool m3.D.n, .slice m3.D.A m3.D.xs.length m3.D.c, .bool m3.D.m, .slice m3.D.B m3.D.ds.length m3.D.d] 31
         replace K25 : Box V22 (w21.heap.size) (mcs m3) := K25
         have n27 : b10 ≠ w21.heap.size := Nat.ne_of_lt (K7.lt)
         have n28 : b19 ≠ w21.heap.size := Nat.ne_of_lt (K15.lt)
         have g29 : w.heap.size ≤ w21.heap.size := BW.size
         replace K7 := K7.on hb24
         replace K15 := K15.on hb24
         replace BW := BW.trans (hb24.mono BW.size)
         clear hb24
         go_wp2_with (first | (refine wpList_stNew (by rfl) (by rfl) (by rfl) (by rfl) (by rfl) (by rfl) (by rfl) ?_))
         rw [← e23]
         clear e23
         generalize w21.heap.size = b30 at *
         exact bodyPost_ret (v := .bool true) (by simp [results, Tryz.results3, go_sem]) rfl ⟨rfl, BW⟩
     · rcases h3 with ⟨rfl, hF3, M3⟩ | ⟨rfl, -⟩
       · obtain ⟨V22, e23, hb24, K25, Z26, -⟩ := alloc_new w21 [.bool m3.A.n, .slice m3.A.A m3.A.xs.length m3.A.c, .bool m3.A.m, .slice m3.A.B m3.A.ds.length m3.A.d, .bool m3.B.n, .slice m3.B.A m3.B.xs.length m3.B.c, .bool m3.B.m, .slice m3.B.B m3.B.ds.length m3.B.d, .bool m3.C.n, .slice m3.C.A m3.C.xs.length m3.C.c, .bool m3.C.m, .slice m3.C.B m3.C.ds.length m3.C.d, .bool m3.D.n, .slice m3.D.A m3.D.xs.length m3.D.c, .bool m3.D.m, .slice m3.D.B m3.D.ds.length m3.D.d] 31
         replace K25 : Box V22 (w21.heap.size) (mcs m3) := K25
         have n27 : b10 ≠ w21.heap.size := Nat.ne_of_lt (K7.lt)
         have n28 : b19 ≠ w21.heap.size := Nat.ne_of_lt (K15.lt)
         have g29 : w.heap.size ≤ w21.heap.size := BW.size
         replace K7 := K7.on hb24
         replace K15 := K15.on hb24
         replace BW := BW.trans (hb24.mono BW.size)
         clear hb24
         go_wp2_with (first | (refine wpList_stNew (by rfl) (by rfl) (by rfl) (by rfl) (by rfl) (by rfl) (by rfl) ?_))
         rw [← e23]
         clear e23
         generalize w21.heap.size = b30 at *
         exact bodyPost_ret (v := .bool true) (by simp [results, Tryz.results3, go_sem]) rfl ⟨rfl, BW⟩
       · obtain ⟨V22, e23, hb24, K25, Z26, -⟩ := alloc_new w21 [.bool m3.A.n, .slice m3.A.A m3.A.xs.length m3.A.c, .bool m3.A.m, .slice m3.A.B m3.A.ds.length m3.A.d, .bool m3.B.n, .slice m3.B.A m3.B.xs.length m3.B.c, .bool m3.B.m, .slice m3.B.B m3.B.ds.length m3.B.d, .bool m3.C.n, .slice m3.C.A m3.C.xs.length m3.C.c, .bool m3.C.m, .slice m3.C.B m3.C.ds.length m3.C.d, .bool m3.D.n, .slice m3.D.A m3.D.xs.length m3.D.c, .bool m3.D.m, .slice m3.D.B m3.D.ds.length m3.D.d] 31
         replace K25 : Box V22 (w21.heap.size) (mcs m3) := K25
         have n27 : b10 ≠ w21.heap.size := Nat.ne_of_lt (K7.lt)
         have n28 : b19 ≠ w21.heap.size := Nat.ne_of_lt (K15.lt)
         have g29 : w.heap.size ≤ w21.heap.size := BW.size
         replace BW := BW.trans (hb24.mono BW.size)
         clear hb24
         go_wp2_with (first | (refine wpList_stNew (by rfl) (by rfl) (by rfl) (by rfl) (by rfl) (by rfl) (by rfl) ?_))
         rw [← e23]
         clear e23
         generalize w21.heap.size = b30 at *
         exact bodyPost_ret (v := .bool true) (by simp [results, Tryz.results3, go_sem]) rfl ⟨rfl, BW⟩
 · go_wp2_with fail
   refine (b_alive).mono ?_
   rintro _ w3 ⟨rfl, hb⟩
   replace BW := BW.trans (hb.mono BW.size)
   clear hb
   go_wp2_with fail
   exact bodyPost_ret (v := .bool true) (by simp [results, Tryz.results3, go_sem]) rfl ⟨rfl, BW⟩
end Go.Proofs.YtjamfkafgfpobaaGreat
