/-
  What a bench made simple keeps: yes. Condition: that what is handed in is no longer than memory.
-/
import Derived.Test.YtjamfkafgfpobaaGreatSm9
import Derived.Test.YtjamfkafgfpobaaGreatSmB
import Derived.Test.YtjamfkafgfpobaaGreatBef
import Derived.Test.YtjamfkafgfpobaaGreatXtb
import Derived.Test.YtjamfkafgfpobaaGreatTr4
import Derived.Deep.RegionHeld3
import Derived.Deep.DeepCutAuto
import Derived.BigRegion
namespace Go.Proofs.YtjamfkafgfpobaaGreat
open Go.RowKit Nb
theorem fes_may {W : World} {zs : List Eq} {es : List Ev} (h : Fes W zs es) : ∀ e ∈ zs, e.may := fun e he => by
 obtain ⟨i, hi, rfl⟩ := List.getElem_of_mem he
 exact (h.2 i _ (es[i]'(by rw [← h.1]; exact hi)) (List.getElem?_eq_getElem hi) (List.getElem?_eq_getElem _)).2
theorem SimIs.on {W V : World} {zs : List Kq} {v : Value} {er : Int} (h : SimIs W zs v er) (hb : Below W.heap.size W V) : SimIs V zs v er := by
 rcases h with ⟨h1, h2, a, c, es, h3, h4, h5⟩ | h
 · exact .inl ⟨h1, h2, a, c, es, h3, h4.kp (Kept.of hb), h5.on hb⟩
 · exact .inr h
theorem b_SimpleQ {a : Option Addr} {c : Nat} {es : List Ev} {zs : List Eq} {w : World} (S : Sle w a c es) (hF : Fes w zs es) (hn : es.length ≤ 4096) : Calls Tryz.prog 28 #[.slice a es.length c] w (fun e w' => ∃ (v : Value) (er : Int), e = .returned (.tuple #[v, .int .i64 er]) ∧ SimIs w' (simpleZ (plainsQ zs)) v er ∧ Below w.heap.size w w') := b_Simple S hF hn
theorem y_same0' {m n : Mv} {w : World} (hm : m = mv0) (hn : n = mv0) : Calls Tryz.prog 13 #[mv m, mv n] w (fun e w' => e = .returned (.bool true) ∧ Below w.heap.size w w') := by subst hm hn; exact y_same0
theorem sle_nil (W : World) : Sle W none 0 [] := ⟨by simp, by omega, fun e h => by simp at h, fun i e h => by simp at h⟩
theorem fes_nil (W : World) : Fes W [] [] := ⟨rfl, fun i z e h => by simp at h⟩
theorem sames_nil {w : World} : Calls Tryz.prog 18 #[.slice none 0 0, .slice none 0 0] w (fun e w' => e = .returned (.bool true) ∧ Below w.heap.size w w') := b_sames (a := none) (b := none) (c := 0) (d := 0) (es := []) (ds := []) (zs := []) (sle_nil w) (sle_nil w) (fes_nil w) (fes_nil w)
set_option maxHeartbeats 32000000 in
set_option maxRecDepth 100000 in
theorem same_walk {a b : Option Addr} {c d : Nat} {es ds : List Ev} {w : World} (S : Sle w a c es) (T : Sle w b d ds) :
    Calls Tryz.prog 6 #[.slice a es.length c, .slice b ds.length d] w (fun e w' => e = .returned (.bool true) ∧ Below w.heap.size w w') := by
 have HS := Lib.hid S
 have HT := Lib.hid T
 clear S T
 have BW : Below w.heap.size w w := Below.refl _ _
 go_enter Tryz.func6, Tryz.ntmps6
 go_wp2_with fail
 refine (b_alive).mono ?_
 rintro _ w1 ⟨rfl, hb⟩
 replace BW := BW.trans (hb.mono BW.size)
 clear hb
 go_wp2_with fail
 refine (b_fits (HS.out.on BW) (HT.out.on BW)).mono ?_
 rintro _ w2 ⟨r, rfl, hr, hb⟩
 replace BW := BW.trans (hb.mono BW.size)
 clear hb
 have HR := Lib.hid hr
 clear hr
 cases r
 · go_wp2_with fail
   refine (b_alive).mono ?_
   rintro _ w3 ⟨rfl, hb⟩
   replace BW := BW.trans (hb.mono BW.size)
   clear hb
   go_wp2_with fail
   exact bodyPost_ret (v := .bool true) (by simp [results, Tryz.results6, go_sem]) rfl ⟨rfl, BW⟩
 · obtain ⟨hl, hm1, hm2⟩ := HR.out rfl
   clear HR
   obtain ⟨zs, F1⟩ := (hm1.at HS.out.2.2.1).fes
   obtain ⟨ys, F2⟩ := (hm2.at HT.out.2.2.1).fes
   have HF1 := Lib.hid F1
   have HF2 := Lib.hid F2
   have HL := Lib.hid hl
   have HMY := Lib.hid (fes_may F1)
   clear hm1 hm2 hl F1 F2
   go_wp2_with fail
   refine (b_SimpleQ (HS.out.on BW) (HF1.out.kp (Kept.of BW)) (by have := HL.out; omega)).mono ?_
   rintro _ w3 ⟨v, er, rfl, hS, hb⟩
   replace BW := BW.trans (hb.mono BW.size)
   clear hb
   rcases hS with ⟨hfit, rfl, a1, c1, xs, rfl, FX, SX⟩ | ⟨-, rfl, rfl⟩
   · have HFIT := Lib.hid hfit
     have HSX := Lib.hid SX
     have HXL := Lib.hid (show xs.length ≤ es.length from by rw [← FX.1, List.length_map]; exact Nat.le_trans (same_len zs) (Nat.le_of_eq HF1.out.1))
     clear hfit SX
     have BWX : Bel w3 w3 := Below.refl _ _
     have hg1 : ¬ (es.length : Int) < (xs.length : Int) := by have := HXL.out; omega
     go_wp2_with fail
     refine (b_SimpleQ (HSX.out.on BWX.b) FX (by have := HXL.out; have := HL.out; omega)).mono ?_
     rintro _ w4 ⟨v2, e2, rfl, hS2, hb⟩
     replace FX := FX.kp (Kept.of hb)
     replace BW := BW.trans (hb.mono BW.size)
     replace BWX := BWX.trans (hb.mono BWX.size)
     clear hb
     rw [same_twice HMY.out] at hS2
     obtain ⟨-, rfl, a2, c2, x2, rfl, FX2, SX2⟩ := Or.resolve_right hS2 (fun ⟨⟨z9, hz9, hn9⟩, _⟩ => hn9 (HFIT.out z9 hz9))
     have HSX2 := Lib.hid SX2
     clear SX2
     have BWX2 : Bel w4 w4 := Below.refl _ _
     go_wp2_with fail
     refine (b_plain (HSX.out.on BWX.b) FX (fun z hz => (simple_ok HMY.out z hz).1) simple_full (simple_fullZ zs).adj_rev).mono ?_
     rintro _ w5 ⟨rfl, hb⟩
     replace FX := FX.kp (Kept.of hb)
     replace FX2 := FX2.kp (Kept.of hb)
     replace BW := BW.trans (hb.mono BW.size)
     replace BWX := BWX.trans (hb.mono BWX.size)
     replace BWX2 := BWX2.trans (hb.mono BWX2.size)
     clear hb
     go_wp2_with fail
     have FX9 := Lib.hid FX
     refine (b_check (HSX.out.on BWX.b)).mono ?_
     rintro _ w6 ⟨r0, rfl, hr, hb⟩
     replace FX := FX.kp (Kept.of hb)
     replace FX2 := FX2.kp (Kept.of hb)
     replace BW := BW.trans (hb.mono BW.size)
     replace BWX := BWX.trans (hb.mono BWX.size)
     replace BWX2 := BWX2.trans (hb.mono BWX2.size)
     clear hb
     obtain rfl : r0 = 0 := hr.yes (by have := HXL.out; have := HL.out; omega) FX9.out.may
     clear hr FX9
     go_wp2_with fail
     refine (b_sames (HSX2.out.on BWX2.b) (HSX.out.on BWX.b) FX2 FX).mono ?_
     rintro _ w7 ⟨rfl, hb⟩
     replace FX := FX.kp (Kept.of hb)
     replace FX2 := FX2.kp (Kept.of hb)
     replace BW := BW.trans (hb.mono BW.size)
     replace BWX := BWX.trans (hb.mono BWX.size)
     replace BWX2 := BWX2.trans (hb.mono BWX2.size)
     clear hb
     clear FX2 HSX2 BWX2
     go_wp2_with fail
     refine (b_joinL (HS.out.on BW) (HT.out.on BW) HL.out).mono ?_
     rintro _ w8 ⟨gs, a3, c3, hg3, rfl, S3, hb⟩
     replace FX := FX.kp (Kept.of hb)
     replace BW := BW.trans (hb.mono BW.size)
     replace BWX := BWX.trans (hb.mono BWX.size)
     clear hb
     have F3 := (HF1.out.app HF2.out).kp (Kept.of BW)
     rw [← hg3.out] at F3
     have hgl : gs.length ≤ 4096 := by rw [hg3.out, List.length_append]; exact HL.out
     have HGL := Lib.hid hgl
     clear hgl hg3
     go_wp2_with fail
     refine (b_SimpleQ S3 F3 HGL.out).mono ?_
     rintro _ w9 ⟨v3, e3, rfl, hS3, hb⟩
     replace FX := FX.kp (Kept.of hb)
     replace BW := BW.trans (hb.mono BW.size)
     replace BWX := BWX.trans (hb.mono BWX.size)
     clear hb
     clear S3 F3 HGL
     go_wp2_with fail
     refine (b_joinL (HSX.out.on BWX.b) (HT.out.on BW) (by have := HXL.out; have := HL.out; omega)).mono ?_
     rintro _ w10 ⟨ks, a4, c4, hg4, rfl, S4, hb⟩
     replace hS3 := hS3.on hb
     replace FX := FX.kp (Kept.of hb)
     replace BW := BW.trans (hb.mono BW.size)
     replace BWX := BWX.trans (hb.mono BWX.size)
     clear hb
     have F4 := FX.app (HF2.out.kp (Kept.of BW))
     rw [← hg4.out] at F4
     have hgl : ks.length ≤ 4096 := by rw [hg4.out, List.length_append]; have := HXL.out; have := HL.out; omega
     have HGL := Lib.hid hgl
     clear hgl hg4
     go_wp2_with fail
     refine (b_SimpleQ S4 F4 HGL.out).mono ?_
     rintro _ w11 ⟨v4, e4, rfl, hS4, hb⟩
     replace hS3 := hS3.on hb
     replace FX := FX.kp (Kept.of hb)
     replace BW := BW.trans (hb.mono BW.size)
     replace BWX := BWX.trans (hb.mono BWX.size)
     clear hb
     clear S4 F4 HGL
     rw [same_app HMY.out] at hS4
     go_upto_region 11 with fail
     go_cut [87] (fun sv wx => sv = .bool false ∧ Below w.heap.size w wx ∧ Bel w3 wx ∧ Fes wx ((simpleZ (plainsQ zs)).map zeq) xs)
     case first =>
       rcases hS3 with ⟨hf3, rfl, a5, c5, y5, rfl, F5, S5⟩ | ⟨hn3, rfl, rfl⟩
       · rcases hS4 with ⟨-, rfl, a6, c6, y6, rfl, F6, S6⟩ | ⟨⟨z9, hz9, hn9⟩, -⟩
         · clear hf3
           go_wp2_with fail
           refine (b_sames S5 S6 F5 F6).mono ?_
           rintro _ w12 ⟨rfl, hb⟩
           replace FX := FX.kp (Kept.of hb)
           replace BW := BW.trans (hb.mono BW.size)
           replace BWX := BWX.trans (hb.mono BWX.size)
           clear hb
           go_wp2
           go_meet
           exact ⟨rfl, BW, BWX, FX⟩
         · exact absurd (hf3 z9 hz9) hn9
       · obtain ⟨z9, hz9, hn9⟩ := hn3
         rcases hS4 with ⟨hf4, -⟩ | ⟨-, rfl, rfl⟩
         · exact absurd (hf4 z9 hz9) hn9
         · clear hz9 hn9
           go_wp2_with fail
           refine (sames_nil).mono ?_
           rintro _ w12 ⟨rfl, hb⟩
           replace FX := FX.kp (Kept.of hb)
           replace BW := BW.trans (hb.mono BW.size)
           replace BWX := BWX.trans (hb.mono BWX.size)
           clear hb
           go_wp2
           go_meet
           exact ⟨rfl, BW, BWX, FX⟩
     case rest =>
       obtain ⟨rfl, BW, BWX, FX⟩ := hcut
       go_wp2_with fail
       refine (b_MatrixZ (HS.out.on BW) (HF1.out.kp (Kept.of BW)) (by have := HL.out; omega)).mono ?_
       rintro _ w1501 ⟨m1, e5, rfl, h5, hz5, hb⟩
       replace FX := FX.kp (Kept.of hb)
       replace BW := BW.trans (hb.mono BW.size)
       replace BWX := BWX.trans (hb.mono BWX.size)
       clear hb
       obtain ⟨V1502, e1503, hb1504, K1505, Z1506, -⟩ := alloc_new w1501 [.bool m1.A.n, .slice m1.A.A m1.A.xs.length m1.A.c, .bool m1.A.m, .slice m1.A.B m1.A.ds.length m1.A.d, .bool m1.B.n, .slice m1.B.A m1.B.xs.length m1.B.c, .bool m1.B.m, .slice m1.B.B m1.B.ds.length m1.B.d, .bool m1.C.n, .slice m1.C.A m1.C.xs.length m1.C.c, .bool m1.C.m, .slice m1.C.B m1.C.ds.length m1.C.d, .bool m1.D.n, .slice m1.D.A m1.D.xs.length m1.D.c, .bool m1.D.m, .slice m1.D.B m1.D.ds.length m1.D.d] 31
       replace K1505 : Box V1502 (w1501.heap.size) (mcs m1) := K1505
       have g1507 : w.heap.size ≤ w1501.heap.size := BW.size
       have gx1508 := BWX.lew
       replace FX := FX.kp (Kept.of hb1504)
       replace h5 := h5.kp (Kept.of hb1504)
       replace BW := BW.trans (hb1504.mono BW.size)
       replace BWX := BWX.trans (hb1504.mono BWX.size)
       clear hb1504
       go_wp2_with (first | (refine wpList_stNew (by rfl) (by rfl) (by rfl) (by rfl) (by rfl) (by rfl) (by rfl) ?_))
       (try simp only [p0, p1, p2, p3])
       rw [← e1503]
       clear e1503
       generalize w1501.heap.size = b1509 at *
       refine (b_MatrixZ (HSX.out.on BWX.b) FX (by have := HXL.out; have := HL.out; omega)).mono ?_
       rintro _ w1510 ⟨m2, e6, rfl, h6, hz6, hb⟩
       replace K1505 := K1505.on hb
       replace Z1506 := Z1506.on hb
       replace FX := FX.kp (Kept.of hb)
       replace h5 := h5.kp (Kept.of hb)
       replace BW := BW.trans (hb.mono BW.size)
       replace BWX := BWX.trans (hb.mono BWX.size)
       clear hb
       rw [same_mat] at h6
       clear FX
       rcases h5 with ⟨rfl, hf5, M1⟩ | ⟨rfl, hn5⟩
       · rcases h6 with ⟨rfl, -, M2⟩ | ⟨rfl, hn6⟩
         · clear hf5 hz5 hz6
           obtain ⟨V1511, e1512, hb1513, K1514, Z1515, -⟩ := alloc_new w1510 [.bool m2.A.n, .slice m2.A.A m2.A.xs.length m2.A.c, .bool m2.A.m, .slice m2.A.B m2.A.ds.length m2.A.d, .bool m2.B.n, .slice m2.B.A m2.B.xs.length m2.B.c, .bool m2.B.m, .slice m2.B.B m2.B.ds.length m2.B.d, .bool m2.C.n, .slice m2.C.A m2.C.xs.length m2.C.c, .bool m2.C.m, .slice m2.C.B m2.C.ds.length m2.C.d, .bool m2.D.n, .slice m2.D.A m2.D.xs.length m2.D.c, .bool m2.D.m, .slice m2.D.B m2.D.ds.length m2.D.d] 31
           replace K1514 : Box V1511 (w1510.heap.size) (mcs m2) := K1514
           have n1516 : b1509 ≠ w1510.heap.size := Nat.ne_of_lt (K1505.lt)
           have g1517 : w.heap.size ≤ w1510.heap.size := BW.size
           have gx1518 := BWX.lew
           replace K1505 := K1505.on hb1513
           replace Z1506 := Z1506.on hb1513
           replace M1 := M1.kp (Kept.of hb1513)
           replace M2 := M2.kp (Kept.of hb1513)
           replace BW := BW.trans (hb1513.mono BW.size)
           replace BWX := BWX.trans (hb1513.mono BWX.size)
           clear hb1513
           go_upto_region 15 with (first | (refine wpList_stNew (by rfl) (by rfl) (by rfl) (by rfl) (by rfl) (by rfl) (by rfl) ?_))
           (try simp only [p0, p1, p2, p3])
           rw [← e1512]
           clear e1512
           generalize w1510.heap.size = b1519 at *
           have c1520 : Box V1511 (b1509) [.bool m1.A.n, .slice m1.A.A m1.A.xs.length m1.A.c, .bool m1.A.m, .slice m1.A.B m1.A.ds.length m1.A.d, .bool m1.B.n, .slice m1.B.A m1.B.xs.length m1.B.c, .bool m1.B.m, .slice m1.B.B m1.B.ds.length m1.B.d, .bool m1.C.n, .slice m1.C.A m1.C.xs.length m1.C.c, .bool m1.C.m, .slice m1.C.B m1.C.ds.length m1.C.d, .bool m1.D.n, .slice m1.D.A m1.D.xs.length m1.D.c, .bool m1.D.m, .slice m1.D.B m1.D.ds.length m1.D.d] := K1505
           have c1521 : Box V1511 (b1519) [.bool m2.A.n, .slice m2.A.A m2.A.xs.length m2.A.c, .bool m2.A.m, .slice m2.A.B m2.A.ds.length m2.A.d, .bool m2.B.n, .slice m2.B.A m2.B.xs.length m2.B.c, .bool m2.B.m, .slice m2.B.B m2.B.ds.length m2.B.d, .bool m2.C.n, .slice m2.C.A m2.C.xs.length m2.C.c, .bool m2.C.m, .slice m2.C.B m2.C.ds.length m2.C.d, .bool m2.D.n, .slice m2.D.A m2.D.xs.length m2.D.c, .bool m2.D.m, .slice m2.D.B m2.D.ds.length m2.D.d] := K1514
           go_wp2_with (first | (refine wpList_ldG (by rfl) (by rfl) (by rfl) c1520 (by rfl) ?_) | (refine wpList_ldG (by rfl) (by rfl) (by rfl) c1521 (by rfl) ?_))
           clear c1520 c1521
           refine (y_sameM M1 M2).mono ?_
           rintro _ w1522 ⟨rfl, hb⟩
           replace K1505 := K1505.on hb
           replace K1514 := K1514.on hb
           replace Z1506 := Z1506.on hb
           replace Z1515 := Z1515.on hb
           replace M1 := M1.kp (Kept.of hb)
           replace M2 := M2.kp (Kept.of hb)
           replace BW := BW.trans (hb.mono BW.size)
           replace BWX := BWX.trans (hb.mono BWX.size)
           clear hb
           go_wp2_with fail
           exact bodyPost_ret (v := .bool true) (by simp [results, Tryz.results6, go_sem]) rfl ⟨rfl, BW⟩
         · exact absurd hf5 hn6
       · rcases h6 with ⟨rfl, hf6, M2⟩ | ⟨rfl, -⟩
         · exact absurd hf6 hn5
         · clear hn5
           have Z1 := Lib.hid (hz5.out.resolve_left (by decide))
           have Z2 := Lib.hid (hz6.out.resolve_left (by decide))
           clear hz5 hz6
           obtain ⟨V1511, e1512, hb1513, K1514, Z1515, -⟩ := alloc_new w1510 [.bool m2.A.n, .slice m2.A.A m2.A.xs.length m2.A.c, .bool m2.A.m, .slice m2.A.B m2.A.ds.length m2.A.d, .bool m2.B.n, .slice m2.B.A m2.B.xs.length m2.B.c, .bool m2.B.m, .slice m2.B.B m2.B.ds.length m2.B.d, .bool m2.C.n, .slice m2.C.A m2.C.xs.length m2.C.c, .bool m2.C.m, .slice m2.C.B m2.C.ds.length m2.C.d, .bool m2.D.n, .slice m2.D.A m2.D.xs.length m2.D.c, .bool m2.D.m, .slice m2.D.B m2.D.ds.length m2.D.d] 31
           replace K1514 : Box V1511 (w1510.heap.size) (mcs m2) := K1514
           have n1516 : b1509 ≠ w1510.heap.size := Nat.ne_of_lt (K1505.lt)
           have g1517 : w.heap.size ≤ w1510.heap.size := BW.size
           have gx1518 := BWX.lew
           replace K1505 := K1505.on hb1513
           replace Z1506 := Z1506.on hb1513
           replace BW := BW.trans (hb1513.mono BW.size)
           replace BWX := BWX.trans (hb1513.mono BWX.size)
           clear hb1513
           go_upto_region 15 with (first | (refine wpList_stNew (by rfl) (by rfl) (by rfl) (by rfl) (by rfl) (by rfl) (by rfl) ?_))
           (try simp only [p0, p1, p2, p3])
           rw [← e1512]
           clear e1512
           generalize w1510.heap.size = b1519 at *
           have c1520 : Box V1511 (b1509) [.bool m1.A.n, .slice m1.A.A m1.A.xs.length m1.A.c, .bool m1.A.m, .slice m1.A.B m1.A.ds.length m1.A.d, .bool m1.B.n, .slice m1.B.A m1.B.xs.length m1.B.c, .bool m1.B.m, .slice m1.B.B m1.B.ds.length m1.B.d, .bool m1.C.n, .slice m1.C.A m1.C.xs.length m1.C.c, .bool m1.C.m, .slice m1.C.B m1.C.ds.length m1.C.d, .bool m1.D.n, .slice m1.D.A m1.D.xs.length m1.D.c, .bool m1.D.m, .slice m1.D.B m1.D.ds.length m1.D.d] := K1505
           have c1521 : Box V1511 (b1519) [.bool m2.A.n, .slice m2.A.A m2.A.xs.length m2.A.c, .bool m2.A.m, .slice m2.A.B m2.A.ds.length m2.A.d, .bool m2.B.n, .slice m2.B.A m2.B.xs.length m2.B.c, .bool m2.B.m, .slice m2.B.B m2.B.ds.length m2.B.d, .bool m2.C.n, .slice m2.C.A m2.C.xs.length m2.C.c, .bool m2.C.m, .slice m2.C.B m2.C.ds.length m2.C.d, .bool m2.D.n, .slice m2.D.A m2.D.xs.length m2.D.c, .bool m2.D.m, .slice m2.D.B m2.D.ds.length m2.D.d] := K1514
           go_wp2_with (first | (refine wpList_ldG (by rfl) (by rfl) (by rfl) c1520 (by rfl) ?_) | (refine wpList_ldG (by rfl) (by rfl) (by rfl) c1521 (by rfl) ?_))
           clear c1520 c1521
           refine (y_same0' Z1.out Z2.out).mono ?_
           rintro _ w1522 ⟨rfl, hb⟩
           replace K1505 := K1505.on hb
           replace K1514 := K1514.on hb
           replace Z1506 := Z1506.on hb
           replace Z1515 := Z1515.on hb
           replace BW := BW.trans (hb.mono BW.size)
           replace BWX := BWX.trans (hb.mono BWX.size)
           clear hb
           go_wp2_with fail
           exact bodyPost_ret (v := .bool true) (by simp [results, Tryz.results6, go_sem]) rfl ⟨rfl, BW⟩
   · go_wp2_with fail
     exact bodyPost_ret (v := .bool true) (by simp [results, Tryz.results6, go_sem]) rfl ⟨rfl, BW⟩
end Go.Proofs.YtjamfkafgfpobaaGreat
