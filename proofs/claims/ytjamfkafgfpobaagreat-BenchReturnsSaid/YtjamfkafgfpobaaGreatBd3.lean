/-
  A ray that comes out of a bench, turned round, comes back through the reversed one: yes. Conditions: that bench and ray are no longer than memory.
-/
import Derived.Test.YtjamfkafgfpobaaGreatXtb
import Derived.Test.YtjamfkafgfpobaaGreatBd1
import Derived.Test.YtjamfkafgfpobaaGreatBd2
import Derived.Test.YtjamfkafgfpobaaGreatBc3
import Derived.Test.YtjamfkafgfpobaaGreatRlc
import Derived.Test.YtjamfkafgfpobaaGreatRgt
import Derived.Deep.RegionHeld3
import Derived.Deep.DeepCutAuto
import Derived.BigRegion
namespace Go.Proofs.YtjamfkafgfpobaaGreat
open Go.RowKit Nb
theorem Eq.mir (z : Eq) : z.mat.mir = z.mat := by
 unfold Eq.mat
 split
 ·rfl
 ·split
  ·rfl
  ·split
   ·rfl
   ·split
    ·rfl
    ·rfl
theorem chainM_rev : ∀ l : List Mq, (∀ m ∈ l, m.mir = m) → chainM l.reverse = (chainM l).mir
 | [], _ => rfl
 | m :: r, h => by rw [List.reverse_cons, chainM_app, chainM_one, chainM_rev r (fun x hx => h x (by simp [hx])), chainM, Mq.mir_two, h m (by simp)]
theorem rev_mir (zs : List Eq) : benchM zs.reverse = (benchM zs).mir := by
 unfold benchM
 rw [List.map_reverse]
 exact chainM_rev _ fun m hm => by
  obtain ⟨z, _, rfl⟩ := List.mem_map.1 hm
  exact z.mir
theorem fits_mir {q : Mq} (h : FitsM q) : FitsM q.mir := ⟨h.2.2.2, h.2.1, h.2.2.1, h.1⟩
theorem fits_mir' {q : Mq} (h : FitsM q.mir) : FitsM q := ⟨h.2.2.2, h.2.1, h.2.2.1, h.1⟩
theorem zero_less (u : Rat) : Rat.divInt 0 1 - u = -u := by
 have : Rat.divInt 0 1 = 0 := by decide +kernel
 rw [this]; grind
theorem thr_rev {zs : List Eq} {r : Yq} : (benchM zs.reverse).thr ⟨((benchM zs).thr r).y, -((benchM zs).thr r).u⟩ = r.turn := by
 rw [rev_mir]
 exact Mq.thr_mir (benchM_det zs)
theorem or_one {y : Yv} (h : ¬ oky y) : orE (chkv y.Y) (chkv y.U) = 1 ∧ (1 : Int) ≠ 0 := by
 refine ⟨?_, by decide⟩
 unfold orE
 rcases chkv_two y.Y with h1 | h1
 ·rw [if_pos h1]
  rcases chkv_two y.U with h2 | h2
  ·exact absurd ⟨chkv_zero h1, chkv_zero h2⟩ h
  ·exact h2
 ·rw [if_neg (by omega)]; exact h1
theorem fm_to {W : World} {q p : Mq} {m : Mv} (h : Fm W q m) (e : q = p) : Fm W p m := e ▸ h
theorem fy_to {W : World} {q p : Yq} {m : Yv} (h : Fy W q m) (e : q = p) : Fy W p m := e ▸ h
theorem oky_fy {W : World} {y : Yv} (h : oky y) (X : Xy W y) : ∃ r, Fy W r y := h.fy X
theorem fits_turn {r : Yq} (h : FitsY r) : FitsY r.turn := ⟨h.1, fits_neg h.2⟩
theorem Fy.fits' {W : World} {r : Yq} {y : Yv} (h : Fy W r y) : FitsY r := ⟨h.fY.fits, h.fU.fits⟩
theorem turn_back (r : Yq) : Rat.divInt 0 1 - r.turn.u = r.u := by rw [zero_less]; unfold Yq.turn; grind
set_option maxHeartbeats 32000000 in
set_option maxRecDepth 100000 in
theorem returns_walk {a : Option Addr} {c : Nat} {es : List Ev} {y : Yv} {w : World} (S : Sle w a c es) (Y : Xy w y) :
    Calls Tryz.prog 4 #[.slice a es.length c, yv y] w (fun e w' => e = .returned (.bool true) ∧ Below w.heap.size w w') := by
 have HS := Lib.hid S
 clear S
 have BW : Below w.heap.size w w := Below.refl _ _
 obtain ⟨V1, e2, hb3, K4, Z5, -⟩ := alloc_new w [.bool y.Y.n, .slice y.Y.A y.Y.xs.length y.Y.c, .bool y.Y.m, .slice y.Y.B y.Y.ds.length y.Y.d, .bool y.U.n, .slice y.U.A y.U.xs.length y.U.c, .bool y.U.m, .slice y.U.B y.U.ds.length y.U.d] 40
 replace K4 : Box V1 (w.heap.size) (ycs y) := K4
 have g6 : w.heap.size ≤ w.heap.size := BW.size
 replace Y := Y.kp (Kept.of hb3)
 replace BW := BW.trans (hb3.mono BW.size)
 clear hb3
 go_enter Tryz.func4, Tryz.ntmps4
 go_wp2_with fail
 rw [← e2]
 clear e2
 refine (b_alive).mono ?_
 rintro _ w7 ⟨rfl, hb⟩
 replace K4 := K4.on hb
 replace Z5 := Z5.on hb
 replace Y := Y.kp (Kept.of hb)
 replace BW := BW.trans (hb.mono BW.size)
 clear hb
 go_wp2_with fail
 have BW0 := Lib.hid BW
 refine (b_fits (ds := []) (HS.out.on BW) (sle_none _)).mono ?_
 rintro _ w8 ⟨r, rfl, hr, hb⟩
 replace K4 := K4.on hb
 replace Z5 := Z5.on hb
 replace Y := Y.kp (Kept.of hb)
 replace BW := BW.trans (hb.mono BW.size)
 clear hb
 have HR := Lib.hid hr
 clear hr
 rcases Bool.eq_false_or_eq_true r with rfl | rfl
 · obtain ⟨hl, hm1, -⟩ := HR.out (by trivial)
   clear HR
   obtain ⟨zs, F1⟩ := (hm1.at HS.out.2.2.1).fes
   have HL : Hid (es.length ≤ 4096) := Lib.hid (by simpa using hl)
   clear hm1 hl
   replace F1 := F1.kp (Kept.of BW)
   obtain ⟨c9, c10, c11, c12, c13, c14, c15, c16⟩ := K4.c8
   go_wp2_with fail
   clear c9 c10 c11 c12 c13 c14 c15 c16
   refine (c_ray Y).mono ?_
   rintro _ w17 ⟨n1, rfl, hb⟩
   replace K4 := K4.on hb
   replace Z5 := Z5.on hb
   replace Y := Y.kp (Kept.of hb)
   replace F1 := F1.kp (Kept.of hb)
   replace BW := BW.trans (hb.mono BW.size)
   clear hb
   obtain ⟨V18, e19, hb20, K21, Z22, -⟩ := alloc_new w17 [.int .i64 n1] 3
   have n23 : w.heap.size ≠ w17.heap.size := Nat.ne_of_lt (K4.lt)
   have g24 : w.heap.size ≤ w17.heap.size := BW.size
   replace K4 := K4.on hb20
   replace Z5 := Z5.on hb20
   replace Y := Y.kp (Kept.of hb20)
   replace F1 := F1.kp (Kept.of hb20)
   replace BW := BW.trans (hb20.mono BW.size)
   clear hb20
   go_wp2_with fail
   rw [← e19]
   clear e19
   generalize w17.heap.size = b25 at *
   refine (c_beyond (ns := [n1]) K21 (by simp) (by simp)).mono ?_
   rintro _ w26 ⟨r2, rfl, hb⟩
   replace K4 := K4.on hb
   replace K21 := K21.on hb
   replace Z5 := Z5.on hb
   replace Y := Y.kp (Kept.of hb)
   replace F1 := F1.kp (Kept.of hb)
   replace BW := BW.trans (hb.mono BW.size)
   clear hb
   clear K21
   rcases Bool.eq_false_or_eq_true r2 with rfl | rfl
   · go_wp2_with fail
     refine (b_alive).mono ?_
     rintro _ w27 ⟨rfl, hb⟩
     replace K4 := K4.on hb
     replace Z5 := Z5.on hb
     replace Y := Y.kp (Kept.of hb)
     replace F1 := F1.kp (Kept.of hb)
     replace BW := BW.trans (hb.mono BW.size)
     clear hb
     go_wp2_with fail
     exact bodyPost_ret (v := .bool true) (by simp [results, Tryz.results4, go_sem]) rfl ⟨rfl, BW⟩
   · go_wp2_with fail
     refine (b_reverse (HS.out.on BW) F1 HL.out).mono ?_
     rintro _ w27 ⟨a2, c2, xs, rfl, hx1, F2, S2, hb⟩
     replace K4 := K4.on hb
     replace Z5 := Z5.on hb
     replace Y := Y.kp (Kept.of hb)
     replace F1 := F1.kp (Kept.of hb)
     replace BW := BW.trans (hb.mono BW.size)
     clear hb
     have HX1 := Lib.hid hx1
     clear hx1
     have HS2 := Lib.hid S2
     clear S2
     have BWA : Below w27.heap.size w27 w27 := Below.refl _ _
     go_wp2_with fail
     refine (b_reverse (HS2.out.on BWA) F2 (by rw [HX1.out]; exact HL.out)).mono ?_
     rintro _ w28 ⟨a3, c3, ys, rfl, hx2, F3, S3, hb⟩
     replace K4 := K4.on hb
     replace Z5 := Z5.on hb
     replace Y := Y.kp (Kept.of hb)
     replace F1 := F1.kp (Kept.of hb)
     replace F2 := F2.kp (Kept.of hb)
     replace BW := BW.trans (hb.mono BW.size)
     replace BWA := BWA.trans (hb.mono BWA.size)
     clear hb
     rw [List.reverse_reverse] at F3
     clear hx2
     have BWB : Below w28.heap.size w28 w28 := Below.refl _ _
     have HS3 := Lib.hid S3
     clear S3
     go_wp2_with fail
     refine (b_sames (HS3.out.on BWB) (HS.out.on BW) F3 F1).mono ?_
     rintro _ w29 ⟨rfl, hb⟩
     replace K4 := K4.on hb
     replace Z5 := Z5.on hb
     replace Y := Y.kp (Kept.of hb)
     replace F1 := F1.kp (Kept.of hb)
     replace F2 := F2.kp (Kept.of hb)
     replace F3 := F3.kp (Kept.of hb)
     replace BW := BW.trans (hb.mono BW.size)
     replace BWA := BWA.trans (hb.mono BWA.size)
     replace BWB := BWB.trans (hb.mono BWB.size)
     clear hb
     clear F3 BWB
     go_wp2_with fail
     refine (b_Matrix (HS.out.on BW) F1 HL.out).mono ?_
     rintro _ w30 ⟨m1, e1, rfl, h1, hb⟩
     replace K4 := K4.on hb
     replace Z5 := Z5.on hb
     replace Y := Y.kp (Kept.of hb)
     replace F1 := F1.kp (Kept.of hb)
     replace F2 := F2.kp (Kept.of hb)
     replace BW := BW.trans (hb.mono BW.size)
     replace BWA := BWA.trans (hb.mono BWA.size)
     clear hb
     obtain ⟨V31, e32, hb33, K34, Z35, -⟩ := alloc_new w30 [.bool m1.A.n, .slice m1.A.A m1.A.xs.length m1.A.c, .bool m1.A.m, .slice m1.A.B m1.A.ds.length m1.A.d, .bool m1.B.n, .slice m1.B.A m1.B.xs.length m1.B.c, .bool m1.B.m, .slice m1.B.B m1.B.ds.length m1.B.d, .bool m1.C.n, .slice m1.C.A m1.C.xs.length m1.C.c, .bool m1.C.m, .slice m1.C.B m1.C.ds.length m1.C.d, .bool m1.D.n, .slice m1.D.A m1.D.xs.length m1.D.c, .bool m1.D.m, .slice m1.D.B m1.D.ds.length m1.D.d] 31
     replace K34 : Box V31 (w30.heap.size) (mcs m1) := K34
     have n36 : w.heap.size ≠ w30.heap.size := Nat.ne_of_lt (K4.lt)
     have g37 : w.heap.size ≤ w30.heap.size := BW.size
     replace K4 := K4.on hb33
     replace Z5 := Z5.on hb33
     replace Y := Y.kp (Kept.of hb33)
     replace F1 := F1.kp (Kept.of hb33)
     replace F2 := F2.kp (Kept.of hb33)
     replace h1 := h1.kp (Kept.of hb33)
     replace BW := BW.trans (hb33.mono BW.size)
     replace BWA := BWA.trans (hb33.mono BWA.size)
     clear hb33
     go_wp2_with (first | (refine wpList_stNew (by rfl) (by rfl) (by rfl) (by rfl) (by rfl) (by rfl) (by rfl) ?_))
     rw [← e32]
     clear e32
     generalize w30.heap.size = b38 at *
     refine (b_Matrix (HS2.out.on BWA) F2 (by rw [HX1.out]; exact HL.out)).mono ?_
     rintro _ w39 ⟨m2, e2, rfl, h2, hb⟩
     replace K4 := K4.on hb
     replace K34 := K34.on hb
     replace Z5 := Z5.on hb
     replace Z35 := Z35.on hb
     replace Y := Y.kp (Kept.of hb)
     replace F1 := F1.kp (Kept.of hb)
     replace F2 := F2.kp (Kept.of hb)
     replace h1 := h1.kp (Kept.of hb)
     replace BW := BW.trans (hb.mono BW.size)
     replace BWA := BWA.trans (hb.mono BWA.size)
     clear hb
     clear F1 F2 BWA
     rcases h1 with ⟨rfl, hF1, M1⟩ | ⟨rfl, hN⟩
     · obtain ⟨rfl, M2⟩ := h2.yes (by rw [rev_mir]; exact fits_mir hF1)
       clear h2 hF1
       obtain ⟨V40, e41, hb42, K43, Z44, -⟩ := alloc_new w39 [.bool m2.A.n, .slice m2.A.A m2.A.xs.length m2.A.c, .bool m2.A.m, .slice m2.A.B m2.A.ds.length m2.A.d, .bool m2.B.n, .slice m2.B.A m2.B.xs.length m2.B.c, .bool m2.B.m, .slice m2.B.B m2.B.ds.length m2.B.d, .bool m2.C.n, .slice m2.C.A m2.C.xs.length m2.C.c, .bool m2.C.m, .slice m2.C.B m2.C.ds.length m2.C.d, .bool m2.D.n, .slice m2.D.A m2.D.xs.length m2.D.c, .bool m2.D.m, .slice m2.D.B m2.D.ds.length m2.D.d] 31
       replace K43 : Box V40 (w39.heap.size) (mcs m2) := K43
       have n45 : w.heap.size ≠ w39.heap.size := Nat.ne_of_lt (K4.lt)
       have n46 : b38 ≠ w39.heap.size := Nat.ne_of_lt (K34.lt)
       have g47 : w.heap.size ≤ w39.heap.size := BW.size
       replace K4 := K4.on hb42
       replace K34 := K34.on hb42
       replace Z5 := Z5.on hb42
       replace Z35 := Z35.on hb42
       replace Y := Y.kp (Kept.of hb42)
       replace M1 := M1.kp (Kept.of hb42)
       replace M2 := M2.kp (Kept.of hb42)
       replace BW := BW.trans (hb42.mono BW.size)
       clear hb42
       go_upto_region 9 with (first | (refine wpList_stNew (by rfl) (by rfl) (by rfl) (by rfl) (by rfl) (by rfl) (by rfl) ?_))
       rw [← e41]
       clear e41
       generalize w39.heap.size = b48 at *
       go_upto_region 11 with fail
       have c49 : Box V40 (b38) [.bool m1.A.n, .slice m1.A.A m1.A.xs.length m1.A.c, .bool m1.A.m, .slice m1.A.B m1.A.ds.length m1.A.d, .bool m1.B.n, .slice m1.B.A m1.B.xs.length m1.B.c, .bool m1.B.m, .slice m1.B.B m1.B.ds.length m1.B.d, .bool m1.C.n, .slice m1.C.A m1.C.xs.length m1.C.c, .bool m1.C.m, .slice m1.C.B m1.C.ds.length m1.C.d, .bool m1.D.n, .slice m1.D.A m1.D.xs.length m1.D.c, .bool m1.D.m, .slice m1.D.B m1.D.ds.length m1.D.d] := K34
       go_wp2_with (first | (refine wpList_ldM (by rfl) (by rfl) (by rfl) c49 (by rfl) ?_))
       clear c49
       refine (y_Mir M1 (benchM_det _)).mono ?_
       rintro _ w50 ⟨m3, rfl, M3, hb⟩
       replace K4 := K4.on hb
       replace K34 := K34.on hb
       replace K43 := K43.on hb
       replace Z5 := Z5.on hb
       replace Z35 := Z35.on hb
       replace Z44 := Z44.on hb
       replace Y := Y.kp (Kept.of hb)
       replace M1 := M1.kp (Kept.of hb)
       replace M2 := M2.kp (Kept.of hb)
       replace BW := BW.trans (hb.mono BW.size)
       clear hb
       obtain ⟨V51, e52, hb53, K54, Z55, -⟩ := alloc_new w50 [.bool m3.A.n, .slice m3.A.A m3.A.xs.length m3.A.c, .bool m3.A.m, .slice m3.A.B m3.A.ds.length m3.A.d, .bool m3.B.n, .slice m3.B.A m3.B.xs.length m3.B.c, .bool m3.B.m, .slice m3.B.B m3.B.ds.length m3.B.d, .bool m3.C.n, .slice m3.C.A m3.C.xs.length m3.C.c, .bool m3.C.m, .slice m3.C.B m3.C.ds.length m3.C.d, .bool m3.D.n, .slice m3.D.A m3.D.xs.length m3.D.c, .bool m3.D.m, .slice m3.D.B m3.D.ds.length m3.D.d] 31
       replace K54 : Box V51 (w50.heap.size) (mcs m3) := K54
       have n56 : w.heap.size ≠ w50.heap.size := Nat.ne_of_lt (K4.lt)
       have n57 : b38 ≠ w50.heap.size := Nat.ne_of_lt (K34.lt)
       have n58 : b48 ≠ w50.heap.size := Nat.ne_of_lt (K43.lt)
       have g59 : w.heap.size ≤ w50.heap.size := BW.size
       replace K4 := K4.on hb53
       replace K34 := K34.on hb53
       replace K43 := K43.on hb53
       replace Z5 := Z5.on hb53
       replace Z35 := Z35.on hb53
       replace Z44 := Z44.on hb53
       replace Y := Y.kp (Kept.of hb53)
       replace M1 := M1.kp (Kept.of hb53)
       replace M2 := M2.kp (Kept.of hb53)
       replace M3 := M3.kp (Kept.of hb53)
       replace BW := BW.trans (hb53.mono BW.size)
       clear hb53
       go_upto_region 12 with (first | (refine wpList_stNew (by rfl) (by rfl) (by rfl) (by rfl) (by rfl) (by rfl) (by rfl) ?_))
       rw [← e52]
       clear e52
       generalize w50.heap.size = b60 at *
       have c61 : Box V51 (b60) [.bool m3.A.n, .slice m3.A.A m3.A.xs.length m3.A.c, .bool m3.A.m, .slice m3.A.B m3.A.ds.length m3.A.d, .bool m3.B.n, .slice m3.B.A m3.B.xs.length m3.B.c, .bool m3.B.m, .slice m3.B.B m3.B.ds.length m3.B.d, .bool m3.C.n, .slice m3.C.A m3.C.xs.length m3.C.c, .bool m3.C.m, .slice m3.C.B m3.C.ds.length m3.C.d, .bool m3.D.n, .slice m3.D.A m3.D.xs.length m3.D.c, .bool m3.D.m, .slice m3.D.B m3.D.ds.length m3.D.d] := K54
       have c62 : Box V51 (b48) [.bool m2.A.n, .slice m2.A.A m2.A.xs.length m2.A.c, .bool m2.A.m, .slice m2.A.B m2.A.ds.length m2.A.d, .bool m2.B.n, .slice m2.B.A m2.B.xs.length m2.B.c, .bool m2.B.m, .slice m2.B.B m2.B.ds.length m2.B.d, .bool m2.C.n, .slice m2.C.A m2.C.xs.length m2.C.c, .bool m2.C.m, .slice m2.C.B m2.C.ds.length m2.C.d, .bool m2.D.n, .slice m2.D.A m2.D.xs.length m2.D.c, .bool m2.D.m, .slice m2.D.B m2.D.ds.length m2.D.d] := K43
       go_wp2_with (first | (refine wpList_ldG (by rfl) (by rfl) (by rfl) c61 (by rfl) ?_) | (refine wpList_ldG (by rfl) (by rfl) (by rfl) c62 (by rfl) ?_))
       clear c61 c62
       refine (y_sameM M3 (fm_to M2 (rev_mir zs))).mono ?_
       rintro _ w63 ⟨rfl, hb⟩
       replace K4 := K4.on hb
       replace K34 := K34.on hb
       replace K43 := K43.on hb
       replace K54 := K54.on hb
       replace Z5 := Z5.on hb
       replace Z35 := Z35.on hb
       replace Z44 := Z44.on hb
       replace Z55 := Z55.on hb
       replace Y := Y.kp (Kept.of hb)
       replace M1 := M1.kp (Kept.of hb)
       replace M2 := M2.kp (Kept.of hb)
       replace M3 := M3.kp (Kept.of hb)
       replace BW := BW.trans (hb.mono BW.size)
       clear hb
       clear M3
       obtain ⟨c64, c65, c66, c67, c68, c69, c70, c71⟩ := K4.c8
       have c72 : Box w63 (b38) [.bool m1.A.n, .slice m1.A.A m1.A.xs.length m1.A.c, .bool m1.A.m, .slice m1.A.B m1.A.ds.length m1.A.d, .bool m1.B.n, .slice m1.B.A m1.B.xs.length m1.B.c, .bool m1.B.m, .slice m1.B.B m1.B.ds.length m1.B.d, .bool m1.C.n, .slice m1.C.A m1.C.xs.length m1.C.c, .bool m1.C.m, .slice m1.C.B m1.C.ds.length m1.C.d, .bool m1.D.n, .slice m1.D.A m1.D.xs.length m1.D.c, .bool m1.D.m, .slice m1.D.B m1.D.ds.length m1.D.d] := K34
       go_wp2_with (first | (refine wpList_ldM (by rfl) (by rfl) (by rfl) c72 (by rfl) ?_))
       clear c64 c65 c66 c67 c68 c69 c70 c71 c72
       by_cases hy : oky y
       · obtain ⟨r, Fy1⟩ := oky_fy hy Y
         clear hy Y
         refine (y_Thr M1 Fy1 (benchM_det _)).mono ?_
         rintro _ w73 ⟨f1, e5, rfl, R, hb⟩
         replace K4 := K4.on hb
         replace K34 := K34.on hb
         replace K43 := K43.on hb
         replace K54 := K54.on hb
         replace Z5 := Z5.on hb
         replace Z35 := Z35.on hb
         replace Z44 := Z44.on hb
         replace Z55 := Z55.on hb
         replace M1 := M1.kp (Kept.of hb)
         replace M2 := M2.kp (Kept.of hb)
         replace Fy1 := Fy1.kp (Kept.of hb)
         replace BW := BW.trans (hb.mono BW.size)
         clear hb
         rcases R with ⟨rfl, hF5, L1⟩ | ⟨rfl, -⟩
         · clear hF5 M1
           obtain ⟨V74, e75, hb76, K77, Z78, -⟩ := alloc_new w73 [.bool f1.Y.n, .slice f1.Y.A f1.Y.xs.length f1.Y.c, .bool f1.Y.m, .slice f1.Y.B f1.Y.ds.length f1.Y.d, .bool f1.U.n, .slice f1.U.A f1.U.xs.length f1.U.c, .bool f1.U.m, .slice f1.U.B f1.U.ds.length f1.U.d] 40
           replace K77 : Box V74 (w73.heap.size) (ycs f1) := K77
           have n79 : w.heap.size ≠ w73.heap.size := Nat.ne_of_lt (K4.lt)
           have n80 : b38 ≠ w73.heap.size := Nat.ne_of_lt (K34.lt)
           have n81 : b48 ≠ w73.heap.size := Nat.ne_of_lt (K43.lt)
           have n82 : b60 ≠ w73.heap.size := Nat.ne_of_lt (K54.lt)
           have g83 : w.heap.size ≤ w73.heap.size := BW.size
           replace K4 := K4.on hb76
           replace K34 := K34.on hb76
           replace K43 := K43.on hb76
           replace K54 := K54.on hb76
           replace Z5 := Z5.on hb76
           replace Z35 := Z35.on hb76
           replace Z44 := Z44.on hb76
           replace Z55 := Z55.on hb76
           replace M2 := M2.kp (Kept.of hb76)
           replace Fy1 := Fy1.kp (Kept.of hb76)
           replace L1 := L1.kp (Kept.of hb76)
           replace BW := BW.trans (hb76.mono BW.size)
           clear hb76
           go_wp2_with fail
           rw [← e75]
           clear e75
           generalize w73.heap.size = b84 at *
           clear K34 K54 Z35 Z55
           go_cut [17, 18] (fun sv0 sw0 wx => ∃ (pka_0 : Nat) (f2 : Fv), sv0 = .pointer (some ⟨pka_0, 0, none⟩) ∧ sw0 = .int .i64 0 ∧ Below w.heap.size w wx ∧ Box wx (w.heap.size) (ycs y) ∧ Box wx (b48) (mcs m2) ∧ Box wx (b84) (ycs f1) ∧ Fz wx (w.heap.size) ∧ Fz wx (b48) ∧ Fz wx (b84) ∧ Fm wx (benchM zs.reverse) m2 ∧ Fy wx r y ∧ Fy wx ((benchM zs).thr r) f1 ∧ Box wx pka_0 [.bool f2.n, .slice f2.A f2.xs.length f2.c, .bool f2.m, .slice f2.B f2.ds.length f2.d] ∧ pka_0 ≠ w.heap.size ∧ pka_0 ≠ b48 ∧ pka_0 ≠ b84 ∧ Fz wx pka_0 ∧ w.heap.size ≤ pka_0 ∧ Ff wx (Rat.divInt 0 1 - ((benchM zs).thr r).u) f2)
           case first =>
             refine wp_region_noPanic ?_
             have hb : Below V74.heap.size V74 V74.drew := (Below.refl _ _).drew
             replace K4 := K4.on hb
             replace K43 := K43.on hb
             replace K77 := K77.on hb
             replace Z5 := Z5.on hb
             replace Z44 := Z44.on hb
             replace Z78 := Z78.on hb
             replace M2 := M2.kp (Kept.of hb)
             replace Fy1 := Fy1.kp (Kept.of hb)
             replace L1 := L1.kp (Kept.of hb)
             replace BW := BW.trans (hb.mono BW.size)
             clear hb
             refine wp_region_held_drew (S := (fun wx => Cs wx (b84) 0 [.bool f1.Y.n, .slice f1.Y.A f1.Y.xs.length f1.Y.c, .bool f1.Y.m, .slice f1.Y.B f1.Y.ds.length f1.Y.d, .bool f1.U.n, .slice f1.U.A f1.U.xs.length f1.U.c, .bool f1.U.m, .slice f1.U.B f1.U.ds.length f1.U.d])) (by kernel_rfl) (by exact K77.cs) (fun hHeld => ?_)
             generalize V74.drew = Vd85 at *
             refine pT 1 ?_
             (try simp only [p0, p1, p2, p3])
             refine pT 2 ?_
             (try simp only [p0, p1, p2, p3])
             refine pR2 0 7 (fun K hK => ?_) (fun K hK => ?_)
             · go_simp
               (go_at_call 22; with_reducible refine (b_small (X := 0) (Y := 1) (by decide) (by decide) (by decide) (by decide) (by decide) (sm_fits (by decide +kernel) (by decide +kernel))).mono ?_)
               rintro _ w86 ⟨z0, rfl, Z0, hb⟩
               (try go_wp2_with fail)
               replace K4 := K4.on hb
               replace K43 := K43.on hb
               replace K77 := K77.on hb
               replace Z5 := Z5.on hb
               replace Z44 := Z44.on hb
               replace Z78 := Z78.on hb
               replace M2 := M2.kp (Kept.of hb)
               replace Fy1 := Fy1.kp (Kept.of hb)
               replace L1 := L1.kp (Kept.of hb)
               replace BW := BW.trans (hb.mono BW.size)
               clear hb
               clear hHeld
               refine hK.out _ _ (by exact K77.cs) (fun hHeld => ?_)
               clear hK
               (try simp only [p0, p1, p2, p3])
               refine pR2 3 7 (fun K hK => ?_) (fun K hK => ?_)
               · go_simp
                 (go_at_call 21; with_reducible refine (r_sub Z0 L1.fU).mono ?_)
                 rintro _ w87 ⟨f2, er, rfl, R2, hb⟩
                 (try go_wp2_with fail)
                 replace K4 := K4.on hb
                 replace K43 := K43.on hb
                 replace K77 := K77.on hb
                 replace Z5 := Z5.on hb
                 replace Z44 := Z44.on hb
                 replace Z78 := Z78.on hb
                 replace M2 := M2.kp (Kept.of hb)
                 replace Fy1 := Fy1.kp (Kept.of hb)
                 replace L1 := L1.kp (Kept.of hb)
                 replace Z0 := Z0.kp (Kept.of hb)
                 replace BW := BW.trans (hb.mono BW.size)
                 clear hb
                 obtain ⟨rfl, L2⟩ := R2.yes not_false (by rw [zero_less]; exact fits_neg L1.fU.fits)
                 clear R2
                 clear hHeld
                 refine hK.out _ _ (by exact K77.cs) (fun hHeld => ?_)
                 clear hK
                 (try simp only [p0, p1, p2, p3])
                 refine pT 4 ?_
                 (try simp only [p0, p1, p2, p3])
                 refine pT 5 ?_
                 (try simp only [p0, p1, p2, p3])
                 refine pT 6 ?_
                 (try simp only [p0, p1, p2, p3])
                 refine pR1 7 (fun K hK => ?_)
                 go_simp
                 obtain ⟨V88, e89, hb90, K91, Z92, -⟩ := alloc_new w87 [.bool false, .slice none 0 0, .bool false, .slice none 0 0] 29
                 have n93 : w.heap.size ≠ w87.heap.size := Nat.ne_of_lt (K4.lt)
                 have n94 : b48 ≠ w87.heap.size := Nat.ne_of_lt (K43.lt)
                 have n95 : b84 ≠ w87.heap.size := Nat.ne_of_lt (K77.lt)
                 have g96 : w.heap.size ≤ w87.heap.size := BW.size
                 replace K4 := K4.on hb90
                 replace K43 := K43.on hb90
                 replace K77 := K77.on hb90
                 replace Z5 := Z5.on hb90
                 replace Z44 := Z44.on hb90
                 replace Z78 := Z78.on hb90
                 replace M2 := M2.kp (Kept.of hb90)
                 replace Fy1 := Fy1.kp (Kept.of hb90)
                 replace L1 := L1.kp (Kept.of hb90)
                 replace Z0 := Z0.kp (Kept.of hb90)
                 replace L2 := L2.kp (Kept.of hb90)
                 replace BW := BW.trans (hb90.mono BW.size)
                 clear hb90
                 rw [← e89]
                 clear e89
                 generalize w87.heap.size = b97 at *
                 clear hHeld
                 refine hK.out _ _ (by exact K77.cs) (fun hHeld => ?_)
                 clear hK
                 (try simp only [p0, p1, p2, p3])
                 refine pR1 8 (fun K hK => ?_)
                 obtain ⟨c98, c99, c100, c101⟩ := K91.c4
                 obtain ⟨c102, c103, c104, c105⟩ := Z92.f4
                 go_simp
                 clear c98 c99 c100 c101 c102 c103 c104 c105
                 obtain ⟨V106, hk108⟩ : ∃ V106, V106 = V88.setCells (b97) 0 [.bool f2.n, .slice f2.A f2.xs.length f2.c, .bool f2.m, .slice f2.B f2.ds.length f2.d] := ⟨_, rfl⟩
                 have e107 := hk108
                 simp only [World.setCells, Nat.zero_add, Nat.reduceAdd] at e107
                 have hk109 := Kept.overE hk108 K91 rfl (Nat.le_of_ble_eq_true rfl)
                 replace K4 := K4.awayE hk108 n93
                 replace K43 := K43.awayE hk108 n94
                 replace K77 := K77.awayE hk108 n95
                 replace K91 := K91.overE hk108 rfl
                 replace Z5 := Z5.putE hk108
                 replace Z44 := Z44.putE hk108
                 replace Z78 := Z78.putE hk108
                 replace Z92 := Z92.putE hk108
                 replace M2 := M2.kp hk109
                 replace Fy1 := Fy1.kp hk109
                 replace L1 := L1.kp hk109
                 replace Z0 := Z0.kp hk109
                 replace L2 := L2.kp hk109
                 replace BW := Below.putE BW hk108 g96
                 clear hk108 hk109
                 rw [← e107]
                 clear e107
                 clear hHeld
                 refine hK.out _ _ (by exact K77.cs) (fun hHeld => ?_)
                 clear hK
                 (try simp only [p0, p1, p2, p3])
                 refine pT 9 ?_
                 (try simp only [p0, p1, p2, p3])
                 refine wpAnyH_done (by kernel_rfl) (NoPanic.normal ?_) _
                 go_wp2
                 go_meet
                 exact ⟨b97, f2, rfl, rfl, BW, K4, K43, K77, Z5, Z44, Z78, M2, Fy1, L1, K91, n93.symm, n94.symm, n95.symm, Z92, g96, L2⟩
               · go_simp
                 obtain ⟨V87, e88, hb89, K90, Z91, -⟩ := alloc_new w86 [.bool false, .slice none 0 0, .bool false, .slice none 0 0] 29
                 have n92 : w.heap.size ≠ w86.heap.size := Nat.ne_of_lt (K4.lt)
                 have n93 : b48 ≠ w86.heap.size := Nat.ne_of_lt (K43.lt)
                 have n94 : b84 ≠ w86.heap.size := Nat.ne_of_lt (K77.lt)
                 have g95 : w.heap.size ≤ w86.heap.size := BW.size
                 replace K4 := K4.on hb89
                 replace K43 := K43.on hb89
                 replace K77 := K77.on hb89
                 replace Z5 := Z5.on hb89
                 replace Z44 := Z44.on hb89
                 replace Z78 := Z78.on hb89
                 replace M2 := M2.kp (Kept.of hb89)
                 replace Fy1 := Fy1.kp (Kept.of hb89)
                 replace L1 := L1.kp (Kept.of hb89)
                 replace Z0 := Z0.kp (Kept.of hb89)
                 replace BW := BW.trans (hb89.mono BW.size)
                 clear hb89
                 rw [← e88]
                 clear e88
                 generalize w86.heap.size = b96 at *
                 clear hHeld
                 refine hK.out _ _ (by exact K77.cs) (fun hHeld => ?_)
                 clear hK
                 (try simp only [p0, p1, p2, p3])
                 refine pR1 3 (fun K hK => ?_)
                 go_simp
                 (go_at_call 21; with_reducible refine (r_sub Z0 L1.fU).mono ?_)
                 rintro _ w97 ⟨f2, er, rfl, R2, hb⟩
                 (try go_wp2_with fail)
                 replace K4 := K4.on hb
                 replace K43 := K43.on hb
                 replace K77 := K77.on hb
                 replace K90 := K90.on hb
                 replace Z5 := Z5.on hb
                 replace Z44 := Z44.on hb
                 replace Z78 := Z78.on hb
                 replace Z91 := Z91.on hb
                 replace M2 := M2.kp (Kept.of hb)
                 replace Fy1 := Fy1.kp (Kept.of hb)
                 replace L1 := L1.kp (Kept.of hb)
                 replace Z0 := Z0.kp (Kept.of hb)
                 replace BW := BW.trans (hb.mono BW.size)
                 clear hb
                 obtain ⟨rfl, L2⟩ := R2.yes not_false (by rw [zero_less]; exact fits_neg L1.fU.fits)
                 clear R2
                 clear hHeld
                 refine hK.out _ _ (by exact K77.cs) (fun hHeld => ?_)
                 clear hK
                 (try simp only [p0, p1, p2, p3])
                 refine pT 4 ?_
                 (try simp only [p0, p1, p2, p3])
                 refine pT 5 ?_
                 (try simp only [p0, p1, p2, p3])
                 refine pT 6 ?_
                 (try simp only [p0, p1, p2, p3])
                 refine pR1 8 (fun K hK => ?_)
                 obtain ⟨c98, c99, c100, c101⟩ := K90.c4
                 obtain ⟨c102, c103, c104, c105⟩ := Z91.f4
                 go_simp
                 clear c98 c99 c100 c101 c102 c103 c104 c105
                 obtain ⟨V106, hk108⟩ : ∃ V106, V106 = w97.setCells (b96) 0 [.bool f2.n, .slice f2.A f2.xs.length f2.c, .bool f2.m, .slice f2.B f2.ds.length f2.d] := ⟨_, rfl⟩
                 have e107 := hk108
                 simp only [World.setCells, Nat.zero_add, Nat.reduceAdd] at e107
                 have hk109 := Kept.overE hk108 K90 rfl (Nat.le_of_ble_eq_true rfl)
                 replace K4 := K4.awayE hk108 n92
                 replace K43 := K43.awayE hk108 n93
                 replace K77 := K77.awayE hk108 n94
                 replace K90 := K90.overE hk108 rfl
                 replace Z5 := Z5.putE hk108
                 replace Z44 := Z44.putE hk108
                 replace Z78 := Z78.putE hk108
                 replace Z91 := Z91.putE hk108
                 replace M2 := M2.kp hk109
                 replace Fy1 := Fy1.kp hk109
                 replace L1 := L1.kp hk109
                 replace Z0 := Z0.kp hk109
                 replace L2 := L2.kp hk109
                 replace BW := Below.putE BW hk108 g95
                 clear hk108 hk109
                 rw [← e107]
                 clear e107
                 clear hHeld
                 refine hK.out _ _ (by exact K77.cs) (fun hHeld => ?_)
                 clear hK
                 (try simp only [p0, p1, p2, p3])
                 refine pT 9 ?_
                 (try simp only [p0, p1, p2, p3])
                 refine wpAnyH_done (by kernel_rfl) (NoPanic.normal ?_) _
                 go_wp2
                 go_meet
                 exact ⟨b96, f2, rfl, rfl, BW, K4, K43, K77, Z5, Z44, Z78, M2, Fy1, L1, K90, n92.symm, n93.symm, n94.symm, Z91, g95, L2⟩
             · go_simp
               obtain ⟨V86, e87, hb88, K89, Z90, -⟩ := alloc_new Vd85 [.bool false, .slice none 0 0, .bool false, .slice none 0 0] 29
               have n91 : w.heap.size ≠ Vd85.heap.size := Nat.ne_of_lt (K4.lt)
               have n92 : b48 ≠ Vd85.heap.size := Nat.ne_of_lt (K43.lt)
               have n93 : b84 ≠ Vd85.heap.size := Nat.ne_of_lt (K77.lt)
               have g94 : w.heap.size ≤ Vd85.heap.size := BW.size
               replace K4 := K4.on hb88
               replace K43 := K43.on hb88
               replace K77 := K77.on hb88
               replace Z5 := Z5.on hb88
               replace Z44 := Z44.on hb88
               replace Z78 := Z78.on hb88
               replace M2 := M2.kp (Kept.of hb88)
               replace Fy1 := Fy1.kp (Kept.of hb88)
               replace L1 := L1.kp (Kept.of hb88)
               replace BW := BW.trans (hb88.mono BW.size)
               clear hb88
               rw [← e87]
               clear e87
               generalize Vd85.heap.size = b95 at *
               clear hHeld
               refine hK.out _ _ (by exact K77.cs) (fun hHeld => ?_)
               clear hK
               (try simp only [p0, p1, p2, p3])
               refine pR1 0 (fun K hK => ?_)
               go_simp
               (go_at_call 22; with_reducible refine (b_small (X := 0) (Y := 1) (by decide) (by decide) (by decide) (by decide) (by decide) (sm_fits (by decide +kernel) (by decide +kernel))).mono ?_)
               rintro _ w96 ⟨z0, rfl, Z0, hb⟩
               (try go_wp2_with fail)
               replace K4 := K4.on hb
               replace K43 := K43.on hb
               replace K77 := K77.on hb
               replace K89 := K89.on hb
               replace Z5 := Z5.on hb
               replace Z44 := Z44.on hb
               replace Z78 := Z78.on hb
               replace Z90 := Z90.on hb
               replace M2 := M2.kp (Kept.of hb)
               replace Fy1 := Fy1.kp (Kept.of hb)
               replace L1 := L1.kp (Kept.of hb)
               replace BW := BW.trans (hb.mono BW.size)
               clear hb
               clear hHeld
               refine hK.out _ _ (by exact K77.cs) (fun hHeld => ?_)
               clear hK
               (try simp only [p0, p1, p2, p3])
               refine pR1 3 (fun K hK => ?_)
               go_simp
               (go_at_call 21; with_reducible refine (r_sub Z0 L1.fU).mono ?_)
               rintro _ w97 ⟨f2, er, rfl, R2, hb⟩
               (try go_wp2_with fail)
               replace K4 := K4.on hb
               replace K43 := K43.on hb
               replace K77 := K77.on hb
               replace K89 := K89.on hb
               replace Z5 := Z5.on hb
               replace Z44 := Z44.on hb
               replace Z78 := Z78.on hb
               replace Z90 := Z90.on hb
               replace M2 := M2.kp (Kept.of hb)
               replace Fy1 := Fy1.kp (Kept.of hb)
               replace L1 := L1.kp (Kept.of hb)
               replace BW := BW.trans (hb.mono BW.size)
               clear hb
               obtain ⟨rfl, L2⟩ := R2.yes not_false (by rw [zero_less]; exact fits_neg L1.fU.fits)
               clear R2
               clear hHeld
               refine hK.out _ _ (by exact K77.cs) (fun hHeld => ?_)
               clear hK
               (try simp only [p0, p1, p2, p3])
               refine pT 4 ?_
               (try simp only [p0, p1, p2, p3])
               refine pT 5 ?_
               (try simp only [p0, p1, p2, p3])
               refine pT 6 ?_
               (try simp only [p0, p1, p2, p3])
               refine pR1 8 (fun K hK => ?_)
               obtain ⟨c98, c99, c100, c101⟩ := K89.c4
               obtain ⟨c102, c103, c104, c105⟩ := Z90.f4
               go_simp
               clear c98 c99 c100 c101 c102 c103 c104 c105
               obtain ⟨V106, hk108⟩ : ∃ V106, V106 = w97.setCells (b95) 0 [.bool f2.n, .slice f2.A f2.xs.length f2.c, .bool f2.m, .slice f2.B f2.ds.length f2.d] := ⟨_, rfl⟩
               have e107 := hk108
               simp only [World.setCells, Nat.zero_add, Nat.reduceAdd] at e107
               have hk109 := Kept.overE hk108 K89 rfl (Nat.le_of_ble_eq_true rfl)
               replace K4 := K4.awayE hk108 n91
               replace K43 := K43.awayE hk108 n92
               replace K77 := K77.awayE hk108 n93
               replace K89 := K89.overE hk108 rfl
               replace Z5 := Z5.putE hk108
               replace Z44 := Z44.putE hk108
               replace Z78 := Z78.putE hk108
               replace Z90 := Z90.putE hk108
               replace M2 := M2.kp hk109
               replace Fy1 := Fy1.kp hk109
               replace L1 := L1.kp hk109
               replace L2 := L2.kp hk109
               replace BW := Below.putE BW hk108 g94
               clear hk108 hk109
               rw [← e107]
               clear e107
               clear hHeld
               refine hK.out _ _ (by exact K77.cs) (fun hHeld => ?_)
               clear hK
               (try simp only [p0, p1, p2, p3])
               refine pT 9 ?_
               (try simp only [p0, p1, p2, p3])
               refine wpAnyH_done (by kernel_rfl) (NoPanic.normal ?_) _
               go_wp2
               go_meet
               exact ⟨b95, f2, rfl, rfl, BW, K4, K43, K77, Z5, Z44, Z78, M2, Fy1, L1, K89, n91.symm, n92.symm, n93.symm, Z90, g94, L2⟩
           case rest =>
             obtain ⟨pka_0, f2, rfl, rfl, BW, K4, K43, K77, Z5, Z44, Z78, M2, Fy1, L1, KNa_0, nn85, nn86, nn87, ZN88, gn89, L2⟩ := hcut
             replace L2 := L2.to (zero_less _)
             obtain ⟨c90, c91, c92, c93, c94, c95, c96, c97⟩ := K77.c8
             obtain ⟨c98, c99, c100, c101⟩ := KNa_0.c4
             have c102 : Box wc (b48) [.bool m2.A.n, .slice m2.A.A m2.A.xs.length m2.A.c, .bool m2.A.m, .slice m2.A.B m2.A.ds.length m2.A.d, .bool m2.B.n, .slice m2.B.A m2.B.xs.length m2.B.c, .bool m2.B.m, .slice m2.B.B m2.B.ds.length m2.B.d, .bool m2.C.n, .slice m2.C.A m2.C.xs.length m2.C.c, .bool m2.C.m, .slice m2.C.B m2.C.ds.length m2.C.d, .bool m2.D.n, .slice m2.D.A m2.D.xs.length m2.D.c, .bool m2.D.m, .slice m2.D.B m2.D.ds.length m2.D.d] := K43
             go_wp2_with (first | (refine wpList_ldM (by rfl) (by rfl) (by rfl) c102 (by rfl) ?_))
             clear c90 c91 c92 c93 c94 c95 c96 c97 c98 c99 c100 c101 c102
             refine (y_Thr (r := ⟨((benchM zs).thr r).y, -((benchM zs).thr r).u⟩) (y := ⟨f1.Y, f2⟩) M2 ⟨L1.fY, L2⟩ (benchM_det _)).mono ?_
             rintro _ w103 ⟨f3, e6, rfl, R3, hb⟩
             replace K4 := K4.on hb
             replace K43 := K43.on hb
             replace K77 := K77.on hb
             replace KNa_0 := KNa_0.on hb
             replace Z44 := Z44.on hb
             replace Z78 := Z78.on hb
             replace ZN88 := ZN88.on hb
             replace M2 := M2.kp (Kept.of hb)
             replace Fy1 := Fy1.kp (Kept.of hb)
             replace L1 := L1.kp (Kept.of hb)
             replace L2 := L2.kp (Kept.of hb)
             replace BW := BW.trans (hb.mono BW.size)
             clear hb
             obtain ⟨rfl, L3⟩ := R3.yes (by rw [thr_rev]; exact fits_turn Fy1.fits')
             replace L3 := fy_to L3 thr_rev
             clear R3 L1 L2 M2
             obtain ⟨V104, e105, hb106, K107, Z108, -⟩ := alloc_new w103 [.bool f3.Y.n, .slice f3.Y.A f3.Y.xs.length f3.Y.c, .bool f3.Y.m, .slice f3.Y.B f3.Y.ds.length f3.Y.d, .bool f3.U.n, .slice f3.U.A f3.U.xs.length f3.U.c, .bool f3.U.m, .slice f3.U.B f3.U.ds.length f3.U.d] 40
             replace K107 : Box V104 (w103.heap.size) (ycs f3) := K107
             have n109 : w.heap.size ≠ w103.heap.size := Nat.ne_of_lt (K4.lt)
             have n110 : b48 ≠ w103.heap.size := Nat.ne_of_lt (K43.lt)
             have n111 : b84 ≠ w103.heap.size := Nat.ne_of_lt (K77.lt)
             have n112 : pka_0 ≠ w103.heap.size := Nat.ne_of_lt (KNa_0.lt)
             have g113 : w.heap.size ≤ w103.heap.size := BW.size
             replace K4 := K4.on hb106
             replace K43 := K43.on hb106
             replace K77 := K77.on hb106
             replace KNa_0 := KNa_0.on hb106
             replace Z44 := Z44.on hb106
             replace Z78 := Z78.on hb106
             replace ZN88 := ZN88.on hb106
             replace Fy1 := Fy1.kp (Kept.of hb106)
             replace L3 := L3.kp (Kept.of hb106)
             replace BW := BW.trans (hb106.mono BW.size)
             clear hb106
             go_wp2_with fail
             rw [← e105]
             clear e105
             generalize w103.heap.size = b114 at *
             refine wp_region_noPanic ?_
             have hb : Below V104.heap.size V104 V104.drew := (Below.refl _ _).drew
             replace K4 := K4.on hb
             replace K43 := K43.on hb
             replace K77 := K77.on hb
             replace KNa_0 := KNa_0.on hb
             replace K107 := K107.on hb
             replace Z44 := Z44.on hb
             replace Z78 := Z78.on hb
             replace ZN88 := ZN88.on hb
             replace Fy1 := Fy1.kp (Kept.of hb)
             replace L3 := L3.kp (Kept.of hb)
             replace BW := BW.trans (hb.mono BW.size)
             clear hb
             refine wp_region_held_drew (S := (fun wx => Cs wx (b114) 0 [.bool f3.Y.n, .slice f3.Y.A f3.Y.xs.length f3.Y.c, .bool f3.Y.m, .slice f3.Y.B f3.Y.ds.length f3.Y.d, .bool f3.U.n, .slice f3.U.A f3.U.xs.length f3.U.c, .bool f3.U.m, .slice f3.U.B f3.U.ds.length f3.U.d])) (by kernel_rfl) (by exact K107.cs) (fun hHeld => ?_)
             generalize V104.drew = Vd115 at *
             refine pT 1 ?_
             (try simp only [p0, p1, p2, p3])
             refine pT 2 ?_
             (try simp only [p0, p1, p2, p3])
             refine pR1 0 (fun K hK => ?_)
             go_simp
             (go_at_call 22; with_reducible refine (b_small (X := 0) (Y := 1) (by decide) (by decide) (by decide) (by decide) (by decide) (sm_fits (by decide +kernel) (by decide +kernel))).mono ?_)
             rintro _ w116 ⟨z1, rfl, Z1, hb⟩
             (try go_wp2_with fail)
             replace K4 := K4.on hb
             replace K43 := K43.on hb
             replace K77 := K77.on hb
             replace KNa_0 := KNa_0.on hb
             replace K107 := K107.on hb
             replace Z44 := Z44.on hb
             replace Z78 := Z78.on hb
             replace ZN88 := ZN88.on hb
             replace Fy1 := Fy1.kp (Kept.of hb)
             replace L3 := L3.kp (Kept.of hb)
             replace BW := BW.trans (hb.mono BW.size)
             clear hb
             clear hHeld
             refine hK.out _ _ (by exact K107.cs) (fun hHeld => ?_)
             clear hK
             (try simp only [p0, p1, p2, p3])
             refine pR1 3 (fun K hK => ?_)
             go_simp
             (go_at_call 21; with_reducible refine (r_sub Z1 L3.fU).mono ?_)
             rintro _ w117 ⟨f4, er, rfl, R4, hb⟩
             (try go_wp2_with fail)
             replace K4 := K4.on hb
             replace K43 := K43.on hb
             replace K77 := K77.on hb
             replace KNa_0 := KNa_0.on hb
             replace K107 := K107.on hb
             replace Z44 := Z44.on hb
             replace Z78 := Z78.on hb
             replace ZN88 := ZN88.on hb
             replace Fy1 := Fy1.kp (Kept.of hb)
             replace L3 := L3.kp (Kept.of hb)
             replace BW := BW.trans (hb.mono BW.size)
             clear hb
             obtain ⟨rfl, L4⟩ := R4.yes not_false (by rw [zero_less]; exact fits_neg L3.fU.fits)
             replace L4 := L4.to (turn_back r)
             clear R4
             clear hHeld
             refine hK.out _ _ (by exact K107.cs) (fun hHeld => ?_)
             clear hK
             (try simp only [p0, p1, p2, p3])
             refine pT 4 ?_
             (try simp only [p0, p1, p2, p3])
             refine pT 5 ?_
             (try simp only [p0, p1, p2, p3])
             refine pT 6 ?_
             (try simp only [p0, p1, p2, p3])
             refine pR1 7 (fun K hK => ?_)
             obtain ⟨c118, c119, c120, c121⟩ := KNa_0.c4
             obtain ⟨c122, c123, c124, c125⟩ := ZN88.f4
             go_simp
             clear c118 c119 c120 c121 c122 c123 c124 c125
             obtain ⟨V126, hk128⟩ : ∃ V126, V126 = w117.setCells (pka_0) 0 [.bool f4.n, .slice f4.A f4.xs.length f4.c, .bool f4.m, .slice f4.B f4.ds.length f4.d] := ⟨_, rfl⟩
             have e127 := hk128
             simp only [World.setCells, Nat.zero_add, Nat.reduceAdd] at e127
             have hk129 := Kept.overE hk128 KNa_0 rfl (Nat.le_of_ble_eq_true rfl)
             replace K4 := K4.awayE hk128 nn85.symm
             replace K43 := K43.awayE hk128 nn86.symm
             replace K77 := K77.awayE hk128 nn87.symm
             replace KNa_0 := KNa_0.overE hk128 rfl
             replace K107 := K107.awayE hk128 n112.symm
             replace Z44 := Z44.putE hk128
             replace Z78 := Z78.putE hk128
             replace Fy1 := Fy1.kp hk129
             replace L3 := L3.kp hk129
             replace L4 := L4.kp hk129
             replace BW := Below.putE BW hk128 gn89
             clear hk128 hk129
             rw [← e127]
             clear e127
             clear hHeld
             refine hK.out _ _ (by exact K107.cs) (fun hHeld => ?_)
             clear hK
             (try simp only [p0, p1, p2, p3])
             refine pT 8 ?_
             (try simp only [p0, p1, p2, p3])
             refine wpAnyH_done (by kernel_rfl) (NoPanic.normal ?_) _
             obtain ⟨c130, c131, c132, c133, c134, c135, c136, c137⟩ := K4.c8
             obtain ⟨c138, c139, c140, c141, c142, c143, c144, c145⟩ := K107.c8
             go_wp2_with fail
             clear c130 c131 c132 c133 c134 c135 c136 c137 c138 c139 c140 c141 c142 c143 c144 c145
             refine (r_same L3.fY Fy1.fY).mono ?_
             rintro _ w146 ⟨rfl, hb⟩
             replace K4 := K4.on hb
             replace K43 := K43.on hb
             replace K77 := K77.on hb
             replace KNa_0 := KNa_0.on hb
             replace Z44 := Z44.on hb
             replace Z78 := Z78.on hb
             replace Fy1 := Fy1.kp (Kept.of hb)
             replace L4 := L4.kp (Kept.of hb)
             replace BW := BW.trans (hb.mono BW.size)
             clear hb
             rw [decide_eq_true (show r.turn.y = r.y from rfl)]
             obtain ⟨c147, c148, c149, c150, c151, c152, c153, c154⟩ := K4.c8
             obtain ⟨c155, c156, c157, c158⟩ := KNa_0.c4
             go_wp2_with fail
             clear c147 c148 c149 c150 c151 c152 c153 c154 c155 c156 c157 c158
             refine (r_same L4 Fy1.fU).mono ?_
             rintro _ w159 ⟨rfl, hb⟩
             replace K4 := K4.on hb
             replace K43 := K43.on hb
             replace K77 := K77.on hb
             replace Z44 := Z44.on hb
             replace Z78 := Z78.on hb
             replace BW := BW.trans (hb.mono BW.size)
             clear hb
             rw [decide_eq_true rfl]
             go_wp2_with fail
             exact bodyPost_ret (v := .bool true) (by simp [results, Tryz.results4, go_sem]) rfl ⟨rfl, BW⟩
         · obtain ⟨V74, e75, hb76, K77, Z78, -⟩ := alloc_new w73 [.bool f1.Y.n, .slice f1.Y.A f1.Y.xs.length f1.Y.c, .bool f1.Y.m, .slice f1.Y.B f1.Y.ds.length f1.Y.d, .bool f1.U.n, .slice f1.U.A f1.U.xs.length f1.U.c, .bool f1.U.m, .slice f1.U.B f1.U.ds.length f1.U.d] 40
           replace K77 : Box V74 (w73.heap.size) (ycs f1) := K77
           have n79 : w.heap.size ≠ w73.heap.size := Nat.ne_of_lt (K4.lt)
           have n80 : b38 ≠ w73.heap.size := Nat.ne_of_lt (K34.lt)
           have n81 : b48 ≠ w73.heap.size := Nat.ne_of_lt (K43.lt)
           have n82 : b60 ≠ w73.heap.size := Nat.ne_of_lt (K54.lt)
           have g83 : w.heap.size ≤ w73.heap.size := BW.size
           replace K4 := K4.on hb76
           replace K34 := K34.on hb76
           replace K43 := K43.on hb76
           replace K54 := K54.on hb76
           replace Z44 := Z44.on hb76
           replace BW := BW.trans (hb76.mono BW.size)
           clear hb76
           go_wp2_with fail
           rw [← e75]
           clear e75
           generalize w73.heap.size = b84 at *
           exact bodyPost_ret (v := .bool true) (by simp [results, Tryz.results4, go_sem]) rfl ⟨rfl, BW⟩
       · refine (y_ThrNo M1 (benchM_det _) Y (or_one hy)).mono ?_
         rintro _ w73 ⟨rfl, hb⟩
         replace K4 := K4.on hb
         replace K34 := K34.on hb
         replace K43 := K43.on hb
         replace K54 := K54.on hb
         replace Z44 := Z44.on hb
         replace M2 := M2.kp (Kept.of hb)
         replace BW := BW.trans (hb.mono BW.size)
         clear hb
         obtain ⟨V74, e75, hb76, K77, Z78, -⟩ := alloc_new w73 [.bool false, .slice none 0 0, .bool false, .slice none 0 0, .bool false, .slice none 0 0, .bool false, .slice none 0 0] 40
         replace K77 : Box V74 (w73.heap.size) (zcs8) := K77
         have n79 : w.heap.size ≠ w73.heap.size := Nat.ne_of_lt (K4.lt)
         have n80 : b38 ≠ w73.heap.size := Nat.ne_of_lt (K34.lt)
         have n81 : b48 ≠ w73.heap.size := Nat.ne_of_lt (K43.lt)
         have n82 : b60 ≠ w73.heap.size := Nat.ne_of_lt (K54.lt)
         have g83 : w.heap.size ≤ w73.heap.size := BW.size
         replace K4 := K4.on hb76
         replace K34 := K34.on hb76
         replace K43 := K43.on hb76
         replace Z44 := Z44.on hb76
         replace M2 := M2.kp (Kept.of hb76)
         replace BW := BW.trans (hb76.mono BW.size)
         clear hb76
         go_wp2_with fail
         rw [← e75]
         clear e75
         generalize w73.heap.size = b84 at *
         exact bodyPost_ret (v := .bool true) (by simp [results, Tryz.results4, go_sem]) rfl ⟨rfl, BW⟩
     · rcases h2 with ⟨rfl, hF2, M2⟩ | ⟨rfl, -⟩
       · exact absurd (fits_mir' (rev_mir zs ▸ hF2)) hN
       · obtain ⟨V40, e41, hb42, K43, Z44, -⟩ := alloc_new w39 [.bool m2.A.n, .slice m2.A.A m2.A.xs.length m2.A.c, .bool m2.A.m, .slice m2.A.B m2.A.ds.length m2.A.d, .bool m2.B.n, .slice m2.B.A m2.B.xs.length m2.B.c, .bool m2.B.m, .slice m2.B.B m2.B.ds.length m2.B.d, .bool m2.C.n, .slice m2.C.A m2.C.xs.length m2.C.c, .bool m2.C.m, .slice m2.C.B m2.C.ds.length m2.C.d, .bool m2.D.n, .slice m2.D.A m2.D.xs.length m2.D.c, .bool m2.D.m, .slice m2.D.B m2.D.ds.length m2.D.d] 31
         replace K43 : Box V40 (w39.heap.size) (mcs m2) := K43
         have n45 : w.heap.size ≠ w39.heap.size := Nat.ne_of_lt (K4.lt)
         have n46 : b38 ≠ w39.heap.size := Nat.ne_of_lt (K34.lt)
         have g47 : w.heap.size ≤ w39.heap.size := BW.size
         replace BW := BW.trans (hb42.mono BW.size)
         clear hb42
         go_wp2_with (first | (refine wpList_stNew (by rfl) (by rfl) (by rfl) (by rfl) (by rfl) (by rfl) (by rfl) ?_))
         rw [← e41]
         clear e41
         generalize w39.heap.size = b48 at *
         exact bodyPost_ret (v := .bool true) (by simp [results, Tryz.results4, go_sem]) rfl ⟨rfl, BW⟩
 · go_wp2_with fail
   refine (b_alive).mono ?_
   rintro _ w9 ⟨rfl, hb⟩
   replace BW := BW.trans (hb.mono BW.size)
   clear hb
   go_wp2_with fail
   exact bodyPost_ret (v := .bool true) (by simp [results, Tryz.results4, go_sem]) rfl ⟨rfl, BW⟩
end Go.Proofs.YtjamfkafgfpobaaGreat
