/-
  What the statements of the whole call of their own; a bench that may not be. Conditions: as each theorem states.
-/
import Derived.Test.YtjamfkafgfpobaaGreatDoorTp0
import Derived.Test.YtjamfkafgfpobaaGreatDoorTxt
import Derived.Test.YtjamfkafgfpobaaGreatDoorRgt
import Derived.Test.YtjamfkafgfpobaaGreatDoorRlc
import Derived.Deep.RegionHeld3
import Derived.Deep.DeepCutAuto
import Derived.BigRegion
namespace Go.Proofs.YtjamfkafgfpobaaGreatDoor
open Go.RowKit Nb
theorem Box.c17 {W : World} {p : Nat} {a0 a1 a2 a3 a4 a5 a6 a7 a8 a9 a10 a11 a12 a13 a14 a15 a16 : Value} (K : Box W p [a0, a1, a2, a3, a4, a5, a6, a7, a8, a9, a10, a11, a12, a13, a14, a15, a16]) : W.cell? ⟨p, 0, none⟩ = some a0 ∧ W.cell? ⟨p, 1, none⟩ = some a1 ∧ W.cell? ⟨p, 2, none⟩ = some a2 ∧ W.cell? ⟨p, 3, none⟩ = some a3 ∧ W.cell? ⟨p, 4, none⟩ = some a4 ∧ W.cell? ⟨p, 5, none⟩ = some a5 ∧ W.cell? ⟨p, 6, none⟩ = some a6 ∧ W.cell? ⟨p, 7, none⟩ = some a7 ∧ W.cell? ⟨p, 8, none⟩ = some a8 ∧ W.cell? ⟨p, 9, none⟩ = some a9 ∧ W.cell? ⟨p, 10, none⟩ = some a10 ∧ W.cell? ⟨p, 11, none⟩ = some a11 ∧ W.cell? ⟨p, 12, none⟩ = some a12 ∧ W.cell? ⟨p, 13, none⟩ = some a13 ∧ W.cell? ⟨p, 14, none⟩ = some a14 ∧ W.cell? ⟨p, 15, none⟩ = some a15 ∧ W.cell? ⟨p, 16, none⟩ = some a16 := ⟨K.c 0 _ rfl, K.c 1 _ rfl, K.c 2 _ rfl, K.c 3 _ rfl, K.c 4 _ rfl, K.c 5 _ rfl, K.c 6 _ rfl, K.c 7 _ rfl, K.c 8 _ rfl, K.c 9 _ rfl, K.c 10 _ rfl, K.c 11 _ rfl, K.c 12 _ rfl, K.c 13 _ rfl, K.c 14 _ rfl, K.c 15 _ rfl, K.c 16 _ rfl⟩
set_option maxHeartbeats 8000000 in
set_option maxRecDepth 20000 in
theorem t_of {X Y : Int} {w : World} (h0 : -9223372036854775808 ≤ X) (h1 : X ≤ 9223372036854775807) (k0 : -9223372036854775808 ≤ Y) (k1 : Y ≤ 9223372036854775807) (hY : Y ≠ 0) (hf : FitsQ (Rat.divInt X Y)) :
    Calls Tryz.prog 26 #[.int .i64 X, .int .i64 Y] w (GF w (Rat.divInt X Y)) := by
 have HF := Lib.hid hf
 clear hf
 have HY := Lib.hid hY
 clear hY
 have BW : Below w.heap.size w w := Below.refl _ _
 obtain ⟨V1, e2, hb3, K4, Z5, -⟩ := alloc_new w [.bool false, .slice none 0 0, .bool false, .slice none 0 0] 27
 have g6 : w.heap.size ≤ w.heap.size := BW.size
 replace BW := BW.trans (hb3.mono BW.size)
 clear hb3
 go_enter Tryz.func26, Tryz.ntmps26
 go_wp2_with fail
 rw [← e2]
 clear e2
 refine (r_of X Y _ h0 h1 k0 k1).mono ?_
 rintro _ w7 ⟨f, er, rfl, h, hb⟩
 replace K4 := K4.on hb
 replace Z5 := Z5.on hb
 replace BW := BW.trans (hb.mono BW.size)
 clear hb
 obtain ⟨rfl, L⟩ := h.yes HY.out HF.out
 clear h
 obtain ⟨V8, e9, hb10, K11, Z12, -⟩ := alloc_new w7 [.bool f.n, .slice f.A f.xs.length f.c, .bool f.m, .slice f.B f.ds.length f.d] 27
 have n13 : w.heap.size ≠ w7.heap.size := Nat.ne_of_lt (K4.lt)
 have g14 : w.heap.size ≤ w7.heap.size := BW.size
 replace K4 := K4.on hb10
 replace Z5 := Z5.on hb10
 replace L := L.kp (Kept.of hb10)
 replace BW := BW.trans (hb10.mono BW.size)
 clear hb10
 obtain ⟨c15, c16, c17, c18⟩ := K4.c4
 obtain ⟨c19, c20, c21, c22⟩ := Z5.f4
 rw [e9] at c15 c16 c17 c18 c19 c20 c21 c22
 obtain ⟨V23, hk25⟩ : ∃ V23, V23 = V8.setCells (w.heap.size) 0 [.bool f.n, .slice f.A f.xs.length f.c, .bool f.m, .slice f.B f.ds.length f.d] := ⟨_, rfl⟩
 have e24 := hk25
 simp only [World.setCells, Nat.zero_add, Nat.reduceAdd] at e24
 have hk26 := Kept.overE hk25 K4 rfl (Nat.le_of_ble_eq_true rfl)
 replace K4 := K4.overE hk25 rfl
 replace L := L.kp hk26
 replace BW := Below.putE BW hk25 g6
 clear hk25 hk26
 go_wp2_with fail
 clear c15 c16 c17 c18 c19 c20 c21 c22
 rw [← e9, ← e24]
 clear e9 e24
 generalize w7.heap.size = b27 at *
 obtain ⟨c28, c29, c30, c31⟩ := K4.c4
 exact bodyPost_ret (v := fv f) (by simp [results, Tryz.results26, go_sem, c28, c29, c30, c31]) rfl ⟨f, rfl, L, BW⟩
set_option maxHeartbeats 8000000 in
set_option maxRecDepth 20000 in
theorem t_text {q : Rat} {f : Fv} {l : List UInt8} {w : World} (L : Ff w q f) (htab : Tab w) (hl : ftxt q = l) (hn : l.length ≤ 65536) :
    Calls Tryz.prog 27 #[fv f] w (fun e w' => e = .returned (.string ⟨l.toArray⟩) ∧ Below w.heap.size w w') := by
 have HT := Lib.hid htab
 have HL := Lib.hid hl
 have H2 := Lib.hid hn
 clear htab hl hn
 have BW : Below w.heap.size w w := Below.refl _ _
 obtain ⟨V1, e2, hb3, K4, Z5, -⟩ := alloc_new w [.bool f.n, .slice f.A f.xs.length f.c, .bool f.m, .slice f.B f.ds.length f.d] 27
 have g6 : w.heap.size ≤ w.heap.size := BW.size
 replace L := L.kp (Kept.of hb3)
 replace BW := BW.trans (hb3.mono BW.size)
 clear hb3
 go_enter Tryz.func27, Tryz.ntmps27
 go_wp2_with fail
 rw [← e2]
 clear e2
 refine (r_text L (tab_below HT.out BW)).mono ?_
 rintro _ w7 ⟨⟨s, er, rfl, hs⟩, hb⟩
 replace BW := BW.trans (hb.mono BW.size)
 clear hb
 obtain ⟨rfl, rfl⟩ : er = 0 ∧ s = ⟨l.toArray⟩ := by
   rcases hs with ⟨h1, h2, _⟩ | ⟨_, h3⟩
   · refine ⟨h1, ?_⟩
     rw [HL.out] at h2
     have h3 : s.data = l.toArray := by rw [← h2, Array.toArray_toList]
     cases s
     exact congrArg ByteArray.mk h3
   · rw [HL.out] at h3; have := H2.out; omega
 clear hs
 go_wp2_with fail
 exact bodyPost_ret (v := .string ⟨l.toArray⟩) (by simp [results, Tryz.results27, go_sem]) rfl ⟨rfl, BW⟩
set_option maxHeartbeats 8000000 in
set_option maxRecDepth 20000 in
theorem t_good {r : Yq} {y : Yv} {w : World} (Y : Fy w r y) :
    Calls Tryz.prog 11 #[yv y] w (fun e w' => e = .returned (.bool true) ∧ Below w.heap.size w w') := by
 have BW : Below w.heap.size w w := Below.refl _ _
 obtain ⟨V1, e2, hb3, K4, Z5, -⟩ := alloc_new w [.bool y.Y.n, .slice y.Y.A y.Y.xs.length y.Y.c, .bool y.Y.m, .slice y.Y.B y.Y.ds.length y.Y.d, .bool y.U.n, .slice y.U.A y.U.xs.length y.U.c, .bool y.U.m, .slice y.U.B y.U.ds.length y.U.d] 29
 replace K4 : Box V1 (w.heap.size) (ycs y) := K4
 have g6 : w.heap.size ≤ w.heap.size := BW.size
 replace Y := Y.kp (Kept.of hb3)
 replace BW := BW.trans (hb3.mono BW.size)
 clear hb3
 go_enter Tryz.func11, Tryz.ntmps11
 go_wp2_with fail
 rw [← e2]
 clear e2
 refine (r_check Y.fY.fx).mono ?_
 rintro _ w7 ⟨rfl, hb⟩
 replace K4 := K4.on hb
 replace Y := Y.kp (Kept.of hb)
 replace BW := BW.trans (hb.mono BW.size)
 clear hb
 rw [chkv_ok Y.fY.okv]
 obtain ⟨c8, c9, c10, c11, c12, c13, c14, c15⟩ := K4.c8
 go_wp2_with fail
 clear c8 c9 c10 c11 c12 c13 c14 c15
 refine (r_check Y.fU.fx).mono ?_
 rintro _ w16 ⟨rfl, hb⟩
 replace Y := Y.kp (Kept.of hb)
 replace BW := BW.trans (hb.mono BW.size)
 clear hb
 rw [chkv_ok Y.fU.okv]
 go_wp2_with fail
 exact bodyPost_ret (v := .bool true) (by simp [results, Tryz.results11, go_sem]) rfl ⟨rfl, BW⟩
set_option maxHeartbeats 8000000 in
set_option maxRecDepth 20000 in
theorem t_goodNo {y : Yv} {w : World} (Y : Xy w y) (hy : ¬ oky y) :
    Calls Tryz.prog 11 #[yv y] w (fun e w' => e = .returned (.bool false) ∧ Below w.heap.size w w') := by
 have HN := Lib.hid hy
 clear hy
 have BW : Below w.heap.size w w := Below.refl _ _
 obtain ⟨V1, e2, hb3, K4, Z5, -⟩ := alloc_new w [.bool y.Y.n, .slice y.Y.A y.Y.xs.length y.Y.c, .bool y.Y.m, .slice y.Y.B y.Y.ds.length y.Y.d, .bool y.U.n, .slice y.U.A y.U.xs.length y.U.c, .bool y.U.m, .slice y.U.B y.U.ds.length y.U.d] 29
 replace K4 : Box V1 (w.heap.size) (ycs y) := K4
 have g6 : w.heap.size ≤ w.heap.size := BW.size
 replace Y := Y.kp (Kept.of hb3)
 replace BW := BW.trans (hb3.mono BW.size)
 clear hb3
 go_enter Tryz.func11, Tryz.ntmps11
 go_wp2_with fail
 rw [← e2]
 clear e2
 by_cases hY : okv y.Y
 · refine (r_check Y.xY).mono ?_
   rintro _ w7 ⟨rfl, hb⟩
   replace K4 := K4.on hb
   replace Y := Y.kp (Kept.of hb)
   replace BW := BW.trans (hb.mono BW.size)
   clear hb
   rw [chkv_ok hY]
   obtain ⟨c8, c9, c10, c11, c12, c13, c14, c15⟩ := K4.c8
   go_wp2_with fail
   clear c8 c9 c10 c11 c12 c13 c14 c15
   refine (r_check Y.xU).mono ?_
   rintro _ w16 ⟨rfl, hb⟩
   replace BW := BW.trans (hb.mono BW.size)
   clear hb
   rw [chkv_bad (fun h => HN.out ⟨hY, h⟩)]
   go_wp2_with fail
   exact bodyPost_ret (v := .bool false) (by simp [results, Tryz.results11, go_sem]) rfl ⟨rfl, BW⟩
 · refine (r_check Y.xY).mono ?_
   rintro _ w7 ⟨rfl, hb⟩
   replace BW := BW.trans (hb.mono BW.size)
   clear hb
   rw [chkv_bad hY]
   go_wp2_with fail
   exact bodyPost_ret (v := .bool false) (by simp [results, Tryz.results11, go_sem]) rfl ⟨rfl, BW⟩
def tpR : Yq := ⟨Rat.divInt 0 1, Rat.divInt 1 1⟩
theorem tp_thr : (benchM alz).thr tpR = ⟨Rat.divInt 1 2, Rat.divInt 0 1⟩ := by rw [alz_eq]; unfold alq tpR; apply Yq.ext2 <;> simp only [Mq.thr] <;> decide +kernel
theorem tp_fit : FitsY ((benchM alz).thr tpR) := by rw [tp_thr]; exact ⟨sm_fits (by decide +kernel) (by decide +kernel), sm_fits (by decide +kernel) (by decide +kernel)⟩
theorem fy_mk {W : World} {a b : Fv} (h1 : Ff W (Rat.divInt 0 1) a) (h2 : Ff W (Rat.divInt 1 1) b) : Fy W tpR ⟨a, b⟩ := ⟨h1, h2⟩
theorem tx_half : ftxt (Rat.divInt 1 2) = [49, 47, 50] := by decide +kernel
theorem tx_two : ftxt (Rat.divInt (-2) 1) = [45, 50] := by decide +kernel
theorem tx_zero : ftxt (Rat.divInt 0 1) = [48] := by decide +kernel
set_option maxHeartbeats 16000000 in
set_option maxRecDepth 100000 in
theorem t_known {w : World} (htab : Tab w) :
    Calls Tryz.prog 9 #[] w (fun e w' => e = .returned (.bool true) ∧ Below w.heap.size w w') := by
 have HT := Lib.hid htab
 clear htab
 have BW : Below w.heap.size w w := Below.refl _ _
 go_enter Tryz.func9, Tryz.ntmps9
 go_wp2_with fail
 refine (t_of (X := 1) (Y := 2) (by decide) (by decide) (by decide) (by decide) (by decide) (sm_fits (by decide +kernel) (by decide +kernel))).mono ?_
 rintro _ w1 ⟨f1, rfl, L1, hb⟩
 replace BW := BW.trans (hb.mono BW.size)
 clear hb
 go_wp2_with fail
 refine (t_of (X := 0) (Y := 1) (by decide) (by decide) (by decide) (by decide) (by decide) (sm_fits (by decide +kernel) (by decide +kernel))).mono ?_
 rintro _ w2 ⟨f2, rfl, L2, hb⟩
 replace L1 := L1.kp (Kept.of hb)
 replace BW := BW.trans (hb.mono BW.size)
 clear hb
 go_wp2_with fail
 refine (t_of (X := 2) (Y := 1) (by decide) (by decide) (by decide) (by decide) (by decide) (sm_fits (by decide +kernel) (by decide +kernel))).mono ?_
 rintro _ w3 ⟨f3, rfl, L3, hb⟩
 replace L1 := L1.kp (Kept.of hb)
 replace L2 := L2.kp (Kept.of hb)
 replace BW := BW.trans (hb.mono BW.size)
 clear hb
 go_wp2_with fail
 refine (t_of (X := 0) (Y := 1) (by decide) (by decide) (by decide) (by decide) (by decide) (sm_fits (by decide +kernel) (by decide +kernel))).mono ?_
 rintro _ w4 ⟨f4, rfl, L4, hb⟩
 replace L1 := L1.kp (Kept.of hb)
 replace L2 := L2.kp (Kept.of hb)
 replace L3 := L3.kp (Kept.of hb)
 replace BW := BW.trans (hb.mono BW.size)
 clear hb
 obtain ⟨V5, e6, hb7, K8, Z9, -⟩ := alloc_new w4 [.int .u8 1, .bool f1.n, .slice f1.A f1.xs.length f1.c, .bool f1.m, .slice f1.B f1.ds.length f1.d, .bool f2.n, .slice f2.A f2.xs.length f2.c, .bool f2.m, .slice f2.B f2.ds.length f2.d, .int .u8 2, .bool f3.n, .slice f3.A f3.xs.length f3.c, .bool f3.m, .slice f3.B f3.ds.length f3.d, .bool f4.n, .slice f4.A f4.xs.length f4.c, .bool f4.m, .slice f4.B f4.ds.length f4.d] 65
 have g10 : w.heap.size ≤ w4.heap.size := BW.size
 replace L1 := L1.kp (Kept.of hb7)
 replace L2 := L2.kp (Kept.of hb7)
 replace L3 := L3.kp (Kept.of hb7)
 replace L4 := L4.kp (Kept.of hb7)
 replace BW := BW.trans (hb7.mono BW.size)
 clear hb7
 go_wp2_with fail
 rw [← e6]
 clear e6
 generalize w4.heap.size = b11 at *
 have S1 : Sle V5 (some ⟨b11, 0, none⟩) 2 [⟨1, f1, f2⟩, ⟨2, f3, f4⟩] := sle_two (show Box V5 (b11) (ecs ⟨1, f1, f2⟩ ++ ecs ⟨2, f3, f4⟩) from K8) ⟨⟨by simp, by simp⟩, L1.fx, L2.fx⟩ ⟨⟨by simp, by simp⟩, L3.fx, L4.fx⟩
 have F1 : Fes V5 alz [⟨1, f1, f2⟩, ⟨2, f3, f4⟩] := Fes.two ⟨⟨rfl, L1, L2⟩, .inl ⟨rfl, by decide +kernel, by decide +kernel⟩⟩ ⟨⟨rfl, L3, L4⟩, .inr (.inl ⟨rfl, by decide +kernel⟩)⟩
 refine (b_Matrix S1 F1 (by simp)).mono ?_
 rintro _ w12 ⟨m1, er, rfl, h1, hb⟩
 replace K8 := K8.on hb
 replace L1 := L1.kp (Kept.of hb)
 replace L2 := L2.kp (Kept.of hb)
 replace L3 := L3.kp (Kept.of hb)
 replace L4 := L4.kp (Kept.of hb)
 replace BW := BW.trans (hb.mono BW.size)
 clear hb
 obtain ⟨rfl, M1⟩ := h1.yes alz_fits
 clear h1 S1 F1 L1 L2 L3 L4 K8
 obtain ⟨V13, e14, hb15, K16, Z17, -⟩ := alloc_new w12 [.bool m1.A.n, .slice m1.A.A m1.A.xs.length m1.A.c, .bool m1.A.m, .slice m1.A.B m1.A.ds.length m1.A.d, .bool m1.B.n, .slice m1.B.A m1.B.xs.length m1.B.c, .bool m1.B.m, .slice m1.B.B m1.B.ds.length m1.B.d, .bool m1.C.n, .slice m1.C.A m1.C.xs.length m1.C.c, .bool m1.C.m, .slice m1.C.B m1.C.ds.length m1.C.d, .bool m1.D.n, .slice m1.D.A m1.D.xs.length m1.D.c, .bool m1.D.m, .slice m1.D.B m1.D.ds.length m1.D.d] 37
 replace K16 : Box V13 (w12.heap.size) (mcs m1) := K16
 have g18 : w.heap.size ≤ w12.heap.size := BW.size
 replace M1 := M1.kp (Kept.of hb15)
 replace BW := BW.trans (hb15.mono BW.size)
 clear hb15
 go_wp2_with (first | (refine wpList_stNew (by rfl) (by rfl) (by rfl) (by rfl) (by rfl) (by rfl) (by rfl) ?_))
 (try simp only [p0, p1, p2, p3])
 rw [← e14]
 clear e14
 generalize w12.heap.size = b19 at *
 go_cut [4, 5] (fun sv0 sw0 wx => ∃ (pka_0 : Nat) (y1 : Yv), sv0 = .pointer (some ⟨pka_0, 0, none⟩) ∧ sw0 = .int .i64 0 ∧ Below w.heap.size w wx ∧ Box wx (b19) (mcs m1) ∧ Fz wx (b19) ∧ Fm wx (benchM alz) m1 ∧ Box wx pka_0 (ycs y1) ∧ pka_0 ≠ b19 ∧ Fy wx ((benchM alz).thr tpR) y1)
 case first =>
  refine wp_region_noPanic ?_
  have hb : Below V13.heap.size V13 V13.drew := (Below.refl _ _).drew
  replace K16 := K16.on hb
  replace Z17 := Z17.on hb
  replace M1 := M1.kp (Kept.of hb)
  replace BW := BW.trans (hb.mono BW.size)
  clear hb
  refine wp_region_held_drew (S := (fun wx => Box wx (b19) [.bool m1.A.n, .slice m1.A.A m1.A.xs.length m1.A.c, .bool m1.A.m, .slice m1.A.B m1.A.ds.length m1.A.d, .bool m1.B.n, .slice m1.B.A m1.B.xs.length m1.B.c, .bool m1.B.m, .slice m1.B.B m1.B.ds.length m1.B.d, .bool m1.C.n, .slice m1.C.A m1.C.xs.length m1.C.c, .bool m1.C.m, .slice m1.C.B m1.C.ds.length m1.C.d, .bool m1.D.n, .slice m1.D.A m1.D.xs.length m1.D.c, .bool m1.D.m, .slice m1.D.B m1.D.ds.length m1.D.d])) (by kernel_rfl) (by exact K16) (fun hHeld => ?_)
  generalize V13.drew = Vd20 at *
  refine pT 0 ?_ (hy := fun wt hSw => ldM rfl rfl hSw)
  (try simp only [p0, p1, p2, p3])
  refine pR2 1 8 (fun K hK => ?_) (fun K hK => ?_)
  ·go_simp
   (go_at_call 26; with_reducible refine (t_of (X := 0) (Y := 1) (by decide) (by decide) (by decide) (by decide) (by decide) (sm_fits (by decide +kernel) (by decide +kernel))).mono ?_)
   rintro _ w21 ⟨g1, rfl, N1, hb⟩
   (try go_wp2_with fail)
   replace K16 := K16.on hb
   replace Z17 := Z17.on hb
   replace M1 := M1.kp (Kept.of hb)
   replace BW := BW.trans (hb.mono BW.size)
   clear hb
   clear hHeld
   refine hK.out _ _ (by exact K16) (fun hHeld => ?_)
   clear hK
   (try simp only [p0, p1, p2, p3])
   refine pR2 2 8 (fun K hK => ?_) (fun K hK => ?_)
   ·go_simp
    (go_at_call 26; with_reducible refine (t_of (X := 1) (Y := 1) (by decide) (by decide) (by decide) (by decide) (by decide) (sm_fits (by decide +kernel) (by decide +kernel))).mono ?_)
    rintro _ w22 ⟨g2, rfl, N2, hb⟩
    (try go_wp2_with fail)
    replace K16 := K16.on hb
    replace Z17 := Z17.on hb
    replace M1 := M1.kp (Kept.of hb)
    replace N1 := N1.kp (Kept.of hb)
    replace BW := BW.trans (hb.mono BW.size)
    clear hb
    clear hHeld
    refine hK.out _ _ (by exact K16) (fun hHeld => ?_)
    clear hK
    (try simp only [p0, p1, p2, p3])
    refine pT 3 ?_
    (try simp only [p0, p1, p2, p3])
    refine pR2 4 8 (fun K hK => ?_) (fun K hK => ?_)
    ·go_simp
     (go_at_call 13; with_reducible refine (y_Thr (r := tpR) (y := ⟨g1, g2⟩) M1 (fy_mk N1 N2) (benchM_det _)).mono ?_)
     rintro _ w23 ⟨y1, e1, rfl, R1, hb⟩
     (try go_wp2_with fail)
     replace K16 := K16.on hb
     replace Z17 := Z17.on hb
     replace M1 := M1.kp (Kept.of hb)
     replace BW := BW.trans (hb.mono BW.size)
     clear hb
     obtain ⟨rfl, L1⟩ := R1.yes tp_fit
     clear R1
     clear hHeld
     refine hK.out _ _ (by exact K16) (fun hHeld => ?_)
     clear hK
     (try simp only [p0, p1, p2, p3])
     refine pT 5 ?_
     (try simp only [p0, p1, p2, p3])
     refine pT 6 ?_
     (try simp only [p0, p1, p2, p3])
     refine pT 7 ?_
     (try simp only [p0, p1, p2, p3])
     refine pR1 8 (fun K hK => ?_)
     go_simp
     obtain ⟨V24, e25, hb26, K27, Z28, -⟩ := alloc_new w23 [.bool false, .slice none 0 0, .bool false, .slice none 0 0, .bool false, .slice none 0 0, .bool false, .slice none 0 0] 29
     replace K27 : Box V24 (w23.heap.size) (zcs8) := K27
     have n29 : b19 ≠ w23.heap.size := Nat.ne_of_lt (K16.lt)
     have g30 : w.heap.size ≤ w23.heap.size := BW.size
     replace K16 := K16.on hb26
     replace Z17 := Z17.on hb26
     replace M1 := M1.kp (Kept.of hb26)
     replace L1 := L1.kp (Kept.of hb26)
     replace BW := BW.trans (hb26.mono BW.size)
     clear hb26
     rw [← e25]
     clear e25
     generalize w23.heap.size = b31 at *
     clear hHeld
     refine hK.out _ _ (by exact K16) (fun hHeld => ?_)
     clear hK
     (try simp only [p0, p1, p2, p3])
     refine pR1 9 (fun K hK => ?_)
     obtain ⟨c32, c33, c34, c35, c36, c37, c38, c39⟩ := K27.c8
     obtain ⟨c40, c41, c42, c43, c44, c45, c46, c47⟩ := Z28.f8
     go_simp
     clear c32 c33 c34 c35 c36 c37 c38 c39 c40 c41 c42 c43 c44 c45 c46 c47
     obtain ⟨V48, hk50⟩ : ∃ V48, V48 = V24.setCells (b31) 0 [.bool y1.Y.n, .slice y1.Y.A y1.Y.xs.length y1.Y.c, .bool y1.Y.m, .slice y1.Y.B y1.Y.ds.length y1.Y.d, .bool y1.U.n, .slice y1.U.A y1.U.xs.length y1.U.c, .bool y1.U.m, .slice y1.U.B y1.U.ds.length y1.U.d] := ⟨_, rfl⟩
     have e49 := hk50
     simp only [World.setCells, Nat.zero_add, Nat.reduceAdd] at e49
     have hk51 := Kept.overE hk50 K27 rfl (Nat.le_of_ble_eq_true rfl)
     replace K16 := K16.awayE hk50 n29
     replace K27 := K27.overE hk50 rfl
     replace Z17 := Z17.putE hk50
     replace M1 := M1.kp hk51
     replace L1 := L1.kp hk51
     replace BW := Below.putE BW hk50 g30
     clear hk50 hk51
     replace K27 : Box V48 (b31) (ycs y1) := K27
     rw [← e49]
     clear e49
     clear hHeld
     refine hK.out _ _ (by exact K16) (fun hHeld => ?_)
     clear hK
     (try simp only [p0, p1, p2, p3])
     refine pT 10 ?_
     (try simp only [p0, p1, p2, p3])
     refine wpAnyH_done (by kernel_rfl) (NoPanic.normal ?_) _
     go_wp2
     go_meet
     exact ⟨b31, y1, rfl, rfl, BW, K16, Z17, M1, K27, n29.symm, L1⟩
    ·go_simp
     obtain ⟨V23, e24, hb25, K26, Z27, -⟩ := alloc_new w22 [.bool false, .slice none 0 0, .bool false, .slice none 0 0, .bool false, .slice none 0 0, .bool false, .slice none 0 0] 29
     replace K26 : Box V23 (w22.heap.size) (zcs8) := K26
     have n28 : b19 ≠ w22.heap.size := Nat.ne_of_lt (K16.lt)
     have g29 : w.heap.size ≤ w22.heap.size := BW.size
     replace K16 := K16.on hb25
     replace Z17 := Z17.on hb25
     replace M1 := M1.kp (Kept.of hb25)
     replace N1 := N1.kp (Kept.of hb25)
     replace N2 := N2.kp (Kept.of hb25)
     replace BW := BW.trans (hb25.mono BW.size)
     clear hb25
     rw [← e24]
     clear e24
     generalize w22.heap.size = b30 at *
     clear hHeld
     refine hK.out _ _ (by exact K16) (fun hHeld => ?_)
     clear hK
     (try simp only [p0, p1, p2, p3])
     refine pR1 4 (fun K hK => ?_)
     go_simp
     (go_at_call 13; with_reducible refine (y_Thr (r := tpR) (y := ⟨g1, g2⟩) M1 (fy_mk N1 N2) (benchM_det _)).mono ?_)
     rintro _ w31 ⟨y1, e1, rfl, R1, hb⟩
     (try go_wp2_with fail)
     replace K16 := K16.on hb
     replace K26 := K26.on hb
     replace Z17 := Z17.on hb
     replace Z27 := Z27.on hb
     replace M1 := M1.kp (Kept.of hb)
     replace BW := BW.trans (hb.mono BW.size)
     clear hb
     obtain ⟨rfl, L1⟩ := R1.yes tp_fit
     clear R1
     clear hHeld
     refine hK.out _ _ (by exact K16) (fun hHeld => ?_)
     clear hK
     (try simp only [p0, p1, p2, p3])
     refine pT 5 ?_
     (try simp only [p0, p1, p2, p3])
     refine pT 6 ?_
     (try simp only [p0, p1, p2, p3])
     refine pT 7 ?_
     (try simp only [p0, p1, p2, p3])
     refine pR1 9 (fun K hK => ?_)
     obtain ⟨c32, c33, c34, c35, c36, c37, c38, c39⟩ := K26.c8
     obtain ⟨c40, c41, c42, c43, c44, c45, c46, c47⟩ := Z27.f8
     go_simp
     clear c32 c33 c34 c35 c36 c37 c38 c39 c40 c41 c42 c43 c44 c45 c46 c47
     obtain ⟨V48, hk50⟩ : ∃ V48, V48 = w31.setCells (b30) 0 [.bool y1.Y.n, .slice y1.Y.A y1.Y.xs.length y1.Y.c, .bool y1.Y.m, .slice y1.Y.B y1.Y.ds.length y1.Y.d, .bool y1.U.n, .slice y1.U.A y1.U.xs.length y1.U.c, .bool y1.U.m, .slice y1.U.B y1.U.ds.length y1.U.d] := ⟨_, rfl⟩
     have e49 := hk50
     simp only [World.setCells, Nat.zero_add, Nat.reduceAdd] at e49
     have hk51 := Kept.overE hk50 K26 rfl (Nat.le_of_ble_eq_true rfl)
     replace K16 := K16.awayE hk50 n28
     replace K26 := K26.overE hk50 rfl
     replace Z17 := Z17.putE hk50
     replace M1 := M1.kp hk51
     replace L1 := L1.kp hk51
     replace BW := Below.putE BW hk50 g29
     clear hk50 hk51
     replace K26 : Box V48 (b30) (ycs y1) := K26
     rw [← e49]
     clear e49
     clear hHeld
     refine hK.out _ _ (by exact K16) (fun hHeld => ?_)
     clear hK
     (try simp only [p0, p1, p2, p3])
     refine pT 10 ?_
     (try simp only [p0, p1, p2, p3])
     refine wpAnyH_done (by kernel_rfl) (NoPanic.normal ?_) _
     go_wp2
     go_meet
     exact ⟨b30, y1, rfl, rfl, BW, K16, Z17, M1, K26, n28.symm, L1⟩
   ·go_simp
    obtain ⟨V22, e23, hb24, K25, Z26, -⟩ := alloc_new w21 [.bool false, .slice none 0 0, .bool false, .slice none 0 0, .bool false, .slice none 0 0, .bool false, .slice none 0 0] 29
    replace K25 : Box V22 (w21.heap.size) (zcs8) := K25
    have n27 : b19 ≠ w21.heap.size := Nat.ne_of_lt (K16.lt)
    have g28 : w.heap.size ≤ w21.heap.size := BW.size
    replace K16 := K16.on hb24
    replace Z17 := Z17.on hb24
    replace M1 := M1.kp (Kept.of hb24)
    replace N1 := N1.kp (Kept.of hb24)
    replace BW := BW.trans (hb24.mono BW.size)
    clear hb24
    rw [← e23]
    clear e23
    generalize w21.heap.size = b29 at *
    clear hHeld
    refine hK.out _ _ (by exact K16) (fun hHeld => ?_)
    clear hK
    (try simp only [p0, p1, p2, p3])
    refine pR1 2 (fun K hK => ?_)
    go_simp
    (go_at_call 26; with_reducible refine (t_of (X := 1) (Y := 1) (by decide) (by decide) (by decide) (by decide) (by decide) (sm_fits (by decide +kernel) (by decide +kernel))).mono ?_)
    rintro _ w30 ⟨g2, rfl, N2, hb⟩
    (try go_wp2_with fail)
    replace K16 := K16.on hb
    replace K25 := K25.on hb
    replace Z17 := Z17.on hb
    replace Z26 := Z26.on hb
    replace M1 := M1.kp (Kept.of hb)
    replace N1 := N1.kp (Kept.of hb)
    replace BW := BW.trans (hb.mono BW.size)
    clear hb
    clear hHeld
    refine hK.out _ _ (by exact K16) (fun hHeld => ?_)
    clear hK
    (try simp only [p0, p1, p2, p3])
    refine pT 3 ?_
    (try simp only [p0, p1, p2, p3])
    refine pR1 4 (fun K hK => ?_)
    go_simp
    (go_at_call 13; with_reducible refine (y_Thr (r := tpR) (y := ⟨g1, g2⟩) M1 (fy_mk N1 N2) (benchM_det _)).mono ?_)
    rintro _ w31 ⟨y1, e1, rfl, R1, hb⟩
    (try go_wp2_with fail)
    replace K16 := K16.on hb
    replace K25 := K25.on hb
    replace Z17 := Z17.on hb
    replace Z26 := Z26.on hb
    replace M1 := M1.kp (Kept.of hb)
    replace BW := BW.trans (hb.mono BW.size)
    clear hb
    obtain ⟨rfl, L1⟩ := R1.yes tp_fit
    clear R1
    clear hHeld
    refine hK.out _ _ (by exact K16) (fun hHeld => ?_)
    clear hK
    (try simp only [p0, p1, p2, p3])
    refine pT 5 ?_
    (try simp only [p0, p1, p2, p3])
    refine pT 6 ?_
    (try simp only [p0, p1, p2, p3])
    refine pT 7 ?_
    (try simp only [p0, p1, p2, p3])
    refine pR1 9 (fun K hK => ?_)
    obtain ⟨c32, c33, c34, c35, c36, c37, c38, c39⟩ := K25.c8
    obtain ⟨c40, c41, c42, c43, c44, c45, c46, c47⟩ := Z26.f8
    go_simp
    clear c32 c33 c34 c35 c36 c37 c38 c39 c40 c41 c42 c43 c44 c45 c46 c47
    obtain ⟨V48, hk50⟩ : ∃ V48, V48 = w31.setCells (b29) 0 [.bool y1.Y.n, .slice y1.Y.A y1.Y.xs.length y1.Y.c, .bool y1.Y.m, .slice y1.Y.B y1.Y.ds.length y1.Y.d, .bool y1.U.n, .slice y1.U.A y1.U.xs.length y1.U.c, .bool y1.U.m, .slice y1.U.B y1.U.ds.length y1.U.d] := ⟨_, rfl⟩
    have e49 := hk50
    simp only [World.setCells, Nat.zero_add, Nat.reduceAdd] at e49
    have hk51 := Kept.overE hk50 K25 rfl (Nat.le_of_ble_eq_true rfl)
    replace K16 := K16.awayE hk50 n27
    replace K25 := K25.overE hk50 rfl
    replace Z17 := Z17.putE hk50
    replace M1 := M1.kp hk51
    replace L1 := L1.kp hk51
    replace BW := Below.putE BW hk50 g28
    clear hk50 hk51
    replace K25 : Box V48 (b29) (ycs y1) := K25
    rw [← e49]
    clear e49
    clear hHeld
    refine hK.out _ _ (by exact K16) (fun hHeld => ?_)
    clear hK
    (try simp only [p0, p1, p2, p3])
    refine pT 10 ?_
    (try simp only [p0, p1, p2, p3])
    refine wpAnyH_done (by kernel_rfl) (NoPanic.normal ?_) _
    go_wp2
    go_meet
    exact ⟨b29, y1, rfl, rfl, BW, K16, Z17, M1, K25, n27.symm, L1⟩
  ·go_simp
   obtain ⟨V21, e22, hb23, K24, Z25, -⟩ := alloc_new Vd20 [.bool false, .slice none 0 0, .bool false, .slice none 0 0, .bool false, .slice none 0 0, .bool false, .slice none 0 0] 29
   replace K24 : Box V21 (Vd20.heap.size) (zcs8) := K24
   have n26 : b19 ≠ Vd20.heap.size := Nat.ne_of_lt (K16.lt)
   have g27 : w.heap.size ≤ Vd20.heap.size := BW.size
   replace K16 := K16.on hb23
   replace Z17 := Z17.on hb23
   replace M1 := M1.kp (Kept.of hb23)
   replace BW := BW.trans (hb23.mono BW.size)
   clear hb23
   rw [← e22]
   clear e22
   generalize Vd20.heap.size = b28 at *
   clear hHeld
   refine hK.out _ _ (by exact K16) (fun hHeld => ?_)
   clear hK
   (try simp only [p0, p1, p2, p3])
   refine pR1 1 (fun K hK => ?_)
   go_simp
   (go_at_call 26; with_reducible refine (t_of (X := 0) (Y := 1) (by decide) (by decide) (by decide) (by decide) (by decide) (sm_fits (by decide +kernel) (by decide +kernel))).mono ?_)
   rintro _ w29 ⟨g1, rfl, N1, hb⟩
   (try go_wp2_with fail)
   replace K16 := K16.on hb
   replace K24 := K24.on hb
   replace Z17 := Z17.on hb
   replace Z25 := Z25.on hb
   replace M1 := M1.kp (Kept.of hb)
   replace BW := BW.trans (hb.mono BW.size)
   clear hb
   clear hHeld
   refine hK.out _ _ (by exact K16) (fun hHeld => ?_)
   clear hK
   (try simp only [p0, p1, p2, p3])
   refine pR1 2 (fun K hK => ?_)
   go_simp
   (go_at_call 26; with_reducible refine (t_of (X := 1) (Y := 1) (by decide) (by decide) (by decide) (by decide) (by decide) (sm_fits (by decide +kernel) (by decide +kernel))).mono ?_)
   rintro _ w30 ⟨g2, rfl, N2, hb⟩
   (try go_wp2_with fail)
   replace K16 := K16.on hb
   replace K24 := K24.on hb
   replace Z17 := Z17.on hb
   replace Z25 := Z25.on hb
   replace M1 := M1.kp (Kept.of hb)
   replace N1 := N1.kp (Kept.of hb)
   replace BW := BW.trans (hb.mono BW.size)
   clear hb
   clear hHeld
   refine hK.out _ _ (by exact K16) (fun hHeld => ?_)
   clear hK
   (try simp only [p0, p1, p2, p3])
   refine pT 3 ?_
   (try simp only [p0, p1, p2, p3])
   refine pR1 4 (fun K hK => ?_)
   go_simp
   (go_at_call 13; with_reducible refine (y_Thr (r := tpR) (y := ⟨g1, g2⟩) M1 (fy_mk N1 N2) (benchM_det _)).mono ?_)
   rintro _ w31 ⟨y1, e1, rfl, R1, hb⟩
   (try go_wp2_with fail)
   replace K16 := K16.on hb
   replace K24 := K24.on hb
   replace Z17 := Z17.on hb
   replace Z25 := Z25.on hb
   replace M1 := M1.kp (Kept.of hb)
   replace BW := BW.trans (hb.mono BW.size)
   clear hb
   obtain ⟨rfl, L1⟩ := R1.yes tp_fit
   clear R1
   clear hHeld
   refine hK.out _ _ (by exact K16) (fun hHeld => ?_)
   clear hK
   (try simp only [p0, p1, p2, p3])
   refine pT 5 ?_
   (try simp only [p0, p1, p2, p3])
   refine pT 6 ?_
   (try simp only [p0, p1, p2, p3])
   refine pT 7 ?_
   (try simp only [p0, p1, p2, p3])
   refine pR1 9 (fun K hK => ?_)
   obtain ⟨c32, c33, c34, c35, c36, c37, c38, c39⟩ := K24.c8
   obtain ⟨c40, c41, c42, c43, c44, c45, c46, c47⟩ := Z25.f8
   go_simp
   clear c32 c33 c34 c35 c36 c37 c38 c39 c40 c41 c42 c43 c44 c45 c46 c47
   obtain ⟨V48, hk50⟩ : ∃ V48, V48 = w31.setCells (b28) 0 [.bool y1.Y.n, .slice y1.Y.A y1.Y.xs.length y1.Y.c, .bool y1.Y.m, .slice y1.Y.B y1.Y.ds.length y1.Y.d, .bool y1.U.n, .slice y1.U.A y1.U.xs.length y1.U.c, .bool y1.U.m, .slice y1.U.B y1.U.ds.length y1.U.d] := ⟨_, rfl⟩
   have e49 := hk50
   simp only [World.setCells, Nat.zero_add, Nat.reduceAdd] at e49
   have hk51 := Kept.overE hk50 K24 rfl (Nat.le_of_ble_eq_true rfl)
   replace K16 := K16.awayE hk50 n26
   replace K24 := K24.overE hk50 rfl
   replace Z17 := Z17.putE hk50
   replace M1 := M1.kp hk51
   replace L1 := L1.kp hk51
   replace BW := Below.putE BW hk50 g27
   clear hk50 hk51
   replace K24 : Box V48 (b28) (ycs y1) := K24
   rw [← e49]
   clear e49
   clear hHeld
   refine hK.out _ _ (by exact K16) (fun hHeld => ?_)
   clear hK
   (try simp only [p0, p1, p2, p3])
   refine pT 10 ?_
   (try simp only [p0, p1, p2, p3])
   refine wpAnyH_done (by kernel_rfl) (NoPanic.normal ?_) _
   go_wp2
   go_meet
   exact ⟨b28, y1, rfl, rfl, BW, K16, Z17, M1, K24, n26.symm, L1⟩
 case rest =>
  obtain ⟨pka_0, y1, rfl, rfl, BW, K16, Z17, M1, KNa_0, nn20, L1⟩ := hcut
  rw [tp_thr] at L1
  rw [alz_eq] at M1
  obtain ⟨c21, c22, c23, c24, c25, c26, c27, c28, c29, c30, c31, c32, c33, c34, c35, c36⟩ := K16.c16
  go_wp2_with fail
  clear c21 c22 c23 c24 c25 c26 c27 c28 c29 c30 c31 c32 c33 c34 c35 c36
  refine (t_text M1.fB (tab_below HT.out BW) tx_half (by decide)).mono ?_
  rintro _ w37 ⟨rfl, hb⟩
  replace K16 := K16.on hb
  replace KNa_0 := KNa_0.on hb
  replace M1 := M1.kp (Kept.of hb)
  replace L1 := L1.kp (Kept.of hb)
  replace BW := BW.trans (hb.mono BW.size)
  clear hb
  obtain ⟨c38, c39, c40, c41, c42, c43, c44, c45, c46, c47, c48, c49, c50, c51, c52, c53⟩ := K16.c16
  go_wp2_with fail
  clear c38 c39 c40 c41 c42 c43 c44 c45 c46 c47 c48 c49 c50 c51 c52 c53
  refine (t_text M1.fC (tab_below HT.out BW) tx_two (by decide)).mono ?_
  rintro _ w54 ⟨rfl, hb⟩
  replace KNa_0 := KNa_0.on hb
  replace L1 := L1.kp (Kept.of hb)
  replace BW := BW.trans (hb.mono BW.size)
  clear hb
  obtain ⟨c55, c56, c57, c58, c59, c60, c61, c62⟩ := KNa_0.c8
  go_wp2_with fail
  clear c55 c56 c57 c58 c59 c60 c61 c62
  refine (t_text L1.fY (tab_below HT.out BW) tx_half (by decide)).mono ?_
  rintro _ w63 ⟨rfl, hb⟩
  replace KNa_0 := KNa_0.on hb
  replace L1 := L1.kp (Kept.of hb)
  replace BW := BW.trans (hb.mono BW.size)
  clear hb
  obtain ⟨c64, c65, c66, c67, c68, c69, c70, c71⟩ := KNa_0.c8
  go_wp2_with fail
  clear c64 c65 c66 c67 c68 c69 c70 c71
  refine (t_text L1.fU (tab_below HT.out BW) tx_zero (by decide)).mono ?_
  rintro _ w72 ⟨rfl, hb⟩
  replace BW := BW.trans (hb.mono BW.size)
  clear hb
  go_wp2_with fail
  exact bodyPost_ret (v := .bool true) (by simp [results, Tryz.results9, go_sem]) rfl ⟨rfl, BW⟩
theorem c_beyond3 {n1 n2 n3 : Int} {g : Nat} {w : World} (K : Box w g [.int .i64 n1, .int .i64 n2, .int .i64 n3]) : Calls Tryz.prog 6 #[.slice (some ⟨g, 0, none⟩) 3 3] w (YN w) := c_beyond (ns := [n1, n2, n3]) (c := 3) K (by simp) (by simp)
end Go.Proofs.YtjamfkafgfpobaaGreatDoor
namespace Go.Proofs.YtjamfkafgfpobaaGreatDoor
open Go.RowKit Nb
set_option maxHeartbeats 16000000 in
set_option maxRecDepth 100000 in
theorem b_MatrixNo {a : Option Addr} {c : Nat} {es : List Ev} {w : World} (S : Sle w a c es) (hn : ¬ (es.length ≤ 4096 ∧ MayL w es)) :
    Calls Tryz.prog 10 #[.slice a es.length c] w (fun e w' => ∃ (f : Mv) (e1 : Int), e = .returned (.tuple #[mv f, .int .i64 e1]) ∧ e1 ≠ 0 ∧ Below w.heap.size w w') := by
 have HS := Lib.hid S
 have HN := Lib.hid hn
 clear S hn
 have BW : Below w.heap.size w w := Below.refl _ _
 obtain ⟨V1, e2, hb3, K4, Z5, -⟩ := alloc_new w [.bool false, .slice none 0 0, .bool false, .slice none 0 0, .bool false, .slice none 0 0, .bool false, .slice none 0 0, .bool false, .slice none 0 0, .bool false, .slice none 0 0, .bool false, .slice none 0 0, .bool false, .slice none 0 0] 37
 replace K4 : Box V1 (w.heap.size) (zcs16) := K4
 have g6 : w.heap.size ≤ w.heap.size := BW.size
 replace BW := BW.trans (hb3.mono BW.size)
 clear hb3
 go_enter Tryz.func10, Tryz.ntmps10
 go_wp2_with fail
 rw [← e2]
 clear e2
 have X0 := Lib.hid BW
 refine (b_check (HS.out.on BW)).mono ?_
 rintro _ w7 ⟨r0, rfl, hr, hb⟩
 replace K4 := K4.on hb
 replace Z5 := Z5.on hb
 replace BW := BW.trans (hb.mono BW.size)
 clear hb
 have hr0 : r0 ≠ 0 := fun h => HN.out ⟨(hr.zero h).1, (hr.zero h).2.at HS.out.2.2.1⟩
 have hrb : (r0 == 0) = false := by simpa using hr0
 clear hr
 obtain ⟨c8, c9, c10, c11, c12, c13, c14, c15, c16, c17, c18, c19, c20, c21, c22, c23⟩ := K4.c16
 obtain ⟨c24, c25, c26, c27, c28, c29, c30, c31, c32, c33, c34, c35, c36, c37, c38, c39⟩ := Z5.f16
 obtain ⟨V40, hk42⟩ : ∃ V40, V40 = w7.setCells (w.heap.size) 0 [.bool false, .slice none 0 0, .bool false, .slice none 0 0, .bool false, .slice none 0 0, .bool false, .slice none 0 0, .bool false, .slice none 0 0, .bool false, .slice none 0 0, .bool false, .slice none 0 0, .bool false, .slice none 0 0] := ⟨_, rfl⟩
 have e41 := hk42
 simp only [World.setCells, Nat.zero_add, Nat.reduceAdd] at e41
 have hk43 := Kept.overE hk42 K4 rfl (Nat.le_of_ble_eq_true rfl)
 replace K4 := K4.overE hk42 rfl
 replace BW := Below.putE BW hk42 g6
 clear hk42 hk43
 replace K4 : Box V40 (w.heap.size) (zcs16) := K4
 go_wp2_with fail
 clear c8 c9 c10 c11 c12 c13 c14 c15 c16 c17 c18 c19 c20 c21 c22 c23 c24 c25 c26 c27 c28 c29 c30 c31 c32 c33 c34 c35 c36 c37 c38 c39
 rw [← e41]
 clear e41
 exact bodyPost_ret (v := .tuple #[mv mv0, .int .i64 r0]) (res_M2 Tryz.results10 (by rfl) (by rfl) K4 rfl) rfl ⟨mv0, r0, rfl, hr0, BW⟩
set_option maxHeartbeats 16000000 in
set_option maxRecDepth 100000 in
theorem b_ReverseNo {a : Option Addr} {c : Nat} {es : List Ev} {w : World} (S : Sle w a c es) (hn : ¬ (es.length ≤ 4096 ∧ MayL w es)) :
    Calls Tryz.prog 18 #[.slice a es.length c] w (fun e w' => ∃ (e1 : Int), e = .returned (.tuple #[.slice none 0 0, .int .i64 e1]) ∧ e1 ≠ 0 ∧ Below w.heap.size w w') := by
 have HS := Lib.hid S
 have HN := Lib.hid hn
 clear S hn
 have BW : Below w.heap.size w w := Below.refl _ _
 go_enter Tryz.func18, Tryz.ntmps18
 go_wp2_with fail
 have X0 := Lib.hid BW
 refine (b_check (HS.out.on BW)).mono ?_
 rintro _ w1 ⟨r0, rfl, hr, hb⟩
 replace BW := BW.trans (hb.mono BW.size)
 clear hb
 have hr0 : r0 ≠ 0 := fun h => HN.out ⟨(hr.zero h).1, (hr.zero h).2.at HS.out.2.2.1⟩
 have hrb : (r0 == 0) = false := by simpa using hr0
 clear hr
 go_wp2_with fail
 exact bodyPost_ret (v := .tuple #[.slice none 0 0, .int .i64 r0]) (by simp [results, Tryz.results18, go_sem]) rfl ⟨r0, rfl, hr0, BW⟩
end Go.Proofs.YtjamfkafgfpobaaGreatDoor
