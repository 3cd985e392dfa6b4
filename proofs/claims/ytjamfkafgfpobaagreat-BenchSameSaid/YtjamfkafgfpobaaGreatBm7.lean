/-
  The matrix of a bench that may be. Condition: that its elements are no longer than memory.
-/
import Derived.Test.YtjamfkafgfpobaaGreatBm5
import Derived.Test.YtjamfkafgfpobaaGreatBm6
import Derived.Deep.RegionHeld3
import Derived.Deep.DeepCutAuto
import Derived.BigRegion
namespace Go.Proofs.YtjamfkafgfpobaaGreat
open Go.RowKit Nb
theorem Kept.kp {W V V' : World} (h : Kept W V) (k : Kept V V') : Kept W V' := h.trans k
/-- The elements' worths. -/
def Fes (W : World) (zs : List Eq) (es : List Ev) : Prop := zs.length = es.length ∧ ∀ (i : Nat) (z : Eq) (e : Ev), zs[i]? = some z → es[i]? = some e → Fe W z e ∧ z.may
section
variable {W W' w : World} {zs ys : List Eq} {es ds : List Ev}
theorem Fes.kp (h : Fes W zs es) (k : Kept W W') : Fes W' zs es := ⟨h.1, fun i z e h1 h2 => ⟨(h.2 i z e h1 h2).1.kp k, (h.2 i z e h1 h2).2⟩⟩
theorem Fes.may (h : Fes W zs es) : MayL W es := fun e he => by
 obtain ⟨i, hi, rfl⟩ := List.getElem_of_mem he
 have h1 : zs[i]? = some (zs[i]'(by rw [h.1]; exact hi)) := List.getElem?_eq_getElem _
 have := h.2 i _ _ h1 (List.getElem?_eq_getElem hi)
 exact ⟨_, this.1, this.2⟩
/-- The matrix of a bench. -/
def benchM (zs : List Eq) : Mq := chainM (zs.map Eq.mat)
theorem mats_step {W V : World} {zs : List Eq} {xs : List Mv} {k : Nat} {z : Eq} {f : Mv} (h : ∀ (i : Nat) (z : Eq) (m : Mv), i < k → zs[i]? = some z → xs[i]? = some m → Gm W z.mat m 2050) (kp : Kept W V) (hz : zs[k]? = some z) (hf : Gm V z.mat f 2050) :
  ∀ (i : Nat) (y : Eq) (m : Mv), i < k + 1 → zs[i]? = some y → (xs.set k f)[i]? = some m → Gm V y.mat m 2050 := fun i y m hi hy hm => by
 by_cases hk : i = k
 ·subst hk
  rw [hz] at hy
  cases hy
  have hl : i < xs.length := by
   have := (List.getElem?_eq_some_iff.1 hm).1
   rwa [List.length_set] at this
  rw [List.getElem?_set_self hl] at hm
  cases hm
  exact hf
 ·rw [List.getElem?_set_ne (fun e => hk e.symm)] at hm
  exact (h i y m (by omega) hy hm).kp kp
end
set_option maxHeartbeats 16000000 in
set_option maxRecDepth 100000 in
theorem b_Bench {a : Option Addr} {c : Nat} {es : List Ev} {zs : List Eq} {w : World} (S : Sle w a c es) (hF : Fes w zs es) (hn : es.length ≤ 4096) :
    Calls Tryz.prog 35 #[.slice a es.length c] w (GMx w ((benchM zs)) (grow 12 2050)) := by
 have HS := Lib.hid S
 have HF := Lib.hid hF
 have hn2 : (es.length : Int) ≤ 4096 := by omega
 clear S hF hn
 have BW : Below w.heap.size w w := Below.refl _ _
 obtain ⟨V1, e2, hb3, K4, Z5, -⟩ := alloc_new w [.bool false, .slice none 0 0, .bool false, .slice none 0 0, .bool false, .slice none 0 0, .bool false, .slice none 0 0, .bool false, .slice none 0 0, .bool false, .slice none 0 0, .bool false, .slice none 0 0, .bool false, .slice none 0 0] 76
 replace K4 : Box V1 (w.heap.size) (zcs16) := K4
 have g6 : w.heap.size ≤ w.heap.size := BW.size
 replace BW := BW.trans (hb3.mono BW.size)
 clear hb3
 go_enter Tryz.func35, Tryz.ntmps35
 go_upto_region 1 with fail
 rw [← e2]
 clear e2
 go_wp2_with (first | (refine wpList_makeL (n := es.length) (by rfl) (by rfl) (by rfl) (by rfl) (by omega) ?_; intro V hbV KV ZV hzV))
 have nhr : w.heap.size ≠ V1.heap.size := Nat.ne_of_lt K4.lt
 have gh : w.heap.size ≤ V1.heap.size := BW.size
 replace K4 := K4.on hbV
 replace Z5 := Z5.on hbV
 replace BW := BW.trans (hbV.mono BW.size)
 generalize V1.heap.size = h at *
 clear hbV hzV
 have gr : w.heap.size ≤ w.heap.size := by omega
 go_loopw [11] (fun iv wr => ∃ (k : Nat) (xs : List Mv), iv = .int .i64 (k : Nat) ∧ k ≤ es.length ∧ xs.length = es.length ∧ (∀ (i : Nat) (z : Eq) (m : Mv), i < k → zs[i]? = some z → xs[i]? = some m → Gm wr z.mat m 2050) ∧ Box wr h (xs.flatMap mcs) ∧ Fz wr h ∧ Box wr (w.heap.size) zcs16 ∧ Fz wr (w.heap.size) ∧ Below w.heap.size w wr) (fun iv _ => es.length - (intOf iv).toNat)
 case atStart => exact ⟨0, List.replicate es.length mv0, rfl, by omega, by simp, fun i z m hi => by omega, KV, ZV, K4, Z5, BW⟩
 case round =>
   obtain ⟨k, xs, rfl, hk, hxl, hG, KH, ZH, KR, ZR, BW⟩ := hrel
   have HG := Lib.hid hG
   clear hG
   by_cases hlt : k < es.length
   · have h2 : (k : Int) < (es.length : Int) := by omega
     obtain ⟨e, he⟩ : ∃ e, es[k]? = some e := ⟨_, List.getElem?_eq_getElem hlt⟩
     obtain ⟨z, hz⟩ : ∃ z, zs[k]? = some z := ⟨_, List.getElem?_eq_getElem (by rw [HF.out.1]; exact hlt)⟩
     obtain ⟨g, o, ha, hg, hat0⟩ := HS.out.2.2.2 k e he
     have hat : AtB wr g (o + k * 9) [.int .u8 e.k, .bool e.P.n, .slice e.P.A e.P.xs.length e.P.c, .bool e.P.m, .slice e.P.B e.P.ds.length e.P.d, .bool e.Q.n, .slice e.Q.A e.Q.xs.length e.Q.c, .bool e.Q.m, .slice e.Q.B e.Q.ds.length e.Q.d] := hat0.on hg BW
     have X := (HF.out.2 k z e hz he).1.kp (Kept.of BW)
     have HM := Lib.hid (HF.out.2 k z e hz he).2
     have HZ := Lib.hid hz
     clear hat0 he hz
     subst ha
     have KP : Kept wr wr := Kept.of (Below.refl _ _)
     obtain ⟨V501, e502, hb503, K504, -, -⟩ := alloc_new wr [.int .u8 e.k, .bool e.P.n, .slice e.P.A e.P.xs.length e.P.c, .bool e.P.m, .slice e.P.B e.P.ds.length e.P.d, .bool e.Q.n, .slice e.Q.A e.Q.xs.length e.Q.c, .bool e.Q.m, .slice e.Q.B e.Q.ds.length e.Q.d] 58
     have n505 : w.heap.size ≠ wr.heap.size := Nat.ne_of_lt (KR.lt)
     have n506 : h ≠ wr.heap.size := Nat.ne_of_lt (KH.lt)
     replace KR := KR.on hb503
     replace KH := KH.on hb503
     replace ZR := ZR.on hb503
     replace ZH := ZH.on hb503
     replace X := X.kp (Kept.of hb503)
     replace KP := KP.kp (Kept.of hb503)
     replace BW := BW.trans (hb503.mono BW.size)
     clear hb503
     go_wp2_with (first | (refine wpList_ldE (by rfl) (by rfl) (by rfl) hat (by rfl) ?_))
     rw [← e502]
     clear e502
     generalize wr.heap.size = b507 at *
     obtain ⟨c508, c509, c510, c511, c512, c513, c514, c515, c516⟩ := K504.c9
     go_wp2_with fail
     clear c508 c509 c510 c511 c512 c513 c514 c515 c516
     refine (b_matrix X HM.out).mono ?_
     rintro _ w517 ⟨f, rfl, L, hb⟩
     replace KR := KR.on hb
     replace KH := KH.on hb
     replace K504 := K504.on hb
     replace ZR := ZR.on hb
     replace ZH := ZH.on hb
     replace X := X.kp (Kept.of hb)
     replace KP := KP.kp (Kept.of hb)
     replace BW := BW.trans (hb.mono BW.size)
     clear hb
     have hl16 : k * 16 + (mcs f).length ≤ (xs.flatMap mcs).length := by rw [flat_len mcs_len, mcs_len, hxl]; omega
     obtain ⟨V9, hk9⟩ : ∃ V9, V9 = w517.setCells h (k * 16) (mcs f) := ⟨_, rfl⟩
     have HK9 := Lib.hid hk9
     have KH0 := KH
     have ZH0 := ZH
     obtain ⟨KH9, kp9⟩ := rowM_set KH (by omega) hk9
     replace ZH := ZH.putE hk9
     replace KR := KR.awayE hk9 nhr
     replace ZR := ZR.putE hk9
     have L9 := L.kp kp9
     replace BW := Below.putE BW hk9 gh
     have HG9 := Lib.hid (mats_step (k := k) HG.out (KP.trans kp9) HZ.out L9)
     clear hk9 kp9 L9
     go_wp2_with (first | (refine wpList_stLO (vs := mcs f) (by rfl) (by rfl) (by rfl) (by rfl) KH0 ZH0 hl16 (by rfl) (by rfl) ?_; rw [← HK9.out]))
     go_roundw
     case rel => exact ⟨k + 1, xs.set k f, by go_num, by omega, by rw [List.length_set]; exact hxl, HG9.out, KH9, ZH, KR, ZR, BW⟩
     case measure => simp [intOf]; omega
   · obtain rfl : k = es.length := by omega
     have KP : Kept wr wr := Kept.of (Below.refl _ _)
     have hlz : (zs.map Eq.mat).length = es.length := by rw [List.length_map]; exact HF.out.1
     have hGq : ∀ (i : Nat) (q : Mq) (m : Mv), (zs.map Eq.mat)[i]? = some q → xs[i]? = some m → Gm wr q m 2050 := fun i q m hq hm => by
         rw [List.getElem?_map] at hq
         obtain ⟨z, hz, rfl⟩ := Option.map_eq_some_iff.1 hq
         exact HG.out i z m (by have := (List.getElem?_eq_some_iff.1 hm).1; omega) hz hm
     have HQ := Lib.hid hGq
     clear hGq
     go_wp2_with fail
     refine (b_one).mono ?_
     rintro _ w701 ⟨f1, rfl, L1, hb⟩
     replace KR := KR.on hb
     replace KH := KH.on hb
     replace ZR := ZR.on hb
     replace ZH := ZH.on hb
     replace KP := KP.kp (Kept.of hb)
     replace BW := BW.trans (hb.mono BW.size)
     clear hb
     go_wp2_with fail
     have L2 := L1.to lens_zero
     have hatX : AtB w701 h 0 (xs.flatMap mcs) := KH.atB (fun j hj => by rw [Nat.zero_add])
     have hT := b_tog 12 (qs := zs.map Eq.mat) (ms := xs) (o := 0) (c := es.length) (by rw [hlz]; omega) (by rw [hlz]; omega) (by rw [hlz]; exact hxl) (fun i q m h1 h2 => (HQ.out i q m h1 h2).kp KP) (L2.mono (by decide)) KH.lt hatX (by rw [hlz]; exact Nat.le_refl _) (by omega) (by decide)
     rw [hlz] at hT
     refine (hT).mono ?_
     rintro _ w702 ⟨f3, rfl, L3, hb⟩
     replace KR := KR.on hb
     replace KH := KH.on hb
     replace ZR := ZR.on hb
     replace ZH := ZH.on hb
     replace KP := KP.kp (Kept.of hb)
     replace L1 := L1.kp (Kept.of hb)
     replace BW := BW.trans (hb.mono BW.size)
     clear hb
     obtain ⟨c703, c704, c705, c706, c707, c708, c709, c710, c711, c712, c713, c714, c715, c716, c717, c718⟩ := KR.c16
     obtain ⟨c719, c720, c721, c722, c723, c724, c725, c726, c727, c728, c729, c730, c731, c732, c733, c734⟩ := ZR.f16
     obtain ⟨V735, hk737⟩ : ∃ V735, V735 = w702.setCells (w.heap.size) 0 [.bool f3.A.n, .slice f3.A.A f3.A.xs.length f3.A.c, .bool f3.A.m, .slice f3.A.B f3.A.ds.length f3.A.d, .bool f3.B.n, .slice f3.B.A f3.B.xs.length f3.B.c, .bool f3.B.m, .slice f3.B.B f3.B.ds.length f3.B.d, .bool f3.C.n, .slice f3.C.A f3.C.xs.length f3.C.c, .bool f3.C.m, .slice f3.C.B f3.C.ds.length f3.C.d, .bool f3.D.n, .slice f3.D.A f3.D.xs.length f3.D.c, .bool f3.D.m, .slice f3.D.B f3.D.ds.length f3.D.d] := ⟨_, rfl⟩
     have e736 := hk737
     simp only [World.setCells, Nat.zero_add, Nat.reduceAdd] at e736
     have hk738 := Kept.overE hk737 KR rfl (Nat.le_of_ble_eq_true rfl)
     replace KR := KR.overE hk737 rfl
     replace KH := KH.awayE hk737 nhr.symm
     replace ZR := ZR.putE hk737
     replace ZH := ZH.putE hk737
     replace KP := KP.kp hk738
     replace L1 := L1.kp hk738
     replace L3 := L3.kp hk738
     replace BW := Below.putE BW hk737 gr
     clear hk737 hk738
     replace KR : Box V735 (w.heap.size) (mcs f3) := KR
     go_wp2_with fail
     clear c703 c704 c705 c706 c707 c708 c709 c710 c711 c712 c713 c714 c715 c716 c717 c718 c719 c720 c721 c722 c723 c724 c725 c726 c727 c728 c729 c730 c731 c732 c733 c734
     rw [← e736]
     clear e736
     exact bodyPost_ret (v := mv f3) (res_L Tryz.results35 (by rfl) KR rfl) rfl ⟨f3, rfl, L3, BW⟩
set_option maxHeartbeats 16000000 in
set_option maxRecDepth 100000 in
theorem b_Matrix {a : Option Addr} {c : Nat} {es : List Ev} {zs : List Eq} {w : World} (S : Sle w a c es) (hF : Fes w zs es) (hn : es.length ≤ 4096) :
    Calls Tryz.prog 10 #[.slice a es.length c] w (fun e w' => ∃ (f : Mv) (e1 : Int), e = .returned (.tuple #[mv f, .int .i64 e1]) ∧ MIs w' (benchM zs) f e1 ∧ Below w.heap.size w w') := by
 have HS := Lib.hid S
 have HF := Lib.hid hF
 have hn2 : (es.length : Int) ≤ 4096 := by omega
 have HN := Lib.hid hn
 clear S hF hn
 have BW : Below w.heap.size w w := Below.refl _ _
 obtain ⟨V1, e2, hb3, K4, Z5, -⟩ := alloc_new w [.bool false, .slice none 0 0, .bool false, .slice none 0 0, .bool false, .slice none 0 0, .bool false, .slice none 0 0, .bool false, .slice none 0 0, .bool false, .slice none 0 0, .bool false, .slice none 0 0, .bool false, .slice none 0 0] 31
 replace K4 : Box V1 (w.heap.size) (zcs16) := K4
 have g6 : w.heap.size ≤ w.heap.size := BW.size
 replace BW := BW.trans (hb3.mono BW.size)
 clear hb3
 go_enter Tryz.func10, Tryz.ntmps10
 go_upto_region 1 with fail
 rw [← e2]
 clear e2
 go_wp2_with fail
 have BW0 := Lib.hid BW
 refine (b_check (HS.out.on BW)).mono ?_
 rintro _ w7 ⟨r, rfl, hr, hb⟩
 replace K4 := K4.on hb
 replace Z5 := Z5.on hb
 replace BW := BW.trans (hb.mono BW.size)
 clear hb
 obtain rfl : r = 0 := hr.yes (by omega) (HF.out.kp (Kept.of BW0.out)).may
 clear hr
 go_wp2_with fail
 refine (b_Bench (HS.out.on BW) (HF.out.kp (Kept.of BW)) HN.out).mono ?_
 rintro _ w8 ⟨f3, rfl, L3, hb⟩
 replace K4 := K4.on hb
 replace Z5 := Z5.on hb
 replace BW := BW.trans (hb.mono BW.size)
 clear hb
 go_wp2_with fail
 refine (b_fit L3 (by decide)).mono ?_
 rintro _ w9 ⟨f4, e4, rfl, h4, hb⟩
 replace K4 := K4.on hb
 replace Z5 := Z5.on hb
 replace BW := BW.trans (hb.mono BW.size)
 clear hb
 obtain ⟨c10, c11, c12, c13, c14, c15, c16, c17, c18, c19, c20, c21, c22, c23, c24, c25⟩ := K4.c16
 obtain ⟨c26, c27, c28, c29, c30, c31, c32, c33, c34, c35, c36, c37, c38, c39, c40, c41⟩ := Z5.f16
 obtain ⟨V42, hk44⟩ : ∃ V42, V42 = w9.setCells (w.heap.size) 0 [.bool f4.A.n, .slice f4.A.A f4.A.xs.length f4.A.c, .bool f4.A.m, .slice f4.A.B f4.A.ds.length f4.A.d, .bool f4.B.n, .slice f4.B.A f4.B.xs.length f4.B.c, .bool f4.B.m, .slice f4.B.B f4.B.ds.length f4.B.d, .bool f4.C.n, .slice f4.C.A f4.C.xs.length f4.C.c, .bool f4.C.m, .slice f4.C.B f4.C.ds.length f4.C.d, .bool f4.D.n, .slice f4.D.A f4.D.xs.length f4.D.c, .bool f4.D.m, .slice f4.D.B f4.D.ds.length f4.D.d] := ⟨_, rfl⟩
 have e43 := hk44
 simp only [World.setCells, Nat.zero_add, Nat.reduceAdd] at e43
 have hk45 := Kept.overE hk44 K4 rfl (Nat.le_of_ble_eq_true rfl)
 replace K4 := K4.overE hk44 rfl
 replace h4 := h4.kp hk45
 replace BW := Below.putE BW hk44 g6
 clear hk44 hk45
 replace K4 : Box V42 (w.heap.size) (mcs f4) := K4
 go_wp2_with fail
 clear c10 c11 c12 c13 c14 c15 c16 c17 c18 c19 c20 c21 c22 c23 c24 c25 c26 c27 c28 c29 c30 c31 c32 c33 c34 c35 c36 c37 c38 c39 c40 c41
 rw [← e43]
 clear e43
 exact bodyPost_ret (v := .tuple #[mv f4, .int .i64 e4]) (res_M2 Tryz.results10 (by rfl) (by rfl) K4 rfl) rfl ⟨f4, e4, rfl, h4, BW⟩
end Go.Proofs.YtjamfkafgfpobaaGreat
