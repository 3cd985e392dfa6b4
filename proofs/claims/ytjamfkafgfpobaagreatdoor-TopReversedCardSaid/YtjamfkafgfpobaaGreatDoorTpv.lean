/-
  A ray that goes through a bench, is turned, and goes through the reversed bench comes back, turned: yes. Conditions: that what is handed in is no longer than memory, and the table of digits.
-/
import Derived.Test.YtjamfkafgfpobaaGreatDoorTw1
import Derived.Deep.RegionHeld3
import Derived.Deep.DeepCutAuto
import Derived.BigRegion
namespace Go.Proofs.YtjamfkafgfpobaaGreatDoor
open Go.RowKit Nb
set_option maxHeartbeats 32000000 in
set_option maxRecDepth 100000 in
theorem rev_walk {a : Option Addr} {c : Nat} {es : List Ev} {y s : Yv} {w : World} (S : Sle w a c es) (Y : Xy w y) (Z : Xy w s) (htab : Tab w) :
    Calls Tryz.prog 4 #[.agg #[.slice a es.length c, .bool y.Y.n, .slice y.Y.A y.Y.xs.length y.Y.c, .bool y.Y.m, .slice y.Y.B y.Y.ds.length y.Y.d, .bool y.U.n, .slice y.U.A y.U.xs.length y.U.c, .bool y.U.m, .slice y.U.B y.U.ds.length y.U.d, .bool s.Y.n, .slice s.Y.A s.Y.xs.length s.Y.c, .bool s.Y.m, .slice s.Y.B s.Y.ds.length s.Y.d, .bool s.U.n, .slice s.U.A s.U.xs.length s.U.c, .bool s.U.m, .slice s.U.B s.U.ds.length s.U.d]] w (fun e w' => e = .returned (.bool true) ∧ Below w.heap.size w w') := by
 have HS := Lib.hid S
 have HT := Lib.hid htab
 clear S htab
 have BW : Below w.heap.size w w := Below.refl _ _
 obtain ⟨V1, e2, hb3, K4, Z5, -⟩ := alloc_new w [.slice a es.length c, .bool y.Y.n, .slice y.Y.A y.Y.xs.length y.Y.c, .bool y.Y.m, .slice y.Y.B y.Y.ds.length y.Y.d, .bool y.U.n, .slice y.U.A y.U.xs.length y.U.c, .bool y.U.m, .slice y.U.B y.U.ds.length y.U.d, .bool s.Y.n, .slice s.Y.A s.Y.xs.length s.Y.c, .bool s.Y.m, .slice s.Y.B s.Y.ds.length s.Y.d, .bool s.U.n, .slice s.U.A s.U.xs.length s.U.c, .bool s.U.m, .slice s.U.B s.U.ds.length s.U.d] 31
 have g6 : w.heap.size ≤ w.heap.size := BW.size
 replace Y := Y.kp (Kept.of hb3)
 replace Z := Z.kp (Kept.of hb3)
 replace BW := BW.trans (hb3.mono BW.size)
 clear hb3
 go_enter Tryz.func4, Tryz.ntmps4
 go_wp2_with fail
 rw [← e2]
 clear e2
 go_cut [20] (fun sw0 wx => ∃  (r : Bool), sw0 = .bool r ∧ Below w.heap.size w wx ∧ Box wx (w.heap.size) [.slice a es.length c, .bool y.Y.n, .slice y.Y.A y.Y.xs.length y.Y.c, .bool y.Y.m, .slice y.Y.B y.Y.ds.length y.Y.d, .bool y.U.n, .slice y.U.A y.U.xs.length y.U.c, .bool y.U.m, .slice y.U.B y.U.ds.length y.U.d, .bool s.Y.n, .slice s.Y.A s.Y.xs.length s.Y.c, .bool s.Y.m, .slice s.Y.B s.Y.ds.length s.Y.d, .bool s.U.n, .slice s.U.A s.U.xs.length s.U.c, .bool s.U.m, .slice s.U.B s.U.ds.length s.U.d] ∧ Fz wx (w.heap.size) ∧ Xy wx y ∧ Xy wx s)
 case first =>
  refine wp_region_noPanic ?_
  have hb : Below V1.heap.size V1 V1.drew := (Below.refl _ _).drew
  replace K4 := K4.on hb
  replace Z5 := Z5.on hb
  replace Y := Y.kp (Kept.of hb)
  replace Z := Z.kp (Kept.of hb)
  replace BW := BW.trans (hb.mono BW.size)
  clear hb
  refine wp_region_held_drew (S := (fun wx => Cs wx (w.heap.size) 0 [.slice a es.length c, .bool y.Y.n, .slice y.Y.A y.Y.xs.length y.Y.c, .bool y.Y.m, .slice y.Y.B y.Y.ds.length y.Y.d, .bool y.U.n, .slice y.U.A y.U.xs.length y.U.c, .bool y.U.m, .slice y.U.B y.U.ds.length y.U.d, .bool s.Y.n, .slice s.Y.A s.Y.xs.length s.Y.c, .bool s.Y.m, .slice s.Y.B s.Y.ds.length s.Y.d, .bool s.U.n, .slice s.U.A s.U.xs.length s.U.c, .bool s.U.m, .slice s.U.B s.U.ds.length s.U.d])) (by kernel_rfl) (by exact K4.cs) (fun hHeld => ?_)
  generalize V1.drew = Vd7 at *
  refine pT 0 ?_
  (try simp only [p0, p1, p2, p3])
  refine pT 1 ?_
  (try simp only [p0, p1, p2, p3])
  refine pT 3 ?_
  (try simp only [p0, p1, p2, p3])
  refine pT 4 ?_
  (try simp only [p0, p1, p2, p3])
  refine pT 6 ?_
  (try simp only [p0, p1, p2, p3])
  refine pT 7 ?_
  (try simp only [p0, p1, p2, p3])
  refine pR1 2 (fun K hK => ?_)
  go_simp
  (go_at_call 7; with_reducible refine (c_elems (HS.out.on BW)).mono ?_)
  rintro _ w8 ⟨n1, rfl, hb⟩
  (try go_wp2_with fail)
  replace K4 := K4.on hb
  replace Z5 := Z5.on hb
  replace Y := Y.kp (Kept.of hb)
  replace Z := Z.kp (Kept.of hb)
  replace BW := BW.trans (hb.mono BW.size)
  clear hb
  clear hHeld
  refine hK.out _ _ (by exact K4.cs) (fun hHeld => ?_)
  clear hK
  (try simp only [p0, p1, p2, p3])
  refine pR1 5 (fun K hK => ?_)
  go_simp
  (go_at_call 8; with_reducible refine (c_ray Y).mono ?_)
  rintro _ w9 ⟨n2, rfl, hb⟩
  (try go_wp2_with fail)
  replace K4 := K4.on hb
  replace Z5 := Z5.on hb
  replace Y := Y.kp (Kept.of hb)
  replace Z := Z.kp (Kept.of hb)
  replace BW := BW.trans (hb.mono BW.size)
  clear hb
  clear hHeld
  refine hK.out _ _ (by exact K4.cs) (fun hHeld => ?_)
  clear hK
  (try simp only [p0, p1, p2, p3])
  refine pR1 8 (fun K hK => ?_)
  go_simp
  (go_at_call 8; with_reducible refine (c_ray Z).mono ?_)
  rintro _ w10 ⟨n3, rfl, hb⟩
  (try go_wp2_with fail)
  replace K4 := K4.on hb
  replace Z5 := Z5.on hb
  replace Y := Y.kp (Kept.of hb)
  replace Z := Z.kp (Kept.of hb)
  replace BW := BW.trans (hb.mono BW.size)
  clear hb
  clear hHeld
  refine hK.out _ _ (by exact K4.cs) (fun hHeld => ?_)
  clear hK
  (try simp only [p0, p1, p2, p3])
  refine pR1 9 (fun K hK => ?_)
  go_simp
  obtain ⟨V11, e12, hb13, K14, -, -⟩ := alloc_new w10 [.int .i64 n1, .int .i64 n2, .int .i64 n3] 3
  have n15 : w.heap.size ≠ w10.heap.size := Nat.ne_of_lt (K4.lt)
  replace K4 := K4.on hb13
  replace Z5 := Z5.on hb13
  replace Y := Y.kp (Kept.of hb13)
  replace Z := Z.kp (Kept.of hb13)
  replace BW := BW.trans (hb13.mono BW.size)
  clear hb13
  rw [← e12]
  clear e12
  generalize w10.heap.size = b16 at *
  clear hHeld
  refine hK.out _ _ (by exact K4.cs) (fun hHeld => ?_)
  clear hK
  (try simp only [p0, p1, p2, p3])
  refine pR1 10 (fun K hK => ?_)
  go_simp
  (go_at_call 6; with_reducible refine (c_beyond3 K14).mono ?_)
  rintro _ w17 ⟨r, rfl, hb⟩
  (try go_wp2_with fail)
  replace K4 := K4.on hb
  replace Z5 := Z5.on hb
  replace Y := Y.kp (Kept.of hb)
  replace Z := Z.kp (Kept.of hb)
  replace BW := BW.trans (hb.mono BW.size)
  clear hb
  clear hHeld
  refine hK.out _ _ (by exact K4.cs) (fun hHeld => ?_)
  clear hK
  (try simp only [p0, p1, p2, p3])
  refine wpAnyH_done (by kernel_rfl) (NoPanic.normal ?_) _
  go_wp2
  go_meet
  exact ⟨r, rfl, BW, K4, Z5, Y, Z⟩
 case rest =>
  obtain ⟨r, rfl, BW, K4, Z5, Y, Z⟩ := hcut
  cases r
  ·clear Z
   obtain ⟨c7, c8, c9, c10, c11, c12, c13, c14, c15, c16, c17, c18, c19, c20, c21, c22, c23⟩ := K4.c17
   go_wp2_with fail
   clear c7 c8 c9 c10 c11 c12 c13 c14 c15 c16 c17 c18 c19 c20 c21 c22 c23
   by_cases hM : es.length ≤ 4096 ∧ MayL w es
   ·obtain ⟨zs, F0⟩ := hM.2.fes
    have HF1 := Lib.hid F0
    refine (b_reverseL (HS.out.on BW) (F0.kp (Kept.of BW)) hM.1).mono ?_
    rintro _ w24 ⟨a2, c2, xs, rfl, hxl, F2, S2, hb⟩
    replace K4 := K4.on hb
    replace Y := Y.kp (Kept.of hb)
    replace BW := BW.trans (hb.mono BW.size)
    clear hb
    clear F0
    have HXL := Lib.hid hxl.out
    clear hxl
    have HN := Lib.hid hM.1
    have HS2 := Lib.hid S2
    have HF2 := Lib.hid F2
    clear S2 F2
    have BWS : Bel w24 w24 := Below.refl _ _
    have hn2 : (es.length : Int) ≤ 4096 := by have := HN.out; omega
    by_cases hy : oky y
    ·obtain ⟨r, Fy1⟩ := hy.fy Y
     clear Y hy
     obtain ⟨c25, c26, c27, c28, c29, c30, c31, c32, c33, c34, c35, c36, c37, c38, c39, c40, c41⟩ := K4.c17
     go_wp2_with fail
     clear c25 c26 c27 c28 c29 c30 c31 c32 c33 c34 c35 c36 c37 c38 c39 c40 c41
     refine (t_good Fy1).mono ?_
     rintro _ w42 ⟨rfl, hb⟩
     replace K4 := K4.on hb
     replace Fy1 := Fy1.kp (Kept.of hb)
     replace BW := BW.trans (hb.mono BW.size)
     replace BWS := BWS.trans (hb.mono BWS.size)
     clear hb
     obtain ⟨c43, c44, c45, c46, c47, c48, c49, c50, c51, c52, c53, c54, c55, c56, c57, c58, c59⟩ := K4.c17
     go_wp2_with fail
     clear c43 c44 c45 c46 c47 c48 c49 c50 c51 c52 c53 c54 c55 c56 c57 c58 c59
     refine (b_TraceL (HS.out.on BW) (HF1.out.kp (Kept.of BW)) HN.out Fy1 rfl).mono ?_
     rintro _ w60 ⟨v, er, rfl, hT, hb⟩
     replace K4 := K4.on hb
     replace Fy1 := Fy1.kp (Kept.of hb)
     replace BW := BW.trans (hb.mono BW.size)
     replace BWS := BWS.trans (hb.mono BWS.size)
     clear hb
     rcases hT with ⟨rfl, gt, ts, rfl, htl, hRt, hKt⟩ | ⟨rfl, rfl, -⟩
     ·have HTL := Lib.hid htl
      have HRT := Lib.hid hRt
      have HKT := Lib.hid hKt
      have HST := Lib.hid (HS2.out.on BWS.b)
      have HFT := Lib.hid (HF2.out.kp (Kept.of BWS.b))
      clear htl hRt hKt HS2 HF2 BWS
      have BWT : Bel w60 w60 := Below.refl _ _
      go_upto_region 9 with fail
      obtain ⟨c61, c62, c63, c64, c65, c66, c67, c68, c69, c70, c71, c72, c73, c74, c75, c76, c77⟩ := K4.c17
      obtain ⟨V78, e79, hb80, K81, Z82, -⟩ := alloc_new w60 [.bool y.Y.n, .slice y.Y.A y.Y.xs.length y.Y.c, .bool y.Y.m, .slice y.Y.B y.Y.ds.length y.Y.d, .bool y.U.n, .slice y.U.A y.U.xs.length y.U.c, .bool y.U.m, .slice y.U.B y.U.ds.length y.U.d] 29
      replace K81 : Box V78 (w60.heap.size) (ycs y) := K81
      have n83 : w.heap.size ≠ w60.heap.size := Nat.ne_of_lt (K4.lt)
      have g84 : w.heap.size ≤ w60.heap.size := BW.size
      have gx85 := BWT.lew
      replace K4 := K4.on hb80
      replace Fy1 := Fy1.kp (Kept.of hb80)
      replace BW := BW.trans (hb80.mono BW.size)
      replace BWT := BWT.trans (hb80.mono BWT.size)
      clear hb80
      go_upto_region 10 with fail
      clear c61 c62 c63 c64 c65 c66 c67 c68 c69 c70 c71 c72 c73 c74 c75 c76 c77
      rw [← e79]
      clear e79
      generalize w60.heap.size = b86 at *
      go_upto_if 52 with fail
      go_cut [] (fun wx => ∃ (yl : Yv), Fy wx (rayAt zs r es.length) yl ∧ Box wx (b86) (ycs yl) ∧ Fy wx r y ∧ Box wx (w.heap.size) [.slice a es.length c, .bool y.Y.n, .slice y.Y.A y.Y.xs.length y.Y.c, .bool y.Y.m, .slice y.Y.B y.Y.ds.length y.Y.d, .bool y.U.n, .slice y.U.A y.U.xs.length y.U.c, .bool y.U.m, .slice y.U.B y.U.ds.length y.U.d, .bool s.Y.n, .slice s.Y.A s.Y.xs.length s.Y.c, .bool s.Y.m, .slice s.Y.B s.Y.ds.length s.Y.d, .bool s.U.n, .slice s.U.A s.U.xs.length s.U.c, .bool s.U.m, .slice s.U.B s.U.ds.length s.U.d] ∧ Below w.heap.size w wx ∧ Bel w60 wx)
      case first =>
       by_cases hle : 0 < es.length
       ·have h3 : (0 : Int) < (es.length : Int) := by omega
        obtain ⟨j, hj⟩ : ∃ j : Nat, es.length = j + 1 := ⟨es.length - 1, by omega⟩
        have hjk : (es.length : Int) - 1 = (j : Int) := by omega
        have hjg : j < es.length := by omega
        have h4 : (j : Int) < (es.length : Int) := by omega
        obtain ⟨xj, hxj⟩ : ∃ xj, ts[j]? = some xj := ⟨_, List.getElem?_eq_getElem (by rw [HTL.out]; exact hjg)⟩
        have hat : AtB V78 gt (j * 8) [.bool xj.Y.n, .slice xj.Y.A xj.Y.xs.length xj.Y.c, .bool xj.Y.m, .slice xj.Y.B xj.Y.ds.length xj.Y.d, .bool xj.U.n, .slice xj.U.A xj.U.xs.length xj.U.c, .bool xj.U.m, .slice xj.U.B xj.U.ds.length xj.U.d] := ((rowY_at HKT.out hxj).on BWT.b).2
        have LJ := (HRT.out j xj hjg hxj).kp (Kept.of BWT.b)
        rw [← hj] at LJ
        clear hj hxj hjg
        go_upto_region 11 with fail
        obtain ⟨c87, c88, c89, c90, c91, c92, c93, c94⟩ := K81.c8
        obtain ⟨c95, c96, c97, c98, c99, c100, c101, c102⟩ := Z82.f8
        obtain ⟨V103, hk105⟩ : ∃ V103, V103 = V78.setCells (b86) 0 [.bool xj.Y.n, .slice xj.Y.A xj.Y.xs.length xj.Y.c, .bool xj.Y.m, .slice xj.Y.B xj.Y.ds.length xj.Y.d, .bool xj.U.n, .slice xj.U.A xj.U.xs.length xj.U.c, .bool xj.U.m, .slice xj.U.B xj.U.ds.length xj.U.d] := ⟨_, rfl⟩
        have e104 := hk105
        simp only [World.setCells, Nat.zero_add, Nat.reduceAdd] at e104
        have hk106 := Kept.overE hk105 K81 rfl (Nat.le_of_ble_eq_true rfl)
        replace K4 := K4.awayE hk105 n83
        replace K81 := K81.overE hk105 rfl
        replace Fy1 := Fy1.kp hk106
        replace LJ := LJ.kp hk106
        replace BW := Below.putE BW hk105 g84
        replace BWT := BWT.putE hk105 gx85
        clear hk105 hk106
        replace K81 : Box V103 (b86) (ycs xj) := K81
        go_wp2_with (first | (refine wpList_ldY (by rfl) (by rfl) (by rfl) hat (by rfl) ?_))
        clear c87 c88 c89 c90 c91 c92 c93 c94 c95 c96 c97 c98 c99 c100 c101 c102
        rw [← e104]
        clear e104
        go_meet
        exact ⟨xj, LJ, K81, Fy1, K4, BW, BWT⟩
       ·have h0 : es.length = 0 := by omega
        have hz : (es.length : Int) = 0 := by omega
        go_wp2_with fail
        go_meet
        exact ⟨y, (by rw [h0, rayAt_zero]; exact Fy1), K81, Fy1, K4, BW, BWT⟩
      case rest =>
       obtain ⟨yl, LN, K6, Fy1, K1, BW, BWT⟩ := hcut
       obtain ⟨c601, c602, c603, c604, c605, c606, c607, c608⟩ := K6.c8
       go_wp2_with fail
       clear c601 c602 c603 c604 c605 c606 c607 c608
       refine (t_turned LN).mono ?_
       rintro _ w609 ⟨yt, rfl, LT, hb⟩
       replace K6 := K6.on hb
       replace K1 := K1.on hb
       replace LN := LN.kp (Kept.of hb)
       replace Fy1 := Fy1.kp (Kept.of hb)
       replace BW := BW.trans (hb.mono BW.size)
       replace BWT := BWT.trans (hb.mono BWT.size)
       clear hb
       clear LN K6
       go_wp2_with fail
       refine (b_TraceL (HST.out.on BWT.b) (HFT.out.kp (Kept.of BWT.b)) HN.out LT HXL.out).mono ?_
       rintro _ w610 ⟨v2, e2, rfl, hT2, hb⟩
       replace K1 := K1.on hb
       replace Fy1 := Fy1.kp (Kept.of hb)
       replace LT := LT.kp (Kept.of hb)
       replace BW := BW.trans (hb.mono BW.size)
       replace BWT := BWT.trans (hb.mono BWT.size)
       clear hb
       clear LT
       rcases hT2 with ⟨rfl, gu, us, rfl, hul, hRu, hKu⟩ | ⟨rfl, rfl, -⟩
       ·have HUL := Lib.hid hul
        have HRU := Lib.hid hRu
        have HKU := Lib.hid hKu
        have HRX := Lib.hid (HRT.out.kp (Kept.of BWT.b))
        have HKX := Lib.hid (HKT.out.on BWT.b)
        clear hul hRu hKu HRT HKT HST HFT BWT
        have BWU : Bel w610 w610 := Below.refl _ _
        go_wp2_with fail
        go_loopw [8] (fun iv wr => ∃ (k : Nat), iv = .int .i64 (k : Nat) ∧ k ≤ es.length ∧ Fy wr r y ∧ Box wr (w.heap.size) [.slice a es.length c, .bool y.Y.n, .slice y.Y.A y.Y.xs.length y.Y.c, .bool y.Y.m, .slice y.Y.B y.Y.ds.length y.Y.d, .bool y.U.n, .slice y.U.A y.U.xs.length y.U.c, .bool y.U.m, .slice y.U.B y.U.ds.length y.U.d, .bool s.Y.n, .slice s.Y.A s.Y.xs.length s.Y.c, .bool s.Y.m, .slice s.Y.B s.Y.ds.length s.Y.d, .bool s.U.n, .slice s.U.A s.U.xs.length s.U.c, .bool s.U.m, .slice s.U.B s.U.ds.length s.U.d] ∧ Below w.heap.size w wr ∧ Bel w610 wr) (fun iv _ => es.length - (intOf iv).toNat)
        case atStart => exact ⟨0, rfl, by omega, Fy1, K1, BW, BWU⟩
        case round =>
         obtain ⟨k, rfl, hk, Fy1, K1, BW, BWU⟩ := hrel
         by_cases hlt : k < es.length
         ·have h2 : (k : Int) < (es.length : Int) := by omega
          have HLT := Lib.hid hlt
          obtain ⟨uk, huk⟩ : ∃ uk, us[k]? = some uk := ⟨_, List.getElem?_eq_getElem (by rw [HUL.out]; exact hlt)⟩
          have HUK := Lib.hid huk
          clear huk
          go_upto_region 20 with fail
          obtain ⟨c701, c702, c703, c704, c705, c706, c707, c708, c709, c710, c711, c712, c713, c714, c715, c716, c717⟩ := K1.c17
          obtain ⟨V718, e719, hb720, K721, Z722, -⟩ := alloc_new wr [.bool y.Y.n, .slice y.Y.A y.Y.xs.length y.Y.c, .bool y.Y.m, .slice y.Y.B y.Y.ds.length y.Y.d, .bool y.U.n, .slice y.U.A y.U.xs.length y.U.c, .bool y.U.m, .slice y.U.B y.U.ds.length y.U.d] 29
          replace K721 : Box V718 (wr.heap.size) (ycs y) := K721
          have n723 : w.heap.size ≠ wr.heap.size := Nat.ne_of_lt (K1.lt)
          have g724 : w.heap.size ≤ wr.heap.size := BW.size
          have gx725 := BWU.lew
          replace K1 := K1.on hb720
          replace Fy1 := Fy1.kp (Kept.of hb720)
          replace BW := BW.trans (hb720.mono BW.size)
          replace BWU := BWU.trans (hb720.mono BWU.size)
          clear hb720
          go_upto_region 21 with fail
          clear c701 c702 c703 c704 c705 c706 c707 c708 c709 c710 c711 c712 c713 c714 c715 c716 c717
          rw [← e719]
          clear e719
          generalize wr.heap.size = b726 at *
          go_upto_if 86 with fail
          go_cut [] (fun wx => ∃ (yw : Yv), Fy wx (rayAt zs r (es.length - 1 - k)) yw ∧ Box wx (b726) (ycs yw) ∧ Fy wx r y ∧ Box wx (w.heap.size) [.slice a es.length c, .bool y.Y.n, .slice y.Y.A y.Y.xs.length y.Y.c, .bool y.Y.m, .slice y.Y.B y.Y.ds.length y.Y.d, .bool y.U.n, .slice y.U.A y.U.xs.length y.U.c, .bool y.U.m, .slice y.U.B y.U.ds.length y.U.d, .bool s.Y.n, .slice s.Y.A s.Y.xs.length s.Y.c, .bool s.Y.m, .slice s.Y.B s.Y.ds.length s.Y.d, .bool s.U.n, .slice s.U.A s.U.xs.length s.U.c, .bool s.U.m, .slice s.U.B s.U.ds.length s.U.d] ∧ Below w.heap.size w wx ∧ Bel w610 wx)
          case first =>
           skip
           by_cases hle : k + 1 < es.length
           ·have h3 : (k : Int) < (es.length : Int) - 1 := by omega
            obtain ⟨j, hj⟩ : ∃ j : Nat, j = es.length - 2 - k := ⟨_, rfl⟩
            have hjk : (es.length : Int) - 2 - (k : Int) = (j : Int) := by omega
            have hjg : j < es.length := by omega
            have h4 : (j : Int) < (es.length : Int) := by omega
            obtain ⟨xj, hxj⟩ : ∃ xj, ts[j]? = some xj := ⟨_, List.getElem?_eq_getElem (by rw [HTL.out]; exact hjg)⟩
            have hat : AtB V718 gt (j * 8) [.bool xj.Y.n, .slice xj.Y.A xj.Y.xs.length xj.Y.c, .bool xj.Y.m, .slice xj.Y.B xj.Y.ds.length xj.Y.d, .bool xj.U.n, .slice xj.U.A xj.U.xs.length xj.U.c, .bool xj.U.m, .slice xj.U.B xj.U.ds.length xj.U.d] := ((rowY_at HKX.out hxj).on BWU.b).2
            have LJ := (HRX.out j xj hjg hxj).kp (Kept.of BWU.b)
            rw [show j + 1 = es.length - 1 - k from by omega] at LJ
            clear hj hxj hjg
            go_upto_region 22 with fail
            obtain ⟨c727, c728, c729, c730, c731, c732, c733, c734⟩ := K721.c8
            obtain ⟨c735, c736, c737, c738, c739, c740, c741, c742⟩ := Z722.f8
            obtain ⟨V743, hk745⟩ : ∃ V743, V743 = V718.setCells (b726) 0 [.bool xj.Y.n, .slice xj.Y.A xj.Y.xs.length xj.Y.c, .bool xj.Y.m, .slice xj.Y.B xj.Y.ds.length xj.Y.d, .bool xj.U.n, .slice xj.U.A xj.U.xs.length xj.U.c, .bool xj.U.m, .slice xj.U.B xj.U.ds.length xj.U.d] := ⟨_, rfl⟩
            have e744 := hk745
            simp only [World.setCells, Nat.zero_add, Nat.reduceAdd] at e744
            have hk746 := Kept.overE hk745 K721 rfl (Nat.le_of_ble_eq_true rfl)
            replace K1 := K1.awayE hk745 n723
            replace K721 := K721.overE hk745 rfl
            replace Fy1 := Fy1.kp hk746
            replace LJ := LJ.kp hk746
            replace BW := Below.putE BW hk745 g724
            replace BWU := BWU.putE hk745 gx725
            clear hk745 hk746
            replace K721 : Box V743 (b726) (ycs xj) := K721
            go_wp2_with (first | (refine wpList_ldY (by rfl) (by rfl) (by rfl) hat (by rfl) ?_))
            clear c727 c728 c729 c730 c731 c732 c733 c734 c735 c736 c737 c738 c739 c740 c741 c742
            rw [← e744]
            clear e744
            go_meet
            exact ⟨xj, LJ, K721, Fy1, K1, BW, BWU⟩
           ·have h3 : ¬ (k : Int) < (es.length : Int) - 1 := by omega
            have h0 : es.length - 1 - k = 0 := by omega
            go_wp2_with fail
            go_meet
            exact ⟨y, (by rw [h0, rayAt_zero]; exact Fy1), K721, Fy1, K1, BW, BWU⟩
          case rest =>
           obtain ⟨yw, LW, K9, Fy1, K1, BW, BWU⟩ := hcut
           go_upto_region 23 with fail
           have hA : AtC wc gu (0 + k * 8) (ycs uk) := (Nat.zero_add (k * 8)).symm ▸ (rowY_at HKU.out HUK.out).on BWU.b
           have LX := rev_at (HF1.out.1) HLT.out ((HRU.out k uk HLT.out HUK.out).kp (Kept.of BWU.b))
           refine wp_region_noPanic ?_
           have hb : Below wc.heap.size wc wc.drew := (Below.refl _ _).drew
           replace K9 := K9.on hb
           replace K1 := K1.on hb
           replace hA := hA.on hb
           replace LW := LW.kp (Kept.of hb)
           replace Fy1 := Fy1.kp (Kept.of hb)
           replace LX := LX.kp (Kept.of hb)
           replace BW := BW.trans (hb.mono BW.size)
           replace BWU := BWU.trans (hb.mono BWU.size)
           clear hb
           refine wp_region_held_drew (S := (fun wx => Cs wx (b726) 0 [.bool yw.Y.n, .slice yw.Y.A yw.Y.xs.length yw.Y.c, .bool yw.Y.m, .slice yw.Y.B yw.Y.ds.length yw.Y.d, .bool yw.U.n, .slice yw.U.A yw.U.xs.length yw.U.c, .bool yw.U.m, .slice yw.U.B yw.U.ds.length yw.U.d] ∧ (AtC wx gu (0 + k * 8) [.bool uk.Y.n, .slice uk.Y.A uk.Y.xs.length uk.Y.c, .bool uk.Y.m, .slice uk.Y.B uk.Y.ds.length uk.Y.d, .bool uk.U.n, .slice uk.U.A uk.U.xs.length uk.U.c, .bool uk.U.m, .slice uk.U.B uk.U.ds.length uk.U.d]))) (by kernel_rfl) (by exact ⟨K9.cs, hA⟩) (fun hHeld => ?_)
           generalize wc.drew = Vd901 at *
           refine pT 0 ?_
           (try simp only [p0, p1, p2, p3])
           refine pT 1 ?_
           (try simp only [p0, p1, p2, p3])
           refine pT 2 ?_ (hy := fun wt hSw => ixY rfl rfl rfl HLT.out)
           (try simp only [p0, p1, p2, p3])
           refine pT 3 ?_ (hy := fun wt hSw => ldYC rfl rfl hSw.2 rfl)
           (try simp only [p0, p1, p2, p3])
           refine pT 4 ?_
           (try simp only [p0, p1, p2, p3])
           refine pR1 5 (fun K hK => ?_)
           go_simp
           (go_at_call 20; with_reducible refine (t_turned LW).mono ?_)
           rintro _ w902 ⟨yg, rfl, LT, hb⟩
           (try go_wp2_with fail)
           replace K9 := K9.on hb
           replace K1 := K1.on hb
           replace hA := hA.on hb
           replace LW := LW.kp (Kept.of hb)
           replace Fy1 := Fy1.kp (Kept.of hb)
           replace LX := LX.kp (Kept.of hb)
           replace BW := BW.trans (hb.mono BW.size)
           replace BWU := BWU.trans (hb.mono BWU.size)
           clear hb
           clear hHeld
           refine hK.out _ _ (by exact ⟨K9.cs, hA⟩) (fun hHeld => ?_)
           clear hK
           (try simp only [p0, p1, p2, p3])
           refine pR1 6 (fun K hK => ?_)
           go_simp
           (go_at_call 17; with_reducible refine (y_sameY LX LT).mono ?_)
           rintro _ w903 ⟨rfl, hb⟩
           (try go_wp2_with fail)
           replace K9 := K9.on hb
           replace K1 := K1.on hb
           replace hA := hA.on hb
           replace LW := LW.kp (Kept.of hb)
           replace Fy1 := Fy1.kp (Kept.of hb)
           replace LX := LX.kp (Kept.of hb)
           replace LT := LT.kp (Kept.of hb)
           replace BW := BW.trans (hb.mono BW.size)
           replace BWU := BWU.trans (hb.mono BWU.size)
           clear hb
           clear hHeld
           refine hK.out _ _ (by exact ⟨K9.cs, hA⟩) (fun hHeld => ?_)
           clear hK
           (try simp only [p0, p1, p2, p3])
           refine pT 7 ?_
           (try simp only [p0, p1, p2, p3])
           refine wpAnyH_done (by kernel_rfl) (NoPanic.normal ?_) _
           clear hA LX LW LT
           go_wp2_with fail
           go_roundw
           case rel => exact ⟨k + 1, by go_num, by omega, Fy1, K1, BW, BWU⟩
           case measure => simp [intOf]; omega
         ·obtain rfl : k = es.length := by omega
          clear BWU K1 Fy1
          go_wp2_with fail
          refine (t_known (tab_below HT.out BW)).mono ?_
          rintro _ w1501 ⟨rfl, hb⟩
          replace BW := BW.trans (hb.mono BW.size)
          clear hb
          go_wp2_with fail
          exact bodyPost_ret (v := .bool true) (by simp [results, Tryz.results4, go_sem]) rfl ⟨rfl, BW⟩
       ·clear BWT
        go_wp2_with fail
        refine (t_known (tab_below HT.out BW)).mono ?_
        rintro _ w611 ⟨rfl, hb⟩
        replace BW := BW.trans (hb.mono BW.size)
        clear hb
        go_wp2_with fail
        exact bodyPost_ret (v := .bool true) (by simp [results, Tryz.results4, go_sem]) rfl ⟨rfl, BW⟩
     ·clear BWS
      go_wp2_with fail
      refine (t_known (tab_below HT.out BW)).mono ?_
      rintro _ w61 ⟨rfl, hb⟩
      replace BW := BW.trans (hb.mono BW.size)
      clear hb
      go_wp2_with fail
      exact bodyPost_ret (v := .bool true) (by simp [results, Tryz.results4, go_sem]) rfl ⟨rfl, BW⟩
    ·obtain ⟨c25, c26, c27, c28, c29, c30, c31, c32, c33, c34, c35, c36, c37, c38, c39, c40, c41⟩ := K4.c17
     go_wp2_with fail
     clear c25 c26 c27 c28 c29 c30 c31 c32 c33 c34 c35 c36 c37 c38 c39 c40 c41
     refine (t_goodNo Y hy).mono ?_
     rintro _ w42 ⟨rfl, hb⟩
     replace BW := BW.trans (hb.mono BW.size)
     replace BWS := BWS.trans (hb.mono BWS.size)
     clear hb
     clear BWS
     go_wp2_with fail
     refine (t_known (tab_below HT.out BW)).mono ?_
     rintro _ w43 ⟨rfl, hb⟩
     replace BW := BW.trans (hb.mono BW.size)
     clear hb
     go_wp2_with fail
     exact bodyPost_ret (v := .bool true) (by simp [results, Tryz.results4, go_sem]) rfl ⟨rfl, BW⟩
   ·refine (b_ReverseNo (HS.out.on BW) (fun h => hM ⟨h.1, h.2.at HS.out.2.2.1⟩)).mono ?_
    rintro _ w24 ⟨er, rfl, he, hb⟩
    replace BW := BW.trans (hb.mono BW.size)
    clear hb
    have heb : (er == 0) = false := by simpa using he
    go_wp2_with fail
    refine (t_known (tab_below HT.out BW)).mono ?_
    rintro _ w25 ⟨rfl, hb⟩
    replace BW := BW.trans (hb.mono BW.size)
    clear hb
    go_wp2_with fail
    exact bodyPost_ret (v := .bool true) (by simp [results, Tryz.results4, go_sem]) rfl ⟨rfl, BW⟩
  ·go_wp2_with fail
   refine (t_known (tab_below HT.out BW)).mono ?_
   rintro _ w7 ⟨rfl, hb⟩
   replace BW := BW.trans (hb.mono BW.size)
   clear hb
   go_wp2_with fail
   exact bodyPost_ret (v := .bool true) (by simp [results, Tryz.results4, go_sem]) rfl ⟨rfl, BW⟩
end Go.Proofs.YtjamfkafgfpobaaGreatDoor
