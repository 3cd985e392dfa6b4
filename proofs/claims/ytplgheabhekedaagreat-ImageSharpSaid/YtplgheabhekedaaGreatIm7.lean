/-
  What ImageSharp answers: yes. Conditions: that what is handed in is no longer than memory.
-/
import Derived.Test.YtplgheabhekedaaGreatImw
import Derived.Test.YtplgheabhekedaaGreatIm4
import Derived.Test.YtplgheabhekedaaGreatXtc
import Derived.Deep.RegionHeld3
import Derived.Deep.DeepCutAuto
import Derived.BigRegion
namespace Go.Proofs.YtplgheabhekedaaGreat
open Go.RowKit Nb

theorem c_beyond2 {n1 n2 : Int} {g : Nat} {w : World} (K : Box w g [.int .i64 n1, .int .i64 n2]) : Calls Tryz.prog 19 #[.slice (some ⟨g, 0, none⟩) 2 2] w (YN w) := c_beyond (ns := [n1, n2]) (c := 2) K (by simp) (by simp)
theorem one_div_div {x : Rat} : ((1 : Int) : Rat) / (1 / x) = x := by
 have e : ((1 : Int) : Rat) = 1 := rfl
 rw [e, Rat.div_def, Rat.div_def, Rat.one_mul, Rat.one_mul, Rat.inv_inv]
theorem one_div_num {x : Rat} (h : x ≠ 0) (k : (1 / x).num = 0) : False := by
 have e := Rat.num_eq_zero.1 k
 have h2 : x = ((1 : Int) : Rat) / (1 / x) := one_div_div.symm
 rw [e] at h2
 exact h (h2.trans (by rw [Rat.div_def, Rat.inv_zero, Rat.mul_zero]))
set_option maxHeartbeats 16000000 in
set_option maxRecDepth 100000 in
theorem sharp_walk {m : Mv} {a : Fv} {w : World} (X : Xm w m) (A : Fx w a) :
    Calls Tryz.prog 8 #[mv m, fv a] w (fun e w' => e = .returned (.bool true) ∧ Below w.heap.size w w') := by
 have HX := Lib.hid X
 have BW : Below w.heap.size w w := Below.refl _ _
 obtain ⟨V2, e3, hb4, K5, Z6, z1⟩ := alloc_new w [.bool m.A.n, .slice m.A.A m.A.xs.length m.A.c, .bool m.A.m, .slice m.A.B m.A.ds.length m.A.d, .bool m.B.n, .slice m.B.A m.B.xs.length m.B.c, .bool m.B.m, .slice m.B.B m.B.ds.length m.B.d, .bool m.C.n, .slice m.C.A m.C.xs.length m.C.c, .bool m.C.m, .slice m.C.B m.C.ds.length m.C.d, .bool m.D.n, .slice m.D.A m.D.xs.length m.D.c, .bool m.D.m, .slice m.D.B m.D.ds.length m.D.d] 31
 replace K5 : Box V2 (w.heap.size) (mcs m) := K5
 have g7 : w.heap.size ≤ w.heap.size := BW.size
 replace X := X.kp (Kept.of hb4)
 replace A := A.kp (Kept.of hb4)
 replace BW := BW.trans (hb4.mono BW.size)
 clear hb4
 obtain ⟨V8, e9, hb10, K11, Z12, -⟩ := alloc_new V2 [.bool a.n, .slice a.A a.xs.length a.c, .bool a.m, .slice a.B a.ds.length a.d] 29
 rw [z1] at K11 Z12
 have n13 : w.heap.size ≠ w.heap.size + 1 := Nat.ne_of_lt (z1 ▸ K5.lt)
 have g14 : w.heap.size ≤ w.heap.size + 1 := z1 ▸ BW.size
 replace K5 := K5.on hb10
 replace Z6 := Z6.on hb10
 replace X := X.kp (Kept.of hb10)
 replace A := A.kp (Kept.of hb10)
 replace BW := BW.trans (hb10.mono BW.size)
 clear hb10
 clear z1
 go_enter Tryz.func8, Tryz.ntmps8
 go_wp2_with fail
 rw [← e3, ← e9]
 clear e3 e9
 go_cut [18] (fun sw0 wx => ∃  (r : Bool), sw0 = .bool r ∧ Below w.heap.size w wx ∧ Box wx (w.heap.size) (mcs m) ∧ Box wx (w.heap.size + 1) [.bool a.n, .slice a.A a.xs.length a.c, .bool a.m, .slice a.B a.ds.length a.d] ∧ Fz wx (w.heap.size) ∧ Fz wx (w.heap.size + 1) ∧ Xm wx m ∧ Fx wx a)
 case first =>
  refine wp_region_noPanic ?_
  have hb : Below V8.heap.size V8 V8.drew := (Below.refl _ _).drew
  replace K5 := K5.on hb
  replace K11 := K11.on hb
  replace Z6 := Z6.on hb
  replace Z12 := Z12.on hb
  replace X := X.kp (Kept.of hb)
  replace A := A.kp (Kept.of hb)
  replace BW := BW.trans (hb.mono BW.size)
  clear hb
  refine wp_region_held_drew (S := (fun wx => Box wx (w.heap.size) [.bool m.A.n, .slice m.A.A m.A.xs.length m.A.c, .bool m.A.m, .slice m.A.B m.A.ds.length m.A.d, .bool m.B.n, .slice m.B.A m.B.xs.length m.B.c, .bool m.B.m, .slice m.B.B m.B.ds.length m.B.d, .bool m.C.n, .slice m.C.A m.C.xs.length m.C.c, .bool m.C.m, .slice m.C.B m.C.ds.length m.C.d, .bool m.D.n, .slice m.D.A m.D.xs.length m.D.c, .bool m.D.m, .slice m.D.B m.D.ds.length m.D.d] ∧ Cs wx (w.heap.size + 1) 0 [.bool a.n, .slice a.A a.xs.length a.c, .bool a.m, .slice a.B a.ds.length a.d])) (by kernel_rfl) (by exact ⟨K5, K11.cs⟩) (fun hHeld => ?_)
  generalize V8.drew = Vd15 at *
  refine pT 0 ?_ (hy := fun wt hSw => ldM rfl rfl hSw.1)
  (try simp only [p0, p1, p2, p3])
  refine pT 2 ?_
  (try simp only [p0, p1, p2, p3])
  refine pR1 1 (fun K hK => ?_)
  go_simp
  (go_at_call 35; with_reducible refine (c_matrix X).mono ?_)
  rintro _ w16 ⟨n1, rfl, hb⟩
  (try go_wp2_with fail)
  replace K5 := K5.on hb
  replace K11 := K11.on hb
  replace Z6 := Z6.on hb
  replace Z12 := Z12.on hb
  replace X := X.kp (Kept.of hb)
  replace A := A.kp (Kept.of hb)
  replace BW := BW.trans (hb.mono BW.size)
  clear hb
  clear hHeld
  refine hK.out _ _ (by exact ⟨K5, K11.cs⟩) (fun hHeld => ?_)
  clear hK
  (try simp only [p0, p1, p2, p3])
  refine pR1 3 (fun K hK => ?_)
  go_simp
  (go_at_call 37; with_reducible refine (c_frac A).mono ?_)
  rintro _ w17 ⟨n2, rfl, hb⟩
  (try go_wp2_with fail)
  replace K5 := K5.on hb
  replace K11 := K11.on hb
  replace Z6 := Z6.on hb
  replace Z12 := Z12.on hb
  replace X := X.kp (Kept.of hb)
  replace A := A.kp (Kept.of hb)
  replace BW := BW.trans (hb.mono BW.size)
  clear hb
  clear hHeld
  refine hK.out _ _ (by exact ⟨K5, K11.cs⟩) (fun hHeld => ?_)
  clear hK
  (try simp only [p0, p1, p2, p3])
  refine pR1 4 (fun K hK => ?_)
  go_simp
  obtain ⟨V18, e19, hb20, K21, -, -⟩ := alloc_new w17 [.int .i64 n1, .int .i64 n2] 3
  have n22 : w.heap.size ≠ w17.heap.size := Nat.ne_of_lt (K5.lt)
  have n23 : w.heap.size + 1 ≠ w17.heap.size := Nat.ne_of_lt (K11.lt)
  replace K5 := K5.on hb20
  replace K11 := K11.on hb20
  replace Z6 := Z6.on hb20
  replace Z12 := Z12.on hb20
  replace X := X.kp (Kept.of hb20)
  replace A := A.kp (Kept.of hb20)
  replace BW := BW.trans (hb20.mono BW.size)
  clear hb20
  rw [← e19]
  clear e19
  generalize w17.heap.size = b24 at *
  clear hHeld
  refine hK.out _ _ (by exact ⟨K5, K11.cs⟩) (fun hHeld => ?_)
  clear hK
  (try simp only [p0, p1, p2, p3])
  refine pR1 5 (fun K hK => ?_)
  go_simp
  (go_at_call 19; with_reducible refine (c_beyond2 K21).mono ?_)
  rintro _ w25 ⟨r, rfl, hb⟩
  (try go_wp2_with fail)
  replace K5 := K5.on hb
  replace K11 := K11.on hb
  replace Z6 := Z6.on hb
  replace Z12 := Z12.on hb
  replace X := X.kp (Kept.of hb)
  replace A := A.kp (Kept.of hb)
  replace BW := BW.trans (hb.mono BW.size)
  clear hb
  clear hHeld
  refine hK.out _ _ (by exact ⟨K5, K11.cs⟩) (fun hHeld => ?_)
  clear hK
  (try simp only [p0, p1, p2, p3])
  refine wpAnyH_done (by kernel_rfl) (NoPanic.normal ?_) _
  go_wp2
  go_meet
  exact ⟨r, rfl, BW, K5, K11, Z6, Z12, X, A⟩
 case rest =>
  obtain ⟨r, rfl, BW, K5, K11, Z6, Z12, X, A⟩ := hcut
  cases r
  ·obtain ⟨c15, c16, c17, c18⟩ := K11.c4
   have c19 : Box wc (w.heap.size) [.bool m.A.n, .slice m.A.A m.A.xs.length m.A.c, .bool m.A.m, .slice m.A.B m.A.ds.length m.A.d, .bool m.B.n, .slice m.B.A m.B.xs.length m.B.c, .bool m.B.m, .slice m.B.B m.B.ds.length m.B.d, .bool m.C.n, .slice m.C.A m.C.xs.length m.C.c, .bool m.C.m, .slice m.C.B m.C.ds.length m.C.d, .bool m.D.n, .slice m.D.A m.D.xs.length m.D.c, .bool m.D.m, .slice m.D.B m.D.ds.length m.D.d] := K5
   go_wp2_with (first | (refine wpList_ldM (by rfl) (by rfl) (by rfl) c19 (by rfl) ?_))
   clear c15 c16 c17 c18 c19
   by_cases hM : MayM w m ∧ okv a
   ·obtain ⟨⟨q, G0, hd⟩, ha⟩ := hM
    obtain ⟨x, AX⟩ := ha.ff A
    obtain ⟨q2, G, hd2⟩ := MayM.at X ⟨q, G0, hd⟩
    obtain rfl : q2 = q := G.uniq G0
    have HD := Lib.hid hd2
    clear hd hd2 G0 ha X A
    refine (i_Image G AX HD.out).mono ?_
    rintro _ w20 ⟨f, g, er, rfl, R, hb⟩
    replace K5 := K5.on hb
    replace K11 := K11.on hb
    replace Z6 := Z6.on hb
    replace Z12 := Z12.on hb
    replace G := G.kp (Kept.of hb)
    replace AX := AX.kp (Kept.of hb)
    replace BW := BW.trans (hb.mono BW.size)
    clear hb
    rcases R with ⟨hz, rfl, LF, LG⟩ | ⟨-, rfl, -, -⟩ | ⟨-, rfl, -, -, -⟩
    ·have HZ := Lib.hid hz
     clear hz
     obtain ⟨V22, e23, hb24, K25, Z26, z21⟩ := alloc_new w20 [.bool f.n, .slice f.A f.xs.length f.c, .bool f.m, .slice f.B f.ds.length f.d] 29
     have n27 : w.heap.size ≠ w20.heap.size := Nat.ne_of_lt (K5.lt)
     have n28 : w.heap.size + 1 ≠ w20.heap.size := Nat.ne_of_lt (K11.lt)
     have g29 : w.heap.size ≤ w20.heap.size := BW.size
     replace K5 := K5.on hb24
     replace K11 := K11.on hb24
     replace Z6 := Z6.on hb24
     replace Z12 := Z12.on hb24
     replace G := G.kp (Kept.of hb24)
     replace AX := AX.kp (Kept.of hb24)
     replace LF := LF.kp (Kept.of hb24)
     replace LG := LG.kp (Kept.of hb24)
     replace BW := BW.trans (hb24.mono BW.size)
     clear hb24
     obtain ⟨V30, e31, hb32, K33, Z34, -⟩ := alloc_new V22 [.bool g.n, .slice g.A g.xs.length g.c, .bool g.m, .slice g.B g.ds.length g.d] 29
     rw [z21] at K33 Z34
     have n35 : w.heap.size ≠ w20.heap.size + 1 := Nat.ne_of_lt (z21 ▸ K5.lt)
     have n36 : w.heap.size + 1 ≠ w20.heap.size + 1 := Nat.ne_of_lt (z21 ▸ K11.lt)
     have n37 : w20.heap.size ≠ w20.heap.size + 1 := Nat.ne_of_lt (z21 ▸ K25.lt)
     have g38 : w.heap.size ≤ w20.heap.size + 1 := z21 ▸ BW.size
     replace K5 := K5.on hb32
     replace K11 := K11.on hb32
     replace K25 := K25.on hb32
     replace Z6 := Z6.on hb32
     replace Z12 := Z12.on hb32
     replace Z26 := Z26.on hb32
     replace G := G.kp (Kept.of hb32)
     replace AX := AX.kp (Kept.of hb32)
     replace LF := LF.kp (Kept.of hb32)
     replace LG := LG.kp (Kept.of hb32)
     replace BW := BW.trans (hb32.mono BW.size)
     clear hb32
     clear z21
     go_upto_region 4 with fail
     rw [← e23, ← e31]
     clear e23 e31
     generalize w20.heap.size + 1 = b39 at *
     generalize w20.heap.size = b40 at *
     go_upto_region 6 with fail
     obtain ⟨c41, c42, c43, c44⟩ := K11.c4
     obtain ⟨c45, c46, c47, c48⟩ := K25.c4
     have c49 : Box V30 (w.heap.size) [.bool m.A.n, .slice m.A.A m.A.xs.length m.A.c, .bool m.A.m, .slice m.A.B m.A.ds.length m.A.d, .bool m.B.n, .slice m.B.A m.B.xs.length m.B.c, .bool m.B.m, .slice m.B.B m.B.ds.length m.B.d, .bool m.C.n, .slice m.C.A m.C.xs.length m.C.c, .bool m.C.m, .slice m.C.B m.C.ds.length m.C.d, .bool m.D.n, .slice m.D.A m.D.xs.length m.D.c, .bool m.D.m, .slice m.D.B m.D.ds.length m.D.d] := K5
     go_wp2_with (first | (refine wpList_ldM (by rfl) (by rfl) (by rfl) c49 (by rfl) ?_))
     clear c41 c42 c43 c44 c45 c46 c47 c48 c49
     refine (w_within G HD.out AX LF).mono ?_
     rintro _ w50 ⟨y, r2, rfl, hr, hb⟩
     replace K5 := K5.on hb
     replace K11 := K11.on hb
     replace K25 := K25.on hb
     replace K33 := K33.on hb
     replace Z6 := Z6.on hb
     replace Z12 := Z12.on hb
     replace Z26 := Z26.on hb
     replace Z34 := Z34.on hb
     replace G := G.kp (Kept.of hb)
     replace LG := LG.kp (Kept.of hb)
     replace BW := BW.trans (hb.mono BW.size)
     clear hb
     cases r2
     ·obtain ⟨V51, e52, hb53, K54, Z55, -⟩ := alloc_new w50 [.bool y.A.n, .slice y.A.A y.A.xs.length y.A.c, .bool y.A.m, .slice y.A.B y.A.ds.length y.A.d, .bool y.B.n, .slice y.B.A y.B.xs.length y.B.c, .bool y.B.m, .slice y.B.B y.B.ds.length y.B.d, .bool y.C.n, .slice y.C.A y.C.xs.length y.C.c, .bool y.C.m, .slice y.C.B y.C.ds.length y.C.d, .bool y.D.n, .slice y.D.A y.D.xs.length y.D.c, .bool y.D.m, .slice y.D.B y.D.ds.length y.D.d] 31
      replace K54 : Box V51 (w50.heap.size) (mcs y) := K54
      have n56 : w.heap.size ≠ w50.heap.size := Nat.ne_of_lt (K5.lt)
      have n57 : w.heap.size + 1 ≠ w50.heap.size := Nat.ne_of_lt (K11.lt)
      have n58 : b40 ≠ w50.heap.size := Nat.ne_of_lt (K25.lt)
      have n59 : b39 ≠ w50.heap.size := Nat.ne_of_lt (K33.lt)
      have g60 : w.heap.size ≤ w50.heap.size := BW.size
      replace K5 := K5.on hb53
      replace K11 := K11.on hb53
      replace K25 := K25.on hb53
      replace K33 := K33.on hb53
      replace Z6 := Z6.on hb53
      replace Z12 := Z12.on hb53
      replace Z26 := Z26.on hb53
      replace Z34 := Z34.on hb53
      replace BW := BW.trans (hb53.mono BW.size)
      clear hb53
      go_wp2_with (first | (refine wpList_stNew (by rfl) (by rfl) (by rfl) (by rfl) (by rfl) (by rfl) (by rfl) ?_))
      (try simp only [p0, p1, p2, p3])
      rw [← e52]
      clear e52
      generalize w50.heap.size = b61 at *
      go_wp2_with fail
      refine (w_lives).mono ?_
      rintro _ w62 ⟨rfl, hb⟩
      replace K5 := K5.on hb
      replace K11 := K11.on hb
      replace K25 := K25.on hb
      replace K33 := K33.on hb
      replace K54 := K54.on hb
      replace Z6 := Z6.on hb
      replace Z12 := Z12.on hb
      replace Z26 := Z26.on hb
      replace Z34 := Z34.on hb
      replace Z55 := Z55.on hb
      replace BW := BW.trans (hb.mono BW.size)
      clear hb
      go_wp2_with fail
      exact bodyPost_ret (v := .bool true) (by simp [results, Tryz.results8, go_sem]) rfl ⟨rfl, BW⟩
     ·have YF := hr rfl
      clear hr
      obtain ⟨V51, e52, hb53, K54, Z55, -⟩ := alloc_new w50 [.bool y.A.n, .slice y.A.A y.A.xs.length y.A.c, .bool y.A.m, .slice y.A.B y.A.ds.length y.A.d, .bool y.B.n, .slice y.B.A y.B.xs.length y.B.c, .bool y.B.m, .slice y.B.B y.B.ds.length y.B.d, .bool y.C.n, .slice y.C.A y.C.xs.length y.C.c, .bool y.C.m, .slice y.C.B y.C.ds.length y.C.d, .bool y.D.n, .slice y.D.A y.D.xs.length y.D.c, .bool y.D.m, .slice y.D.B y.D.ds.length y.D.d] 31
      replace K54 : Box V51 (w50.heap.size) (mcs y) := K54
      have n56 : w.heap.size ≠ w50.heap.size := Nat.ne_of_lt (K5.lt)
      have n57 : w.heap.size + 1 ≠ w50.heap.size := Nat.ne_of_lt (K11.lt)
      have n58 : b40 ≠ w50.heap.size := Nat.ne_of_lt (K25.lt)
      have n59 : b39 ≠ w50.heap.size := Nat.ne_of_lt (K33.lt)
      have g60 : w.heap.size ≤ w50.heap.size := BW.size
      replace K5 := K5.on hb53
      replace K11 := K11.on hb53
      replace K25 := K25.on hb53
      replace K33 := K33.on hb53
      replace Z6 := Z6.on hb53
      replace Z12 := Z12.on hb53
      replace Z26 := Z26.on hb53
      replace Z34 := Z34.on hb53
      replace G := G.kp (Kept.of hb53)
      replace LG := LG.kp (Kept.of hb53)
      replace YF := YF.kp (Kept.of hb53)
      replace BW := BW.trans (hb53.mono BW.size)
      clear hb53
      go_upto_region 7 with (first | (refine wpList_stNew (by rfl) (by rfl) (by rfl) (by rfl) (by rfl) (by rfl) (by rfl) ?_))
      (try simp only [p0, p1, p2, p3])
      rw [← e52]
      clear e52
      generalize w50.heap.size = b61 at *
      go_upto_region 9 with fail
      have c62 : Box V51 (b61) [.bool y.A.n, .slice y.A.A y.A.xs.length y.A.c, .bool y.A.m, .slice y.A.B y.A.ds.length y.A.d, .bool y.B.n, .slice y.B.A y.B.xs.length y.B.c, .bool y.B.m, .slice y.B.B y.B.ds.length y.B.d, .bool y.C.n, .slice y.C.A y.C.xs.length y.C.c, .bool y.C.m, .slice y.C.B y.C.ds.length y.C.d, .bool y.D.n, .slice y.D.A y.D.xs.length y.D.c, .bool y.D.m, .slice y.D.B y.D.ds.length y.D.d] := K54
      go_wp2_with (first | (refine wpList_ldM (by rfl) (by rfl) (by rfl) c62 (by rfl) ?_))
      clear c62
      refine (i_Sharp YF (det_imS HD.out)).mono ?_
      rintro _ w63 ⟨r3, rfl, h3, hb⟩
      replace K5 := K5.on hb
      replace K11 := K11.on hb
      replace K25 := K25.on hb
      replace K33 := K33.on hb
      replace K54 := K54.on hb
      replace Z6 := Z6.on hb
      replace Z12 := Z12.on hb
      replace Z26 := Z26.on hb
      replace Z34 := Z34.on hb
      replace Z55 := Z55.on hb
      replace G := G.kp (Kept.of hb)
      replace LG := LG.kp (Kept.of hb)
      replace YF := YF.kp (Kept.of hb)
      replace BW := BW.trans (hb.mono BW.size)
      clear hb
      obtain rfl : r3 = true := h3.2 (im_b0 HZ.out)
      clear h3
      go_wp2_with fail
      go_cut [11, 12] (fun sv0 sw0 wx => ∃ (pkk_0 : Nat) (k : Fv), sv0 = .pointer (some ⟨pkk_0, 0, none⟩) ∧ sw0 = .int .i64 0 ∧ Below w.heap.size w wx ∧ Box wx (w.heap.size) (mcs m) ∧ Box wx (w.heap.size + 1) [.bool a.n, .slice a.A a.xs.length a.c, .bool a.m, .slice a.B a.ds.length a.d] ∧ Box wx (b40) [.bool f.n, .slice f.A f.xs.length f.c, .bool f.m, .slice f.B f.ds.length f.d] ∧ Box wx (b39) [.bool g.n, .slice g.A g.xs.length g.c, .bool g.m, .slice g.B g.ds.length g.d] ∧ Box wx (b61) (mcs y) ∧ Fz wx (w.heap.size) ∧ Fz wx (w.heap.size + 1) ∧ Fz wx (b40) ∧ Fz wx (b39) ∧ Fz wx (b61) ∧ Fm wx (q2) m ∧ Ff wx (1 / imD q2 x) g ∧ Fm wx (imS q2 x (imT q2 x)) y ∧ Box wx pkk_0 [.bool k.n, .slice k.A k.xs.length k.c, .bool k.m, .slice k.B k.ds.length k.d] ∧ pkk_0 ≠ w.heap.size ∧ pkk_0 ≠ w.heap.size + 1 ∧ pkk_0 ≠ b40 ∧ pkk_0 ≠ b39 ∧ pkk_0 ≠ b61 ∧ Ff wx (imD q2 x) k)
      case first =>
       refine wp_region_noPanic ?_
       have hb : Below w63.heap.size w63 w63.drew := (Below.refl _ _).drew
       replace K5 := K5.on hb
       replace K11 := K11.on hb
       replace K25 := K25.on hb
       replace K33 := K33.on hb
       replace K54 := K54.on hb
       replace Z6 := Z6.on hb
       replace Z12 := Z12.on hb
       replace Z26 := Z26.on hb
       replace Z34 := Z34.on hb
       replace Z55 := Z55.on hb
       replace G := G.kp (Kept.of hb)
       replace LG := LG.kp (Kept.of hb)
       replace YF := YF.kp (Kept.of hb)
       replace BW := BW.trans (hb.mono BW.size)
       clear hb
       refine wp_region_held_drew (S := (fun wx => Cs wx (b39) 0 [.bool g.n, .slice g.A g.xs.length g.c, .bool g.m, .slice g.B g.ds.length g.d])) (by kernel_rfl) (by exact K33.cs) (fun hHeld => ?_)
       generalize w63.drew = Vd64 at *
       refine pT 1 ?_
       (try simp only [p0, p1, p2, p3])
       refine pR2 0 6 (fun K hK => ?_) (fun K hK => ?_)
       ·go_simp
        (go_at_call 43; with_reducible refine (w_int (n := 1) (by decide) (by decide)).mono ?_)
        rintro _ w65 ⟨o, rfl, O, hb⟩
        (try go_wp2_with fail)
        replace K5 := K5.on hb
        replace K11 := K11.on hb
        replace K25 := K25.on hb
        replace K33 := K33.on hb
        replace K54 := K54.on hb
        replace Z6 := Z6.on hb
        replace Z12 := Z12.on hb
        replace Z26 := Z26.on hb
        replace Z34 := Z34.on hb
        replace Z55 := Z55.on hb
        replace G := G.kp (Kept.of hb)
        replace LG := LG.kp (Kept.of hb)
        replace YF := YF.kp (Kept.of hb)
        replace BW := BW.trans (hb.mono BW.size)
        clear hb
        clear hHeld
        refine hK.out _ _ (by exact K33.cs) (fun hHeld => ?_)
        clear hK
        (try simp only [p0, p1, p2, p3])
        refine pR2 2 6 (fun K hK => ?_) (fun K hK => ?_)
        ·go_simp
         (go_at_call 42; with_reducible refine (r_quo O LG).mono ?_)
         rintro _ w66 ⟨k, er, rfl, R, hb⟩
         (try go_wp2_with fail)
         replace K5 := K5.on hb
         replace K11 := K11.on hb
         replace K25 := K25.on hb
         replace K33 := K33.on hb
         replace K54 := K54.on hb
         replace Z6 := Z6.on hb
         replace Z12 := Z12.on hb
         replace Z26 := Z26.on hb
         replace Z34 := Z34.on hb
         replace Z55 := Z55.on hb
         replace G := G.kp (Kept.of hb)
         replace LG := LG.kp (Kept.of hb)
         replace YF := YF.kp (Kept.of hb)
         replace O := O.kp (Kept.of hb)
         replace BW := BW.trans (hb.mono BW.size)
         clear hb
         obtain ⟨rfl, LK⟩ := R.yes (fun h => one_div_num HZ.out h) (by rw [one_div_div]; exact (im_d q2 x (imT q2 x)) ▸ YF.fits.2.2.2)
         clear R
         replace LK := LK.to one_div_div
         clear hHeld
         refine hK.out _ _ (by exact K33.cs) (fun hHeld => ?_)
         clear hK
         (try simp only [p0, p1, p2, p3])
         refine pT 3 ?_
         (try simp only [p0, p1, p2, p3])
         refine pT 4 ?_
         (try simp only [p0, p1, p2, p3])
         refine pT 5 ?_
         (try simp only [p0, p1, p2, p3])
         refine pR1 6 (fun K hK => ?_)
         go_simp
         obtain ⟨V67, e68, hb69, K70, Z71, -⟩ := alloc_new w66 [.bool false, .slice none 0 0, .bool false, .slice none 0 0] 29
         have n72 : w.heap.size ≠ w66.heap.size := Nat.ne_of_lt (K5.lt)
         have n73 : w.heap.size + 1 ≠ w66.heap.size := Nat.ne_of_lt (K11.lt)
         have n74 : b40 ≠ w66.heap.size := Nat.ne_of_lt (K25.lt)
         have n75 : b39 ≠ w66.heap.size := Nat.ne_of_lt (K33.lt)
         have n76 : b61 ≠ w66.heap.size := Nat.ne_of_lt (K54.lt)
         have g77 : w.heap.size ≤ w66.heap.size := BW.size
         replace K5 := K5.on hb69
         replace K11 := K11.on hb69
         replace K25 := K25.on hb69
         replace K33 := K33.on hb69
         replace K54 := K54.on hb69
         replace Z6 := Z6.on hb69
         replace Z12 := Z12.on hb69
         replace Z26 := Z26.on hb69
         replace Z34 := Z34.on hb69
         replace Z55 := Z55.on hb69
         replace G := G.kp (Kept.of hb69)
         replace LG := LG.kp (Kept.of hb69)
         replace YF := YF.kp (Kept.of hb69)
         replace O := O.kp (Kept.of hb69)
         replace LK := LK.kp (Kept.of hb69)
         replace BW := BW.trans (hb69.mono BW.size)
         clear hb69
         rw [← e68]
         clear e68
         generalize w66.heap.size = b78 at *
         clear hHeld
         refine hK.out _ _ (by exact K33.cs) (fun hHeld => ?_)
         clear hK
         (try simp only [p0, p1, p2, p3])
         refine pR1 7 (fun K hK => ?_)
         obtain ⟨c79, c80, c81, c82⟩ := K70.c4
         obtain ⟨c83, c84, c85, c86⟩ := Z71.f4
         go_simp
         clear c79 c80 c81 c82 c83 c84 c85 c86
         obtain ⟨V87, hk89⟩ : ∃ V87, V87 = V67.setCells (b78) 0 [.bool k.n, .slice k.A k.xs.length k.c, .bool k.m, .slice k.B k.ds.length k.d] := ⟨_, rfl⟩
         have e88 := hk89
         simp only [World.setCells, Nat.zero_add, Nat.reduceAdd] at e88
         have hk90 := Kept.overE hk89 K70 rfl (Nat.le_of_ble_eq_true rfl)
         replace K5 := K5.awayE hk89 n72
         replace K11 := K11.awayE hk89 n73
         replace K25 := K25.awayE hk89 n74
         replace K33 := K33.awayE hk89 n75
         replace K54 := K54.awayE hk89 n76
         replace K70 := K70.overE hk89 rfl
         replace Z6 := Z6.putE hk89
         replace Z12 := Z12.putE hk89
         replace Z26 := Z26.putE hk89
         replace Z34 := Z34.putE hk89
         replace Z55 := Z55.putE hk89
         replace G := G.kp hk90
         replace LG := LG.kp hk90
         replace YF := YF.kp hk90
         replace O := O.kp hk90
         replace LK := LK.kp hk90
         replace BW := Below.putE BW hk89 g77
         clear hk89 hk90
         rw [← e88]
         clear e88
         clear hHeld
         refine hK.out _ _ (by exact K33.cs) (fun hHeld => ?_)
         clear hK
         (try simp only [p0, p1, p2, p3])
         refine pT 8 ?_
         (try simp only [p0, p1, p2, p3])
         refine wpAnyH_done (by kernel_rfl) (NoPanic.normal ?_) _
         go_wp2
         go_meet
         exact ⟨b78, k, rfl, rfl, BW, K5, K11, K25, K33, K54, Z6, Z12, Z26, Z34, Z55, G, LG, YF, K70, n72.symm, n73.symm, n74.symm, n75.symm, n76.symm, LK⟩
        ·go_simp
         obtain ⟨V66, e67, hb68, K69, Z70, -⟩ := alloc_new w65 [.bool false, .slice none 0 0, .bool false, .slice none 0 0] 29
         have n71 : w.heap.size ≠ w65.heap.size := Nat.ne_of_lt (K5.lt)
         have n72 : w.heap.size + 1 ≠ w65.heap.size := Nat.ne_of_lt (K11.lt)
         have n73 : b40 ≠ w65.heap.size := Nat.ne_of_lt (K25.lt)
         have n74 : b39 ≠ w65.heap.size := Nat.ne_of_lt (K33.lt)
         have n75 : b61 ≠ w65.heap.size := Nat.ne_of_lt (K54.lt)
         have g76 : w.heap.size ≤ w65.heap.size := BW.size
         replace K5 := K5.on hb68
         replace K11 := K11.on hb68
         replace K25 := K25.on hb68
         replace K33 := K33.on hb68
         replace K54 := K54.on hb68
         replace Z6 := Z6.on hb68
         replace Z12 := Z12.on hb68
         replace Z26 := Z26.on hb68
         replace Z34 := Z34.on hb68
         replace Z55 := Z55.on hb68
         replace G := G.kp (Kept.of hb68)
         replace LG := LG.kp (Kept.of hb68)
         replace YF := YF.kp (Kept.of hb68)
         replace O := O.kp (Kept.of hb68)
         replace BW := BW.trans (hb68.mono BW.size)
         clear hb68
         rw [← e67]
         clear e67
         generalize w65.heap.size = b77 at *
         clear hHeld
         refine hK.out _ _ (by exact K33.cs) (fun hHeld => ?_)
         clear hK
         (try simp only [p0, p1, p2, p3])
         refine pR1 2 (fun K hK => ?_)
         go_simp
         (go_at_call 42; with_reducible refine (r_quo O LG).mono ?_)
         rintro _ w78 ⟨k, er, rfl, R, hb⟩
         (try go_wp2_with fail)
         replace K5 := K5.on hb
         replace K11 := K11.on hb
         replace K25 := K25.on hb
         replace K33 := K33.on hb
         replace K54 := K54.on hb
         replace K69 := K69.on hb
         replace Z6 := Z6.on hb
         replace Z12 := Z12.on hb
         replace Z26 := Z26.on hb
         replace Z34 := Z34.on hb
         replace Z55 := Z55.on hb
         replace Z70 := Z70.on hb
         replace G := G.kp (Kept.of hb)
         replace LG := LG.kp (Kept.of hb)
         replace YF := YF.kp (Kept.of hb)
         replace O := O.kp (Kept.of hb)
         replace BW := BW.trans (hb.mono BW.size)
         clear hb
         obtain ⟨rfl, LK⟩ := R.yes (fun h => one_div_num HZ.out h) (by rw [one_div_div]; exact (im_d q2 x (imT q2 x)) ▸ YF.fits.2.2.2)
         clear R
         replace LK := LK.to one_div_div
         clear hHeld
         refine hK.out _ _ (by exact K33.cs) (fun hHeld => ?_)
         clear hK
         (try simp only [p0, p1, p2, p3])
         refine pT 3 ?_
         (try simp only [p0, p1, p2, p3])
         refine pT 4 ?_
         (try simp only [p0, p1, p2, p3])
         refine pT 5 ?_
         (try simp only [p0, p1, p2, p3])
         refine pR1 7 (fun K hK => ?_)
         obtain ⟨c79, c80, c81, c82⟩ := K69.c4
         obtain ⟨c83, c84, c85, c86⟩ := Z70.f4
         go_simp
         clear c79 c80 c81 c82 c83 c84 c85 c86
         obtain ⟨V87, hk89⟩ : ∃ V87, V87 = w78.setCells (b77) 0 [.bool k.n, .slice k.A k.xs.length k.c, .bool k.m, .slice k.B k.ds.length k.d] := ⟨_, rfl⟩
         have e88 := hk89
         simp only [World.setCells, Nat.zero_add, Nat.reduceAdd] at e88
         have hk90 := Kept.overE hk89 K69 rfl (Nat.le_of_ble_eq_true rfl)
         replace K5 := K5.awayE hk89 n71
         replace K11 := K11.awayE hk89 n72
         replace K25 := K25.awayE hk89 n73
         replace K33 := K33.awayE hk89 n74
         replace K54 := K54.awayE hk89 n75
         replace K69 := K69.overE hk89 rfl
         replace Z6 := Z6.putE hk89
         replace Z12 := Z12.putE hk89
         replace Z26 := Z26.putE hk89
         replace Z34 := Z34.putE hk89
         replace Z55 := Z55.putE hk89
         replace G := G.kp hk90
         replace LG := LG.kp hk90
         replace YF := YF.kp hk90
         replace O := O.kp hk90
         replace LK := LK.kp hk90
         replace BW := Below.putE BW hk89 g76
         clear hk89 hk90
         rw [← e88]
         clear e88
         clear hHeld
         refine hK.out _ _ (by exact K33.cs) (fun hHeld => ?_)
         clear hK
         (try simp only [p0, p1, p2, p3])
         refine pT 8 ?_
         (try simp only [p0, p1, p2, p3])
         refine wpAnyH_done (by kernel_rfl) (NoPanic.normal ?_) _
         go_wp2
         go_meet
         exact ⟨b77, k, rfl, rfl, BW, K5, K11, K25, K33, K54, Z6, Z12, Z26, Z34, Z55, G, LG, YF, K69, n71.symm, n72.symm, n73.symm, n74.symm, n75.symm, LK⟩
       ·go_simp
        obtain ⟨V65, e66, hb67, K68, Z69, -⟩ := alloc_new Vd64 [.bool false, .slice none 0 0, .bool false, .slice none 0 0] 29
        have n70 : w.heap.size ≠ Vd64.heap.size := Nat.ne_of_lt (K5.lt)
        have n71 : w.heap.size + 1 ≠ Vd64.heap.size := Nat.ne_of_lt (K11.lt)
        have n72 : b40 ≠ Vd64.heap.size := Nat.ne_of_lt (K25.lt)
        have n73 : b39 ≠ Vd64.heap.size := Nat.ne_of_lt (K33.lt)
        have n74 : b61 ≠ Vd64.heap.size := Nat.ne_of_lt (K54.lt)
        have g75 : w.heap.size ≤ Vd64.heap.size := BW.size
        replace K5 := K5.on hb67
        replace K11 := K11.on hb67
        replace K25 := K25.on hb67
        replace K33 := K33.on hb67
        replace K54 := K54.on hb67
        replace Z6 := Z6.on hb67
        replace Z12 := Z12.on hb67
        replace Z26 := Z26.on hb67
        replace Z34 := Z34.on hb67
        replace Z55 := Z55.on hb67
        replace G := G.kp (Kept.of hb67)
        replace LG := LG.kp (Kept.of hb67)
        replace YF := YF.kp (Kept.of hb67)
        replace BW := BW.trans (hb67.mono BW.size)
        clear hb67
        rw [← e66]
        clear e66
        generalize Vd64.heap.size = b76 at *
        clear hHeld
        refine hK.out _ _ (by exact K33.cs) (fun hHeld => ?_)
        clear hK
        (try simp only [p0, p1, p2, p3])
        refine pR1 0 (fun K hK => ?_)
        go_simp
        (go_at_call 43; with_reducible refine (w_int (n := 1) (by decide) (by decide)).mono ?_)
        rintro _ w77 ⟨o, rfl, O, hb⟩
        (try go_wp2_with fail)
        replace K5 := K5.on hb
        replace K11 := K11.on hb
        replace K25 := K25.on hb
        replace K33 := K33.on hb
        replace K54 := K54.on hb
        replace K68 := K68.on hb
        replace Z6 := Z6.on hb
        replace Z12 := Z12.on hb
        replace Z26 := Z26.on hb
        replace Z34 := Z34.on hb
        replace Z55 := Z55.on hb
        replace Z69 := Z69.on hb
        replace G := G.kp (Kept.of hb)
        replace LG := LG.kp (Kept.of hb)
        replace YF := YF.kp (Kept.of hb)
        replace BW := BW.trans (hb.mono BW.size)
        clear hb
        clear hHeld
        refine hK.out _ _ (by exact K33.cs) (fun hHeld => ?_)
        clear hK
        (try simp only [p0, p1, p2, p3])
        refine pR1 2 (fun K hK => ?_)
        go_simp
        (go_at_call 42; with_reducible refine (r_quo O LG).mono ?_)
        rintro _ w78 ⟨k, er, rfl, R, hb⟩
        (try go_wp2_with fail)
        replace K5 := K5.on hb
        replace K11 := K11.on hb
        replace K25 := K25.on hb
        replace K33 := K33.on hb
        replace K54 := K54.on hb
        replace K68 := K68.on hb
        replace Z6 := Z6.on hb
        replace Z12 := Z12.on hb
        replace Z26 := Z26.on hb
        replace Z34 := Z34.on hb
        replace Z55 := Z55.on hb
        replace Z69 := Z69.on hb
        replace G := G.kp (Kept.of hb)
        replace LG := LG.kp (Kept.of hb)
        replace YF := YF.kp (Kept.of hb)
        replace BW := BW.trans (hb.mono BW.size)
        clear hb
        obtain ⟨rfl, LK⟩ := R.yes (fun h => one_div_num HZ.out h) (by rw [one_div_div]; exact (im_d q2 x (imT q2 x)) ▸ YF.fits.2.2.2)
        clear R
        replace LK := LK.to one_div_div
        clear hHeld
        refine hK.out _ _ (by exact K33.cs) (fun hHeld => ?_)
        clear hK
        (try simp only [p0, p1, p2, p3])
        refine pT 3 ?_
        (try simp only [p0, p1, p2, p3])
        refine pT 4 ?_
        (try simp only [p0, p1, p2, p3])
        refine pT 5 ?_
        (try simp only [p0, p1, p2, p3])
        refine pR1 7 (fun K hK => ?_)
        obtain ⟨c79, c80, c81, c82⟩ := K68.c4
        obtain ⟨c83, c84, c85, c86⟩ := Z69.f4
        go_simp
        clear c79 c80 c81 c82 c83 c84 c85 c86
        obtain ⟨V87, hk89⟩ : ∃ V87, V87 = w78.setCells (b76) 0 [.bool k.n, .slice k.A k.xs.length k.c, .bool k.m, .slice k.B k.ds.length k.d] := ⟨_, rfl⟩
        have e88 := hk89
        simp only [World.setCells, Nat.zero_add, Nat.reduceAdd] at e88
        have hk90 := Kept.overE hk89 K68 rfl (Nat.le_of_ble_eq_true rfl)
        replace K5 := K5.awayE hk89 n70
        replace K11 := K11.awayE hk89 n71
        replace K25 := K25.awayE hk89 n72
        replace K33 := K33.awayE hk89 n73
        replace K54 := K54.awayE hk89 n74
        replace K68 := K68.overE hk89 rfl
        replace Z6 := Z6.putE hk89
        replace Z12 := Z12.putE hk89
        replace Z26 := Z26.putE hk89
        replace Z34 := Z34.putE hk89
        replace Z55 := Z55.putE hk89
        replace G := G.kp hk90
        replace LG := LG.kp hk90
        replace YF := YF.kp hk90
        replace LK := LK.kp hk90
        replace BW := Below.putE BW hk89 g75
        clear hk89 hk90
        rw [← e88]
        clear e88
        clear hHeld
        refine hK.out _ _ (by exact K33.cs) (fun hHeld => ?_)
        clear hK
        (try simp only [p0, p1, p2, p3])
        refine pT 8 ?_
        (try simp only [p0, p1, p2, p3])
        refine wpAnyH_done (by kernel_rfl) (NoPanic.normal ?_) _
        go_wp2
        go_meet
        exact ⟨b76, k, rfl, rfl, BW, K5, K11, K25, K33, K54, Z6, Z12, Z26, Z34, Z55, G, LG, YF, K68, n70.symm, n71.symm, n72.symm, n73.symm, n74.symm, LK⟩
      case rest =>
       obtain ⟨pkk_0, k, rfl, rfl, BW, K5, K11, K25, K33, K54, Z6, Z12, Z26, Z34, Z55, G, LG, YF, KNk_0, nn64, nn65, nn66, nn67, nn68, LK⟩ := hcut
       obtain ⟨c69, c70, c71, c72⟩ := K33.c4
       obtain ⟨c73, c74, c75, c76, c77, c78, c79, c80, c81, c82, c83, c84, c85, c86, c87, c88⟩ := K54.c16
       go_wp2_with fail
       clear c69 c70 c71 c72 c73 c74 c75 c76 c77 c78 c79 c80 c81 c82 c83 c84 c85 c86 c87 c88
       refine (r_same YF.fA LG).mono ?_
       rintro _ w89 ⟨rfl, hb⟩
       replace K5 := K5.on hb
       replace K11 := K11.on hb
       replace K25 := K25.on hb
       replace K33 := K33.on hb
       replace K54 := K54.on hb
       replace KNk_0 := KNk_0.on hb
       replace Z26 := Z26.on hb
       replace Z34 := Z34.on hb
       replace G := G.kp (Kept.of hb)
       replace YF := YF.kp (Kept.of hb)
       replace LK := LK.kp (Kept.of hb)
       replace BW := BW.trans (hb.mono BW.size)
       clear hb
       rw [decide_eq_true (im_a HD.out HZ.out)]
       obtain ⟨c90, c91, c92, c93, c94, c95, c96, c97, c98, c99, c100, c101, c102, c103, c104, c105⟩ := K54.c16
       obtain ⟨c106, c107, c108, c109⟩ := KNk_0.c4
       go_wp2_with fail
       clear c90 c91 c92 c93 c94 c95 c96 c97 c98 c99 c100 c101 c102 c103 c104 c105 c106 c107 c108 c109
       refine (r_same YF.fD LK).mono ?_
       rintro _ w110 ⟨rfl, hb⟩
       replace K5 := K5.on hb
       replace K11 := K11.on hb
       replace K25 := K25.on hb
       replace K33 := K33.on hb
       replace K54 := K54.on hb
       replace Z26 := Z26.on hb
       replace Z34 := Z34.on hb
       replace G := G.kp (Kept.of hb)
       replace YF := YF.kp (Kept.of hb)
       replace BW := BW.trans (hb.mono BW.size)
       clear hb
       rw [decide_eq_true (im_d q2 x (imT q2 x))]
       obtain ⟨c111, c112, c113, c114, c115, c116, c117, c118, c119, c120, c121, c122, c123, c124, c125, c126⟩ := K5.c16
       obtain ⟨c127, c128, c129, c130, c131, c132, c133, c134, c135, c136, c137, c138, c139, c140, c141, c142⟩ := K54.c16
       go_wp2_with fail
       clear c111 c112 c113 c114 c115 c116 c117 c118 c119 c120 c121 c122 c123 c124 c125 c126 c127 c128 c129 c130 c131 c132 c133 c134 c135 c136 c137 c138 c139 c140 c141 c142
       refine (r_same YF.fC G.fC).mono ?_
       rintro _ w143 ⟨rfl, hb⟩
       replace K5 := K5.on hb
       replace K11 := K11.on hb
       replace K25 := K25.on hb
       replace K33 := K33.on hb
       replace Z26 := Z26.on hb
       replace Z34 := Z34.on hb
       replace BW := BW.trans (hb.mono BW.size)
       clear hb
       rw [decide_eq_true (im_c q2 x (imT q2 x))]
       go_wp2_with fail
       refine (w_lives).mono ?_
       rintro _ w144 ⟨rfl, hb⟩
       replace K5 := K5.on hb
       replace K11 := K11.on hb
       replace K25 := K25.on hb
       replace K33 := K33.on hb
       replace Z26 := Z26.on hb
       replace Z34 := Z34.on hb
       replace BW := BW.trans (hb.mono BW.size)
       clear hb
       go_wp2_with fail
       exact bodyPost_ret (v := .bool true) (by simp [results, Tryz.results8, go_sem]) rfl ⟨rfl, BW⟩
    ·obtain ⟨V22, e23, hb24, K25, Z26, z21⟩ := alloc_new w20 [.bool f.n, .slice f.A f.xs.length f.c, .bool f.m, .slice f.B f.ds.length f.d] 29
     have n27 : w.heap.size ≠ w20.heap.size := Nat.ne_of_lt (K5.lt)
     have n28 : w.heap.size + 1 ≠ w20.heap.size := Nat.ne_of_lt (K11.lt)
     have g29 : w.heap.size ≤ w20.heap.size := BW.size
     replace K5 := K5.on hb24
     replace K11 := K11.on hb24
     replace BW := BW.trans (hb24.mono BW.size)
     clear hb24
     obtain ⟨V30, e31, hb32, K33, Z34, -⟩ := alloc_new V22 [.bool g.n, .slice g.A g.xs.length g.c, .bool g.m, .slice g.B g.ds.length g.d] 29
     rw [z21] at K33 Z34
     have n35 : w.heap.size ≠ w20.heap.size + 1 := Nat.ne_of_lt (z21 ▸ K5.lt)
     have n36 : w.heap.size + 1 ≠ w20.heap.size + 1 := Nat.ne_of_lt (z21 ▸ K11.lt)
     have n37 : w20.heap.size ≠ w20.heap.size + 1 := Nat.ne_of_lt (z21 ▸ K25.lt)
     have g38 : w.heap.size ≤ w20.heap.size + 1 := z21 ▸ BW.size
     replace K5 := K5.on hb32
     replace K11 := K11.on hb32
     replace K25 := K25.on hb32
     replace Z26 := Z26.on hb32
     replace BW := BW.trans (hb32.mono BW.size)
     clear hb32
     clear z21
     go_wp2_with fail
     rw [← e23, ← e31]
     clear e23 e31
     generalize w20.heap.size + 1 = b39 at *
     generalize w20.heap.size = b40 at *
     refine (w_lives).mono ?_
     rintro _ w41 ⟨rfl, hb⟩
     replace K5 := K5.on hb
     replace K11 := K11.on hb
     replace K25 := K25.on hb
     replace K33 := K33.on hb
     replace Z26 := Z26.on hb
     replace Z34 := Z34.on hb
     replace BW := BW.trans (hb.mono BW.size)
     clear hb
     go_wp2_with fail
     exact bodyPost_ret (v := .bool true) (by simp [results, Tryz.results8, go_sem]) rfl ⟨rfl, BW⟩
    ·obtain ⟨V22, e23, hb24, K25, Z26, z21⟩ := alloc_new w20 [.bool f.n, .slice f.A f.xs.length f.c, .bool f.m, .slice f.B f.ds.length f.d] 29
     have n27 : w.heap.size ≠ w20.heap.size := Nat.ne_of_lt (K5.lt)
     have n28 : w.heap.size + 1 ≠ w20.heap.size := Nat.ne_of_lt (K11.lt)
     have g29 : w.heap.size ≤ w20.heap.size := BW.size
     replace K5 := K5.on hb24
     replace K11 := K11.on hb24
     replace BW := BW.trans (hb24.mono BW.size)
     clear hb24
     obtain ⟨V30, e31, hb32, K33, Z34, -⟩ := alloc_new V22 [.bool g.n, .slice g.A g.xs.length g.c, .bool g.m, .slice g.B g.ds.length g.d] 29
     rw [z21] at K33 Z34
     have n35 : w.heap.size ≠ w20.heap.size + 1 := Nat.ne_of_lt (z21 ▸ K5.lt)
     have n36 : w.heap.size + 1 ≠ w20.heap.size + 1 := Nat.ne_of_lt (z21 ▸ K11.lt)
     have n37 : w20.heap.size ≠ w20.heap.size + 1 := Nat.ne_of_lt (z21 ▸ K25.lt)
     have g38 : w.heap.size ≤ w20.heap.size + 1 := z21 ▸ BW.size
     replace K5 := K5.on hb32
     replace K11 := K11.on hb32
     replace K25 := K25.on hb32
     replace Z26 := Z26.on hb32
     replace BW := BW.trans (hb32.mono BW.size)
     clear hb32
     clear z21
     go_wp2_with fail
     rw [← e23, ← e31]
     clear e23 e31
     generalize w20.heap.size + 1 = b39 at *
     generalize w20.heap.size = b40 at *
     refine (w_lives).mono ?_
     rintro _ w41 ⟨rfl, hb⟩
     replace K5 := K5.on hb
     replace K11 := K11.on hb
     replace K25 := K25.on hb
     replace K33 := K33.on hb
     replace Z26 := Z26.on hb
     replace Z34 := Z34.on hb
     replace BW := BW.trans (hb.mono BW.size)
     clear hb
     go_wp2_with fail
     exact bodyPost_ret (v := .bool true) (by simp [results, Tryz.results8, go_sem]) rfl ⟨rfl, BW⟩
   ·refine (i_ImageNo X A (fun h => hM ⟨MayM.at HX.out h.1, h.2⟩)).mono ?_
    rintro _ w20 ⟨rfl, hb⟩
    replace K5 := K5.on hb
    replace K11 := K11.on hb
    replace A := A.kp (Kept.of hb)
    replace BW := BW.trans (hb.mono BW.size)
    clear hb
    obtain ⟨V22, e23, hb24, K25, Z26, z21⟩ := alloc_new w20 [.bool false, .slice none 0 0, .bool false, .slice none 0 0] 29
    have n27 : w.heap.size ≠ w20.heap.size := Nat.ne_of_lt (K5.lt)
    have n28 : w.heap.size + 1 ≠ w20.heap.size := Nat.ne_of_lt (K11.lt)
    have g29 : w.heap.size ≤ w20.heap.size := BW.size
    replace K5 := K5.on hb24
    replace K11 := K11.on hb24
    replace BW := BW.trans (hb24.mono BW.size)
    clear hb24
    obtain ⟨V30, e31, hb32, K33, Z34, -⟩ := alloc_new V22 [.bool false, .slice none 0 0, .bool false, .slice none 0 0] 29
    rw [z21] at K33 Z34
    have n35 : w.heap.size ≠ w20.heap.size + 1 := Nat.ne_of_lt (z21 ▸ K5.lt)
    have n36 : w.heap.size + 1 ≠ w20.heap.size + 1 := Nat.ne_of_lt (z21 ▸ K11.lt)
    have n37 : w20.heap.size ≠ w20.heap.size + 1 := Nat.ne_of_lt (z21 ▸ K25.lt)
    have g38 : w.heap.size ≤ w20.heap.size + 1 := z21 ▸ BW.size
    replace BW := BW.trans (hb32.mono BW.size)
    clear hb32
    clear z21
    go_wp2_with fail
    rw [← e23, ← e31]
    clear e23 e31
    generalize w20.heap.size + 1 = b39 at *
    generalize w20.heap.size = b40 at *
    refine (w_lives).mono ?_
    rintro _ w41 ⟨rfl, hb⟩
    replace BW := BW.trans (hb.mono BW.size)
    clear hb
    go_wp2_with fail
    exact bodyPost_ret (v := .bool true) (by simp [results, Tryz.results8, go_sem]) rfl ⟨rfl, BW⟩
  ·go_wp2_with fail
   exact bodyPost_ret (v := .bool true) (by simp [results, Tryz.results8, go_sem]) rfl ⟨rfl, BW⟩
end Go.Proofs.YtplgheabhekedaaGreat
