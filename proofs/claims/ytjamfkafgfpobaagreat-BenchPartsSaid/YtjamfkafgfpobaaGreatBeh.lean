/-
  BenchParts walked. Conditions: as each theorem states.
-/
import Derived.Test.YtjamfkafgfpobaaGreatBeb
import Derived.Test.YtjamfkafgfpobaaGreatBee
import Derived.Test.YtjamfkafgfpobaaGreatBef
import Derived.Test.YtjamfkafgfpobaaGreatRk
import Derived.Deep.RegionHeld3
import Derived.Deep.DeepCutAuto
import Derived.BigRegion
namespace Go.Proofs.YtjamfkafgfpobaaGreat
open Go.RowKit Nb
theorem flt_full {l : List (Int × Rat)} : ∀ z ∈ flt l, zemp z = false := fun z hz => by
 have h := (List.mem_filter.1 hz).2
 simpa using h
theorem adj_at : ∀ {l : List (Int × Rat)}, adjs (l.map (·.1)) = true → ∀ (j : Nat) (y z : Int × Rat), l[j]? = some y → l[j + 1]? = some z → y.1 ≠ z.1
 | [], _, j, y, z, h1, _ => by simp at h1
 | [x], _, j, y, z, _, h2 => by simp at h2
 | x :: u :: r, h, j, y, z, h1, h2 => by
  simp only [List.map_cons, adjs, Bool.and_eq_true, decide_eq_true_eq] at h
  cases j with
  | zero => simp at h1 h2; subst h1; subst h2; exact h.1
  | succ j => exact adj_at (l := u :: r) (by simpa using h.2) j y z (by simpa using h1) (by simpa using h2)
theorem bench_q {q : Mq} (hd : q.det = 1) : benchM ((flt (partsQ q)).map zeq) = q := by
 have h := flt_chain hd
 unfold benchM
 rw [List.map_map]
 exact h
theorem bench_is {W V : World} {q : Mq} {m f : Mv} {e : Int} (hd : q.det = 1) (G : Fm V q m) (h : MIs W (benchM ((flt (partsQ q)).map zeq)) f e) : e = 0 ∧ Fm W q f := by
 rw [bench_q hd] at h
 rcases h with ⟨h1, _, h3⟩ | ⟨_, h2⟩
 · exact ⟨h1, h3⟩
 · exact absurd G.fits h2
end Go.Proofs.YtjamfkafgfpobaaGreat
namespace Go.Proofs.YtjamfkafgfpobaaGreat
open Go.RowKit Nb
set_option maxHeartbeats 16000000 in
set_option maxRecDepth 100000 in
theorem benchParts_any {m : Mv} {w : World} (X : Xm w m) :
  Calls Tryz.prog 7 #[mv m] w (fun e w' => e = .returned (.bool true) ∧ Below w.heap.size w w') := by
 have BW : Below w.heap.size w w := Below.refl _ _
 obtain ⟨V1, e2, hb3, K4, Z5, -⟩ := alloc_new w [.bool m.A.n, .slice m.A.A m.A.xs.length m.A.c, .bool m.A.m, .slice m.A.B m.A.ds.length m.A.d, .bool m.B.n, .slice m.B.A m.B.xs.length m.B.c, .bool m.B.m, .slice m.B.B m.B.ds.length m.B.d, .bool m.C.n, .slice m.C.A m.C.xs.length m.C.c, .bool m.C.m, .slice m.C.B m.C.ds.length m.C.d, .bool m.D.n, .slice m.D.A m.D.xs.length m.D.c, .bool m.D.m, .slice m.D.B m.D.ds.length m.D.d] 31
 replace K4 : Box V1 (w.heap.size) (mcs m) := K4
 have g6 : w.heap.size ≤ w.heap.size := BW.size
 replace X := X.kp (Kept.of hb3)
 replace BW := BW.trans (hb3.mono BW.size)
 clear hb3
 go_enter Tryz.func7, Tryz.ntmps7
 go_wp2_with fail
 rw [← e2]
 clear e2
 refine (b_alive).mono ?_
 rintro _ w7 ⟨rfl, hb⟩
 replace K4 := K4.on hb
 replace Z5 := Z5.on hb
 replace X := X.kp (Kept.of hb)
 replace BW := BW.trans (hb.mono BW.size)
 clear hb
 have c8 : Box w7 (w.heap.size) [.bool m.A.n, .slice m.A.A m.A.xs.length m.A.c, .bool m.A.m, .slice m.A.B m.A.ds.length m.A.d, .bool m.B.n, .slice m.B.A m.B.xs.length m.B.c, .bool m.B.m, .slice m.B.B m.B.ds.length m.B.d, .bool m.C.n, .slice m.C.A m.C.xs.length m.C.c, .bool m.C.m, .slice m.C.B m.C.ds.length m.C.d, .bool m.D.n, .slice m.D.A m.D.xs.length m.D.c, .bool m.D.m, .slice m.D.B m.D.ds.length m.D.d] := K4
 go_wp2_with (first | (refine wpList_ldG (by rfl) (by rfl) (by rfl) c8 (by rfl) ?_))
 clear c8
 refine (c_matrix X).mono ?_
 rintro _ w9 ⟨n1, rfl, hb⟩
 replace K4 := K4.on hb
 replace Z5 := Z5.on hb
 replace X := X.kp (Kept.of hb)
 replace BW := BW.trans (hb.mono BW.size)
 clear hb
 obtain ⟨V10, e11, hb12, K13, Z14, -⟩ := alloc_new w9 [.int .i64 n1] 3
 have n15 : w.heap.size ≠ w9.heap.size := Nat.ne_of_lt (K4.lt)
 have g16 : w.heap.size ≤ w9.heap.size := BW.size
 replace K4 := K4.on hb12
 replace Z5 := Z5.on hb12
 replace X := X.kp (Kept.of hb12)
 replace BW := BW.trans (hb12.mono BW.size)
 clear hb12
 go_wp2_with fail
 rw [← e11]
 clear e11
 generalize w9.heap.size = b17 at *
 refine (c_beyond (ns := [n1]) K13 (by simp) (by simp)).mono ?_
 rintro _ w18 ⟨r2, rfl, hb⟩
 replace K4 := K4.on hb
 replace K13 := K13.on hb
 replace Z5 := Z5.on hb
 replace Z14 := Z14.on hb
 replace X := X.kp (Kept.of hb)
 replace BW := BW.trans (hb.mono BW.size)
 clear hb
 clear K13
 cases r2
 ·have c19 : Box w18 (w.heap.size) [.bool m.A.n, .slice m.A.A m.A.xs.length m.A.c, .bool m.A.m, .slice m.A.B m.A.ds.length m.A.d, .bool m.B.n, .slice m.B.A m.B.xs.length m.B.c, .bool m.B.m, .slice m.B.B m.B.ds.length m.B.d, .bool m.C.n, .slice m.C.A m.C.xs.length m.C.c, .bool m.C.m, .slice m.C.B m.C.ds.length m.C.d, .bool m.D.n, .slice m.D.A m.D.xs.length m.D.c, .bool m.D.m, .slice m.D.B m.D.ds.length m.D.d] := K4
  go_wp2_with (first | (refine wpList_ldM (by rfl) (by rfl) (by rfl) c19 (by rfl) ?_))
  clear c19
  by_cases hM : MayM w18 m
  ·obtain ⟨q, G, hd⟩ := hM
   have HD := Lib.hid hd
   have HQ := Lib.hid (fun e1 e2 => by simp only [Mq.det, e1, e2] at hd; grind : q.b = 0 → q.a ≠ 0)
   refine ((p_Parts G hd).mono (fun _ _ h => h.out)).mono ?_
   rintro _ w20 ⟨v, er, rfl, FI, hb⟩
   replace K4 := K4.on hb
   replace Z5 := Z5.on hb
   replace X := X.kp (Kept.of hb)
   replace G := G.kp (Kept.of hb)
   replace BW := BW.trans (hb.mono BW.size)
   clear hb
   obtain ⟨⟨-, a, c, es, hv, F1, S⟩ | ⟨-, hv⟩, -⟩ := FI
   ·simp at hv
    obtain ⟨rfl, rfl⟩ := hv
    have hl5 : es.length ≤ 5 := by rw [← F1.1, List.length_map]; exact flt_len
    have BWA : Below w20.heap.size w20 w20 := Below.refl _ _
    have HS := Lib.hid S
    clear S
    go_wp2_with fail
    refine (b_Matrix (HS.out.on BWA) F1 (by omega)).mono ?_
    rintro _ w21 ⟨f, e1, rfl, hm, hb⟩
    replace K4 := K4.on hb
    replace Z5 := Z5.on hb
    replace X := X.kp (Kept.of hb)
    replace G := G.kp (Kept.of hb)
    replace F1 := F1.kp (Kept.of hb)
    replace BW := BW.trans (hb.mono BW.size)
    replace BWA := BWA.trans (hb.mono BWA.size)
    clear hb
    obtain ⟨rfl, F2⟩ : e1 = 0 ∧ Fm w21 q f := bench_is HD.out G hm
    clear hm
    have hl6 : (es.length : Int) ≤ 5 := by omega
    obtain ⟨V22, e23, hb24, K25, Z26, -⟩ := alloc_new w21 [.bool f.A.n, .slice f.A.A f.A.xs.length f.A.c, .bool f.A.m, .slice f.A.B f.A.ds.length f.A.d, .bool f.B.n, .slice f.B.A f.B.xs.length f.B.c, .bool f.B.m, .slice f.B.B f.B.ds.length f.B.d, .bool f.C.n, .slice f.C.A f.C.xs.length f.C.c, .bool f.C.m, .slice f.C.B f.C.ds.length f.C.d, .bool f.D.n, .slice f.D.A f.D.xs.length f.D.c, .bool f.D.m, .slice f.D.B f.D.ds.length f.D.d] 31
    replace K25 : Box V22 (w21.heap.size) (mcs f) := K25
    have n27 : w.heap.size ≠ w21.heap.size := Nat.ne_of_lt (K4.lt)
    have g28 : w.heap.size ≤ w21.heap.size := BW.size
    replace K4 := K4.on hb24
    replace Z5 := Z5.on hb24
    replace X := X.kp (Kept.of hb24)
    replace G := G.kp (Kept.of hb24)
    replace F1 := F1.kp (Kept.of hb24)
    replace F2 := F2.kp (Kept.of hb24)
    replace BW := BW.trans (hb24.mono BW.size)
    replace BWA := BWA.trans (hb24.mono BWA.size)
    clear hb24
    go_wp2_with fail
    rw [← e23]
    clear e23
    generalize w21.heap.size = b29 at *
    refine (b_plain (HS.out.on BWA) F1 (fun z hz => zkind_partsQ z (List.mem_filter.1 hz).1) flt_full (adj_at (adj_partsQ HQ.out))).mono ?_
    rintro _ w30 ⟨rfl, hb⟩
    replace K4 := K4.on hb
    replace K25 := K25.on hb
    replace Z5 := Z5.on hb
    replace Z26 := Z26.on hb
    replace X := X.kp (Kept.of hb)
    replace G := G.kp (Kept.of hb)
    replace F1 := F1.kp (Kept.of hb)
    replace F2 := F2.kp (Kept.of hb)
    replace BW := BW.trans (hb.mono BW.size)
    replace BWA := BWA.trans (hb.mono BWA.size)
    clear hb
    have c31 : Box w30 (w.heap.size) [.bool m.A.n, .slice m.A.A m.A.xs.length m.A.c, .bool m.A.m, .slice m.A.B m.A.ds.length m.A.d, .bool m.B.n, .slice m.B.A m.B.xs.length m.B.c, .bool m.B.m, .slice m.B.B m.B.ds.length m.B.d, .bool m.C.n, .slice m.C.A m.C.xs.length m.C.c, .bool m.C.m, .slice m.C.B m.C.ds.length m.C.d, .bool m.D.n, .slice m.D.A m.D.xs.length m.D.c, .bool m.D.m, .slice m.D.B m.D.ds.length m.D.d] := K4
    have c32 : Box w30 (b29) [.bool f.A.n, .slice f.A.A f.A.xs.length f.A.c, .bool f.A.m, .slice f.A.B f.A.ds.length f.A.d, .bool f.B.n, .slice f.B.A f.B.xs.length f.B.c, .bool f.B.m, .slice f.B.B f.B.ds.length f.B.d, .bool f.C.n, .slice f.C.A f.C.xs.length f.C.c, .bool f.C.m, .slice f.C.B f.C.ds.length f.C.d, .bool f.D.n, .slice f.D.A f.D.xs.length f.D.c, .bool f.D.m, .slice f.D.B f.D.ds.length f.D.d] := K25
    go_wp2_with (first | (refine wpList_ldG (by rfl) (by rfl) (by rfl) c31 (by rfl) ?_) | (refine wpList_ldG (by rfl) (by rfl) (by rfl) c32 (by rfl) ?_))
    clear c31 c32
    refine (y_sameM G F2).mono ?_
    rintro _ w33 ⟨rfl, hb⟩
    replace K4 := K4.on hb
    replace K25 := K25.on hb
    replace Z5 := Z5.on hb
    replace Z26 := Z26.on hb
    replace X := X.kp (Kept.of hb)
    replace G := G.kp (Kept.of hb)
    replace F1 := F1.kp (Kept.of hb)
    replace F2 := F2.kp (Kept.of hb)
    replace BW := BW.trans (hb.mono BW.size)
    replace BWA := BWA.trans (hb.mono BWA.size)
    clear hb
    go_wp2_with fail
    exact bodyPost_ret (v := .bool true) (by simp [results, Tryz.results7, go_sem]) rfl ⟨rfl, BW⟩
   ·simp at hv
    obtain ⟨rfl, rfl⟩ := hv
    have c21 : Box w20 (w.heap.size) [.bool m.A.n, .slice m.A.A m.A.xs.length m.A.c, .bool m.A.m, .slice m.A.B m.A.ds.length m.A.d, .bool m.B.n, .slice m.B.A m.B.xs.length m.B.c, .bool m.B.m, .slice m.B.B m.B.ds.length m.B.d, .bool m.C.n, .slice m.C.A m.C.xs.length m.C.c, .bool m.C.m, .slice m.C.B m.C.ds.length m.C.d, .bool m.D.n, .slice m.D.A m.D.xs.length m.D.c, .bool m.D.m, .slice m.D.B m.D.ds.length m.D.d] := K4
    go_wp2_with (first | (refine wpList_ldG (by rfl) (by rfl) (by rfl) c21 (by rfl) ?_))
    clear c21
    have c22 : Box w20 (w.heap.size) [.bool m.A.n, .slice m.A.A m.A.xs.length m.A.c, .bool m.A.m, .slice m.A.B m.A.ds.length m.A.d, .bool m.B.n, .slice m.B.A m.B.xs.length m.B.c, .bool m.B.m, .slice m.B.B m.B.ds.length m.B.d, .bool m.C.n, .slice m.C.A m.C.xs.length m.C.c, .bool m.C.m, .slice m.C.B m.C.ds.length m.C.d, .bool m.D.n, .slice m.D.A m.D.xs.length m.D.c, .bool m.D.m, .slice m.D.B m.D.ds.length m.D.d] := K4
    go_wp2_with (first | (refine wpList_ldG (by rfl) (by rfl) (by rfl) c22 (by rfl) ?_))
    clear c22
    refine (y_check0 G HD.out).mono ?_
    rintro _ w23 ⟨rfl, hb⟩
    replace K4 := K4.on hb
    replace Z5 := Z5.on hb
    replace X := X.kp (Kept.of hb)
    replace G := G.kp (Kept.of hb)
    replace BW := BW.trans (hb.mono BW.size)
    clear hb
    go_wp2_with fail
    exact bodyPost_ret (v := .bool true) (by simp [results, Tryz.results7, go_sem]) rfl ⟨rfl, BW⟩
  ·have HM := Lib.hid hM
   have HX := Lib.hid X
   have BWA : Below w18.heap.size w18 w18 := Below.refl _ _
   refine (p_Parts1 X (fun W hb h => HM.out (h.at X))).mono ?_
   rintro _ w20 ⟨rfl, hb⟩
   replace K4 := K4.on hb
   replace Z5 := Z5.on hb
   replace X := X.kp (Kept.of hb)
   replace BW := BW.trans (hb.mono BW.size)
   replace BWA := BWA.trans (hb.mono BWA.size)
   clear hb
   have c21 : Box w20 (w.heap.size) [.bool m.A.n, .slice m.A.A m.A.xs.length m.A.c, .bool m.A.m, .slice m.A.B m.A.ds.length m.A.d, .bool m.B.n, .slice m.B.A m.B.xs.length m.B.c, .bool m.B.m, .slice m.B.B m.B.ds.length m.B.d, .bool m.C.n, .slice m.C.A m.C.xs.length m.C.c, .bool m.C.m, .slice m.C.B m.C.ds.length m.C.d, .bool m.D.n, .slice m.D.A m.D.xs.length m.D.c, .bool m.D.m, .slice m.D.B m.D.ds.length m.D.d] := K4
   go_wp2_with (first | (refine wpList_ldG (by rfl) (by rfl) (by rfl) c21 (by rfl) ?_))
   clear c21
   refine (y_check1 X (fun h => HM.out ((h.at (HX.out))))).mono ?_
   rintro _ w22 ⟨rfl, hb⟩
   replace K4 := K4.on hb
   replace Z5 := Z5.on hb
   replace X := X.kp (Kept.of hb)
   replace BW := BW.trans (hb.mono BW.size)
   replace BWA := BWA.trans (hb.mono BWA.size)
   clear hb
   go_wp2_with fail
   exact bodyPost_ret (v := .bool true) (by simp [results, Tryz.results7, go_sem]) rfl ⟨rfl, BW⟩
 ·go_wp2_with fail
  refine (b_alive).mono ?_
  rintro _ w19 ⟨rfl, hb⟩
  replace K4 := K4.on hb
  replace Z5 := Z5.on hb
  replace X := X.kp (Kept.of hb)
  replace BW := BW.trans (hb.mono BW.size)
  clear hb
  go_wp2_with fail
  exact bodyPost_ret (v := .bool true) (by simp [results, Tryz.results7, go_sem]) rfl ⟨rfl, BW⟩
end Go.Proofs.YtjamfkafgfpobaaGreat
