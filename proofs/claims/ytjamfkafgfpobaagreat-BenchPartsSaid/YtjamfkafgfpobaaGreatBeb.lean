/-
 bench.Parts where the matrix may be. Conditions: as each theorem states.
-/
import Derived.Test.YtjamfkafgfpobaaGreatBea
import Derived.Deep.RegionHeld3
import Derived.Deep.DeepCutAuto
import Derived.BigRegion
namespace Go.Proofs.YtjamfkafgfpobaaGreat
open Go.RowKit Nb
set_option maxHeartbeats 16000000 in
set_option maxRecDepth 100000 in
theorem p_Parts {q : Mq} {m : Mv} {w : World} (G : Fm w q m) (hd : q.det = 1) :
  Calls Tryz.prog 32 #[mv m] w (FitIs w (flt (partsQ q))) := by
 have ha : q.b = 0 → q.a ≠ 0 := fun e1 e2 => by simp only [Mq.det, e1, e2] at hd; grind
 have HA := Lib.hid ha
 have hd0 := hd
 have BW : Below w.heap.size w w := Below.refl _ _
 obtain ⟨V1, e2, hb3, K4, -, -⟩ := alloc_new w [.bool m.A.n, .slice m.A.A m.A.xs.length m.A.c, .bool m.A.m, .slice m.A.B m.A.ds.length m.A.d, .bool m.B.n, .slice m.B.A m.B.xs.length m.B.c, .bool m.B.m, .slice m.B.B m.B.ds.length m.B.d, .bool m.C.n, .slice m.C.A m.C.xs.length m.C.c, .bool m.C.m, .slice m.C.B m.C.ds.length m.C.d, .bool m.D.n, .slice m.D.A m.D.xs.length m.D.c, .bool m.D.m, .slice m.D.B m.D.ds.length m.D.d] 31
 replace K4 : Box V1 (w.heap.size) (mcs m) := K4
 replace G := G.kp (Kept.of hb3)
 replace BW := BW.trans (hb3.mono BW.size)
 clear hb3
 go_enter Tryz.func32, Tryz.ntmps32
 go_upto_region 1 with fail
 rw [← e2]
 clear e2
 have c5 : Box V1 (w.heap.size) [.bool m.A.n, .slice m.A.A m.A.xs.length m.A.c, .bool m.A.m, .slice m.A.B m.A.ds.length m.A.d, .bool m.B.n, .slice m.B.A m.B.xs.length m.B.c, .bool m.B.m, .slice m.B.B m.B.ds.length m.B.d, .bool m.C.n, .slice m.C.A m.C.xs.length m.C.c, .bool m.C.m, .slice m.C.B m.C.ds.length m.C.d, .bool m.D.n, .slice m.D.A m.D.xs.length m.D.c, .bool m.D.m, .slice m.D.B m.D.ds.length m.D.d] := K4
 go_wp2_with (first | (refine wpList_ldM (by rfl) (by rfl) (by rfl) c5 (by rfl) ?_))
 clear c5
 refine (y_check0 G hd).mono ?_
 rintro _ w6 ⟨rfl, hb⟩
 replace K4 := K4.on hb
 replace G := G.kp (Kept.of hb)
 replace BW := BW.trans (hb.mono BW.size)
 clear hb
 have c7 : Box w6 (w.heap.size) [.bool m.A.n, .slice m.A.A m.A.xs.length m.A.c, .bool m.A.m, .slice m.A.B m.A.ds.length m.A.d, .bool m.B.n, .slice m.B.A m.B.xs.length m.B.c, .bool m.B.m, .slice m.B.B m.B.ds.length m.B.d, .bool m.C.n, .slice m.C.A m.C.xs.length m.C.c, .bool m.C.m, .slice m.C.B m.C.ds.length m.C.d, .bool m.D.n, .slice m.D.A m.D.xs.length m.D.c, .bool m.D.m, .slice m.D.B m.D.ds.length m.D.d] := K4
 go_wp2_with (first | (refine wpList_ldM (by rfl) (by rfl) (by rfl) c7 (by rfl) ?_))
 clear c7
 refine (b_from G).mono ?_
 rintro _ w8 ⟨n1, rfl, N1, hb⟩
 replace K4 := K4.on hb
 replace G := G.kp (Kept.of hb)
 replace BW := BW.trans (hb.mono BW.size)
 clear hb
 go_wp2_with fail
 refine (p_parts N1 (by decide) (by decide) ha).mono ?_
 rintro _ w9 ⟨a, c, xs, rfl, SP, GS, hb⟩
 replace K4 := K4.on hb
 replace G := G.kp (Kept.of hb)
 replace N1 := N1.kp (Kept.of hb)
 replace BW := BW.trans (hb.mono BW.size)
 clear hb
 clear ha
 obtain ⟨zs, hzs⟩ : ∃ zs, zs = partsQ q := ⟨_, rfl⟩
 have hxl : xs.length ≤ 5 := by rw [← GS.1]; exact len_partsQ
 rw [← hzs] at GS
 have SS := SP.spa
 have HS := Lib.hid SS
 have HF := Lib.hid GS
 have BW0 := Lib.hid BW
 have HZS := Lib.hid hzs
 clear SS SP GS hzs BW
 go_wp2_with fail
 go_loopw [5, 17] (fun bv iv wr => ∃ (k : Nat) (a2 : Option Addr) (c2 : Nat) (ys : List Pv), bv = .slice a2 ys.length c2 ∧ iv = .int .i64 (k : Nat) ∧ k ≤ xs.length ∧ ys.length ≤ k ∧ Gps wr (flt (zs.take k)) ys (16 * 1024 + 42) ∧ Rw w9.heap.size wr a2 c2 ys ∧ Below w9.heap.size w9 wr) (fun _ iv _ => xs.length - (intOf iv).toNat)
 case atStart => exact ⟨0, none, 0, [], rfl, rfl, by omega, by simp, Gps.nil, .inl ⟨rfl, rfl, rfl⟩, Below.refl _ _⟩
 case round =>
  obtain ⟨k, a2, c2, ys, rfl, rfl, hk, hyl, GY, RW, BW⟩ := hrel
  by_cases hlt : k < xs.length
  ·have h2 : (k : Int) < (xs.length : Int) := by omega
   obtain ⟨x, he⟩ : ∃ x, xs[k]? = some x := ⟨_, List.getElem?_eq_getElem hlt⟩
   obtain ⟨z, hz⟩ : ∃ z, zs[k]? = some z := ⟨_, List.getElem?_eq_getElem (by rw [HF.out.1]; exact hlt)⟩
   obtain ⟨g, ha, hg, hat0⟩ := HS.out k x he
   have hat : AtB wr g (k * 5) [.int .u8 x.k, .bool x.P.n, .slice x.P.A x.P.xs.length x.P.c, .bool x.P.m, .slice x.P.B x.P.ds.length x.P.d] := hat0.on hg BW
   have X := (HF.out.2 k z x hz he).2.kp (Kept.of BW)
   have hzk : z.1 = x.k := (HF.out.2 k z x hz he).1
   have HZ := Lib.hid hz
   have HZK := Lib.hid hzk
   have HJ2 := Lib.hid hlt
   clear he hat0 hz hzk
   subst ha
   obtain ⟨V501, e502, hb503, K504, -, -⟩ := alloc_new wr [.int .u8 x.k, .bool x.P.n, .slice x.P.A x.P.xs.length x.P.c, .bool x.P.m, .slice x.P.B x.P.ds.length x.P.d] 113
   replace RW := RW.on hb503
   replace X := X.kp (Kept.of hb503)
   replace GY := GY.kp (Kept.of hb503)
   replace BW := BW.trans (hb503.mono BW.size)
   clear hb503
   go_wp2_with (first | (refine wpList_ldP (by rfl) (by rfl) (by rfl) hat (by rfl) ?_))
   rw [← e502]
   clear e502
   generalize wr.heap.size = b505 at *
   have BWr := Lib.hid BW
   obtain ⟨c506, c507, c508, c509, c510⟩ := K504.c5
   go_wp2_with fail
   clear c506 c507 c508 c509 c510
   refine (b_empty ⟨HZK.out, X⟩ (by decide)).mono ?_
   rintro _ w511 ⟨r, rfl, hr, hb⟩
   replace RW := RW.on hb
   replace K504 := K504.on hb
   replace X := X.kp (Kept.of hb)
   replace GY := GY.kp (Kept.of hb)
   replace BW := BW.trans (hb.mono BW.size)
   clear hb
   cases r
   ·have HR := Lib.hid hr.symm
    clear hr
    obtain ⟨c512, c513, c514, c515, c516⟩ := K504.c5
    obtain ⟨V8, e8, hb8, K8, -, -⟩ := alloc_new w511 [.int .u8 x.k, .bool x.P.n, .slice x.P.A x.P.xs.length x.P.c, .bool x.P.m, .slice x.P.B x.P.ds.length x.P.d] 113
    replace RW := RW.on hb8
    replace K504 := K504.on hb8
    replace X := X.kp (Kept.of hb8)
    replace GY := GY.kp (Kept.of hb8)
    replace BW := BW.trans (hb8.mono BW.size)
    clear hb8
    obtain ⟨a9, c9, V9, hr9, R9, BW9, kp9⟩ := appR 111 BW K8 RW (by omega)
    rw [e8] at hr9
    have HR9 := Lib.hid hr9
    clear hr9
    go_wp2_with (first | (refine wpList_appQ (by rfl) (by rfl) (by rfl) (by rfl) HR9.out ?_))
    (try go_wp2)
    go_roundw
    case rel => exact ⟨k + 1, a9, c9, ys ++ [x], (by simp), by go_num, by have := HJ2.out; omega, by simp; omega, by rw [flt_yes HZ.out HR.out]; exact (GY.kp kp9).snoc ⟨HZK.out, X.kp kp9⟩, R9, BW9⟩
    case measure => simp [intOf]; have := HJ2.out; omega
   ·have HR := Lib.hid hr.symm
    clear hr
    go_wp2_with fail
    (try go_wp2)
    go_roundw
    case rel => exact ⟨k + 1, a2, c2, ys, rfl, by go_num, by have := HJ2.out; omega, by omega, by rw [flt_no HZ.out HR.out]; exact GY, RW, BW⟩
    case measure => simp [intOf]; have := HJ2.out; omega
  ·obtain rfl : k = xs.length := by omega
   have hfl : flt (zs.take xs.length) = flt (partsQ q) := by rw [← HF.out.1, List.take_length, HZS.out]
   rw [hfl] at GY
   go_wp2_with fail
   refine ((p_fit RW.spa GY (by decide) (by omega) (fun z hz => may_partsQ HA.out z (List.mem_filter.1 hz).1)).mono (fun _ _ h => h.out)).mono ?_
   rintro _ w901 ⟨v9, er9, rfl, FI, hb⟩
   replace RW := RW.on hb
   replace GY := GY.kp (Kept.of hb)
   replace BW := BW.trans (hb.mono BW.size)
   clear hb
   go_wp2_with fail
   exact bodyPost_ret (v := .tuple #[v9, .int .i64 er9]) (by simp [results, Tryz.results32, go_sem]) rfl ⟨FI.1, BW0.out.trans (BW.mono BW0.out.size)⟩
end Go.Proofs.YtjamfkafgfpobaaGreat
