/-
  Rays that are the same; a trace of a ray that may not be. Conditions: as each theorem states.
-/
import Derived.Test.YtjamfkafgfpobaaGreatTr1
import Derived.Deep.RegionHeld3
import Derived.Deep.DeepCutAuto
import Derived.BigRegion
namespace Go.Proofs.YtjamfkafgfpobaaGreat
open Go.RowKit Nb

set_option maxHeartbeats 16000000 in
set_option maxRecDepth 100000 in
theorem b_samer {g o g2 o2 n c d : Nat} {w : World} (H : ∀ k, k < n → ∃ (r : Yq) (x y : Yv), AtC w g (o + k * 8) (ycs x) ∧ AtC w g2 (o2 + k * 8) (ycs y) ∧ Fy w r x ∧ Fy w r y) (hn : n ≤ 4096) :
    Calls Tryz.prog 27 #[.slice (some ⟨g, o, none⟩) n c, .slice (some ⟨g2, o2, none⟩) n d] w (fun e w' => e = .returned (.bool true) ∧ Below w.heap.size w w') := by
 have HH := Lib.hid H
 have hlen : (n : Int) ≤ 9223372036854775807 := by omega
 clear H
 have BW : Below w.heap.size w w := Below.refl _ _
 go_enter Tryz.func27, Tryz.ntmps27
 go_wp2_with fail
 go_loopw [5] (fun iv wr => ∃ k : Nat, iv = .int .i64 (k : Nat) ∧ k ≤ n ∧ Below w.heap.size w wr) (fun iv _ => n - (intOf iv).toNat)
 case atStart => exact ⟨0, rfl, by omega, BW⟩
 case round =>
   obtain ⟨k, rfl, hk, BW⟩ := hrel
   by_cases hlt : k < n
   · have h2 : (k : Int) < (n : Int) := by omega
     obtain ⟨r, x, y, hA, hB, X, Y⟩ := HH.out k hlt
     replace hA := hA.on BW
     replace hB := hB.on BW
     replace X := X.kp (Kept.of BW)
     replace Y := Y.kp (Kept.of BW)
     have HLT := Lib.hid hlt
     go_wp2_with fail
     refine wp_region_noPanic ?_
     have hb : Below wr.heap.size wr wr.drew := (Below.refl _ _).drew
     replace hA := hA.on hb
     replace hB := hB.on hb
     replace X := X.kp (Kept.of hb)
     replace Y := Y.kp (Kept.of hb)
     replace BW := BW.trans (hb.mono BW.size)
     clear hb
     refine wp_region_held_drew (S := (fun wx => (AtC wx g (o + k * 8) [.bool x.Y.n, .slice x.Y.A x.Y.xs.length x.Y.c, .bool x.Y.m, .slice x.Y.B x.Y.ds.length x.Y.d, .bool x.U.n, .slice x.U.A x.U.xs.length x.U.c, .bool x.U.m, .slice x.U.B x.U.ds.length x.U.d]) ∧ (AtC wx g2 (o2 + k * 8) [.bool y.Y.n, .slice y.Y.A y.Y.xs.length y.Y.c, .bool y.Y.m, .slice y.Y.B y.Y.ds.length y.Y.d, .bool y.U.n, .slice y.U.A y.U.xs.length y.U.c, .bool y.U.m, .slice y.U.B y.U.ds.length y.U.d]))) (by kernel_rfl) (by exact ⟨hA, hB⟩) (fun hHeld => ?_)
     generalize wr.drew = Vd501 at *
     refine pT 0 ?_
     (try simp only [p0, p1, p2, p3])
     refine pT 1 ?_
     (try simp only [p0, p1, p2, p3])
     refine pT 2 ?_ (hy := fun wt hSw => ixY rfl rfl rfl HLT.out)
     (try simp only [p0, p1, p2, p3])
     refine pT 3 ?_ (hy := fun wt hSw => ldYC rfl rfl hSw.1 rfl)
     (try simp only [p0, p1, p2, p3])
     refine pT 4 ?_
     (try simp only [p0, p1, p2, p3])
     refine pT 5 ?_
     (try simp only [p0, p1, p2, p3])
     refine pT 6 ?_ (hy := fun wt hSw => ixY rfl rfl rfl HLT.out)
     (try simp only [p0, p1, p2, p3])
     refine pT 7 ?_ (hy := fun wt hSw => ldYC rfl rfl hSw.2 rfl)
     (try simp only [p0, p1, p2, p3])
     refine pR1 8 (fun K hK => ?_)
     go_simp
     (go_at_call 26; with_reducible refine (y_sameY X Y).mono ?_)
     rintro _ w502 ⟨rfl, hb⟩
     (try go_wp2_with fail)
     replace hA := hA.on hb
     replace hB := hB.on hb
     replace X := X.kp (Kept.of hb)
     replace Y := Y.kp (Kept.of hb)
     replace BW := BW.trans (hb.mono BW.size)
     clear hb
     clear hHeld
     refine hK.out _ _ (by exact ⟨hA, hB⟩) (fun hHeld => ?_)
     clear hK
     (try simp only [p0, p1, p2, p3])
     refine pT 9 ?_
     (try simp only [p0, p1, p2, p3])
     refine wpAnyH_done (by kernel_rfl) (NoPanic.normal ?_) _
     go_wp2
     go_roundw
     case rel => exact ⟨k + 1, by go_num, by omega, BW⟩
     case measure => simp [intOf]; omega
   · obtain rfl : k = n := by omega
     go_wp2_with fail
     exact bodyPost_ret (v := .bool true) (by simp [results, Tryz.results27, go_sem]) rfl ⟨rfl, BW⟩
set_option maxHeartbeats 16000000 in
set_option maxRecDepth 100000 in
theorem b_TraceNo {a : Option Addr} {c : Nat} {es : List Ev} {zs : List Eq} {y : Yv} {w : World} (S : Sle w a c es) (hF : Fes w zs es) (hn : es.length ≤ 4096) (Y : Xy w y) (hy : ¬ oky y) :
    Calls Tryz.prog 24 #[.slice a es.length c, yv y] w (fun e w' => e = .returned (.tuple #[.slice none 0 0, .int .i64 1]) ∧ Below w.heap.size w w') := by
 have HS := Lib.hid S
 have HF := Lib.hid hF
 have hn2 : (es.length : Int) ≤ 4096 := by omega
 have HN := Lib.hid hy
 clear S hF hn hy
 have BW : Below w.heap.size w w := Below.refl _ _
 obtain ⟨V1, e2, hb3, K4, Z5, -⟩ := alloc_new w [.bool y.Y.n, .slice y.Y.A y.Y.xs.length y.Y.c, .bool y.Y.m, .slice y.Y.B y.Y.ds.length y.Y.d, .bool y.U.n, .slice y.U.A y.U.xs.length y.U.c, .bool y.U.m, .slice y.U.B y.U.ds.length y.U.d] 40
 replace K4 : Box V1 (w.heap.size) (ycs y) := K4
 have g6 : w.heap.size ≤ w.heap.size := BW.size
 replace Y := Y.kp (Kept.of hb3)
 replace BW := BW.trans (hb3.mono BW.size)
 clear hb3
 go_enter Tryz.func24, Tryz.ntmps24
 go_wp2_with fail
 rw [← e2]
 clear e2
 have BW0 := Lib.hid BW
 refine (b_check (HS.out.on BW)).mono ?_
 rintro _ w7 ⟨r0, rfl, hr, hb⟩
 replace K4 := K4.on hb
 replace Z5 := Z5.on hb
 replace Y := Y.kp (Kept.of hb)
 replace BW := BW.trans (hb.mono BW.size)
 clear hb
 obtain rfl : r0 = 0 := hr.yes (by omega) (HF.out.kp (Kept.of BW0.out)).may
 clear hr
 obtain ⟨c8, c9, c10, c11, c12, c13, c14, c15⟩ := K4.c8
 go_wp2_with fail
 clear c8 c9 c10 c11 c12 c13 c14 c15
 by_cases hY : okv y.Y
 · refine (r_check Y.xY).mono ?_
   rintro _ w16 ⟨rfl, hb⟩
   replace K4 := K4.on hb
   replace Z5 := Z5.on hb
   replace Y := Y.kp (Kept.of hb)
   replace BW := BW.trans (hb.mono BW.size)
   clear hb
   rw [chkv_ok hY]
   obtain ⟨c17, c18, c19, c20, c21, c22, c23, c24⟩ := K4.c8
   go_wp2_with fail
   clear c17 c18 c19 c20 c21 c22 c23 c24
   refine (r_check Y.xU).mono ?_
   rintro _ w25 ⟨rfl, hb⟩
   replace K4 := K4.on hb
   replace Z5 := Z5.on hb
   replace Y := Y.kp (Kept.of hb)
   replace BW := BW.trans (hb.mono BW.size)
   clear hb
   rw [chkv_bad (fun h => HN.out ⟨hY, h⟩)]
   go_wp2_with fail
   exact bodyPost_ret (v := .tuple #[.slice none 0 0, .int .i64 1]) (by simp [results, Tryz.results24, go_sem]) rfl ⟨rfl, BW⟩
 · refine (r_check Y.xY).mono ?_
   rintro _ w16 ⟨rfl, hb⟩
   replace K4 := K4.on hb
   replace Z5 := Z5.on hb
   replace Y := Y.kp (Kept.of hb)
   replace BW := BW.trans (hb.mono BW.size)
   clear hb
   rw [chkv_bad hY]
   go_wp2_with fail
   exact bodyPost_ret (v := .tuple #[.slice none 0 0, .int .i64 1]) (by simp [results, Tryz.results24, go_sem]) rfl ⟨rfl, BW⟩
end Go.Proofs.YtjamfkafgfpobaaGreat
