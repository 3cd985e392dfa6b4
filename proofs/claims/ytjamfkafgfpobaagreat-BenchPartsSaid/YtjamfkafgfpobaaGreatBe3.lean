/-
  Parts of a matrix whose B is below nought. Conditions: as each theorem states.
-/
import Derived.Test.YtjamfkafgfpobaaGreatBe1
import Derived.Test.YtjamfkafgfpobaaGreatBe2
import Derived.Test.YtjamfkafgfpobaaGreatBc3
import Derived.Test.YtjamfkafgfpobaaGreatBe0
import Derived.Deep.RegionHeld3
import Derived.Deep.DeepCutAuto
import Derived.BigRegion
namespace Go.Proofs.YtjamfkafgfpobaaGreat
open Go.RowKit Nb
set_option maxHeartbeats 32000000 in
set_option maxRecDepth 100000 in
theorem p_parts1 {q : Mq} {m : Mv} {C : Nat} {w : World} (G : Gm w q m C) (hC2 : 2 ≤ C) (hC : 4 * C + 10 ≤ 1759218604390) (hB : q.b < 0) :
    Calls Tryz.prog 71 #[mv m] w (PartsIs w ((5, ((0 : Int) : Rat)) :: rows0 q.neg) (4 * C + 10)) := by
 have hC1 : C ≤ 17592186043904 := by omega
 have hC3 : C ≤ 1759218604390 := by omega
 have BW : Below w.heap.size w w := Below.refl _ _
 obtain ⟨V1, e2, hb3, K4, -, -⟩ := alloc_new w [.bool m.A.n, .slice m.A.A m.A.xs.length m.A.c, .bool m.A.m, .slice m.A.B m.A.ds.length m.A.d, .bool m.B.n, .slice m.B.A m.B.xs.length m.B.c, .bool m.B.m, .slice m.B.B m.B.ds.length m.B.d, .bool m.C.n, .slice m.C.A m.C.xs.length m.C.c, .bool m.C.m, .slice m.C.B m.C.ds.length m.C.d, .bool m.D.n, .slice m.D.A m.D.xs.length m.D.c, .bool m.D.m, .slice m.D.B m.D.ds.length m.D.d] 76
 replace K4 : Box V1 (w.heap.size) (mcs m) := K4
 replace G := G.kp (Kept.of hb3)
 replace BW := BW.trans (hb3.mono BW.size)
 clear hb3
 go_enter Tryz.func71, Tryz.ntmps71
 go_wp2_with fail
 rw [← e2]
 clear e2
 refine (b_of (n := 0) (by decide) (by decide)).mono ?_
 rintro _ w5 ⟨z, rfl, LZ, hb⟩
 replace K4 := K4.on hb
 replace G := G.kp (Kept.of hb)
 replace BW := BW.trans (hb.mono BW.size)
 clear hb
 obtain ⟨V6, e7, hb8, K9, Z10, -⟩ := alloc_new w5 [.int .u8 5, .bool z.n, .slice z.A z.xs.length z.c, .bool z.m, .slice z.B z.ds.length z.d] 113
 have n11 : w.heap.size ≠ w5.heap.size := Nat.ne_of_lt (K4.lt)
 have g12 : w.heap.size ≤ w5.heap.size := BW.size
 replace K4 := K4.on hb8
 replace G := G.kp (Kept.of hb8)
 replace LZ := LZ.kp (Kept.of hb8)
 replace BW := BW.trans (hb8.mono BW.size)
 clear hb8
 go_wp2_with fail
 rw [← e7]
 clear e7
 generalize w5.heap.size = b13 at *
 refine (b_of (n := 1) (by decide) (by decide)).mono ?_
 rintro _ w14 ⟨o, rfl, LO, hb⟩
 replace K4 := K4.on hb
 replace K9 := K9.on hb
 replace G := G.kp (Kept.of hb)
 replace LZ := LZ.kp (Kept.of hb)
 replace BW := BW.trans (hb.mono BW.size)
 clear hb
 obtain ⟨V15, e16, hb17, K18, Z19, -⟩ := alloc_new w14 [.bool o.n, .slice o.A o.xs.length o.c, .bool o.m, .slice o.B o.ds.length o.d] 74
 have n20 : w.heap.size ≠ w14.heap.size := Nat.ne_of_lt (K4.lt)
 have n21 : b13 ≠ w14.heap.size := Nat.ne_of_lt (K9.lt)
 have g22 : w.heap.size ≤ w14.heap.size := BW.size
 replace K4 := K4.on hb17
 replace K9 := K9.on hb17
 replace G := G.kp (Kept.of hb17)
 replace LZ := LZ.kp (Kept.of hb17)
 replace BW := BW.trans (hb17.mono BW.size)
 clear hb17
 obtain ⟨c23, c24, c25, c26, c27, c28, c29, c30, c31, c32, c33, c34, c35, c36, c37, c38⟩ := K4.c16
 rw [e16] at c23 c24 c25 c26 c27 c28 c29 c30 c31 c32 c33 c34 c35 c36 c37 c38
 go_wp2_with fail
 clear c23 c24 c25 c26 c27 c28 c29 c30 c31 c32 c33 c34 c35 c36 c37 c38
 rw [← e16]
 clear e16
 generalize w14.heap.size = b39 at *
 refine (b_sign G.gB hC1).mono ?_
 rintro _ w40 ⟨rfl, hb⟩
 replace K4 := K4.on hb
 replace K9 := K9.on hb
 replace K18 := K18.on hb
 replace G := G.kp (Kept.of hb)
 replace LZ := LZ.kp (Kept.of hb)
 replace BW := BW.trans (hb.mono BW.size)
 clear hb
 generalize hs : sgnQ q.b = s at *
 have HS := Lib.hid hs
 clear hs
 have HB := Lib.hid hB
 clear hB
 have hs1 : s < 0 := by rw [← HS.out]; have h1 : ¬ 0 ≤ sgnQ q.b := (fun h => by have h2 := sgn_ge.1 h; have h3 := HB.out; grind); omega
 have hs2 : decide (0 < s) = false := by simp; omega
 have hs3 : decide (s < 0) = true := by simp; omega
 go_wp2_with fail
 clear hs1 hs2 hs3
 refine wp_region_noPanic ?_
 have hb : Below w40.heap.size w40 w40.drew := (Below.refl _ _).drew
 replace K4 := K4.on hb
 replace K9 := K9.on hb
 replace K18 := K18.on hb
 replace G := G.kp (Kept.of hb)
 replace LZ := LZ.kp (Kept.of hb)
 replace BW := BW.trans (hb.mono BW.size)
 clear hb
 refine wp_region_held_drew (S := (fun wx => Box wx (w.heap.size) [.bool m.A.n, .slice m.A.A m.A.xs.length m.A.c, .bool m.A.m, .slice m.A.B m.A.ds.length m.A.d, .bool m.B.n, .slice m.B.A m.B.xs.length m.B.c, .bool m.B.m, .slice m.B.B m.B.ds.length m.B.d, .bool m.C.n, .slice m.C.A m.C.xs.length m.C.c, .bool m.C.m, .slice m.C.B m.C.ds.length m.C.d, .bool m.D.n, .slice m.D.A m.D.xs.length m.D.c, .bool m.D.m, .slice m.D.B m.D.ds.length m.D.d] ∧ Cs wx (b13) 0 [.int .u8 5, .bool z.n, .slice z.A z.xs.length z.c, .bool z.m, .slice z.B z.ds.length z.d])) (by kernel_rfl) (by exact ⟨K4, K9.cs⟩) (fun hHeld => ?_)
 generalize w40.drew = Vd41 at *
 refine pT 0 ?_
 (try simp only [p0, p1, p2, p3])
 refine pT 2 ?_ (hy := fun wt hSw => ldL rfl rfl hSw.1)
 (try simp only [p0, p1, p2, p3])
 refine pR2 1 3 (fun K hK => ?_) (fun K hK => ?_)
 · go_simp
   obtain ⟨V42, e43, hb44, K45, -, -⟩ := alloc_new Vd41 [.int .u8 5, .bool z.n, .slice z.A z.xs.length z.c, .bool z.m, .slice z.B z.ds.length z.d] 113
   have n46 : b13 ≠ Vd41.heap.size := Nat.ne_of_lt (K9.lt)
   have n47 : b39 ≠ Vd41.heap.size := Nat.ne_of_lt (K18.lt)
   replace K4 := K4.on hb44
   replace K9 := K9.on hb44
   replace K18 := K18.on hb44
   replace G := G.kp (Kept.of hb44)
   replace LZ := LZ.kp (Kept.of hb44)
   replace BW := BW.trans (hb44.mono BW.size)
   clear hb44
   rw [← e43]
   clear e43
   generalize Vd41.heap.size = b48 at *
   clear hHeld
   refine hK.out _ _ (by exact ⟨K4, K9.cs⟩) (fun hHeld => ?_)
   clear hK
   (try simp only [p0, p1, p2, p3])
   refine pR1 3 (fun K hK => ?_)
   go_simp
   (go_at_call 104; with_reducible refine (b_neg G hC3).mono ?_)
   rintro _ w49 ⟨m1, rfl, N1, hb⟩
   (try go_wp2_with fail)
   replace K4 := K4.on hb
   replace K9 := K9.on hb
   replace K18 := K18.on hb
   replace K45 := K45.on hb
   replace G := G.kp (Kept.of hb)
   replace LZ := LZ.kp (Kept.of hb)
   replace BW := BW.trans (hb.mono BW.size)
   clear hb
   have hq1 : 0 < q.neg.b := by have := HB.out; show 0 < -q.b; grind
   clear hHeld
   refine hK.out _ _ (by exact ⟨K4, K9.cs⟩) (fun hHeld => ?_)
   clear hK
   (try simp only [p0, p1, p2, p3])
   refine pR1 4 (fun K hK => ?_)
   go_simp
   (go_at_call 71; with_reducible refine (p_parts0 N1 hC2 hC hq1).mono ?_)
   rintro _ w50 ⟨a, c, xs, rfl, SP, GS, hb⟩
   (try go_wp2_with fail)
   replace K4 := K4.on hb
   replace K9 := K9.on hb
   replace K18 := K18.on hb
   replace K45 := K45.on hb
   replace G := G.kp (Kept.of hb)
   replace LZ := LZ.kp (Kept.of hb)
   replace N1 := N1.kp (Kept.of hb)
   replace BW := BW.trans (hb.mono BW.size)
   clear hb
   clear hHeld
   refine hK.out _ _ (by exact ⟨K4, K9.cs⟩) (fun hHeld => ?_)
   clear hK
   (try simp only [p0, p1, p2, p3])
   refine pR1 5 (fun K hK => ?_)
   obtain ⟨c2, V9, hr9, SP2, hb9⟩ := appP 111 (x := ⟨5, z⟩) K45 SP (by rw [← GS.1]; simp [rows0]) (by rw [← GS.1]; simp [rows0])
   have HR9 := Lib.hid hr9
   clear hr9
   refine ite_yes (by rfl) (wp_appP rfl rfl rfl HR9.out ?_)
   clear SP
   replace K4 := K4.on hb9
   replace K9 := K9.on hb9
   replace K18 := K18.on hb9
   replace G := G.kp (Kept.of hb9)
   replace LZ := LZ.kp (Kept.of hb9)
   replace N1 := N1.kp (Kept.of hb9)
   replace GS := GS.kp (Kept.of hb9)
   replace BW := BW.trans (hb9.mono BW.size)
   clear hb9
   generalize w50.heap.size = b99 at *
   clear hHeld
   refine hK.out _ _ (by exact ⟨K4, K9.cs⟩) (fun hHeld => ?_)
   clear hK
   (try simp only [p0, p1, p2, p3])
   refine pT 6 ?_
   (try simp only [p0, p1, p2, p3])
   refine wpAnyH_done (by kernel_rfl) (NoPanic.normal ?_) _
   go_wp2_with fail
   exact bodyPost_ret (v := .slice (some ⟨b99, 0, none⟩) (⟨5, z⟩ :: xs).length c2) (by simp [results, Tryz.results71, go_sem]) rfl ⟨_, c2, ⟨5, z⟩ :: xs, rfl, SP2, .cons ⟨rfl, LZ.mono (by omega)⟩ GS, BW⟩
 · go_simp
   (go_at_call 104; with_reducible refine (b_neg G hC3).mono ?_)
   rintro _ w42 ⟨m1, rfl, N1, hb⟩
   (try go_wp2_with fail)
   replace K4 := K4.on hb
   replace K9 := K9.on hb
   replace K18 := K18.on hb
   replace LZ := LZ.kp (Kept.of hb)
   replace BW := BW.trans (hb.mono BW.size)
   clear hb
   have hq1 : 0 < q.neg.b := by have := HB.out; show 0 < -q.b; grind
   clear hHeld
   refine hK.out _ _ (by exact ⟨K4, K9.cs⟩) (fun hHeld => ?_)
   clear hK
   (try simp only [p0, p1, p2, p3])
   refine pR2 1 4 (fun K hK => ?_) (fun K hK => ?_)
   · go_simp
     obtain ⟨V43, e44, hb45, K46, -, -⟩ := alloc_new w42 [.int .u8 5, .bool z.n, .slice z.A z.xs.length z.c, .bool z.m, .slice z.B z.ds.length z.d] 113
     have n47 : b13 ≠ w42.heap.size := Nat.ne_of_lt (K9.lt)
     have n48 : b39 ≠ w42.heap.size := Nat.ne_of_lt (K18.lt)
     replace K4 := K4.on hb45
     replace K9 := K9.on hb45
     replace K18 := K18.on hb45
     replace LZ := LZ.kp (Kept.of hb45)
     replace N1 := N1.kp (Kept.of hb45)
     replace BW := BW.trans (hb45.mono BW.size)
     clear hb45
     rw [← e44]
     clear e44
     generalize w42.heap.size = b49 at *
     clear hHeld
     refine hK.out _ _ (by exact ⟨K4, K9.cs⟩) (fun hHeld => ?_)
     clear hK
     (try simp only [p0, p1, p2, p3])
     refine pR1 4 (fun K hK => ?_)
     go_simp
     (go_at_call 71; with_reducible refine (p_parts0 N1 hC2 hC hq1).mono ?_)
     rintro _ w50 ⟨a, c, xs, rfl, SP, GS, hb⟩
     (try go_wp2_with fail)
     replace K4 := K4.on hb
     replace K9 := K9.on hb
     replace K18 := K18.on hb
     replace K46 := K46.on hb
     replace LZ := LZ.kp (Kept.of hb)
     replace N1 := N1.kp (Kept.of hb)
     replace BW := BW.trans (hb.mono BW.size)
     clear hb
     clear hHeld
     refine hK.out _ _ (by exact ⟨K4, K9.cs⟩) (fun hHeld => ?_)
     clear hK
     (try simp only [p0, p1, p2, p3])
     refine pR1 5 (fun K hK => ?_)
     obtain ⟨c2, V9, hr9, SP2, hb9⟩ := appP 111 (x := ⟨5, z⟩) K46 SP (by rw [← GS.1]; simp [rows0]) (by rw [← GS.1]; simp [rows0])
     have HR9 := Lib.hid hr9
     clear hr9
     refine ite_yes (by rfl) (wp_appP rfl rfl rfl HR9.out ?_)
     clear SP
     replace K4 := K4.on hb9
     replace K9 := K9.on hb9
     replace K18 := K18.on hb9
     replace LZ := LZ.kp (Kept.of hb9)
     replace N1 := N1.kp (Kept.of hb9)
     replace GS := GS.kp (Kept.of hb9)
     replace BW := BW.trans (hb9.mono BW.size)
     clear hb9
     generalize w50.heap.size = b99 at *
     clear hHeld
     refine hK.out _ _ (by exact ⟨K4, K9.cs⟩) (fun hHeld => ?_)
     clear hK
     (try simp only [p0, p1, p2, p3])
     refine pT 6 ?_
     (try simp only [p0, p1, p2, p3])
     refine wpAnyH_done (by kernel_rfl) (NoPanic.normal ?_) _
     go_wp2_with fail
     exact bodyPost_ret (v := .slice (some ⟨b99, 0, none⟩) (⟨5, z⟩ :: xs).length c2) (by simp [results, Tryz.results71, go_sem]) rfl ⟨_, c2, ⟨5, z⟩ :: xs, rfl, SP2, .cons ⟨rfl, LZ.mono (by omega)⟩ GS, BW⟩
   · go_simp
     (go_at_call 71; with_reducible refine (p_parts0 N1 hC2 hC hq1).mono ?_)
     rintro _ w43 ⟨a, c, xs, rfl, SP, GS, hb⟩
     (try go_wp2_with fail)
     replace K4 := K4.on hb
     replace K9 := K9.on hb
     replace K18 := K18.on hb
     replace LZ := LZ.kp (Kept.of hb)
     replace BW := BW.trans (hb.mono BW.size)
     clear hb
     clear hHeld
     refine hK.out _ _ (by exact ⟨K4, K9.cs⟩) (fun hHeld => ?_)
     clear hK
     (try simp only [p0, p1, p2, p3])
     refine pR1 1 (fun K hK => ?_)
     go_simp
     obtain ⟨V44, e45, hb46, K47, -, -⟩ := alloc_new w43 [.int .u8 5, .bool z.n, .slice z.A z.xs.length z.c, .bool z.m, .slice z.B z.ds.length z.d] 113
     have n48 : b13 ≠ w43.heap.size := Nat.ne_of_lt (K9.lt)
     have n49 : b39 ≠ w43.heap.size := Nat.ne_of_lt (K18.lt)
     replace K4 := K4.on hb46
     replace K9 := K9.on hb46
     replace SP := SP.on hb46
     replace LZ := LZ.kp (Kept.of hb46)
     replace GS := GS.kp (Kept.of hb46)
     replace BW := BW.trans (hb46.mono BW.size)
     clear hb46
     rw [← e45]
     clear e45
     generalize w43.heap.size = b50 at *
     clear hHeld
     refine hK.out _ _ (by exact ⟨K4, K9.cs⟩) (fun hHeld => ?_)
     clear hK
     (try simp only [p0, p1, p2, p3])
     refine pR1 5 (fun K hK => ?_)
     obtain ⟨c2, V9, hr9, SP2, hb9⟩ := appP 111 (x := ⟨5, z⟩) K47 SP (by rw [← GS.1]; simp [rows0]) (by rw [← GS.1]; simp [rows0])
     have HR9 := Lib.hid hr9
     clear hr9
     refine ite_yes (by rfl) (wp_appP rfl rfl rfl HR9.out ?_)
     clear SP
     replace K4 := K4.on hb9
     replace K9 := K9.on hb9
     replace LZ := LZ.kp (Kept.of hb9)
     replace GS := GS.kp (Kept.of hb9)
     replace BW := BW.trans (hb9.mono BW.size)
     clear hb9
     generalize V44.heap.size = b99 at *
     clear hHeld
     refine hK.out _ _ (by exact ⟨K4, K9.cs⟩) (fun hHeld => ?_)
     clear hK
     (try simp only [p0, p1, p2, p3])
     refine pT 6 ?_
     (try simp only [p0, p1, p2, p3])
     refine wpAnyH_done (by kernel_rfl) (NoPanic.normal ?_) _
     go_wp2_with fail
     exact bodyPost_ret (v := .slice (some ⟨b99, 0, none⟩) (⟨5, z⟩ :: xs).length c2) (by simp [results, Tryz.results71, go_sem]) rfl ⟨_, c2, ⟨5, z⟩ :: xs, rfl, SP2, .cons ⟨rfl, LZ.mono (by omega)⟩ GS, BW⟩
end Go.Proofs.YtjamfkafgfpobaaGreat
