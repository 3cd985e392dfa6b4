/-
 Parts of a matrix whose B is nought and whose A is neither one nor its opposite. Conditions: as each theorem states.
-/
import Derived.Test.YtjamfkafgfpobaaGreatBe1
import Derived.Test.YtjamfkafgfpobaaGreatBe2
import Derived.Test.YtjamfkafgfpobaaGreatBc3
import Derived.Test.YtjamfkafgfpobaaGreatBe0
import Derived.Test.YtjamfkafgfpobaaGreatBn1
import Derived.Deep.RegionHeld3
import Derived.Deep.DeepCutAuto
import Derived.BigRegion
namespace Go.Proofs.YtjamfkafgfpobaaGreat
open Go.RowKit Nb
set_option maxHeartbeats 32000000 in
set_option maxRecDepth 100000 in
theorem p_parts4 {q : Mq} {m : Mv} {C : Nat} {w : World} (G : Gm w q m C) (hC2 : 2 ≤ C) (hC : 16 * C + 42 ≤ 1759218604390) (hB : q.b = 0) (HA : ¬ q.a = ((1 : Int) : Rat)) (HN : ¬ q.a = -((1 : Int) : Rat)) (hX : q.a < 0) :
  Calls Tryz.prog 71 #[mv m] w (PartsIs w ((1, ((1 : Int) : Rat)) :: rows0 (q.mul (Mq.space (-((1 : Int) : Rat))))) (4 * (4 * C + 8) + 10)) := by
 have hC1 : C ≤ 17592186043904 := by omega
 have hC3 : C ≤ 1759218604390 := by omega
 have hCm : 2 * C + 2 ≤ 1759218604390 := by omega
 have hCp : 4 * (4 * C + 8) + 10 ≤ 1759218604390 := by omega
 have hCq : 2 ≤ 4 * C + 8 := by omega
 have BW : Below w.heap.size w w := Below.refl _ _
 obtain ⟨V1, e2, hb3, K4, -, -⟩ := alloc_new w [.bool m.A.n, .slice m.A.A m.A.xs.length m.A.c, .bool m.A.m, .slice m.A.B m.A.ds.length m.A.d, .bool m.B.n, .slice m.B.A m.B.xs.length m.B.c, .bool m.B.m, .slice m.B.B m.B.ds.length m.B.d, .bool m.C.n, .slice m.C.A m.C.xs.length m.C.c, .bool m.C.m, .slice m.C.B m.C.ds.length m.C.d, .bool m.D.n, .slice m.D.A m.D.xs.length m.D.c, .bool m.D.m, .slice m.D.B m.D.ds.length m.D.d] 76
 replace K4 : Box V1 (w.heap.size) (mcs m) := K4
 replace G := G.kp (Kept.of hb3)
 replace BW := BW.trans (hb3.mono BW.size)
 clear hb3
 go_enter Tryz.func71, Tryz.ntmps71
 go_wp2_with fail
 rw [← e2]
 clear e2
 refine (b_of (n := 0) (by decide) (by decide)).mono ?_
 rintro _ w5 ⟨z, rfl, LZ, hb⟩
 replace K4 := K4.on hb
 replace G := G.kp (Kept.of hb)
 replace BW := BW.trans (hb.mono BW.size)
 clear hb
 obtain ⟨V6, e7, hb8, K9, Z10, -⟩ := alloc_new w5 [.int .u8 5, .bool z.n, .slice z.A z.xs.length z.c, .bool z.m, .slice z.B z.ds.length z.d] 113
 have n11 : w.heap.size ≠ w5.heap.size := Nat.ne_of_lt (K4.lt)
 have g12 : w.heap.size ≤ w5.heap.size := BW.size
 replace K4 := K4.on hb8
 replace G := G.kp (Kept.of hb8)
 replace BW := BW.trans (hb8.mono BW.size)
 clear hb8
 go_wp2_with fail
 rw [← e7]
 clear e7
 generalize w5.heap.size = b13 at *
 refine (b_of (n := 1) (by decide) (by decide)).mono ?_
 rintro _ w14 ⟨o, rfl, LO, hb⟩
 replace K4 := K4.on hb
 replace K9 := K9.on hb
 replace G := G.kp (Kept.of hb)
 replace BW := BW.trans (hb.mono BW.size)
 clear hb
 obtain ⟨V15, e16, hb17, K18, Z19, -⟩ := alloc_new w14 [.bool o.n, .slice o.A o.xs.length o.c, .bool o.m, .slice o.B o.ds.length o.d] 74
 have n20 : w.heap.size ≠ w14.heap.size := Nat.ne_of_lt (K4.lt)
 have n21 : b13 ≠ w14.heap.size := Nat.ne_of_lt (K9.lt)
 have g22 : w.heap.size ≤ w14.heap.size := BW.size
 replace K4 := K4.on hb17
 replace K9 := K9.on hb17
 replace G := G.kp (Kept.of hb17)
 replace LO := LO.kp (Kept.of hb17)
 replace BW := BW.trans (hb17.mono BW.size)
 clear hb17
 obtain ⟨c23, c24, c25, c26, c27, c28, c29, c30, c31, c32, c33, c34, c35, c36, c37, c38⟩ := K4.c16
 rw [e16] at c23 c24 c25 c26 c27 c28 c29 c30 c31 c32 c33 c34 c35 c36 c37 c38
 go_wp2_with fail
 clear c23 c24 c25 c26 c27 c28 c29 c30 c31 c32 c33 c34 c35 c36 c37 c38
 rw [← e16]
 clear e16
 generalize w14.heap.size = b39 at *
 refine (b_sign G.gB hC1).mono ?_
 rintro _ w40 ⟨rfl, hb⟩
 replace K4 := K4.on hb
 replace K9 := K9.on hb
 replace K18 := K18.on hb
 replace G := G.kp (Kept.of hb)
 replace LO := LO.kp (Kept.of hb)
 replace BW := BW.trans (hb.mono BW.size)
 clear hb
 generalize hs : sgnQ q.b = s at *
 have HS := Lib.hid hs
 clear hs
 have HB := Lib.hid hB
 clear hB
 obtain rfl : s = 0 := by rw [← HS.out]; exact sgn_zero.2 HB.out
 have HX := Lib.hid hX
 clear hX
 obtain ⟨c41, c42, c43, c44, c45, c46, c47, c48, c49, c50, c51, c52, c53, c54, c55, c56⟩ := K4.c16
 obtain ⟨c57, c58, c59, c60⟩ := K18.c4
 go_wp2_with fail
 clear c41 c42 c43 c44 c45 c46 c47 c48 c49 c50 c51 c52 c53 c54 c55 c56 c57 c58 c59 c60
 refine (q_cmp G.gA (LO.mono hC2) hC3).mono ?_
 rintro _ w61 ⟨⟨t, rfl, ht⟩, hb⟩
 replace K4 := K4.on hb
 replace K9 := K9.on hb
 replace K18 := K18.on hb
 replace G := G.kp (Kept.of hb)
 replace LO := LO.kp (Kept.of hb)
 replace BW := BW.trans (hb.mono BW.size)
 clear hb
 have ht0 : (t == 0) = false := by simpa using (fun e => HA (ht.1 e))
 clear ht
 go_wp2_with fail
 clear ht0
 refine wp_region_noPanic ?_
 have hb : Below w61.heap.size w61 w61.drew := (Below.refl _ _).drew
 replace K4 := K4.on hb
 replace K9 := K9.on hb
 replace K18 := K18.on hb
 replace G := G.kp (Kept.of hb)
 replace LO := LO.kp (Kept.of hb)
 replace BW := BW.trans (hb.mono BW.size)
 clear hb
 refine wp_region_held_drew (S := (fun wx => Cs wx (w.heap.size) 0 [.bool m.A.n, .slice m.A.A m.A.xs.length m.A.c, .bool m.A.m, .slice m.A.B m.A.ds.length m.A.d, .bool m.B.n, .slice m.B.A m.B.xs.length m.B.c, .bool m.B.m, .slice m.B.B m.B.ds.length m.B.d, .bool m.C.n, .slice m.C.A m.C.xs.length m.C.c, .bool m.C.m, .slice m.C.B m.C.ds.length m.C.d, .bool m.D.n, .slice m.D.A m.D.xs.length m.D.c, .bool m.D.m, .slice m.D.B m.D.ds.length m.D.d] ∧ Cs wx (b39) 0 [.bool o.n, .slice o.A o.xs.length o.c, .bool o.m, .slice o.B o.ds.length o.d])) (by kernel_rfl) (by exact ⟨K4.cs, K18.cs⟩) (fun hHeld => ?_)
 generalize w61.drew = Vd62 at *
 refine pT 0 ?_
 (try simp only [p0, p1, p2, p3])
 refine pT 1 ?_
 (try simp only [p0, p1, p2, p3])
 refine pT 2 ?_
 (try simp only [p0, p1, p2, p3])
 refine pR1 3 (fun K hK => ?_)
 go_simp
 (go_at_call 86; with_reducible refine (q_neg LO (by decide)).mono ?_)
 rintro _ w63 ⟨g0, rfl, N0, hb⟩
 (try go_wp2_with fail)
 replace K4 := K4.on hb
 replace K9 := K9.on hb
 replace K18 := K18.on hb
 replace G := G.kp (Kept.of hb)
 replace LO := LO.kp (Kept.of hb)
 replace BW := BW.trans (hb.mono BW.size)
 clear hb
 clear hHeld
 refine hK.out _ _ (by exact ⟨K4.cs, K18.cs⟩) (fun hHeld => ?_)
 clear hK
 (try simp only [p0, p1, p2, p3])
 refine pR1 4 (fun K hK => ?_)
 go_simp
 (go_at_call 44; with_reducible refine (q_cmp G.gA (N0.mono hC2) hC3).mono ?_)
 rintro _ w64 ⟨⟨t, rfl, ht⟩, hb⟩
 (try go_wp2_with fail)
 replace K4 := K4.on hb
 replace K9 := K9.on hb
 replace K18 := K18.on hb
 replace G := G.kp (Kept.of hb)
 replace LO := LO.kp (Kept.of hb)
 replace BW := BW.trans (hb.mono BW.size)
 clear hb
 have ht0 : (t == 0) = false := by simpa using (fun e => HN (ht.1 e))
 clear ht
 clear hHeld
 refine hK.out _ _ (by exact ⟨K4.cs, K18.cs⟩) (fun hHeld => ?_)
 clear hK
 (try simp only [p0, p1, p2, p3])
 refine pT 5 ?_
 (try simp only [p0, p1, p2, p3])
 refine pT 6 ?_
 (try simp only [p0, p1, p2, p3])
 refine wpAnyH_done (by kernel_rfl) (NoPanic.normal ?_) _
 obtain ⟨c65, c66, c67, c68, c69, c70, c71, c72, c73, c74, c75, c76, c77, c78, c79, c80⟩ := K4.c16
 go_wp2_with fail
 clear c65 c66 c67 c68 c69 c70 c71 c72 c73 c74 c75 c76 c77 c78 c79 c80
 refine (b_sign G.gA hC1).mono ?_
 rintro _ w81 ⟨rfl, hb⟩
 replace K4 := K4.on hb
 replace K9 := K9.on hb
 replace K18 := K18.on hb
 replace G := G.kp (Kept.of hb)
 replace LO := LO.kp (Kept.of hb)
 replace BW := BW.trans (hb.mono BW.size)
 clear hb
 generalize ht9 : sgnQ q.a = t9 at *
 have HT := Lib.hid ht9
 clear ht9
 have hs1 : t9 < 0 := by rw [← HT.out]; have h1 : ¬ 0 ≤ sgnQ q.a := (fun h => by have h2 := sgn_ge.1 h; have h3 := HX.out; grind); omega
 have hs2 : decide (t9 < 0) = true := by simp; omega
 go_wp2_with fail
 clear hs1 hs2
 refine wp_region_noPanic ?_
 have hb : Below w81.heap.size w81 w81.drew := (Below.refl _ _).drew
 replace K4 := K4.on hb
 replace K9 := K9.on hb
 replace K18 := K18.on hb
 replace G := G.kp (Kept.of hb)
 replace LO := LO.kp (Kept.of hb)
 replace BW := BW.trans (hb.mono BW.size)
 clear hb
 refine wp_region_held_drew (S := (fun wx => Box wx (w.heap.size) [.bool m.A.n, .slice m.A.A m.A.xs.length m.A.c, .bool m.A.m, .slice m.A.B m.A.ds.length m.A.d, .bool m.B.n, .slice m.B.A m.B.xs.length m.B.c, .bool m.B.m, .slice m.B.B m.B.ds.length m.B.d, .bool m.C.n, .slice m.C.A m.C.xs.length m.C.c, .bool m.C.m, .slice m.C.B m.C.ds.length m.C.d, .bool m.D.n, .slice m.D.A m.D.xs.length m.D.c, .bool m.D.m, .slice m.D.B m.D.ds.length m.D.d] ∧ Cs wx (b39) 0 [.bool o.n, .slice o.A o.xs.length o.c, .bool o.m, .slice o.B o.ds.length o.d])) (by kernel_rfl) (by exact ⟨K4, K18.cs⟩) (fun hHeld => ?_)
 generalize w81.drew = Vd82 at *
 refine pT 0 ?_
 (try simp only [p0, p1, p2, p3])
 refine pT 1 ?_
 (try simp only [p0, p1, p2, p3])
 refine pT 3 ?_ (hy := fun wt hSw => ldL rfl rfl hSw.1)
 (try simp only [p0, p1, p2, p3])
 refine pT 4 ?_
 (try simp only [p0, p1, p2, p3])
 refine pR2 2 5 (fun K hK => ?_) (fun K hK => ?_)
 ·go_simp
  obtain ⟨V83, e84, hb85, K86, -, -⟩ := alloc_new Vd82 [.int .u8 1, .bool o.n, .slice o.A o.xs.length o.c, .bool o.m, .slice o.B o.ds.length o.d] 113
  have n87 : b13 ≠ Vd82.heap.size := Nat.ne_of_lt (K9.lt)
  have n88 : b39 ≠ Vd82.heap.size := Nat.ne_of_lt (K18.lt)
  replace K4 := K4.on hb85
  replace K9 := K9.on hb85
  replace K18 := K18.on hb85
  replace G := G.kp (Kept.of hb85)
  replace LO := LO.kp (Kept.of hb85)
  replace BW := BW.trans (hb85.mono BW.size)
  clear hb85
  rw [← e84]
  clear e84
  generalize Vd82.heap.size = b89 at *
  clear hHeld
  refine hK.out _ _ (by exact ⟨K4, K18.cs⟩) (fun hHeld => ?_)
  clear hK
  (try simp only [p0, p1, p2, p3])
  refine pR1 5 (fun K hK => ?_)
  go_simp
  (go_at_call 86; with_reducible refine (q_neg LO (by decide)).mono ?_)
  rintro _ w90 ⟨g9, rfl, N9, hb⟩
  (try go_wp2_with fail)
  replace K4 := K4.on hb
  replace K9 := K9.on hb
  replace K18 := K18.on hb
  replace K86 := K86.on hb
  replace G := G.kp (Kept.of hb)
  replace LO := LO.kp (Kept.of hb)
  replace BW := BW.trans (hb.mono BW.size)
  clear hb
  clear hHeld
  refine hK.out _ _ (by exact ⟨K4, K18.cs⟩) (fun hHeld => ?_)
  clear hK
  (try simp only [p0, p1, p2, p3])
  refine pR1 6 (fun K hK => ?_)
  go_simp
  (go_at_call 97; with_reducible refine (b_space (N9.mono hC2) hC2).mono ?_)
  rintro _ w91 ⟨m8, rfl, N8, hb⟩
  (try go_wp2_with fail)
  replace K4 := K4.on hb
  replace K9 := K9.on hb
  replace K18 := K18.on hb
  replace K86 := K86.on hb
  replace G := G.kp (Kept.of hb)
  replace LO := LO.kp (Kept.of hb)
  replace N9 := N9.kp (Kept.of hb)
  replace BW := BW.trans (hb.mono BW.size)
  clear hb
  clear hHeld
  refine hK.out _ _ (by exact ⟨K4, K18.cs⟩) (fun hHeld => ?_)
  clear hK
  (try simp only [p0, p1, p2, p3])
  refine pR1 7 (fun K hK => ?_)
  go_simp
  (go_at_call 77; with_reducible refine (b_mul G N8 hCm).mono ?_)
  rintro _ w92 ⟨m1, rfl, N1, hb⟩
  (try go_wp2_with fail)
  replace K4 := K4.on hb
  replace K9 := K9.on hb
  replace K18 := K18.on hb
  replace K86 := K86.on hb
  replace G := G.kp (Kept.of hb)
  replace LO := LO.kp (Kept.of hb)
  replace N9 := N9.kp (Kept.of hb)
  replace N8 := N8.kp (Kept.of hb)
  replace BW := BW.trans (hb.mono BW.size)
  clear hb
  have hq1 : 0 < (q.mul (Mq.space (-((1 : Int) : Rat)))).b := by have h3 := HX.out; have h4 := HB.out; have h5 : ((1 : Int) : Rat) = 1 := (by first | rfl | simp); show 0 < q.a * (-((1 : Int) : Rat)) + q.b * 1; rw [h4, h5]; grind
  clear hHeld
  refine hK.out _ _ (by exact ⟨K4, K18.cs⟩) (fun hHeld => ?_)
  clear hK
  (try simp only [p0, p1, p2, p3])
  refine pR1 8 (fun K hK => ?_)
  go_simp
  (go_at_call 71; with_reducible refine (p_parts0 N1 hCq hCp hq1).mono ?_)
  rintro _ w93 ⟨a, c, xs, rfl, SP, GS, hb⟩
  (try go_wp2_with fail)
  replace K4 := K4.on hb
  replace K9 := K9.on hb
  replace K18 := K18.on hb
  replace K86 := K86.on hb
  replace G := G.kp (Kept.of hb)
  replace LO := LO.kp (Kept.of hb)
  replace N9 := N9.kp (Kept.of hb)
  replace N8 := N8.kp (Kept.of hb)
  replace N1 := N1.kp (Kept.of hb)
  replace BW := BW.trans (hb.mono BW.size)
  clear hb
  clear hHeld
  refine hK.out _ _ (by exact ⟨K4, K18.cs⟩) (fun hHeld => ?_)
  clear hK
  (try simp only [p0, p1, p2, p3])
  refine pR1 9 (fun K hK => ?_)
  obtain ⟨c2, V9, hr9, SP2, hb9⟩ := appP 111 (x := ⟨1, o⟩) K86 SP (by rw [← GS.1]; simp [rows0]) (by rw [← GS.1]; simp [rows0])
  have HR9 := Lib.hid hr9
  clear hr9
  refine ite_yes (by rfl) (wp_appP rfl rfl rfl HR9.out ?_)
  clear SP
  replace K4 := K4.on hb9
  replace K9 := K9.on hb9
  replace K18 := K18.on hb9
  replace G := G.kp (Kept.of hb9)
  replace LO := LO.kp (Kept.of hb9)
  replace N9 := N9.kp (Kept.of hb9)
  replace N8 := N8.kp (Kept.of hb9)
  replace N1 := N1.kp (Kept.of hb9)
  replace GS := GS.kp (Kept.of hb9)
  replace BW := BW.trans (hb9.mono BW.size)
  clear hb9
  generalize w93.heap.size = b99 at *
  clear hHeld
  refine hK.out _ _ (by exact ⟨K4, K18.cs⟩) (fun hHeld => ?_)
  clear hK
  (try simp only [p0, p1, p2, p3])
  refine pT 10 ?_
  (try simp only [p0, p1, p2, p3])
  refine wpAnyH_done (by kernel_rfl) (NoPanic.normal ?_) _
  go_wp2_with fail
  exact bodyPost_ret (v := .slice (some ⟨b99, 0, none⟩) (⟨1, o⟩ :: xs).length c2) (by simp [results, Tryz.results71, go_sem]) rfl ⟨_, c2, ⟨1, o⟩ :: xs, rfl, SP2, .cons ⟨rfl, LO.mono (by omega)⟩ GS, BW⟩
 ·go_simp
  (go_at_call 86; with_reducible refine (q_neg LO (by decide)).mono ?_)
  rintro _ w83 ⟨g9, rfl, N9, hb⟩
  (try go_wp2_with fail)
  replace K4 := K4.on hb
  replace K9 := K9.on hb
  replace K18 := K18.on hb
  replace G := G.kp (Kept.of hb)
  replace LO := LO.kp (Kept.of hb)
  replace BW := BW.trans (hb.mono BW.size)
  clear hb
  clear hHeld
  refine hK.out _ _ (by exact ⟨K4, K18.cs⟩) (fun hHeld => ?_)
  clear hK
  (try simp only [p0, p1, p2, p3])
  refine pR2 2 6 (fun K hK => ?_) (fun K hK => ?_)
  ·go_simp
   obtain ⟨V84, e85, hb86, K87, -, -⟩ := alloc_new w83 [.int .u8 1, .bool o.n, .slice o.A o.xs.length o.c, .bool o.m, .slice o.B o.ds.length o.d] 113
   have n88 : b13 ≠ w83.heap.size := Nat.ne_of_lt (K9.lt)
   have n89 : b39 ≠ w83.heap.size := Nat.ne_of_lt (K18.lt)
   replace K4 := K4.on hb86
   replace K9 := K9.on hb86
   replace K18 := K18.on hb86
   replace G := G.kp (Kept.of hb86)
   replace LO := LO.kp (Kept.of hb86)
   replace N9 := N9.kp (Kept.of hb86)
   replace BW := BW.trans (hb86.mono BW.size)
   clear hb86
   rw [← e85]
   clear e85
   generalize w83.heap.size = b90 at *
   clear hHeld
   refine hK.out _ _ (by exact ⟨K4, K18.cs⟩) (fun hHeld => ?_)
   clear hK
   (try simp only [p0, p1, p2, p3])
   refine pR1 6 (fun K hK => ?_)
   go_simp
   (go_at_call 97; with_reducible refine (b_space (N9.mono hC2) hC2).mono ?_)
   rintro _ w91 ⟨m8, rfl, N8, hb⟩
   (try go_wp2_with fail)
   replace K4 := K4.on hb
   replace K9 := K9.on hb
   replace K18 := K18.on hb
   replace K87 := K87.on hb
   replace G := G.kp (Kept.of hb)
   replace LO := LO.kp (Kept.of hb)
   replace N9 := N9.kp (Kept.of hb)
   replace BW := BW.trans (hb.mono BW.size)
   clear hb
   clear hHeld
   refine hK.out _ _ (by exact ⟨K4, K18.cs⟩) (fun hHeld => ?_)
   clear hK
   (try simp only [p0, p1, p2, p3])
   refine pR1 7 (fun K hK => ?_)
   go_simp
   (go_at_call 77; with_reducible refine (b_mul G N8 hCm).mono ?_)
   rintro _ w92 ⟨m1, rfl, N1, hb⟩
   (try go_wp2_with fail)
   replace K4 := K4.on hb
   replace K9 := K9.on hb
   replace K18 := K18.on hb
   replace K87 := K87.on hb
   replace G := G.kp (Kept.of hb)
   replace LO := LO.kp (Kept.of hb)
   replace N9 := N9.kp (Kept.of hb)
   replace N8 := N8.kp (Kept.of hb)
   replace BW := BW.trans (hb.mono BW.size)
   clear hb
   have hq1 : 0 < (q.mul (Mq.space (-((1 : Int) : Rat)))).b := by have h3 := HX.out; have h4 := HB.out; have h5 : ((1 : Int) : Rat) = 1 := (by first | rfl | simp); show 0 < q.a * (-((1 : Int) : Rat)) + q.b * 1; rw [h4, h5]; grind
   clear hHeld
   refine hK.out _ _ (by exact ⟨K4, K18.cs⟩) (fun hHeld => ?_)
   clear hK
   (try simp only [p0, p1, p2, p3])
   refine pR1 8 (fun K hK => ?_)
   go_simp
   (go_at_call 71; with_reducible refine (p_parts0 N1 hCq hCp hq1).mono ?_)
   rintro _ w93 ⟨a, c, xs, rfl, SP, GS, hb⟩
   (try go_wp2_with fail)
   replace K4 := K4.on hb
   replace K9 := K9.on hb
   replace K18 := K18.on hb
   replace K87 := K87.on hb
   replace G := G.kp (Kept.of hb)
   replace LO := LO.kp (Kept.of hb)
   replace N9 := N9.kp (Kept.of hb)
   replace N8 := N8.kp (Kept.of hb)
   replace N1 := N1.kp (Kept.of hb)
   replace BW := BW.trans (hb.mono BW.size)
   clear hb
   clear hHeld
   refine hK.out _ _ (by exact ⟨K4, K18.cs⟩) (fun hHeld => ?_)
   clear hK
   (try simp only [p0, p1, p2, p3])
   refine pR1 9 (fun K hK => ?_)
   obtain ⟨c2, V9, hr9, SP2, hb9⟩ := appP 111 (x := ⟨1, o⟩) K87 SP (by rw [← GS.1]; simp [rows0]) (by rw [← GS.1]; simp [rows0])
   have HR9 := Lib.hid hr9
   clear hr9
   refine ite_yes (by rfl) (wp_appP rfl rfl rfl HR9.out ?_)
   clear SP
   replace K4 := K4.on hb9
   replace K9 := K9.on hb9
   replace K18 := K18.on hb9
   replace G := G.kp (Kept.of hb9)
   replace LO := LO.kp (Kept.of hb9)
   replace N9 := N9.kp (Kept.of hb9)
   replace N8 := N8.kp (Kept.of hb9)
   replace N1 := N1.kp (Kept.of hb9)
   replace GS := GS.kp (Kept.of hb9)
   replace BW := BW.trans (hb9.mono BW.size)
   clear hb9
   generalize w93.heap.size = b99 at *
   clear hHeld
   refine hK.out _ _ (by exact ⟨K4, K18.cs⟩) (fun hHeld => ?_)
   clear hK
   (try simp only [p0, p1, p2, p3])
   refine pT 10 ?_
   (try simp only [p0, p1, p2, p3])
   refine wpAnyH_done (by kernel_rfl) (NoPanic.normal ?_) _
   go_wp2_with fail
   exact bodyPost_ret (v := .slice (some ⟨b99, 0, none⟩) (⟨1, o⟩ :: xs).length c2) (by simp [results, Tryz.results71, go_sem]) rfl ⟨_, c2, ⟨1, o⟩ :: xs, rfl, SP2, .cons ⟨rfl, LO.mono (by omega)⟩ GS, BW⟩
  ·go_simp
   (go_at_call 97; with_reducible refine (b_space (N9.mono hC2) hC2).mono ?_)
   rintro _ w84 ⟨m8, rfl, N8, hb⟩
   (try go_wp2_with fail)
   replace K4 := K4.on hb
   replace K9 := K9.on hb
   replace K18 := K18.on hb
   replace G := G.kp (Kept.of hb)
   replace LO := LO.kp (Kept.of hb)
   replace BW := BW.trans (hb.mono BW.size)
   clear hb
   clear hHeld
   refine hK.out _ _ (by exact ⟨K4, K18.cs⟩) (fun hHeld => ?_)
   clear hK
   (try simp only [p0, p1, p2, p3])
   refine pR2 2 7 (fun K hK => ?_) (fun K hK => ?_)
   ·go_simp
    obtain ⟨V85, e86, hb87, K88, -, -⟩ := alloc_new w84 [.int .u8 1, .bool o.n, .slice o.A o.xs.length o.c, .bool o.m, .slice o.B o.ds.length o.d] 113
    have n89 : b13 ≠ w84.heap.size := Nat.ne_of_lt (K9.lt)
    have n90 : b39 ≠ w84.heap.size := Nat.ne_of_lt (K18.lt)
    replace K4 := K4.on hb87
    replace K9 := K9.on hb87
    replace K18 := K18.on hb87
    replace G := G.kp (Kept.of hb87)
    replace LO := LO.kp (Kept.of hb87)
    replace N8 := N8.kp (Kept.of hb87)
    replace BW := BW.trans (hb87.mono BW.size)
    clear hb87
    rw [← e86]
    clear e86
    generalize w84.heap.size = b91 at *
    clear hHeld
    refine hK.out _ _ (by exact ⟨K4, K18.cs⟩) (fun hHeld => ?_)
    clear hK
    (try simp only [p0, p1, p2, p3])
    refine pR1 7 (fun K hK => ?_)
    go_simp
    (go_at_call 77; with_reducible refine (b_mul G N8 hCm).mono ?_)
    rintro _ w92 ⟨m1, rfl, N1, hb⟩
    (try go_wp2_with fail)
    replace K4 := K4.on hb
    replace K9 := K9.on hb
    replace K18 := K18.on hb
    replace K88 := K88.on hb
    replace G := G.kp (Kept.of hb)
    replace LO := LO.kp (Kept.of hb)
    replace N8 := N8.kp (Kept.of hb)
    replace BW := BW.trans (hb.mono BW.size)
    clear hb
    have hq1 : 0 < (q.mul (Mq.space (-((1 : Int) : Rat)))).b := by have h3 := HX.out; have h4 := HB.out; have h5 : ((1 : Int) : Rat) = 1 := (by first | rfl | simp); show 0 < q.a * (-((1 : Int) : Rat)) + q.b * 1; rw [h4, h5]; grind
    clear hHeld
    refine hK.out _ _ (by exact ⟨K4, K18.cs⟩) (fun hHeld => ?_)
    clear hK
    (try simp only [p0, p1, p2, p3])
    refine pR1 8 (fun K hK => ?_)
    go_simp
    (go_at_call 71; with_reducible refine (p_parts0 N1 hCq hCp hq1).mono ?_)
    rintro _ w93 ⟨a, c, xs, rfl, SP, GS, hb⟩
    (try go_wp2_with fail)
    replace K4 := K4.on hb
    replace K9 := K9.on hb
    replace K18 := K18.on hb
    replace K88 := K88.on hb
    replace G := G.kp (Kept.of hb)
    replace LO := LO.kp (Kept.of hb)
    replace N8 := N8.kp (Kept.of hb)
    replace N1 := N1.kp (Kept.of hb)
    replace BW := BW.trans (hb.mono BW.size)
    clear hb
    clear hHeld
    refine hK.out _ _ (by exact ⟨K4, K18.cs⟩) (fun hHeld => ?_)
    clear hK
    (try simp only [p0, p1, p2, p3])
    refine pR1 9 (fun K hK => ?_)
    obtain ⟨c2, V9, hr9, SP2, hb9⟩ := appP 111 (x := ⟨1, o⟩) K88 SP (by rw [← GS.1]; simp [rows0]) (by rw [← GS.1]; simp [rows0])
    have HR9 := Lib.hid hr9
    clear hr9
    refine ite_yes (by rfl) (wp_appP rfl rfl rfl HR9.out ?_)
    clear SP
    replace K4 := K4.on hb9
    replace K9 := K9.on hb9
    replace K18 := K18.on hb9
    replace G := G.kp (Kept.of hb9)
    replace LO := LO.kp (Kept.of hb9)
    replace N8 := N8.kp (Kept.of hb9)
    replace N1 := N1.kp (Kept.of hb9)
    replace GS := GS.kp (Kept.of hb9)
    replace BW := BW.trans (hb9.mono BW.size)
    clear hb9
    generalize w93.heap.size = b99 at *
    clear hHeld
    refine hK.out _ _ (by exact ⟨K4, K18.cs⟩) (fun hHeld => ?_)
    clear hK
    (try simp only [p0, p1, p2, p3])
    refine pT 10 ?_
    (try simp only [p0, p1, p2, p3])
    refine wpAnyH_done (by kernel_rfl) (NoPanic.normal ?_) _
    go_wp2_with fail
    exact bodyPost_ret (v := .slice (some ⟨b99, 0, none⟩) (⟨1, o⟩ :: xs).length c2) (by simp [results, Tryz.results71, go_sem]) rfl ⟨_, c2, ⟨1, o⟩ :: xs, rfl, SP2, .cons ⟨rfl, LO.mono (by omega)⟩ GS, BW⟩
   ·go_simp
    (go_at_call 77; with_reducible refine (b_mul G N8 hCm).mono ?_)
    rintro _ w85 ⟨m1, rfl, N1, hb⟩
    (try go_wp2_with fail)
    replace K4 := K4.on hb
    replace K9 := K9.on hb
    replace K18 := K18.on hb
    replace LO := LO.kp (Kept.of hb)
    replace BW := BW.trans (hb.mono BW.size)
    clear hb
    have hq1 : 0 < (q.mul (Mq.space (-((1 : Int) : Rat)))).b := by have h3 := HX.out; have h4 := HB.out; have h5 : ((1 : Int) : Rat) = 1 := (by first | rfl | simp); show 0 < q.a * (-((1 : Int) : Rat)) + q.b * 1; rw [h4, h5]; grind
    clear hHeld
    refine hK.out _ _ (by exact ⟨K4, K18.cs⟩) (fun hHeld => ?_)
    clear hK
    (try simp only [p0, p1, p2, p3])
    refine pR2 2 8 (fun K hK => ?_) (fun K hK => ?_)
    ·go_simp
     obtain ⟨V86, e87, hb88, K89, -, -⟩ := alloc_new w85 [.int .u8 1, .bool o.n, .slice o.A o.xs.length o.c, .bool o.m, .slice o.B o.ds.length o.d] 113
     have n90 : b13 ≠ w85.heap.size := Nat.ne_of_lt (K9.lt)
     have n91 : b39 ≠ w85.heap.size := Nat.ne_of_lt (K18.lt)
     replace K4 := K4.on hb88
     replace K9 := K9.on hb88
     replace K18 := K18.on hb88
     replace LO := LO.kp (Kept.of hb88)
     replace N1 := N1.kp (Kept.of hb88)
     replace BW := BW.trans (hb88.mono BW.size)
     clear hb88
     rw [← e87]
     clear e87
     generalize w85.heap.size = b92 at *
     clear hHeld
     refine hK.out _ _ (by exact ⟨K4, K18.cs⟩) (fun hHeld => ?_)
     clear hK
     (try simp only [p0, p1, p2, p3])
     refine pR1 8 (fun K hK => ?_)
     go_simp
     (go_at_call 71; with_reducible refine (p_parts0 N1 hCq hCp hq1).mono ?_)
     rintro _ w93 ⟨a, c, xs, rfl, SP, GS, hb⟩
     (try go_wp2_with fail)
     replace K4 := K4.on hb
     replace K9 := K9.on hb
     replace K18 := K18.on hb
     replace K89 := K89.on hb
     replace LO := LO.kp (Kept.of hb)
     replace N1 := N1.kp (Kept.of hb)
     replace BW := BW.trans (hb.mono BW.size)
     clear hb
     clear hHeld
     refine hK.out _ _ (by exact ⟨K4, K18.cs⟩) (fun hHeld => ?_)
     clear hK
     (try simp only [p0, p1, p2, p3])
     refine pR1 9 (fun K hK => ?_)
     obtain ⟨c2, V9, hr9, SP2, hb9⟩ := appP 111 (x := ⟨1, o⟩) K89 SP (by rw [← GS.1]; simp [rows0]) (by rw [← GS.1]; simp [rows0])
     have HR9 := Lib.hid hr9
     clear hr9
     refine ite_yes (by rfl) (wp_appP rfl rfl rfl HR9.out ?_)
     clear SP
     replace K4 := K4.on hb9
     replace K9 := K9.on hb9
     replace K18 := K18.on hb9
     replace LO := LO.kp (Kept.of hb9)
     replace N1 := N1.kp (Kept.of hb9)
     replace GS := GS.kp (Kept.of hb9)
     replace BW := BW.trans (hb9.mono BW.size)
     clear hb9
     generalize w93.heap.size = b99 at *
     clear hHeld
     refine hK.out _ _ (by exact ⟨K4, K18.cs⟩) (fun hHeld => ?_)
     clear hK
     (try simp only [p0, p1, p2, p3])
     refine pT 10 ?_
     (try simp only [p0, p1, p2, p3])
     refine wpAnyH_done (by kernel_rfl) (NoPanic.normal ?_) _
     go_wp2_with fail
     exact bodyPost_ret (v := .slice (some ⟨b99, 0, none⟩) (⟨1, o⟩ :: xs).length c2) (by simp [results, Tryz.results71, go_sem]) rfl ⟨_, c2, ⟨1, o⟩ :: xs, rfl, SP2, .cons ⟨rfl, LO.mono (by omega)⟩ GS, BW⟩
    ·go_simp
     (go_at_call 71; with_reducible refine (p_parts0 N1 hCq hCp hq1).mono ?_)
     rintro _ w86 ⟨a, c, xs, rfl, SP, GS, hb⟩
     (try go_wp2_with fail)
     replace K4 := K4.on hb
     replace K9 := K9.on hb
     replace K18 := K18.on hb
     replace LO := LO.kp (Kept.of hb)
     replace BW := BW.trans (hb.mono BW.size)
     clear hb
     clear hHeld
     refine hK.out _ _ (by exact ⟨K4, K18.cs⟩) (fun hHeld => ?_)
     clear hK
     (try simp only [p0, p1, p2, p3])
     refine pR1 2 (fun K hK => ?_)
     go_simp
     obtain ⟨V87, e88, hb89, K90, -, -⟩ := alloc_new w86 [.int .u8 1, .bool o.n, .slice o.A o.xs.length o.c, .bool o.m, .slice o.B o.ds.length o.d] 113
     have n91 : b13 ≠ w86.heap.size := Nat.ne_of_lt (K9.lt)
     have n92 : b39 ≠ w86.heap.size := Nat.ne_of_lt (K18.lt)
     replace K4 := K4.on hb89
     replace K18 := K18.on hb89
     replace SP := SP.on hb89
     replace LO := LO.kp (Kept.of hb89)
     replace GS := GS.kp (Kept.of hb89)
     replace BW := BW.trans (hb89.mono BW.size)
     clear hb89
     rw [← e88]
     clear e88
     generalize w86.heap.size = b93 at *
     clear hHeld
     refine hK.out _ _ (by exact ⟨K4, K18.cs⟩) (fun hHeld => ?_)
     clear hK
     (try simp only [p0, p1, p2, p3])
     refine pR1 9 (fun K hK => ?_)
     obtain ⟨c2, V9, hr9, SP2, hb9⟩ := appP 111 (x := ⟨1, o⟩) K90 SP (by rw [← GS.1]; simp [rows0]) (by rw [← GS.1]; simp [rows0])
     have HR9 := Lib.hid hr9
     clear hr9
     refine ite_yes (by rfl) (wp_appP rfl rfl rfl HR9.out ?_)
     clear SP
     replace K4 := K4.on hb9
     replace K18 := K18.on hb9
     replace LO := LO.kp (Kept.of hb9)
     replace GS := GS.kp (Kept.of hb9)
     replace BW := BW.trans (hb9.mono BW.size)
     clear hb9
     generalize V87.heap.size = b99 at *
     clear hHeld
     refine hK.out _ _ (by exact ⟨K4, K18.cs⟩) (fun hHeld => ?_)
     clear hK
     (try simp only [p0, p1, p2, p3])
     refine pT 10 ?_
     (try simp only [p0, p1, p2, p3])
     refine wpAnyH_done (by kernel_rfl) (NoPanic.normal ?_) _
     go_wp2_with fail
     exact bodyPost_ret (v := .slice (some ⟨b99, 0, none⟩) (⟨1, o⟩ :: xs).length c2) (by simp [results, Tryz.results71, go_sem]) rfl ⟨_, c2, ⟨1, o⟩ :: xs, rfl, SP2, .cons ⟨rfl, LO.mono (by omega)⟩ GS, BW⟩
set_option maxHeartbeats 32000000 in
set_option maxRecDepth 100000 in
theorem p_parts5 {q : Mq} {m : Mv} {C : Nat} {w : World} (G : Gm w q m C) (hC2 : 2 ≤ C) (hC : 16 * C + 42 ≤ 1759218604390) (hB : q.b = 0) (HA : ¬ q.a = ((1 : Int) : Rat)) (HN : ¬ q.a = -((1 : Int) : Rat)) (hX : 0 < q.a) :
  Calls Tryz.prog 71 #[mv m] w (PartsIs w ((5, ((0 : Int) : Rat)) :: (1, ((1 : Int) : Rat)) :: rows0 (q.neg.mul (Mq.space (-((1 : Int) : Rat))))) (4 * (4 * C + 8) + 10)) := by
 have hC1 : C ≤ 17592186043904 := by omega
 have hC3 : C ≤ 1759218604390 := by omega
 have hCm : 2 * C + 2 ≤ 1759218604390 := by omega
 have hCp : 4 * (4 * C + 8) + 10 ≤ 1759218604390 := by omega
 have hCq : 2 ≤ 4 * C + 8 := by omega
 have BW : Below w.heap.size w w := Below.refl _ _
 obtain ⟨V1, e2, hb3, K4, -, -⟩ := alloc_new w [.bool m.A.n, .slice m.A.A m.A.xs.length m.A.c, .bool m.A.m, .slice m.A.B m.A.ds.length m.A.d, .bool m.B.n, .slice m.B.A m.B.xs.length m.B.c, .bool m.B.m, .slice m.B.B m.B.ds.length m.B.d, .bool m.C.n, .slice m.C.A m.C.xs.length m.C.c, .bool m.C.m, .slice m.C.B m.C.ds.length m.C.d, .bool m.D.n, .slice m.D.A m.D.xs.length m.D.c, .bool m.D.m, .slice m.D.B m.D.ds.length m.D.d] 76
 replace K4 : Box V1 (w.heap.size) (mcs m) := K4
 replace G := G.kp (Kept.of hb3)
 replace BW := BW.trans (hb3.mono BW.size)
 clear hb3
 go_enter Tryz.func71, Tryz.ntmps71
 go_wp2_with fail
 rw [← e2]
 clear e2
 refine (b_of (n := 0) (by decide) (by decide)).mono ?_
 rintro _ w5 ⟨z, rfl, LZ, hb⟩
 replace K4 := K4.on hb
 replace G := G.kp (Kept.of hb)
 replace BW := BW.trans (hb.mono BW.size)
 clear hb
 obtain ⟨V6, e7, hb8, K9, Z10, -⟩ := alloc_new w5 [.int .u8 5, .bool z.n, .slice z.A z.xs.length z.c, .bool z.m, .slice z.B z.ds.length z.d] 113
 have n11 : w.heap.size ≠ w5.heap.size := Nat.ne_of_lt (K4.lt)
 have g12 : w.heap.size ≤ w5.heap.size := BW.size
 replace K4 := K4.on hb8
 replace G := G.kp (Kept.of hb8)
 replace LZ := LZ.kp (Kept.of hb8)
 replace BW := BW.trans (hb8.mono BW.size)
 clear hb8
 go_wp2_with fail
 rw [← e7]
 clear e7
 generalize w5.heap.size = b13 at *
 refine (b_of (n := 1) (by decide) (by decide)).mono ?_
 rintro _ w14 ⟨o, rfl, LO, hb⟩
 replace K4 := K4.on hb
 replace K9 := K9.on hb
 replace G := G.kp (Kept.of hb)
 replace LZ := LZ.kp (Kept.of hb)
 replace BW := BW.trans (hb.mono BW.size)
 clear hb
 obtain ⟨V15, e16, hb17, K18, Z19, -⟩ := alloc_new w14 [.bool o.n, .slice o.A o.xs.length o.c, .bool o.m, .slice o.B o.ds.length o.d] 74
 have n20 : w.heap.size ≠ w14.heap.size := Nat.ne_of_lt (K4.lt)
 have n21 : b13 ≠ w14.heap.size := Nat.ne_of_lt (K9.lt)
 have g22 : w.heap.size ≤ w14.heap.size := BW.size
 replace K4 := K4.on hb17
 replace K9 := K9.on hb17
 replace G := G.kp (Kept.of hb17)
 replace LZ := LZ.kp (Kept.of hb17)
 replace LO := LO.kp (Kept.of hb17)
 replace BW := BW.trans (hb17.mono BW.size)
 clear hb17
 obtain ⟨c23, c24, c25, c26, c27, c28, c29, c30, c31, c32, c33, c34, c35, c36, c37, c38⟩ := K4.c16
 rw [e16] at c23 c24 c25 c26 c27 c28 c29 c30 c31 c32 c33 c34 c35 c36 c37 c38
 go_wp2_with fail
 clear c23 c24 c25 c26 c27 c28 c29 c30 c31 c32 c33 c34 c35 c36 c37 c38
 rw [← e16]
 clear e16
 generalize w14.heap.size = b39 at *
 refine (b_sign G.gB hC1).mono ?_
 rintro _ w40 ⟨rfl, hb⟩
 replace K4 := K4.on hb
 replace K9 := K9.on hb
 replace K18 := K18.on hb
 replace G := G.kp (Kept.of hb)
 replace LZ := LZ.kp (Kept.of hb)
 replace LO := LO.kp (Kept.of hb)
 replace BW := BW.trans (hb.mono BW.size)
 clear hb
 generalize hs : sgnQ q.b = s at *
 have HS := Lib.hid hs
 clear hs
 have HB := Lib.hid hB
 clear hB
 obtain rfl : s = 0 := by rw [← HS.out]; exact sgn_zero.2 HB.out
 have HX := Lib.hid hX
 clear hX
 obtain ⟨c41, c42, c43, c44, c45, c46, c47, c48, c49, c50, c51, c52, c53, c54, c55, c56⟩ := K4.c16
 obtain ⟨c57, c58, c59, c60⟩ := K18.c4
 go_wp2_with fail
 clear c41 c42 c43 c44 c45 c46 c47 c48 c49 c50 c51 c52 c53 c54 c55 c56 c57 c58 c59 c60
 refine (q_cmp G.gA (LO.mono hC2) hC3).mono ?_
 rintro _ w61 ⟨⟨t, rfl, ht⟩, hb⟩
 replace K4 := K4.on hb
 replace K9 := K9.on hb
 replace K18 := K18.on hb
 replace G := G.kp (Kept.of hb)
 replace LZ := LZ.kp (Kept.of hb)
 replace LO := LO.kp (Kept.of hb)
 replace BW := BW.trans (hb.mono BW.size)
 clear hb
 have ht0 : (t == 0) = false := by simpa using (fun e => HA (ht.1 e))
 clear ht
 go_wp2_with fail
 clear ht0
 refine wp_region_noPanic ?_
 have hb : Below w61.heap.size w61 w61.drew := (Below.refl _ _).drew
 replace K4 := K4.on hb
 replace K9 := K9.on hb
 replace K18 := K18.on hb
 replace G := G.kp (Kept.of hb)
 replace LZ := LZ.kp (Kept.of hb)
 replace LO := LO.kp (Kept.of hb)
 replace BW := BW.trans (hb.mono BW.size)
 clear hb
 refine wp_region_held_drew (S := (fun wx => Cs wx (w.heap.size) 0 [.bool m.A.n, .slice m.A.A m.A.xs.length m.A.c, .bool m.A.m, .slice m.A.B m.A.ds.length m.A.d, .bool m.B.n, .slice m.B.A m.B.xs.length m.B.c, .bool m.B.m, .slice m.B.B m.B.ds.length m.B.d, .bool m.C.n, .slice m.C.A m.C.xs.length m.C.c, .bool m.C.m, .slice m.C.B m.C.ds.length m.C.d, .bool m.D.n, .slice m.D.A m.D.xs.length m.D.c, .bool m.D.m, .slice m.D.B m.D.ds.length m.D.d] ∧ Cs wx (b39) 0 [.bool o.n, .slice o.A o.xs.length o.c, .bool o.m, .slice o.B o.ds.length o.d])) (by kernel_rfl) (by exact ⟨K4.cs, K18.cs⟩) (fun hHeld => ?_)
 generalize w61.drew = Vd62 at *
 refine pT 0 ?_
 (try simp only [p0, p1, p2, p3])
 refine pT 1 ?_
 (try simp only [p0, p1, p2, p3])
 refine pT 2 ?_
 (try simp only [p0, p1, p2, p3])
 refine pR1 3 (fun K hK => ?_)
 go_simp
 (go_at_call 86; with_reducible refine (q_neg LO (by decide)).mono ?_)
 rintro _ w63 ⟨g0, rfl, N0, hb⟩
 (try go_wp2_with fail)
 replace K4 := K4.on hb
 replace K9 := K9.on hb
 replace K18 := K18.on hb
 replace G := G.kp (Kept.of hb)
 replace LZ := LZ.kp (Kept.of hb)
 replace BW := BW.trans (hb.mono BW.size)
 clear hb
 clear hHeld
 refine hK.out _ _ (by exact ⟨K4.cs, K18.cs⟩) (fun hHeld => ?_)
 clear hK
 (try simp only [p0, p1, p2, p3])
 refine pR1 4 (fun K hK => ?_)
 go_simp
 (go_at_call 44; with_reducible refine (q_cmp G.gA (N0.mono hC2) hC3).mono ?_)
 rintro _ w64 ⟨⟨t, rfl, ht⟩, hb⟩
 (try go_wp2_with fail)
 replace K4 := K4.on hb
 replace K9 := K9.on hb
 replace K18 := K18.on hb
 replace G := G.kp (Kept.of hb)
 replace LZ := LZ.kp (Kept.of hb)
 replace BW := BW.trans (hb.mono BW.size)
 clear hb
 have ht0 : (t == 0) = false := by simpa using (fun e => HN (ht.1 e))
 clear ht
 clear hHeld
 refine hK.out _ _ (by exact ⟨K4.cs, K18.cs⟩) (fun hHeld => ?_)
 clear hK
 (try simp only [p0, p1, p2, p3])
 refine pT 5 ?_
 (try simp only [p0, p1, p2, p3])
 refine pT 6 ?_
 (try simp only [p0, p1, p2, p3])
 refine wpAnyH_done (by kernel_rfl) (NoPanic.normal ?_) _
 obtain ⟨c65, c66, c67, c68, c69, c70, c71, c72, c73, c74, c75, c76, c77, c78, c79, c80⟩ := K4.c16
 go_wp2_with fail
 clear c65 c66 c67 c68 c69 c70 c71 c72 c73 c74 c75 c76 c77 c78 c79 c80
 refine (b_sign G.gA hC1).mono ?_
 rintro _ w81 ⟨rfl, hb⟩
 replace K4 := K4.on hb
 replace K9 := K9.on hb
 replace K18 := K18.on hb
 replace G := G.kp (Kept.of hb)
 replace LZ := LZ.kp (Kept.of hb)
 replace BW := BW.trans (hb.mono BW.size)
 clear hb
 generalize ht9 : sgnQ q.a = t9 at *
 have HT := Lib.hid ht9
 clear ht9
 have hs1 : 0 < t9 := by have := sgn_gt.2 HX.out; rw [HT.out] at this; exact this
 have hs2 : decide (t9 < 0) = false := by simp; omega
 go_wp2_with fail
 clear hs1 hs2
 refine wp_region_noPanic ?_
 have hb : Below w81.heap.size w81 w81.drew := (Below.refl _ _).drew
 replace K4 := K4.on hb
 replace K9 := K9.on hb
 replace K18 := K18.on hb
 replace G := G.kp (Kept.of hb)
 replace LZ := LZ.kp (Kept.of hb)
 replace BW := BW.trans (hb.mono BW.size)
 clear hb
 refine wp_region_held_drew (S := (fun wx => Box wx (w.heap.size) [.bool m.A.n, .slice m.A.A m.A.xs.length m.A.c, .bool m.A.m, .slice m.A.B m.A.ds.length m.A.d, .bool m.B.n, .slice m.B.A m.B.xs.length m.B.c, .bool m.B.m, .slice m.B.B m.B.ds.length m.B.d, .bool m.C.n, .slice m.C.A m.C.xs.length m.C.c, .bool m.C.m, .slice m.C.B m.C.ds.length m.C.d, .bool m.D.n, .slice m.D.A m.D.xs.length m.D.c, .bool m.D.m, .slice m.D.B m.D.ds.length m.D.d] ∧ Cs wx (b13) 0 [.int .u8 5, .bool z.n, .slice z.A z.xs.length z.c, .bool z.m, .slice z.B z.ds.length z.d])) (by kernel_rfl) (by exact ⟨K4, K9.cs⟩) (fun hHeld => ?_)
 generalize w81.drew = Vd82 at *
 refine pT 0 ?_
 (try simp only [p0, p1, p2, p3])
 refine pT 2 ?_ (hy := fun wt hSw => ldL rfl rfl hSw.1)
 (try simp only [p0, p1, p2, p3])
 refine pR2 1 3 (fun K hK => ?_) (fun K hK => ?_)
 ·go_simp
  obtain ⟨V83, e84, hb85, K86, -, -⟩ := alloc_new Vd82 [.int .u8 5, .bool z.n, .slice z.A z.xs.length z.c, .bool z.m, .slice z.B z.ds.length z.d] 113
  have n87 : b13 ≠ Vd82.heap.size := Nat.ne_of_lt (K9.lt)
  have n88 : b39 ≠ Vd82.heap.size := Nat.ne_of_lt (K18.lt)
  replace K4 := K4.on hb85
  replace K9 := K9.on hb85
  replace K18 := K18.on hb85
  replace G := G.kp (Kept.of hb85)
  replace LZ := LZ.kp (Kept.of hb85)
  replace BW := BW.trans (hb85.mono BW.size)
  clear hb85
  rw [← e84]
  clear e84
  generalize Vd82.heap.size = b89 at *
  clear hHeld
  refine hK.out _ _ (by exact ⟨K4, K9.cs⟩) (fun hHeld => ?_)
  clear hK
  (try simp only [p0, p1, p2, p3])
  refine pR1 3 (fun K hK => ?_)
  go_simp
  (go_at_call 104; with_reducible refine (b_neg G hC3).mono ?_)
  rintro _ w90 ⟨m1, rfl, N1, hb⟩
  (try go_wp2_with fail)
  replace K4 := K4.on hb
  replace K9 := K9.on hb
  replace K18 := K18.on hb
  replace K86 := K86.on hb
  replace G := G.kp (Kept.of hb)
  replace LZ := LZ.kp (Kept.of hb)
  replace BW := BW.trans (hb.mono BW.size)
  clear hb
  have hq1 : q.neg.b = 0 := by have := HB.out; show -q.b = 0; grind
  have hq2 : ¬ q.neg.a = ((1 : Int) : Rat) := fun h => HN (by have h5 : -q.a = ((1 : Int) : Rat) := h; grind)
  have hq3 : ¬ q.neg.a = -((1 : Int) : Rat) := fun h => HA (by have h5 : -q.a = -((1 : Int) : Rat) := h; grind)
  have hq4 : q.neg.a < 0 := by have := HX.out; show -q.a < 0; grind
  clear hHeld
  refine hK.out _ _ (by exact ⟨K4, K9.cs⟩) (fun hHeld => ?_)
  clear hK
  (try simp only [p0, p1, p2, p3])
  refine pR1 4 (fun K hK => ?_)
  go_simp
  (go_at_call 71; with_reducible refine (p_parts4 N1 hC2 hC hq1 hq2 hq3 hq4).mono ?_)
  rintro _ w91 ⟨a, c, xs, rfl, SP, GS, hb⟩
  (try go_wp2_with fail)
  replace K4 := K4.on hb
  replace K9 := K9.on hb
  replace K18 := K18.on hb
  replace K86 := K86.on hb
  replace G := G.kp (Kept.of hb)
  replace LZ := LZ.kp (Kept.of hb)
  replace N1 := N1.kp (Kept.of hb)
  replace BW := BW.trans (hb.mono BW.size)
  clear hb
  clear hHeld
  refine hK.out _ _ (by exact ⟨K4, K9.cs⟩) (fun hHeld => ?_)
  clear hK
  (try simp only [p0, p1, p2, p3])
  refine pR1 5 (fun K hK => ?_)
  obtain ⟨c2, V9, hr9, SP2, hb9⟩ := appP 111 (x := ⟨5, z⟩) K86 SP (by rw [← GS.1]; simp [rows0]) (by rw [← GS.1]; simp [rows0])
  have HR9 := Lib.hid hr9
  clear hr9
  refine ite_yes (by rfl) (wp_appP rfl rfl rfl HR9.out ?_)
  clear SP
  replace K4 := K4.on hb9
  replace K9 := K9.on hb9
  replace K18 := K18.on hb9
  replace G := G.kp (Kept.of hb9)
  replace LZ := LZ.kp (Kept.of hb9)
  replace N1 := N1.kp (Kept.of hb9)
  replace GS := GS.kp (Kept.of hb9)
  replace BW := BW.trans (hb9.mono BW.size)
  clear hb9
  generalize w91.heap.size = b99 at *
  clear hHeld
  refine hK.out _ _ (by exact ⟨K4, K9.cs⟩) (fun hHeld => ?_)
  clear hK
  (try simp only [p0, p1, p2, p3])
  refine pT 6 ?_
  (try simp only [p0, p1, p2, p3])
  refine wpAnyH_done (by kernel_rfl) (NoPanic.normal ?_) _
  go_wp2_with fail
  exact bodyPost_ret (v := .slice (some ⟨b99, 0, none⟩) (⟨5, z⟩ :: xs).length c2) (by simp [results, Tryz.results71, go_sem]) rfl ⟨_, c2, ⟨5, z⟩ :: xs, rfl, SP2, .cons ⟨rfl, LZ.mono (by omega)⟩ GS, BW⟩
 ·go_simp
  (go_at_call 104; with_reducible refine (b_neg G hC3).mono ?_)
  rintro _ w83 ⟨m1, rfl, N1, hb⟩
  (try go_wp2_with fail)
  replace K4 := K4.on hb
  replace K9 := K9.on hb
  replace K18 := K18.on hb
  replace LZ := LZ.kp (Kept.of hb)
  replace BW := BW.trans (hb.mono BW.size)
  clear hb
  have hq1 : q.neg.b = 0 := by have := HB.out; show -q.b = 0; grind
  have hq2 : ¬ q.neg.a = ((1 : Int) : Rat) := fun h => HN (by have h5 : -q.a = ((1 : Int) : Rat) := h; grind)
  have hq3 : ¬ q.neg.a = -((1 : Int) : Rat) := fun h => HA (by have h5 : -q.a = -((1 : Int) : Rat) := h; grind)
  have hq4 : q.neg.a < 0 := by have := HX.out; show -q.a < 0; grind
  clear hHeld
  refine hK.out _ _ (by exact ⟨K4, K9.cs⟩) (fun hHeld => ?_)
  clear hK
  (try simp only [p0, p1, p2, p3])
  refine pR2 1 4 (fun K hK => ?_) (fun K hK => ?_)
  ·go_simp
   obtain ⟨V84, e85, hb86, K87, -, -⟩ := alloc_new w83 [.int .u8 5, .bool z.n, .slice z.A z.xs.length z.c, .bool z.m, .slice z.B z.ds.length z.d] 113
   have n88 : b13 ≠ w83.heap.size := Nat.ne_of_lt (K9.lt)
   have n89 : b39 ≠ w83.heap.size := Nat.ne_of_lt (K18.lt)
   replace K4 := K4.on hb86
   replace K9 := K9.on hb86
   replace K18 := K18.on hb86
   replace LZ := LZ.kp (Kept.of hb86)
   replace N1 := N1.kp (Kept.of hb86)
   replace BW := BW.trans (hb86.mono BW.size)
   clear hb86
   rw [← e85]
   clear e85
   generalize w83.heap.size = b90 at *
   clear hHeld
   refine hK.out _ _ (by exact ⟨K4, K9.cs⟩) (fun hHeld => ?_)
   clear hK
   (try simp only [p0, p1, p2, p3])
   refine pR1 4 (fun K hK => ?_)
   go_simp
   (go_at_call 71; with_reducible refine (p_parts4 N1 hC2 hC hq1 hq2 hq3 hq4).mono ?_)
   rintro _ w91 ⟨a, c, xs, rfl, SP, GS, hb⟩
   (try go_wp2_with fail)
   replace K4 := K4.on hb
   replace K9 := K9.on hb
   replace K18 := K18.on hb
   replace K87 := K87.on hb
   replace LZ := LZ.kp (Kept.of hb)
   replace N1 := N1.kp (Kept.of hb)
   replace BW := BW.trans (hb.mono BW.size)
   clear hb
   clear hHeld
   refine hK.out _ _ (by exact ⟨K4, K9.cs⟩) (fun hHeld => ?_)
   clear hK
   (try simp only [p0, p1, p2, p3])
   refine pR1 5 (fun K hK => ?_)
   obtain ⟨c2, V9, hr9, SP2, hb9⟩ := appP 111 (x := ⟨5, z⟩) K87 SP (by rw [← GS.1]; simp [rows0]) (by rw [← GS.1]; simp [rows0])
   have HR9 := Lib.hid hr9
   clear hr9
   refine ite_yes (by rfl) (wp_appP rfl rfl rfl HR9.out ?_)
   clear SP
   replace K4 := K4.on hb9
   replace K9 := K9.on hb9
   replace K18 := K18.on hb9
   replace LZ := LZ.kp (Kept.of hb9)
   replace N1 := N1.kp (Kept.of hb9)
   replace GS := GS.kp (Kept.of hb9)
   replace BW := BW.trans (hb9.mono BW.size)
   clear hb9
   generalize w91.heap.size = b99 at *
   clear hHeld
   refine hK.out _ _ (by exact ⟨K4, K9.cs⟩) (fun hHeld => ?_)
   clear hK
   (try simp only [p0, p1, p2, p3])
   refine pT 6 ?_
   (try simp only [p0, p1, p2, p3])
   refine wpAnyH_done (by kernel_rfl) (NoPanic.normal ?_) _
   go_wp2_with fail
   exact bodyPost_ret (v := .slice (some ⟨b99, 0, none⟩) (⟨5, z⟩ :: xs).length c2) (by simp [results, Tryz.results71, go_sem]) rfl ⟨_, c2, ⟨5, z⟩ :: xs, rfl, SP2, .cons ⟨rfl, LZ.mono (by omega)⟩ GS, BW⟩
  ·go_simp
   (go_at_call 71; with_reducible refine (p_parts4 N1 hC2 hC hq1 hq2 hq3 hq4).mono ?_)
   rintro _ w84 ⟨a, c, xs, rfl, SP, GS, hb⟩
   (try go_wp2_with fail)
   replace K4 := K4.on hb
   replace K9 := K9.on hb
   replace K18 := K18.on hb
   replace LZ := LZ.kp (Kept.of hb)
   replace BW := BW.trans (hb.mono BW.size)
   clear hb
   clear hHeld
   refine hK.out _ _ (by exact ⟨K4, K9.cs⟩) (fun hHeld => ?_)
   clear hK
   (try simp only [p0, p1, p2, p3])
   refine pR1 1 (fun K hK => ?_)
   go_simp
   obtain ⟨V85, e86, hb87, K88, -, -⟩ := alloc_new w84 [.int .u8 5, .bool z.n, .slice z.A z.xs.length z.c, .bool z.m, .slice z.B z.ds.length z.d] 113
   have n89 : b13 ≠ w84.heap.size := Nat.ne_of_lt (K9.lt)
   have n90 : b39 ≠ w84.heap.size := Nat.ne_of_lt (K18.lt)
   replace K4 := K4.on hb87
   replace K9 := K9.on hb87
   replace SP := SP.on hb87
   replace LZ := LZ.kp (Kept.of hb87)
   replace GS := GS.kp (Kept.of hb87)
   replace BW := BW.trans (hb87.mono BW.size)
   clear hb87
   rw [← e86]
   clear e86
   generalize w84.heap.size = b91 at *
   clear hHeld
   refine hK.out _ _ (by exact ⟨K4, K9.cs⟩) (fun hHeld => ?_)
   clear hK
   (try simp only [p0, p1, p2, p3])
   refine pR1 5 (fun K hK => ?_)
   obtain ⟨c2, V9, hr9, SP2, hb9⟩ := appP 111 (x := ⟨5, z⟩) K88 SP (by rw [← GS.1]; simp [rows0]) (by rw [← GS.1]; simp [rows0])
   have HR9 := Lib.hid hr9
   clear hr9
   refine ite_yes (by rfl) (wp_appP rfl rfl rfl HR9.out ?_)
   clear SP
   replace K4 := K4.on hb9
   replace K9 := K9.on hb9
   replace LZ := LZ.kp (Kept.of hb9)
   replace GS := GS.kp (Kept.of hb9)
   replace BW := BW.trans (hb9.mono BW.size)
   clear hb9
   generalize V85.heap.size = b99 at *
   clear hHeld
   refine hK.out _ _ (by exact ⟨K4, K9.cs⟩) (fun hHeld => ?_)
   clear hK
   (try simp only [p0, p1, p2, p3])
   refine pT 6 ?_
   (try simp only [p0, p1, p2, p3])
   refine wpAnyH_done (by kernel_rfl) (NoPanic.normal ?_) _
   go_wp2_with fail
   exact bodyPost_ret (v := .slice (some ⟨b99, 0, none⟩) (⟨5, z⟩ :: xs).length c2) (by simp [results, Tryz.results71, go_sem]) rfl ⟨_, c2, ⟨5, z⟩ :: xs, rfl, SP2, .cons ⟨rfl, LZ.mono (by omega)⟩ GS, BW⟩
end Go.Proofs.YtjamfkafgfpobaaGreat
