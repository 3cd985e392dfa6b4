/-
 Parts of a matrix, by the chapter's table. Conditions: as each theorem states.
-/
import Derived.Test.YtjamfkafgfpobaaGreatBe0
import Derived.Test.YtjamfkafgfpobaaGreatBc3
import Derived.Deep.RegionHeld3
import Derived.Deep.DeepCutAuto
import Derived.BigRegion
namespace Go.Proofs.YtjamfkafgfpobaaGreat
open Go.RowKit Nb
set_option maxHeartbeats 32000000 in
set_option maxRecDepth 100000 in
theorem p_parts0 {q : Mq} {m : Mv} {C : Nat} {w : World} (G : Gm w q m C) (hC2 : 2 ≤ C) (hC : 4 * C + 10 ≤ 1759218604390) (hB : 0 < q.b) :
  Calls Tryz.prog 71 #[mv m] w (PartsIs w (rows0 q) (4 * C + 10)) := by
 have hC1 : C ≤ 17592186043904 := by omega
 have hC3 : C ≤ 1759218604390 := by omega
 have hC4 : C ≤ 2 * C + 4 := by omega
 have hC5 : 2 * C + 4 ≤ 1759218604390 := by omega
 have hbn : q.b.num ≠ 0 := fun e => by have := Rat.num_eq_zero.1 e; grind
 have BW : Below w.heap.size w w := Below.refl _ _
 obtain ⟨V1, e2, hb3, K4, -, -⟩ := alloc_new w [.bool m.A.n, .slice m.A.A m.A.xs.length m.A.c, .bool m.A.m, .slice m.A.B m.A.ds.length m.A.d, .bool m.B.n, .slice m.B.A m.B.xs.length m.B.c, .bool m.B.m, .slice m.B.B m.B.ds.length m.B.d, .bool m.C.n, .slice m.C.A m.C.xs.length m.C.c, .bool m.C.m, .slice m.C.B m.C.ds.length m.C.d, .bool m.D.n, .slice m.D.A m.D.xs.length m.D.c, .bool m.D.m, .slice m.D.B m.D.ds.length m.D.d] 76
 replace K4 : Box V1 (w.heap.size) (mcs m) := K4
 replace G := G.kp (Kept.of hb3)
 replace BW := BW.trans (hb3.mono BW.size)
 clear hb3
 go_enter Tryz.func71, Tryz.ntmps71
 go_wp2_with fail
 rw [← e2]
 clear e2
 refine (b_of (n := 0) (by decide) (by decide)).mono ?_
 rintro _ w5 ⟨z, rfl, LZ, hb⟩
 replace K4 := K4.on hb
 replace G := G.kp (Kept.of hb)
 replace BW := BW.trans (hb.mono BW.size)
 clear hb
 obtain ⟨V6, e7, hb8, K9, Z10, -⟩ := alloc_new w5 [.int .u8 5, .bool z.n, .slice z.A z.xs.length z.c, .bool z.m, .slice z.B z.ds.length z.d] 113
 have n11 : w.heap.size ≠ w5.heap.size := Nat.ne_of_lt (K4.lt)
 have g12 : w.heap.size ≤ w5.heap.size := BW.size
 replace K4 := K4.on hb8
 replace G := G.kp (Kept.of hb8)
 replace LZ := LZ.kp (Kept.of hb8)
 replace BW := BW.trans (hb8.mono BW.size)
 clear hb8
 go_wp2_with fail
 rw [← e7]
 clear e7
 generalize w5.heap.size = b13 at *
 refine (b_of (n := 1) (by decide) (by decide)).mono ?_
 rintro _ w14 ⟨o, rfl, LO, hb⟩
 replace K4 := K4.on hb
 replace K9 := K9.on hb
 replace Z10 := Z10.on hb
 replace G := G.kp (Kept.of hb)
 replace LZ := LZ.kp (Kept.of hb)
 replace BW := BW.trans (hb.mono BW.size)
 clear hb
 obtain ⟨V15, e16, hb17, K18, Z19, -⟩ := alloc_new w14 [.bool o.n, .slice o.A o.xs.length o.c, .bool o.m, .slice o.B o.ds.length o.d] 74
 have n20 : w.heap.size ≠ w14.heap.size := Nat.ne_of_lt (K4.lt)
 have n21 : b13 ≠ w14.heap.size := Nat.ne_of_lt (K9.lt)
 have g22 : w.heap.size ≤ w14.heap.size := BW.size
 replace K4 := K4.on hb17
 replace K9 := K9.on hb17
 replace Z10 := Z10.on hb17
 replace G := G.kp (Kept.of hb17)
 replace LZ := LZ.kp (Kept.of hb17)
 replace LO := LO.kp (Kept.of hb17)
 replace BW := BW.trans (hb17.mono BW.size)
 clear hb17
 obtain ⟨c23, c24, c25, c26, c27, c28, c29, c30, c31, c32, c33, c34, c35, c36, c37, c38⟩ := K4.c16
 rw [e16] at c23 c24 c25 c26 c27 c28 c29 c30 c31 c32 c33 c34 c35 c36 c37 c38
 go_wp2_with fail
 clear c23 c24 c25 c26 c27 c28 c29 c30 c31 c32 c33 c34 c35 c36 c37 c38
 rw [← e16]
 clear e16
 generalize w14.heap.size = b39 at *
 refine (b_sign G.gB hC1).mono ?_
 rintro _ w40 ⟨rfl, hb⟩
 replace K4 := K4.on hb
 replace K9 := K9.on hb
 replace K18 := K18.on hb
 replace Z10 := Z10.on hb
 replace Z19 := Z19.on hb
 replace G := G.kp (Kept.of hb)
 replace LZ := LZ.kp (Kept.of hb)
 replace LO := LO.kp (Kept.of hb)
 replace BW := BW.trans (hb.mono BW.size)
 clear hb
 generalize hs : sgnQ q.b = s at *
 have HS := Lib.hid hs
 clear hs
 have HB := Lib.hid hB
 clear hB
 have hs1 : 0 < s := by have := sgn_gt.2 HB.out; rw [HS.out] at this; exact this
 have hs2 : decide (0 < s) = true := by simp; omega
 clear LZ
 go_wp2_with fail
 clear hs1 hs2
 clear K9 Z10
 clear Z19
 go_cut [6, 7] (fun sv0 sv1 wx => ∃ (pka_0 pka_1 : Nat) (g2 : Fv) (g4 : Fv), sv0 = .pointer (some ⟨pka_0, 0, none⟩) ∧ sv1 = .pointer (some ⟨pka_1, 0, none⟩) ∧ Below w.heap.size w wx ∧ Box wx (w.heap.size) (mcs m) ∧ Box wx (b39) [.bool o.n, .slice o.A o.xs.length o.c, .bool o.m, .slice o.B o.ds.length o.d] ∧ Gm wx q m C ∧ Fq wx ((1 : Int) : Rat) o 2 ∧ Box wx pka_0 [.bool g2.n, .slice g2.A g2.xs.length g2.c, .bool g2.m, .slice g2.B g2.ds.length g2.d] ∧ Box wx pka_1 [.bool g4.n, .slice g4.A g4.xs.length g4.c, .bool g4.m, .slice g4.B g4.ds.length g4.d] ∧ Fq wx ((((1 : Int) : Rat) - q.a) / q.b) g2 (2 * (2 * C + 4) + 2) ∧ Fq wx ((((1 : Int) : Rat) - q.d) / q.b) g4 (2 * (2 * C + 4) + 2))
 case first =>
  refine wp_region_noPanic ?_
  have hb : Below w40.heap.size w40 w40.drew := (Below.refl _ _).drew
  replace K4 := K4.on hb
  replace K18 := K18.on hb
  replace G := G.kp (Kept.of hb)
  replace LO := LO.kp (Kept.of hb)
  replace BW := BW.trans (hb.mono BW.size)
  clear hb
  refine wp_region_held_drew (S := (fun wx => Cs wx (w.heap.size) 0 [.bool m.A.n, .slice m.A.A m.A.xs.length m.A.c, .bool m.A.m, .slice m.A.B m.A.ds.length m.A.d, .bool m.B.n, .slice m.B.A m.B.xs.length m.B.c, .bool m.B.m, .slice m.B.B m.B.ds.length m.B.d, .bool m.C.n, .slice m.C.A m.C.xs.length m.C.c, .bool m.C.m, .slice m.C.B m.C.ds.length m.C.d, .bool m.D.n, .slice m.D.A m.D.xs.length m.D.c, .bool m.D.m, .slice m.D.B m.D.ds.length m.D.d] ∧ Cs wx (b39) 0 [.bool o.n, .slice o.A o.xs.length o.c, .bool o.m, .slice o.B o.ds.length o.d])) (by kernel_rfl) (by exact ⟨K4.cs, K18.cs⟩) (fun hHeld => ?_)
  generalize w40.drew = Vd41 at *
  refine pT 0 ?_
  (try simp only [p0, p1, p2, p3])
  refine pT 1 ?_
  (try simp only [p0, p1, p2, p3])
  refine pT 2 ?_
  (try simp only [p0, p1, p2, p3])
  refine pT 4 ?_
  (try simp only [p0, p1, p2, p3])
  refine pT 5 ?_
  (try simp only [p0, p1, p2, p3])
  refine pT 7 ?_
  (try simp only [p0, p1, p2, p3])
  refine pT 8 ?_
  (try simp only [p0, p1, p2, p3])
  refine pT 9 ?_
  (try simp only [p0, p1, p2, p3])
  refine pT 11 ?_
  (try simp only [p0, p1, p2, p3])
  refine pT 12 ?_
  (try simp only [p0, p1, p2, p3])
  refine pR3 3 14 15 (fun K hK => ?_) (fun K hK => ?_) (fun K hK => ?_)
  ·go_simp
   (go_at_call 57; with_reducible refine (q_sub (LO.mono hC2) G.gA hC3).mono ?_)
   rintro _ w42 ⟨g1, rfl, N1, hb⟩
   (try go_wp2_with fail)
   replace K4 := K4.on hb
   replace K18 := K18.on hb
   replace G := G.kp (Kept.of hb)
   replace LO := LO.kp (Kept.of hb)
   replace BW := BW.trans (hb.mono BW.size)
   clear hb
   clear hHeld
   refine hK.out _ _ (by exact ⟨K4.cs, K18.cs⟩) (fun hHeld => ?_)
   clear hK
   (try simp only [p0, p1, p2, p3])
   refine pR3 6 14 15 (fun K hK => ?_) (fun K hK => ?_) (fun K hK => ?_)
   ·go_simp
    (go_at_call 101; with_reducible refine (q_quo N1 (G.gB.mono hC4) hbn hC5).mono ?_)
    rintro _ w43 ⟨g2, rfl, N2, hb⟩
    (try go_wp2_with fail)
    replace K4 := K4.on hb
    replace K18 := K18.on hb
    replace G := G.kp (Kept.of hb)
    replace LO := LO.kp (Kept.of hb)
    replace N1 := N1.kp (Kept.of hb)
    replace BW := BW.trans (hb.mono BW.size)
    clear hb
    clear hHeld
    refine hK.out _ _ (by exact ⟨K4.cs, K18.cs⟩) (fun hHeld => ?_)
    clear hK
    (try simp only [p0, p1, p2, p3])
    refine pR3 10 14 15 (fun K hK => ?_) (fun K hK => ?_) (fun K hK => ?_)
    ·go_simp
     (go_at_call 57; with_reducible refine (q_sub (LO.mono hC2) G.gD hC3).mono ?_)
     rintro _ w44 ⟨g3, rfl, N3, hb⟩
     (try go_wp2_with fail)
     replace K4 := K4.on hb
     replace K18 := K18.on hb
     replace G := G.kp (Kept.of hb)
     replace LO := LO.kp (Kept.of hb)
     replace N1 := N1.kp (Kept.of hb)
     replace N2 := N2.kp (Kept.of hb)
     replace BW := BW.trans (hb.mono BW.size)
     clear hb
     clear hHeld
     refine hK.out _ _ (by exact ⟨K4.cs, K18.cs⟩) (fun hHeld => ?_)
     clear hK
     (try simp only [p0, p1, p2, p3])
     refine pR3 13 14 15 (fun K hK => ?_) (fun K hK => ?_) (fun K hK => ?_)
     ·go_simp
      (go_at_call 101; with_reducible refine (q_quo N3 (G.gB.mono hC4) hbn hC5).mono ?_)
      rintro _ w45 ⟨g4, rfl, N4, hb⟩
      (try go_wp2_with fail)
      replace K4 := K4.on hb
      replace K18 := K18.on hb
      replace G := G.kp (Kept.of hb)
      replace LO := LO.kp (Kept.of hb)
      replace N1 := N1.kp (Kept.of hb)
      replace N2 := N2.kp (Kept.of hb)
      replace N3 := N3.kp (Kept.of hb)
      replace BW := BW.trans (hb.mono BW.size)
      clear hb
      clear hHeld
      refine hK.out _ _ (by exact ⟨K4.cs, K18.cs⟩) (fun hHeld => ?_)
      clear hK
      (try simp only [p0, p1, p2, p3])
      refine pR2 14 15 (fun K hK => ?_) (fun K hK => ?_)
      ·go_simp
       obtain ⟨V46, e47, hb48, K49, Z50, -⟩ := alloc_new w45 [.bool false, .slice none 0 0, .bool false, .slice none 0 0] 74
       have n51 : w.heap.size ≠ w45.heap.size := Nat.ne_of_lt (K4.lt)
       have n52 : b39 ≠ w45.heap.size := Nat.ne_of_lt (K18.lt)
       have g53 : w.heap.size ≤ w45.heap.size := BW.size
       replace K4 := K4.on hb48
       replace K18 := K18.on hb48
       replace G := G.kp (Kept.of hb48)
       replace LO := LO.kp (Kept.of hb48)
       replace N1 := N1.kp (Kept.of hb48)
       replace N2 := N2.kp (Kept.of hb48)
       replace N3 := N3.kp (Kept.of hb48)
       replace N4 := N4.kp (Kept.of hb48)
       replace BW := BW.trans (hb48.mono BW.size)
       clear hb48
       rw [← e47]
       clear e47
       generalize w45.heap.size = b54 at *
       clear hHeld
       refine hK.out _ _ (by exact ⟨K4.cs, K18.cs⟩) (fun hHeld => ?_)
       clear hK
       (try simp only [p0, p1, p2, p3])
       refine pR1 15 (fun K hK => ?_)
       go_simp
       obtain ⟨V55, e56, hb57, K58, Z59, -⟩ := alloc_new V46 [.bool false, .slice none 0 0, .bool false, .slice none 0 0] 74
       have n60 : w.heap.size ≠ V46.heap.size := Nat.ne_of_lt (K4.lt)
       have n61 : b39 ≠ V46.heap.size := Nat.ne_of_lt (K18.lt)
       have n62 : b54 ≠ V46.heap.size := Nat.ne_of_lt (K49.lt)
       have g63 : w.heap.size ≤ V46.heap.size := BW.size
       replace K4 := K4.on hb57
       replace K18 := K18.on hb57
       replace K49 := K49.on hb57
       replace Z50 := Z50.on hb57
       replace G := G.kp (Kept.of hb57)
       replace LO := LO.kp (Kept.of hb57)
       replace N1 := N1.kp (Kept.of hb57)
       replace N2 := N2.kp (Kept.of hb57)
       replace N3 := N3.kp (Kept.of hb57)
       replace N4 := N4.kp (Kept.of hb57)
       replace BW := BW.trans (hb57.mono BW.size)
       clear hb57
       rw [← e56]
       clear e56
       generalize V46.heap.size = b64 at *
       clear hHeld
       refine hK.out _ _ (by exact ⟨K4.cs, K18.cs⟩) (fun hHeld => ?_)
       clear hK
       (try simp only [p0, p1, p2, p3])
       refine pR1 16 (fun K hK => ?_)
       obtain ⟨c65, c66, c67, c68⟩ := K49.c4
       obtain ⟨c69, c70, c71, c72⟩ := Z50.f4
       go_simp
       clear c65 c66 c67 c68 c69 c70 c71 c72
       obtain ⟨V73, hk75⟩ : ∃ V73, V73 = V55.setCells (b54) 0 [.bool g2.n, .slice g2.A g2.xs.length g2.c, .bool g2.m, .slice g2.B g2.ds.length g2.d] := ⟨_, rfl⟩
       have e74 := hk75
       simp only [World.setCells, Nat.zero_add, Nat.reduceAdd] at e74
       have hk76 := Kept.overE hk75 K49 rfl (Nat.le_of_ble_eq_true rfl)
       replace K4 := K4.awayE hk75 n51
       replace K18 := K18.awayE hk75 n52
       replace K49 := K49.overE hk75 rfl
       replace K58 := K58.awayE hk75 n62.symm
       replace Z50 := Z50.putE hk75
       replace Z59 := Z59.putE hk75
       replace G := G.kp hk76
       replace LO := LO.kp hk76
       replace N1 := N1.kp hk76
       replace N2 := N2.kp hk76
       replace N3 := N3.kp hk76
       replace N4 := N4.kp hk76
       replace BW := Below.putE BW hk75 g53
       clear hk75 hk76
       rw [← e74]
       clear e74
       clear hHeld
       refine hK.out _ _ (by exact ⟨K4.cs, K18.cs⟩) (fun hHeld => ?_)
       clear hK
       (try simp only [p0, p1, p2, p3])
       refine pR1 17 (fun K hK => ?_)
       obtain ⟨c77, c78, c79, c80⟩ := K58.c4
       obtain ⟨c81, c82, c83, c84⟩ := Z59.f4
       go_simp
       clear c77 c78 c79 c80 c81 c82 c83 c84
       obtain ⟨V85, hk87⟩ : ∃ V85, V85 = V73.setCells (b64) 0 [.bool g4.n, .slice g4.A g4.xs.length g4.c, .bool g4.m, .slice g4.B g4.ds.length g4.d] := ⟨_, rfl⟩
       have e86 := hk87
       simp only [World.setCells, Nat.zero_add, Nat.reduceAdd] at e86
       have hk88 := Kept.overE hk87 K58 rfl (Nat.le_of_ble_eq_true rfl)
       replace K4 := K4.awayE hk87 n60
       replace K18 := K18.awayE hk87 n61
       replace K49 := K49.awayE hk87 n62
       replace K58 := K58.overE hk87 rfl
       replace Z50 := Z50.putE hk87
       replace Z59 := Z59.putE hk87
       replace G := G.kp hk88
       replace LO := LO.kp hk88
       replace N1 := N1.kp hk88
       replace N2 := N2.kp hk88
       replace N3 := N3.kp hk88
       replace N4 := N4.kp hk88
       replace BW := Below.putE BW hk87 g63
       clear hk87 hk88
       rw [← e86]
       clear e86
       clear hHeld
       refine hK.out _ _ (by exact ⟨K4.cs, K18.cs⟩) (fun hHeld => ?_)
       clear hK
       (try simp only [p0, p1, p2, p3])
       refine wpAnyH_done (by kernel_rfl) (NoPanic.normal ?_) _
       go_wp2
       go_meet
       exact ⟨b54, b64, g2, g4, rfl, rfl, BW, K4, K18, G, LO, K49, K58, N2, N4⟩
      ·go_simp
       obtain ⟨V46, e47, hb48, K49, Z50, -⟩ := alloc_new w45 [.bool false, .slice none 0 0, .bool false, .slice none 0 0] 74
       have n51 : w.heap.size ≠ w45.heap.size := Nat.ne_of_lt (K4.lt)
       have n52 : b39 ≠ w45.heap.size := Nat.ne_of_lt (K18.lt)
       have g53 : w.heap.size ≤ w45.heap.size := BW.size
       replace K4 := K4.on hb48
       replace K18 := K18.on hb48
       replace G := G.kp (Kept.of hb48)
       replace LO := LO.kp (Kept.of hb48)
       replace N1 := N1.kp (Kept.of hb48)
       replace N2 := N2.kp (Kept.of hb48)
       replace N3 := N3.kp (Kept.of hb48)
       replace N4 := N4.kp (Kept.of hb48)
       replace BW := BW.trans (hb48.mono BW.size)
       clear hb48
       rw [← e47]
       clear e47
       generalize w45.heap.size = b54 at *
       clear hHeld
       refine hK.out _ _ (by exact ⟨K4.cs, K18.cs⟩) (fun hHeld => ?_)
       clear hK
       (try simp only [p0, p1, p2, p3])
       refine pR1 14 (fun K hK => ?_)
       go_simp
       obtain ⟨V55, e56, hb57, K58, Z59, -⟩ := alloc_new V46 [.bool false, .slice none 0 0, .bool false, .slice none 0 0] 74
       have n60 : w.heap.size ≠ V46.heap.size := Nat.ne_of_lt (K4.lt)
       have n61 : b39 ≠ V46.heap.size := Nat.ne_of_lt (K18.lt)
       have n62 : b54 ≠ V46.heap.size := Nat.ne_of_lt (K49.lt)
       have g63 : w.heap.size ≤ V46.heap.size := BW.size
       replace K4 := K4.on hb57
       replace K18 := K18.on hb57
       replace K49 := K49.on hb57
       replace Z50 := Z50.on hb57
       replace G := G.kp (Kept.of hb57)
       replace LO := LO.kp (Kept.of hb57)
       replace N1 := N1.kp (Kept.of hb57)
       replace N2 := N2.kp (Kept.of hb57)
       replace N3 := N3.kp (Kept.of hb57)
       replace N4 := N4.kp (Kept.of hb57)
       replace BW := BW.trans (hb57.mono BW.size)
       clear hb57
       rw [← e56]
       clear e56
       generalize V46.heap.size = b64 at *
       clear hHeld
       refine hK.out _ _ (by exact ⟨K4.cs, K18.cs⟩) (fun hHeld => ?_)
       clear hK
       (try simp only [p0, p1, p2, p3])
       refine pR1 16 (fun K hK => ?_)
       obtain ⟨c65, c66, c67, c68⟩ := K58.c4
       obtain ⟨c69, c70, c71, c72⟩ := Z59.f4
       go_simp
       clear c65 c66 c67 c68 c69 c70 c71 c72
       obtain ⟨V73, hk75⟩ : ∃ V73, V73 = V55.setCells (b64) 0 [.bool g2.n, .slice g2.A g2.xs.length g2.c, .bool g2.m, .slice g2.B g2.ds.length g2.d] := ⟨_, rfl⟩
       have e74 := hk75
       simp only [World.setCells, Nat.zero_add, Nat.reduceAdd] at e74
       have hk76 := Kept.overE hk75 K58 rfl (Nat.le_of_ble_eq_true rfl)
       replace K4 := K4.awayE hk75 n60
       replace K18 := K18.awayE hk75 n61
       replace K49 := K49.awayE hk75 n62
       replace K58 := K58.overE hk75 rfl
       replace Z50 := Z50.putE hk75
       replace Z59 := Z59.putE hk75
       replace G := G.kp hk76
       replace LO := LO.kp hk76
       replace N1 := N1.kp hk76
       replace N2 := N2.kp hk76
       replace N3 := N3.kp hk76
       replace N4 := N4.kp hk76
       replace BW := Below.putE BW hk75 g63
       clear hk75 hk76
       rw [← e74]
       clear e74
       clear hHeld
       refine hK.out _ _ (by exact ⟨K4.cs, K18.cs⟩) (fun hHeld => ?_)
       clear hK
       (try simp only [p0, p1, p2, p3])
       refine pR1 17 (fun K hK => ?_)
       obtain ⟨c77, c78, c79, c80⟩ := K49.c4
       obtain ⟨c81, c82, c83, c84⟩ := Z50.f4
       go_simp
       clear c77 c78 c79 c80 c81 c82 c83 c84
       obtain ⟨V85, hk87⟩ : ∃ V85, V85 = V73.setCells (b54) 0 [.bool g4.n, .slice g4.A g4.xs.length g4.c, .bool g4.m, .slice g4.B g4.ds.length g4.d] := ⟨_, rfl⟩
       have e86 := hk87
       simp only [World.setCells, Nat.zero_add, Nat.reduceAdd] at e86
       have hk88 := Kept.overE hk87 K49 rfl (Nat.le_of_ble_eq_true rfl)
       replace K4 := K4.awayE hk87 n51
       replace K18 := K18.awayE hk87 n52
       replace K49 := K49.overE hk87 rfl
       replace K58 := K58.awayE hk87 n62.symm
       replace Z59 := Z59.putE hk87
       replace G := G.kp hk88
       replace LO := LO.kp hk88
       replace N1 := N1.kp hk88
       replace N2 := N2.kp hk88
       replace N3 := N3.kp hk88
       replace N4 := N4.kp hk88
       replace BW := Below.putE BW hk87 g53
       clear hk87 hk88
       rw [← e86]
       clear e86
       clear hHeld
       refine hK.out _ _ (by exact ⟨K4.cs, K18.cs⟩) (fun hHeld => ?_)
       clear hK
       (try simp only [p0, p1, p2, p3])
       refine wpAnyH_done (by kernel_rfl) (NoPanic.normal ?_) _
       go_wp2
       go_meet
       exact ⟨b64, b54, g2, g4, rfl, rfl, BW, K4, K18, G, LO, K58, K49, N2, N4⟩
     ·go_simp
      obtain ⟨V45, e46, hb47, K48, Z49, -⟩ := alloc_new w44 [.bool false, .slice none 0 0, .bool false, .slice none 0 0] 74
      have n50 : w.heap.size ≠ w44.heap.size := Nat.ne_of_lt (K4.lt)
      have n51 : b39 ≠ w44.heap.size := Nat.ne_of_lt (K18.lt)
      have g52 : w.heap.size ≤ w44.heap.size := BW.size
      replace K4 := K4.on hb47
      replace K18 := K18.on hb47
      replace G := G.kp (Kept.of hb47)
      replace LO := LO.kp (Kept.of hb47)
      replace N1 := N1.kp (Kept.of hb47)
      replace N2 := N2.kp (Kept.of hb47)
      replace N3 := N3.kp (Kept.of hb47)
      replace BW := BW.trans (hb47.mono BW.size)
      clear hb47
      rw [← e46]
      clear e46
      generalize w44.heap.size = b53 at *
      clear hHeld
      refine hK.out _ _ (by exact ⟨K4.cs, K18.cs⟩) (fun hHeld => ?_)
      clear hK
      (try simp only [p0, p1, p2, p3])
      refine pR2 13 15 (fun K hK => ?_) (fun K hK => ?_)
      ·go_simp
       (go_at_call 101; with_reducible refine (q_quo N3 (G.gB.mono hC4) hbn hC5).mono ?_)
       rintro _ w54 ⟨g4, rfl, N4, hb⟩
       (try go_wp2_with fail)
       replace K4 := K4.on hb
       replace K18 := K18.on hb
       replace K48 := K48.on hb
       replace Z49 := Z49.on hb
       replace G := G.kp (Kept.of hb)
       replace LO := LO.kp (Kept.of hb)
       replace N1 := N1.kp (Kept.of hb)
       replace N2 := N2.kp (Kept.of hb)
       replace N3 := N3.kp (Kept.of hb)
       replace BW := BW.trans (hb.mono BW.size)
       clear hb
       clear hHeld
       refine hK.out _ _ (by exact ⟨K4.cs, K18.cs⟩) (fun hHeld => ?_)
       clear hK
       (try simp only [p0, p1, p2, p3])
       refine pR1 15 (fun K hK => ?_)
       go_simp
       obtain ⟨V55, e56, hb57, K58, Z59, -⟩ := alloc_new w54 [.bool false, .slice none 0 0, .bool false, .slice none 0 0] 74
       have n60 : w.heap.size ≠ w54.heap.size := Nat.ne_of_lt (K4.lt)
       have n61 : b39 ≠ w54.heap.size := Nat.ne_of_lt (K18.lt)
       have n62 : b53 ≠ w54.heap.size := Nat.ne_of_lt (K48.lt)
       have g63 : w.heap.size ≤ w54.heap.size := BW.size
       replace K4 := K4.on hb57
       replace K18 := K18.on hb57
       replace K48 := K48.on hb57
       replace Z49 := Z49.on hb57
       replace G := G.kp (Kept.of hb57)
       replace LO := LO.kp (Kept.of hb57)
       replace N1 := N1.kp (Kept.of hb57)
       replace N2 := N2.kp (Kept.of hb57)
       replace N3 := N3.kp (Kept.of hb57)
       replace N4 := N4.kp (Kept.of hb57)
       replace BW := BW.trans (hb57.mono BW.size)
       clear hb57
       rw [← e56]
       clear e56
       generalize w54.heap.size = b64 at *
       clear hHeld
       refine hK.out _ _ (by exact ⟨K4.cs, K18.cs⟩) (fun hHeld => ?_)
       clear hK
       (try simp only [p0, p1, p2, p3])
       refine pR1 16 (fun K hK => ?_)
       obtain ⟨c65, c66, c67, c68⟩ := K48.c4
       obtain ⟨c69, c70, c71, c72⟩ := Z49.f4
       go_simp
       clear c65 c66 c67 c68 c69 c70 c71 c72
       obtain ⟨V73, hk75⟩ : ∃ V73, V73 = V55.setCells (b53) 0 [.bool g2.n, .slice g2.A g2.xs.length g2.c, .bool g2.m, .slice g2.B g2.ds.length g2.d] := ⟨_, rfl⟩
       have e74 := hk75
       simp only [World.setCells, Nat.zero_add, Nat.reduceAdd] at e74
       have hk76 := Kept.overE hk75 K48 rfl (Nat.le_of_ble_eq_true rfl)
       replace K4 := K4.awayE hk75 n50
       replace K18 := K18.awayE hk75 n51
       replace K48 := K48.overE hk75 rfl
       replace K58 := K58.awayE hk75 n62.symm
       replace Z49 := Z49.putE hk75
       replace Z59 := Z59.putE hk75
       replace G := G.kp hk76
       replace LO := LO.kp hk76
       replace N1 := N1.kp hk76
       replace N2 := N2.kp hk76
       replace N3 := N3.kp hk76
       replace N4 := N4.kp hk76
       replace BW := Below.putE BW hk75 g52
       clear hk75 hk76
       rw [← e74]
       clear e74
       clear hHeld
       refine hK.out _ _ (by exact ⟨K4.cs, K18.cs⟩) (fun hHeld => ?_)
       clear hK
       (try simp only [p0, p1, p2, p3])
       refine pR1 17 (fun K hK => ?_)
       obtain ⟨c77, c78, c79, c80⟩ := K58.c4
       obtain ⟨c81, c82, c83, c84⟩ := Z59.f4
       go_simp
       clear c77 c78 c79 c80 c81 c82 c83 c84
       obtain ⟨V85, hk87⟩ : ∃ V85, V85 = V73.setCells (b64) 0 [.bool g4.n, .slice g4.A g4.xs.length g4.c, .bool g4.m, .slice g4.B g4.ds.length g4.d] := ⟨_, rfl⟩
       have e86 := hk87
       simp only [World.setCells, Nat.zero_add, Nat.reduceAdd] at e86
       have hk88 := Kept.overE hk87 K58 rfl (Nat.le_of_ble_eq_true rfl)
       replace K4 := K4.awayE hk87 n60
       replace K18 := K18.awayE hk87 n61
       replace K48 := K48.awayE hk87 n62
       replace K58 := K58.overE hk87 rfl
       replace Z49 := Z49.putE hk87
       replace Z59 := Z59.putE hk87
       replace G := G.kp hk88
       replace LO := LO.kp hk88
       replace N1 := N1.kp hk88
       replace N2 := N2.kp hk88
       replace N3 := N3.kp hk88
       replace N4 := N4.kp hk88
       replace BW := Below.putE BW hk87 g63
       clear hk87 hk88
       rw [← e86]
       clear e86
       clear hHeld
       refine hK.out _ _ (by exact ⟨K4.cs, K18.cs⟩) (fun hHeld => ?_)
       clear hK
       (try simp only [p0, p1, p2, p3])
       refine wpAnyH_done (by kernel_rfl) (NoPanic.normal ?_) _
       go_wp2
       go_meet
       exact ⟨b53, b64, g2, g4, rfl, rfl, BW, K4, K18, G, LO, K48, K58, N2, N4⟩
      ·go_simp
       obtain ⟨V54, e55, hb56, K57, Z58, -⟩ := alloc_new V45 [.bool false, .slice none 0 0, .bool false, .slice none 0 0] 74
       have n59 : w.heap.size ≠ V45.heap.size := Nat.ne_of_lt (K4.lt)
       have n60 : b39 ≠ V45.heap.size := Nat.ne_of_lt (K18.lt)
       have n61 : b53 ≠ V45.heap.size := Nat.ne_of_lt (K48.lt)
       have g62 : w.heap.size ≤ V45.heap.size := BW.size
       replace K4 := K4.on hb56
       replace K18 := K18.on hb56
       replace K48 := K48.on hb56
       replace Z49 := Z49.on hb56
       replace G := G.kp (Kept.of hb56)
       replace LO := LO.kp (Kept.of hb56)
       replace N1 := N1.kp (Kept.of hb56)
       replace N2 := N2.kp (Kept.of hb56)
       replace N3 := N3.kp (Kept.of hb56)
       replace BW := BW.trans (hb56.mono BW.size)
       clear hb56
       rw [← e55]
       clear e55
       generalize V45.heap.size = b63 at *
       clear hHeld
       refine hK.out _ _ (by exact ⟨K4.cs, K18.cs⟩) (fun hHeld => ?_)
       clear hK
       (try simp only [p0, p1, p2, p3])
       refine pR1 13 (fun K hK => ?_)
       go_simp
       (go_at_call 101; with_reducible refine (q_quo N3 (G.gB.mono hC4) hbn hC5).mono ?_)
       rintro _ w64 ⟨g4, rfl, N4, hb⟩
       (try go_wp2_with fail)
       replace K4 := K4.on hb
       replace K18 := K18.on hb
       replace K48 := K48.on hb
       replace K57 := K57.on hb
       replace Z49 := Z49.on hb
       replace Z58 := Z58.on hb
       replace G := G.kp (Kept.of hb)
       replace LO := LO.kp (Kept.of hb)
       replace N1 := N1.kp (Kept.of hb)
       replace N2 := N2.kp (Kept.of hb)
       replace N3 := N3.kp (Kept.of hb)
       replace BW := BW.trans (hb.mono BW.size)
       clear hb
       clear hHeld
       refine hK.out _ _ (by exact ⟨K4.cs, K18.cs⟩) (fun hHeld => ?_)
       clear hK
       (try simp only [p0, p1, p2, p3])
       refine pR1 16 (fun K hK => ?_)
       obtain ⟨c65, c66, c67, c68⟩ := K48.c4
       obtain ⟨c69, c70, c71, c72⟩ := Z49.f4
       go_simp
       clear c65 c66 c67 c68 c69 c70 c71 c72
       obtain ⟨V73, hk75⟩ : ∃ V73, V73 = w64.setCells (b53) 0 [.bool g2.n, .slice g2.A g2.xs.length g2.c, .bool g2.m, .slice g2.B g2.ds.length g2.d] := ⟨_, rfl⟩
       have e74 := hk75
       simp only [World.setCells, Nat.zero_add, Nat.reduceAdd] at e74
       have hk76 := Kept.overE hk75 K48 rfl (Nat.le_of_ble_eq_true rfl)
       replace K4 := K4.awayE hk75 n50
       replace K18 := K18.awayE hk75 n51
       replace K48 := K48.overE hk75 rfl
       replace K57 := K57.awayE hk75 n61.symm
       replace Z49 := Z49.putE hk75
       replace Z58 := Z58.putE hk75
       replace G := G.kp hk76
       replace LO := LO.kp hk76
       replace N1 := N1.kp hk76
       replace N2 := N2.kp hk76
       replace N3 := N3.kp hk76
       replace N4 := N4.kp hk76
       replace BW := Below.putE BW hk75 g52
       clear hk75 hk76
       rw [← e74]
       clear e74
       clear hHeld
       refine hK.out _ _ (by exact ⟨K4.cs, K18.cs⟩) (fun hHeld => ?_)
       clear hK
       (try simp only [p0, p1, p2, p3])
       refine pR1 17 (fun K hK => ?_)
       obtain ⟨c77, c78, c79, c80⟩ := K57.c4
       obtain ⟨c81, c82, c83, c84⟩ := Z58.f4
       go_simp
       clear c77 c78 c79 c80 c81 c82 c83 c84
       obtain ⟨V85, hk87⟩ : ∃ V85, V85 = V73.setCells (b63) 0 [.bool g4.n, .slice g4.A g4.xs.length g4.c, .bool g4.m, .slice g4.B g4.ds.length g4.d] := ⟨_, rfl⟩
       have e86 := hk87
       simp only [World.setCells, Nat.zero_add, Nat.reduceAdd] at e86
       have hk88 := Kept.overE hk87 K57 rfl (Nat.le_of_ble_eq_true rfl)
       replace K4 := K4.awayE hk87 n59
       replace K18 := K18.awayE hk87 n60
       replace K48 := K48.awayE hk87 n61
       replace K57 := K57.overE hk87 rfl
       replace Z49 := Z49.putE hk87
       replace Z58 := Z58.putE hk87
       replace G := G.kp hk88
       replace LO := LO.kp hk88
       replace N1 := N1.kp hk88
       replace N2 := N2.kp hk88
       replace N3 := N3.kp hk88
       replace N4 := N4.kp hk88
       replace BW := Below.putE BW hk87 g62
       clear hk87 hk88
       rw [← e86]
       clear e86
       clear hHeld
       refine hK.out _ _ (by exact ⟨K4.cs, K18.cs⟩) (fun hHeld => ?_)
       clear hK
       (try simp only [p0, p1, p2, p3])
       refine wpAnyH_done (by kernel_rfl) (NoPanic.normal ?_) _
       go_wp2
       go_meet
       exact ⟨b53, b63, g2, g4, rfl, rfl, BW, K4, K18, G, LO, K48, K57, N2, N4⟩
     ·go_simp
      obtain ⟨V45, e46, hb47, K48, Z49, -⟩ := alloc_new w44 [.bool false, .slice none 0 0, .bool false, .slice none 0 0] 74
      have n50 : w.heap.size ≠ w44.heap.size := Nat.ne_of_lt (K4.lt)
      have n51 : b39 ≠ w44.heap.size := Nat.ne_of_lt (K18.lt)
      have g52 : w.heap.size ≤ w44.heap.size := BW.size
      replace K4 := K4.on hb47
      replace K18 := K18.on hb47
      replace G := G.kp (Kept.of hb47)
      replace LO := LO.kp (Kept.of hb47)
      replace N1 := N1.kp (Kept.of hb47)
      replace N2 := N2.kp (Kept.of hb47)
      replace N3 := N3.kp (Kept.of hb47)
      replace BW := BW.trans (hb47.mono BW.size)
      clear hb47
      rw [← e46]
      clear e46
      generalize w44.heap.size = b53 at *
      clear hHeld
      refine hK.out _ _ (by exact ⟨K4.cs, K18.cs⟩) (fun hHeld => ?_)
      clear hK
      (try simp only [p0, p1, p2, p3])
      refine pR2 13 14 (fun K hK => ?_) (fun K hK => ?_)
      ·go_simp
       (go_at_call 101; with_reducible refine (q_quo N3 (G.gB.mono hC4) hbn hC5).mono ?_)
       rintro _ w54 ⟨g4, rfl, N4, hb⟩
       (try go_wp2_with fail)
       replace K4 := K4.on hb
       replace K18 := K18.on hb
       replace K48 := K48.on hb
       replace Z49 := Z49.on hb
       replace G := G.kp (Kept.of hb)
       replace LO := LO.kp (Kept.of hb)
       replace N1 := N1.kp (Kept.of hb)
       replace N2 := N2.kp (Kept.of hb)
       replace N3 := N3.kp (Kept.of hb)
       replace BW := BW.trans (hb.mono BW.size)
       clear hb
       clear hHeld
       refine hK.out _ _ (by exact ⟨K4.cs, K18.cs⟩) (fun hHeld => ?_)
       clear hK
       (try simp only [p0, p1, p2, p3])
       refine pR1 14 (fun K hK => ?_)
       go_simp
       obtain ⟨V55, e56, hb57, K58, Z59, -⟩ := alloc_new w54 [.bool false, .slice none 0 0, .bool false, .slice none 0 0] 74
       have n60 : w.heap.size ≠ w54.heap.size := Nat.ne_of_lt (K4.lt)
       have n61 : b39 ≠ w54.heap.size := Nat.ne_of_lt (K18.lt)
       have n62 : b53 ≠ w54.heap.size := Nat.ne_of_lt (K48.lt)
       have g63 : w.heap.size ≤ w54.heap.size := BW.size
       replace K4 := K4.on hb57
       replace K18 := K18.on hb57
       replace K48 := K48.on hb57
       replace Z49 := Z49.on hb57
       replace G := G.kp (Kept.of hb57)
       replace LO := LO.kp (Kept.of hb57)
       replace N1 := N1.kp (Kept.of hb57)
       replace N2 := N2.kp (Kept.of hb57)
       replace N3 := N3.kp (Kept.of hb57)
       replace N4 := N4.kp (Kept.of hb57)
       replace BW := BW.trans (hb57.mono BW.size)
       clear hb57
       rw [← e56]
       clear e56
       generalize w54.heap.size = b64 at *
       clear hHeld
       refine hK.out _ _ (by exact ⟨K4.cs, K18.cs⟩) (fun hHeld => ?_)
       clear hK
       (try simp only [p0, p1, p2, p3])
       refine pR1 16 (fun K hK => ?_)
       obtain ⟨c65, c66, c67, c68⟩ := K58.c4
       obtain ⟨c69, c70, c71, c72⟩ := Z59.f4
       go_simp
       clear c65 c66 c67 c68 c69 c70 c71 c72
       obtain ⟨V73, hk75⟩ : ∃ V73, V73 = V55.setCells (b64) 0 [.bool g2.n, .slice g2.A g2.xs.length g2.c, .bool g2.m, .slice g2.B g2.ds.length g2.d] := ⟨_, rfl⟩
       have e74 := hk75
       simp only [World.setCells, Nat.zero_add, Nat.reduceAdd] at e74
       have hk76 := Kept.overE hk75 K58 rfl (Nat.le_of_ble_eq_true rfl)
       replace K4 := K4.awayE hk75 n60
       replace K18 := K18.awayE hk75 n61
       replace K48 := K48.awayE hk75 n62
       replace K58 := K58.overE hk75 rfl
       replace Z49 := Z49.putE hk75
       replace Z59 := Z59.putE hk75
       replace G := G.kp hk76
       replace LO := LO.kp hk76
       replace N1 := N1.kp hk76
       replace N2 := N2.kp hk76
       replace N3 := N3.kp hk76
       replace N4 := N4.kp hk76
       replace BW := Below.putE BW hk75 g63
       clear hk75 hk76
       rw [← e74]
       clear e74
       clear hHeld
       refine hK.out _ _ (by exact ⟨K4.cs, K18.cs⟩) (fun hHeld => ?_)
       clear hK
       (try simp only [p0, p1, p2, p3])
       refine pR1 17 (fun K hK => ?_)
       obtain ⟨c77, c78, c79, c80⟩ := K48.c4
       obtain ⟨c81, c82, c83, c84⟩ := Z49.f4
       go_simp
       clear c77 c78 c79 c80 c81 c82 c83 c84
       obtain ⟨V85, hk87⟩ : ∃ V85, V85 = V73.setCells (b53) 0 [.bool g4.n, .slice g4.A g4.xs.length g4.c, .bool g4.m, .slice g4.B g4.ds.length g4.d] := ⟨_, rfl⟩
       have e86 := hk87
       simp only [World.setCells, Nat.zero_add, Nat.reduceAdd] at e86
       have hk88 := Kept.overE hk87 K48 rfl (Nat.le_of_ble_eq_true rfl)
       replace K4 := K4.awayE hk87 n50
       replace K18 := K18.awayE hk87 n51
       replace K48 := K48.overE hk87 rfl
       replace K58 := K58.awayE hk87 n62.symm
       replace Z49 := Z49.putE hk87
       replace Z59 := Z59.putE hk87
       replace G := G.kp hk88
       replace LO := LO.kp hk88
       replace N1 := N1.kp hk88
       replace N2 := N2.kp hk88
       replace N3 := N3.kp hk88
       replace N4 := N4.kp hk88
       replace BW := Below.putE BW hk87 g52
       clear hk87 hk88
       rw [← e86]
       clear e86
       clear hHeld
       refine hK.out _ _ (by exact ⟨K4.cs, K18.cs⟩) (fun hHeld => ?_)
       clear hK
       (try simp only [p0, p1, p2, p3])
       refine wpAnyH_done (by kernel_rfl) (NoPanic.normal ?_) _
       go_wp2
       go_meet
       exact ⟨b64, b53, g2, g4, rfl, rfl, BW, K4, K18, G, LO, K58, K48, N2, N4⟩
      ·go_simp
       obtain ⟨V54, e55, hb56, K57, Z58, -⟩ := alloc_new V45 [.bool false, .slice none 0 0, .bool false, .slice none 0 0] 74
       have n59 : w.heap.size ≠ V45.heap.size := Nat.ne_of_lt (K4.lt)
       have n60 : b39 ≠ V45.heap.size := Nat.ne_of_lt (K18.lt)
       have n61 : b53 ≠ V45.heap.size := Nat.ne_of_lt (K48.lt)
       have g62 : w.heap.size ≤ V45.heap.size := BW.size
       replace K4 := K4.on hb56
       replace K18 := K18.on hb56
       replace K48 := K48.on hb56
       replace Z49 := Z49.on hb56
       replace G := G.kp (Kept.of hb56)
       replace LO := LO.kp (Kept.of hb56)
       replace N1 := N1.kp (Kept.of hb56)
       replace N2 := N2.kp (Kept.of hb56)
       replace N3 := N3.kp (Kept.of hb56)
       replace BW := BW.trans (hb56.mono BW.size)
       clear hb56
       rw [← e55]
       clear e55
       generalize V45.heap.size = b63 at *
       clear hHeld
       refine hK.out _ _ (by exact ⟨K4.cs, K18.cs⟩) (fun hHeld => ?_)
       clear hK
       (try simp only [p0, p1, p2, p3])
       refine pR1 13 (fun K hK => ?_)
       go_simp
       (go_at_call 101; with_reducible refine (q_quo N3 (G.gB.mono hC4) hbn hC5).mono ?_)
       rintro _ w64 ⟨g4, rfl, N4, hb⟩
       (try go_wp2_with fail)
       replace K4 := K4.on hb
       replace K18 := K18.on hb
       replace K48 := K48.on hb
       replace K57 := K57.on hb
       replace Z49 := Z49.on hb
       replace Z58 := Z58.on hb
       replace G := G.kp (Kept.of hb)
       replace LO := LO.kp (Kept.of hb)
       replace N1 := N1.kp (Kept.of hb)
       replace N2 := N2.kp (Kept.of hb)
       replace N3 := N3.kp (Kept.of hb)
       replace BW := BW.trans (hb.mono BW.size)
       clear hb
       clear hHeld
       refine hK.out _ _ (by exact ⟨K4.cs, K18.cs⟩) (fun hHeld => ?_)
       clear hK
       (try simp only [p0, p1, p2, p3])
       refine pR1 16 (fun K hK => ?_)
       obtain ⟨c65, c66, c67, c68⟩ := K57.c4
       obtain ⟨c69, c70, c71, c72⟩ := Z58.f4
       go_simp
       clear c65 c66 c67 c68 c69 c70 c71 c72
       obtain ⟨V73, hk75⟩ : ∃ V73, V73 = w64.setCells (b63) 0 [.bool g2.n, .slice g2.A g2.xs.length g2.c, .bool g2.m, .slice g2.B g2.ds.length g2.d] := ⟨_, rfl⟩
       have e74 := hk75
       simp only [World.setCells, Nat.zero_add, Nat.reduceAdd] at e74
       have hk76 := Kept.overE hk75 K57 rfl (Nat.le_of_ble_eq_true rfl)
       replace K4 := K4.awayE hk75 n59
       replace K18 := K18.awayE hk75 n60
       replace K48 := K48.awayE hk75 n61
       replace K57 := K57.overE hk75 rfl
       replace Z49 := Z49.putE hk75
       replace Z58 := Z58.putE hk75
       replace G := G.kp hk76
       replace LO := LO.kp hk76
       replace N1 := N1.kp hk76
       replace N2 := N2.kp hk76
       replace N3 := N3.kp hk76
       replace N4 := N4.kp hk76
       replace BW := Below.putE BW hk75 g62
       clear hk75 hk76
       rw [← e74]
       clear e74
       clear hHeld
       refine hK.out _ _ (by exact ⟨K4.cs, K18.cs⟩) (fun hHeld => ?_)
       clear hK
       (try simp only [p0, p1, p2, p3])
       refine pR1 17 (fun K hK => ?_)
       obtain ⟨c77, c78, c79, c80⟩ := K48.c4
       obtain ⟨c81, c82, c83, c84⟩ := Z49.f4
       go_simp
       clear c77 c78 c79 c80 c81 c82 c83 c84
       obtain ⟨V85, hk87⟩ : ∃ V85, V85 = V73.setCells (b53) 0 [.bool g4.n, .slice g4.A g4.xs.length g4.c, .bool g4.m, .slice g4.B g4.ds.length g4.d] := ⟨_, rfl⟩
       have e86 := hk87
       simp only [World.setCells, Nat.zero_add, Nat.reduceAdd] at e86
       have hk88 := Kept.overE hk87 K48 rfl (Nat.le_of_ble_eq_true rfl)
       replace K4 := K4.awayE hk87 n50
       replace K18 := K18.awayE hk87 n51
       replace K48 := K48.overE hk87 rfl
       replace K57 := K57.awayE hk87 n61.symm
       replace Z58 := Z58.putE hk87
       replace G := G.kp hk88
       replace LO := LO.kp hk88
       replace N1 := N1.kp hk88
       replace N2 := N2.kp hk88
       replace N3 := N3.kp hk88
       replace N4 := N4.kp hk88
       replace BW := Below.putE BW hk87 g52
       clear hk87 hk88
       rw [← e86]
       clear e86
       clear hHeld
       refine hK.out _ _ (by exact ⟨K4.cs, K18.cs⟩) (fun hHeld => ?_)
       clear hK
       (try simp only [p0, p1, p2, p3])
       refine wpAnyH_done (by kernel_rfl) (NoPanic.normal ?_) _
       go_wp2
       go_meet
       exact ⟨b63, b53, g2, g4, rfl, rfl, BW, K4, K18, G, LO, K57, K48, N2, N4⟩
    ·go_simp
     obtain ⟨V44, e45, hb46, K47, Z48, -⟩ := alloc_new w43 [.bool false, .slice none 0 0, .bool false, .slice none 0 0] 74
     have n49 : w.heap.size ≠ w43.heap.size := Nat.ne_of_lt (K4.lt)
     have n50 : b39 ≠ w43.heap.size := Nat.ne_of_lt (K18.lt)
     have g51 : w.heap.size ≤ w43.heap.size := BW.size
     replace K4 := K4.on hb46
     replace K18 := K18.on hb46
     replace G := G.kp (Kept.of hb46)
     replace LO := LO.kp (Kept.of hb46)
     replace N1 := N1.kp (Kept.of hb46)
     replace N2 := N2.kp (Kept.of hb46)
     replace BW := BW.trans (hb46.mono BW.size)
     clear hb46
     rw [← e45]
     clear e45
     generalize w43.heap.size = b52 at *
     clear hHeld
     refine hK.out _ _ (by exact ⟨K4.cs, K18.cs⟩) (fun hHeld => ?_)
     clear hK
     (try simp only [p0, p1, p2, p3])
     refine pR2 10 15 (fun K hK => ?_) (fun K hK => ?_)
     ·go_simp
      (go_at_call 57; with_reducible refine (q_sub (LO.mono hC2) G.gD hC3).mono ?_)
      rintro _ w53 ⟨g3, rfl, N3, hb⟩
      (try go_wp2_with fail)
      replace K4 := K4.on hb
      replace K18 := K18.on hb
      replace K47 := K47.on hb
      replace Z48 := Z48.on hb
      replace G := G.kp (Kept.of hb)
      replace LO := LO.kp (Kept.of hb)
      replace N1 := N1.kp (Kept.of hb)
      replace N2 := N2.kp (Kept.of hb)
      replace BW := BW.trans (hb.mono BW.size)
      clear hb
      clear hHeld
      refine hK.out _ _ (by exact ⟨K4.cs, K18.cs⟩) (fun hHeld => ?_)
      clear hK
      (try simp only [p0, p1, p2, p3])
      refine pR2 13 15 (fun K hK => ?_) (fun K hK => ?_)
      ·go_simp
       (go_at_call 101; with_reducible refine (q_quo N3 (G.gB.mono hC4) hbn hC5).mono ?_)
       rintro _ w54 ⟨g4, rfl, N4, hb⟩
       (try go_wp2_with fail)
       replace K4 := K4.on hb
       replace K18 := K18.on hb
       replace K47 := K47.on hb
       replace Z48 := Z48.on hb
       replace G := G.kp (Kept.of hb)
       replace LO := LO.kp (Kept.of hb)
       replace N1 := N1.kp (Kept.of hb)
       replace N2 := N2.kp (Kept.of hb)
       replace N3 := N3.kp (Kept.of hb)
       replace BW := BW.trans (hb.mono BW.size)
       clear hb
       clear hHeld
       refine hK.out _ _ (by exact ⟨K4.cs, K18.cs⟩) (fun hHeld => ?_)
       clear hK
       (try simp only [p0, p1, p2, p3])
       refine pR1 15 (fun K hK => ?_)
       go_simp
       obtain ⟨V55, e56, hb57, K58, Z59, -⟩ := alloc_new w54 [.bool false, .slice none 0 0, .bool false, .slice none 0 0] 74
       have n60 : w.heap.size ≠ w54.heap.size := Nat.ne_of_lt (K4.lt)
       have n61 : b39 ≠ w54.heap.size := Nat.ne_of_lt (K18.lt)
       have n62 : b52 ≠ w54.heap.size := Nat.ne_of_lt (K47.lt)
       have g63 : w.heap.size ≤ w54.heap.size := BW.size
       replace K4 := K4.on hb57
       replace K18 := K18.on hb57
       replace K47 := K47.on hb57
       replace Z48 := Z48.on hb57
       replace G := G.kp (Kept.of hb57)
       replace LO := LO.kp (Kept.of hb57)
       replace N1 := N1.kp (Kept.of hb57)
       replace N2 := N2.kp (Kept.of hb57)
       replace N3 := N3.kp (Kept.of hb57)
       replace N4 := N4.kp (Kept.of hb57)
       replace BW := BW.trans (hb57.mono BW.size)
       clear hb57
       rw [← e56]
       clear e56
       generalize w54.heap.size = b64 at *
       clear hHeld
       refine hK.out _ _ (by exact ⟨K4.cs, K18.cs⟩) (fun hHeld => ?_)
       clear hK
       (try simp only [p0, p1, p2, p3])
       refine pR1 16 (fun K hK => ?_)
       obtain ⟨c65, c66, c67, c68⟩ := K47.c4
       obtain ⟨c69, c70, c71, c72⟩ := Z48.f4
       go_simp
       clear c65 c66 c67 c68 c69 c70 c71 c72
       obtain ⟨V73, hk75⟩ : ∃ V73, V73 = V55.setCells (b52) 0 [.bool g2.n, .slice g2.A g2.xs.length g2.c, .bool g2.m, .slice g2.B g2.ds.length g2.d] := ⟨_, rfl⟩
       have e74 := hk75
       simp only [World.setCells, Nat.zero_add, Nat.reduceAdd] at e74
       have hk76 := Kept.overE hk75 K47 rfl (Nat.le_of_ble_eq_true rfl)
       replace K4 := K4.awayE hk75 n49
       replace K18 := K18.awayE hk75 n50
       replace K47 := K47.overE hk75 rfl
       replace K58 := K58.awayE hk75 n62.symm
       replace Z48 := Z48.putE hk75
       replace Z59 := Z59.putE hk75
       replace G := G.kp hk76
       replace LO := LO.kp hk76
       replace N1 := N1.kp hk76
       replace N2 := N2.kp hk76
       replace N3 := N3.kp hk76
       replace N4 := N4.kp hk76
       replace BW := Below.putE BW hk75 g51
       clear hk75 hk76
       rw [← e74]
       clear e74
       clear hHeld
       refine hK.out _ _ (by exact ⟨K4.cs, K18.cs⟩) (fun hHeld => ?_)
       clear hK
       (try simp only [p0, p1, p2, p3])
       refine pR1 17 (fun K hK => ?_)
       obtain ⟨c77, c78, c79, c80⟩ := K58.c4
       obtain ⟨c81, c82, c83, c84⟩ := Z59.f4
       go_simp
       clear c77 c78 c79 c80 c81 c82 c83 c84
       obtain ⟨V85, hk87⟩ : ∃ V85, V85 = V73.setCells (b64) 0 [.bool g4.n, .slice g4.A g4.xs.length g4.c, .bool g4.m, .slice g4.B g4.ds.length g4.d] := ⟨_, rfl⟩
       have e86 := hk87
       simp only [World.setCells, Nat.zero_add, Nat.reduceAdd] at e86
       have hk88 := Kept.overE hk87 K58 rfl (Nat.le_of_ble_eq_true rfl)
       replace K4 := K4.awayE hk87 n60
       replace K18 := K18.awayE hk87 n61
       replace K47 := K47.awayE hk87 n62
       replace K58 := K58.overE hk87 rfl
       replace Z48 := Z48.putE hk87
       replace Z59 := Z59.putE hk87
       replace G := G.kp hk88
       replace LO := LO.kp hk88
       replace N1 := N1.kp hk88
       replace N2 := N2.kp hk88
       replace N3 := N3.kp hk88
       replace N4 := N4.kp hk88
       replace BW := Below.putE BW hk87 g63
       clear hk87 hk88
       rw [← e86]
       clear e86
       clear hHeld
       refine hK.out _ _ (by exact ⟨K4.cs, K18.cs⟩) (fun hHeld => ?_)
       clear hK
       (try simp only [p0, p1, p2, p3])
       refine wpAnyH_done (by kernel_rfl) (NoPanic.normal ?_) _
       go_wp2
       go_meet
       exact ⟨b52, b64, g2, g4, rfl, rfl, BW, K4, K18, G, LO, K47, K58, N2, N4⟩
      ·go_simp
       obtain ⟨V54, e55, hb56, K57, Z58, -⟩ := alloc_new w53 [.bool false, .slice none 0 0, .bool false, .slice none 0 0] 74
       have n59 : w.heap.size ≠ w53.heap.size := Nat.ne_of_lt (K4.lt)
       have n60 : b39 ≠ w53.heap.size := Nat.ne_of_lt (K18.lt)
       have n61 : b52 ≠ w53.heap.size := Nat.ne_of_lt (K47.lt)
       have g62 : w.heap.size ≤ w53.heap.size := BW.size
       replace K4 := K4.on hb56
       replace K18 := K18.on hb56
       replace K47 := K47.on hb56
       replace Z48 := Z48.on hb56
       replace G := G.kp (Kept.of hb56)
       replace LO := LO.kp (Kept.of hb56)
       replace N1 := N1.kp (Kept.of hb56)
       replace N2 := N2.kp (Kept.of hb56)
       replace N3 := N3.kp (Kept.of hb56)
       replace BW := BW.trans (hb56.mono BW.size)
       clear hb56
       rw [← e55]
       clear e55
       generalize w53.heap.size = b63 at *
       clear hHeld
       refine hK.out _ _ (by exact ⟨K4.cs, K18.cs⟩) (fun hHeld => ?_)
       clear hK
       (try simp only [p0, p1, p2, p3])
       refine pR1 13 (fun K hK => ?_)
       go_simp
       (go_at_call 101; with_reducible refine (q_quo N3 (G.gB.mono hC4) hbn hC5).mono ?_)
       rintro _ w64 ⟨g4, rfl, N4, hb⟩
       (try go_wp2_with fail)
       replace K4 := K4.on hb
       replace K18 := K18.on hb
       replace K47 := K47.on hb
       replace K57 := K57.on hb
       replace Z48 := Z48.on hb
       replace Z58 := Z58.on hb
       replace G := G.kp (Kept.of hb)
       replace LO := LO.kp (Kept.of hb)
       replace N1 := N1.kp (Kept.of hb)
       replace N2 := N2.kp (Kept.of hb)
       replace N3 := N3.kp (Kept.of hb)
       replace BW := BW.trans (hb.mono BW.size)
       clear hb
       clear hHeld
       refine hK.out _ _ (by exact ⟨K4.cs, K18.cs⟩) (fun hHeld => ?_)
       clear hK
       (try simp only [p0, p1, p2, p3])
       refine pR1 16 (fun K hK => ?_)
       obtain ⟨c65, c66, c67, c68⟩ := K47.c4
       obtain ⟨c69, c70, c71, c72⟩ := Z48.f4
       go_simp
       clear c65 c66 c67 c68 c69 c70 c71 c72
       obtain ⟨V73, hk75⟩ : ∃ V73, V73 = w64.setCells (b52) 0 [.bool g2.n, .slice g2.A g2.xs.length g2.c, .bool g2.m, .slice g2.B g2.ds.length g2.d] := ⟨_, rfl⟩
       have e74 := hk75
       simp only [World.setCells, Nat.zero_add, Nat.reduceAdd] at e74
       have hk76 := Kept.overE hk75 K47 rfl (Nat.le_of_ble_eq_true rfl)
       replace K4 := K4.awayE hk75 n49
       replace K18 := K18.awayE hk75 n50
       replace K47 := K47.overE hk75 rfl
       replace K57 := K57.awayE hk75 n61.symm
       replace Z48 := Z48.putE hk75
       replace Z58 := Z58.putE hk75
       replace G := G.kp hk76
       replace LO := LO.kp hk76
       replace N1 := N1.kp hk76
       replace N2 := N2.kp hk76
       replace N3 := N3.kp hk76
       replace N4 := N4.kp hk76
       replace BW := Below.putE BW hk75 g51
       clear hk75 hk76
       rw [← e74]
       clear e74
       clear hHeld
       refine hK.out _ _ (by exact ⟨K4.cs, K18.cs⟩) (fun hHeld => ?_)
       clear hK
       (try simp only [p0, p1, p2, p3])
       refine pR1 17 (fun K hK => ?_)
       obtain ⟨c77, c78, c79, c80⟩ := K57.c4
       obtain ⟨c81, c82, c83, c84⟩ := Z58.f4
       go_simp
       clear c77 c78 c79 c80 c81 c82 c83 c84
       obtain ⟨V85, hk87⟩ : ∃ V85, V85 = V73.setCells (b63) 0 [.bool g4.n, .slice g4.A g4.xs.length g4.c, .bool g4.m, .slice g4.B g4.ds.length g4.d] := ⟨_, rfl⟩
       have e86 := hk87
       simp only [World.setCells, Nat.zero_add, Nat.reduceAdd] at e86
       have hk88 := Kept.overE hk87 K57 rfl (Nat.le_of_ble_eq_true rfl)
       replace K4 := K4.awayE hk87 n59
       replace K18 := K18.awayE hk87 n60
       replace K47 := K47.awayE hk87 n61
       replace K57 := K57.overE hk87 rfl
       replace Z48 := Z48.putE hk87
       replace Z58 := Z58.putE hk87
       replace G := G.kp hk88
       replace LO := LO.kp hk88
       replace N1 := N1.kp hk88
       replace N2 := N2.kp hk88
       replace N3 := N3.kp hk88
       replace N4 := N4.kp hk88
       replace BW := Below.putE BW hk87 g62
       clear hk87 hk88
       rw [← e86]
       clear e86
       clear hHeld
       refine hK.out _ _ (by exact ⟨K4.cs, K18.cs⟩) (fun hHeld => ?_)
       clear hK
       (try simp only [p0, p1, p2, p3])
       refine wpAnyH_done (by kernel_rfl) (NoPanic.normal ?_) _
       go_wp2
       go_meet
       exact ⟨b52, b63, g2, g4, rfl, rfl, BW, K4, K18, G, LO, K47, K57, N2, N4⟩
     ·go_simp
      obtain ⟨V53, e54, hb55, K56, Z57, -⟩ := alloc_new V44 [.bool false, .slice none 0 0, .bool false, .slice none 0 0] 74
      have n58 : w.heap.size ≠ V44.heap.size := Nat.ne_of_lt (K4.lt)
      have n59 : b39 ≠ V44.heap.size := Nat.ne_of_lt (K18.lt)
      have n60 : b52 ≠ V44.heap.size := Nat.ne_of_lt (K47.lt)
      have g61 : w.heap.size ≤ V44.heap.size := BW.size
      replace K4 := K4.on hb55
      replace K18 := K18.on hb55
      replace K47 := K47.on hb55
      replace Z48 := Z48.on hb55
      replace G := G.kp (Kept.of hb55)
      replace LO := LO.kp (Kept.of hb55)
      replace N1 := N1.kp (Kept.of hb55)
      replace N2 := N2.kp (Kept.of hb55)
      replace BW := BW.trans (hb55.mono BW.size)
      clear hb55
      rw [← e54]
      clear e54
      generalize V44.heap.size = b62 at *
      clear hHeld
      refine hK.out _ _ (by exact ⟨K4.cs, K18.cs⟩) (fun hHeld => ?_)
      clear hK
      (try simp only [p0, p1, p2, p3])
      refine pR1 10 (fun K hK => ?_)
      go_simp
      (go_at_call 57; with_reducible refine (q_sub (LO.mono hC2) G.gD hC3).mono ?_)
      rintro _ w63 ⟨g3, rfl, N3, hb⟩
      (try go_wp2_with fail)
      replace K4 := K4.on hb
      replace K18 := K18.on hb
      replace K47 := K47.on hb
      replace K56 := K56.on hb
      replace Z48 := Z48.on hb
      replace Z57 := Z57.on hb
      replace G := G.kp (Kept.of hb)
      replace LO := LO.kp (Kept.of hb)
      replace N1 := N1.kp (Kept.of hb)
      replace N2 := N2.kp (Kept.of hb)
      replace BW := BW.trans (hb.mono BW.size)
      clear hb
      clear hHeld
      refine hK.out _ _ (by exact ⟨K4.cs, K18.cs⟩) (fun hHeld => ?_)
      clear hK
      (try simp only [p0, p1, p2, p3])
      refine pR1 13 (fun K hK => ?_)
      go_simp
      (go_at_call 101; with_reducible refine (q_quo N3 (G.gB.mono hC4) hbn hC5).mono ?_)
      rintro _ w64 ⟨g4, rfl, N4, hb⟩
      (try go_wp2_with fail)
      replace K4 := K4.on hb
      replace K18 := K18.on hb
      replace K47 := K47.on hb
      replace K56 := K56.on hb
      replace Z48 := Z48.on hb
      replace Z57 := Z57.on hb
      replace G := G.kp (Kept.of hb)
      replace LO := LO.kp (Kept.of hb)
      replace N1 := N1.kp (Kept.of hb)
      replace N2 := N2.kp (Kept.of hb)
      replace N3 := N3.kp (Kept.of hb)
      replace BW := BW.trans (hb.mono BW.size)
      clear hb
      clear hHeld
      refine hK.out _ _ (by exact ⟨K4.cs, K18.cs⟩) (fun hHeld => ?_)
      clear hK
      (try simp only [p0, p1, p2, p3])
      refine pR1 16 (fun K hK => ?_)
      obtain ⟨c65, c66, c67, c68⟩ := K47.c4
      obtain ⟨c69, c70, c71, c72⟩ := Z48.f4
      go_simp
      clear c65 c66 c67 c68 c69 c70 c71 c72
      obtain ⟨V73, hk75⟩ : ∃ V73, V73 = w64.setCells (b52) 0 [.bool g2.n, .slice g2.A g2.xs.length g2.c, .bool g2.m, .slice g2.B g2.ds.length g2.d] := ⟨_, rfl⟩
      have e74 := hk75
      simp only [World.setCells, Nat.zero_add, Nat.reduceAdd] at e74
      have hk76 := Kept.overE hk75 K47 rfl (Nat.le_of_ble_eq_true rfl)
      replace K4 := K4.awayE hk75 n49
      replace K18 := K18.awayE hk75 n50
      replace K47 := K47.overE hk75 rfl
      replace K56 := K56.awayE hk75 n60.symm
      replace Z48 := Z48.putE hk75
      replace Z57 := Z57.putE hk75
      replace G := G.kp hk76
      replace LO := LO.kp hk76
      replace N1 := N1.kp hk76
      replace N2 := N2.kp hk76
      replace N3 := N3.kp hk76
      replace N4 := N4.kp hk76
      replace BW := Below.putE BW hk75 g51
      clear hk75 hk76
      rw [← e74]
      clear e74
      clear hHeld
      refine hK.out _ _ (by exact ⟨K4.cs, K18.cs⟩) (fun hHeld => ?_)
      clear hK
      (try simp only [p0, p1, p2, p3])
      refine pR1 17 (fun K hK => ?_)
      obtain ⟨c77, c78, c79, c80⟩ := K56.c4
      obtain ⟨c81, c82, c83, c84⟩ := Z57.f4
      go_simp
      clear c77 c78 c79 c80 c81 c82 c83 c84
      obtain ⟨V85, hk87⟩ : ∃ V85, V85 = V73.setCells (b62) 0 [.bool g4.n, .slice g4.A g4.xs.length g4.c, .bool g4.m, .slice g4.B g4.ds.length g4.d] := ⟨_, rfl⟩
      have e86 := hk87
      simp only [World.setCells, Nat.zero_add, Nat.reduceAdd] at e86
      have hk88 := Kept.overE hk87 K56 rfl (Nat.le_of_ble_eq_true rfl)
      replace K4 := K4.awayE hk87 n58
      replace K18 := K18.awayE hk87 n59
      replace K47 := K47.awayE hk87 n60
      replace K56 := K56.overE hk87 rfl
      replace Z48 := Z48.putE hk87
      replace Z57 := Z57.putE hk87
      replace G := G.kp hk88
      replace LO := LO.kp hk88
      replace N1 := N1.kp hk88
      replace N2 := N2.kp hk88
      replace N3 := N3.kp hk88
      replace N4 := N4.kp hk88
      replace BW := Below.putE BW hk87 g61
      clear hk87 hk88
      rw [← e86]
      clear e86
      clear hHeld
      refine hK.out _ _ (by exact ⟨K4.cs, K18.cs⟩) (fun hHeld => ?_)
      clear hK
      (try simp only [p0, p1, p2, p3])
      refine wpAnyH_done (by kernel_rfl) (NoPanic.normal ?_) _
      go_wp2
      go_meet
      exact ⟨b52, b62, g2, g4, rfl, rfl, BW, K4, K18, G, LO, K47, K56, N2, N4⟩
    ·go_simp
     obtain ⟨V44, e45, hb46, K47, Z48, -⟩ := alloc_new w43 [.bool false, .slice none 0 0, .bool false, .slice none 0 0] 74
     have n49 : w.heap.size ≠ w43.heap.size := Nat.ne_of_lt (K4.lt)
     have n50 : b39 ≠ w43.heap.size := Nat.ne_of_lt (K18.lt)
     have g51 : w.heap.size ≤ w43.heap.size := BW.size
     replace K4 := K4.on hb46
     replace K18 := K18.on hb46
     replace G := G.kp (Kept.of hb46)
     replace LO := LO.kp (Kept.of hb46)
     replace N1 := N1.kp (Kept.of hb46)
     replace N2 := N2.kp (Kept.of hb46)
     replace BW := BW.trans (hb46.mono BW.size)
     clear hb46
     rw [← e45]
     clear e45
     generalize w43.heap.size = b52 at *
     clear hHeld
     refine hK.out _ _ (by exact ⟨K4.cs, K18.cs⟩) (fun hHeld => ?_)
     clear hK
     (try simp only [p0, p1, p2, p3])
     refine pR2 10 14 (fun K hK => ?_) (fun K hK => ?_)
     ·go_simp
      (go_at_call 57; with_reducible refine (q_sub (LO.mono hC2) G.gD hC3).mono ?_)
      rintro _ w53 ⟨g3, rfl, N3, hb⟩
      (try go_wp2_with fail)
      replace K4 := K4.on hb
      replace K18 := K18.on hb
      replace K47 := K47.on hb
      replace Z48 := Z48.on hb
      replace G := G.kp (Kept.of hb)
      replace LO := LO.kp (Kept.of hb)
      replace N1 := N1.kp (Kept.of hb)
      replace N2 := N2.kp (Kept.of hb)
      replace BW := BW.trans (hb.mono BW.size)
      clear hb
      clear hHeld
      refine hK.out _ _ (by exact ⟨K4.cs, K18.cs⟩) (fun hHeld => ?_)
      clear hK
      (try simp only [p0, p1, p2, p3])
      refine pR2 13 14 (fun K hK => ?_) (fun K hK => ?_)
      ·go_simp
       (go_at_call 101; with_reducible refine (q_quo N3 (G.gB.mono hC4) hbn hC5).mono ?_)
       rintro _ w54 ⟨g4, rfl, N4, hb⟩
       (try go_wp2_with fail)
       replace K4 := K4.on hb
       replace K18 := K18.on hb
       replace K47 := K47.on hb
       replace Z48 := Z48.on hb
       replace G := G.kp (Kept.of hb)
       replace LO := LO.kp (Kept.of hb)
       replace N1 := N1.kp (Kept.of hb)
       replace N2 := N2.kp (Kept.of hb)
       replace N3 := N3.kp (Kept.of hb)
       replace BW := BW.trans (hb.mono BW.size)
       clear hb
       clear hHeld
       refine hK.out _ _ (by exact ⟨K4.cs, K18.cs⟩) (fun hHeld => ?_)
       clear hK
       (try simp only [p0, p1, p2, p3])
       refine pR1 14 (fun K hK => ?_)
       go_simp
       obtain ⟨V55, e56, hb57, K58, Z59, -⟩ := alloc_new w54 [.bool false, .slice none 0 0, .bool false, .slice none 0 0] 74
       have n60 : w.heap.size ≠ w54.heap.size := Nat.ne_of_lt (K4.lt)
       have n61 : b39 ≠ w54.heap.size := Nat.ne_of_lt (K18.lt)
       have n62 : b52 ≠ w54.heap.size := Nat.ne_of_lt (K47.lt)
       have g63 : w.heap.size ≤ w54.heap.size := BW.size
       replace K4 := K4.on hb57
       replace K18 := K18.on hb57
       replace K47 := K47.on hb57
       replace Z48 := Z48.on hb57
       replace G := G.kp (Kept.of hb57)
       replace LO := LO.kp (Kept.of hb57)
       replace N1 := N1.kp (Kept.of hb57)
       replace N2 := N2.kp (Kept.of hb57)
       replace N3 := N3.kp (Kept.of hb57)
       replace N4 := N4.kp (Kept.of hb57)
       replace BW := BW.trans (hb57.mono BW.size)
       clear hb57
       rw [← e56]
       clear e56
       generalize w54.heap.size = b64 at *
       clear hHeld
       refine hK.out _ _ (by exact ⟨K4.cs, K18.cs⟩) (fun hHeld => ?_)
       clear hK
       (try simp only [p0, p1, p2, p3])
       refine pR1 16 (fun K hK => ?_)
       obtain ⟨c65, c66, c67, c68⟩ := K58.c4
       obtain ⟨c69, c70, c71, c72⟩ := Z59.f4
       go_simp
       clear c65 c66 c67 c68 c69 c70 c71 c72
       obtain ⟨V73, hk75⟩ : ∃ V73, V73 = V55.setCells (b64) 0 [.bool g2.n, .slice g2.A g2.xs.length g2.c, .bool g2.m, .slice g2.B g2.ds.length g2.d] := ⟨_, rfl⟩
       have e74 := hk75
       simp only [World.setCells, Nat.zero_add, Nat.reduceAdd] at e74
       have hk76 := Kept.overE hk75 K58 rfl (Nat.le_of_ble_eq_true rfl)
       replace K4 := K4.awayE hk75 n60
       replace K18 := K18.awayE hk75 n61
       replace K47 := K47.awayE hk75 n62
       replace K58 := K58.overE hk75 rfl
       replace Z48 := Z48.putE hk75
       replace Z59 := Z59.putE hk75
       replace G := G.kp hk76
       replace LO := LO.kp hk76
       replace N1 := N1.kp hk76
       replace N2 := N2.kp hk76
       replace N3 := N3.kp hk76
       replace N4 := N4.kp hk76
       replace BW := Below.putE BW hk75 g63
       clear hk75 hk76
       rw [← e74]
       clear e74
       clear hHeld
       refine hK.out _ _ (by exact ⟨K4.cs, K18.cs⟩) (fun hHeld => ?_)
       clear hK
       (try simp only [p0, p1, p2, p3])
       refine pR1 17 (fun K hK => ?_)
       obtain ⟨c77, c78, c79, c80⟩ := K47.c4
       obtain ⟨c81, c82, c83, c84⟩ := Z48.f4
       go_simp
       clear c77 c78 c79 c80 c81 c82 c83 c84
       obtain ⟨V85, hk87⟩ : ∃ V85, V85 = V73.setCells (b52) 0 [.bool g4.n, .slice g4.A g4.xs.length g4.c, .bool g4.m, .slice g4.B g4.ds.length g4.d] := ⟨_, rfl⟩
       have e86 := hk87
       simp only [World.setCells, Nat.zero_add, Nat.reduceAdd] at e86
       have hk88 := Kept.overE hk87 K47 rfl (Nat.le_of_ble_eq_true rfl)
       replace K4 := K4.awayE hk87 n49
       replace K18 := K18.awayE hk87 n50
       replace K47 := K47.overE hk87 rfl
       replace K58 := K58.awayE hk87 n62.symm
       replace Z48 := Z48.putE hk87
       replace Z59 := Z59.putE hk87
       replace G := G.kp hk88
       replace LO := LO.kp hk88
       replace N1 := N1.kp hk88
       replace N2 := N2.kp hk88
       replace N3 := N3.kp hk88
       replace N4 := N4.kp hk88
       replace BW := Below.putE BW hk87 g51
       clear hk87 hk88
       rw [← e86]
       clear e86
       clear hHeld
       refine hK.out _ _ (by exact ⟨K4.cs, K18.cs⟩) (fun hHeld => ?_)
       clear hK
       (try simp only [p0, p1, p2, p3])
       refine wpAnyH_done (by kernel_rfl) (NoPanic.normal ?_) _
       go_wp2
       go_meet
       exact ⟨b64, b52, g2, g4, rfl, rfl, BW, K4, K18, G, LO, K58, K47, N2, N4⟩
      ·go_simp
       obtain ⟨V54, e55, hb56, K57, Z58, -⟩ := alloc_new w53 [.bool false, .slice none 0 0, .bool false, .slice none 0 0] 74
       have n59 : w.heap.size ≠ w53.heap.size := Nat.ne_of_lt (K4.lt)
       have n60 : b39 ≠ w53.heap.size := Nat.ne_of_lt (K18.lt)
       have n61 : b52 ≠ w53.heap.size := Nat.ne_of_lt (K47.lt)
       have g62 : w.heap.size ≤ w53.heap.size := BW.size
       replace K4 := K4.on hb56
       replace K18 := K18.on hb56
       replace K47 := K47.on hb56
       replace Z48 := Z48.on hb56
       replace G := G.kp (Kept.of hb56)
       replace LO := LO.kp (Kept.of hb56)
       replace N1 := N1.kp (Kept.of hb56)
       replace N2 := N2.kp (Kept.of hb56)
       replace N3 := N3.kp (Kept.of hb56)
       replace BW := BW.trans (hb56.mono BW.size)
       clear hb56
       rw [← e55]
       clear e55
       generalize w53.heap.size = b63 at *
       clear hHeld
       refine hK.out _ _ (by exact ⟨K4.cs, K18.cs⟩) (fun hHeld => ?_)
       clear hK
       (try simp only [p0, p1, p2, p3])
       refine pR1 13 (fun K hK => ?_)
       go_simp
       (go_at_call 101; with_reducible refine (q_quo N3 (G.gB.mono hC4) hbn hC5).mono ?_)
       rintro _ w64 ⟨g4, rfl, N4, hb⟩
       (try go_wp2_with fail)
       replace K4 := K4.on hb
       replace K18 := K18.on hb
       replace K47 := K47.on hb
       replace K57 := K57.on hb
       replace Z48 := Z48.on hb
       replace Z58 := Z58.on hb
       replace G := G.kp (Kept.of hb)
       replace LO := LO.kp (Kept.of hb)
       replace N1 := N1.kp (Kept.of hb)
       replace N2 := N2.kp (Kept.of hb)
       replace N3 := N3.kp (Kept.of hb)
       replace BW := BW.trans (hb.mono BW.size)
       clear hb
       clear hHeld
       refine hK.out _ _ (by exact ⟨K4.cs, K18.cs⟩) (fun hHeld => ?_)
       clear hK
       (try simp only [p0, p1, p2, p3])
       refine pR1 16 (fun K hK => ?_)
       obtain ⟨c65, c66, c67, c68⟩ := K57.c4
       obtain ⟨c69, c70, c71, c72⟩ := Z58.f4
       go_simp
       clear c65 c66 c67 c68 c69 c70 c71 c72
       obtain ⟨V73, hk75⟩ : ∃ V73, V73 = w64.setCells (b63) 0 [.bool g2.n, .slice g2.A g2.xs.length g2.c, .bool g2.m, .slice g2.B g2.ds.length g2.d] := ⟨_, rfl⟩
       have e74 := hk75
       simp only [World.setCells, Nat.zero_add, Nat.reduceAdd] at e74
       have hk76 := Kept.overE hk75 K57 rfl (Nat.le_of_ble_eq_true rfl)
       replace K4 := K4.awayE hk75 n59
       replace K18 := K18.awayE hk75 n60
       replace K47 := K47.awayE hk75 n61
       replace K57 := K57.overE hk75 rfl
       replace Z48 := Z48.putE hk75
       replace Z58 := Z58.putE hk75
       replace G := G.kp hk76
       replace LO := LO.kp hk76
       replace N1 := N1.kp hk76
       replace N2 := N2.kp hk76
       replace N3 := N3.kp hk76
       replace N4 := N4.kp hk76
       replace BW := Below.putE BW hk75 g62
       clear hk75 hk76
       rw [← e74]
       clear e74
       clear hHeld
       refine hK.out _ _ (by exact ⟨K4.cs, K18.cs⟩) (fun hHeld => ?_)
       clear hK
       (try simp only [p0, p1, p2, p3])
       refine pR1 17 (fun K hK => ?_)
       obtain ⟨c77, c78, c79, c80⟩ := K47.c4
       obtain ⟨c81, c82, c83, c84⟩ := Z48.f4
       go_simp
       clear c77 c78 c79 c80 c81 c82 c83 c84
       obtain ⟨V85, hk87⟩ : ∃ V85, V85 = V73.setCells (b52) 0 [.bool g4.n, .slice g4.A g4.xs.length g4.c, .bool g4.m, .slice g4.B g4.ds.length g4.d] := ⟨_, rfl⟩
       have e86 := hk87
       simp only [World.setCells, Nat.zero_add, Nat.reduceAdd] at e86
       have hk88 := Kept.overE hk87 K47 rfl (Nat.le_of_ble_eq_true rfl)
       replace K4 := K4.awayE hk87 n49
       replace K18 := K18.awayE hk87 n50
       replace K47 := K47.overE hk87 rfl
       replace K57 := K57.awayE hk87 n61.symm
       replace Z48 := Z48.putE hk87
       replace Z58 := Z58.putE hk87
       replace G := G.kp hk88
       replace LO := LO.kp hk88
       replace N1 := N1.kp hk88
       replace N2 := N2.kp hk88
       replace N3 := N3.kp hk88
       replace N4 := N4.kp hk88
       replace BW := Below.putE BW hk87 g51
       clear hk87 hk88
       rw [← e86]
       clear e86
       clear hHeld
       refine hK.out _ _ (by exact ⟨K4.cs, K18.cs⟩) (fun hHeld => ?_)
       clear hK
       (try simp only [p0, p1, p2, p3])
       refine wpAnyH_done (by kernel_rfl) (NoPanic.normal ?_) _
       go_wp2
       go_meet
       exact ⟨b63, b52, g2, g4, rfl, rfl, BW, K4, K18, G, LO, K57, K47, N2, N4⟩
     ·go_simp
      obtain ⟨V53, e54, hb55, K56, Z57, -⟩ := alloc_new V44 [.bool false, .slice none 0 0, .bool false, .slice none 0 0] 74
      have n58 : w.heap.size ≠ V44.heap.size := Nat.ne_of_lt (K4.lt)
      have n59 : b39 ≠ V44.heap.size := Nat.ne_of_lt (K18.lt)
      have n60 : b52 ≠ V44.heap.size := Nat.ne_of_lt (K47.lt)
      have g61 : w.heap.size ≤ V44.heap.size := BW.size
      replace K4 := K4.on hb55
      replace K18 := K18.on hb55
      replace K47 := K47.on hb55
      replace Z48 := Z48.on hb55
      replace G := G.kp (Kept.of hb55)
      replace LO := LO.kp (Kept.of hb55)
      replace N1 := N1.kp (Kept.of hb55)
      replace N2 := N2.kp (Kept.of hb55)
      replace BW := BW.trans (hb55.mono BW.size)
      clear hb55
      rw [← e54]
      clear e54
      generalize V44.heap.size = b62 at *
      clear hHeld
      refine hK.out _ _ (by exact ⟨K4.cs, K18.cs⟩) (fun hHeld => ?_)
      clear hK
      (try simp only [p0, p1, p2, p3])
      refine pR1 10 (fun K hK => ?_)
      go_simp
      (go_at_call 57; with_reducible refine (q_sub (LO.mono hC2) G.gD hC3).mono ?_)
      rintro _ w63 ⟨g3, rfl, N3, hb⟩
      (try go_wp2_with fail)
      replace K4 := K4.on hb
      replace K18 := K18.on hb
      replace K47 := K47.on hb
      replace K56 := K56.on hb
      replace Z48 := Z48.on hb
      replace Z57 := Z57.on hb
      replace G := G.kp (Kept.of hb)
      replace LO := LO.kp (Kept.of hb)
      replace N1 := N1.kp (Kept.of hb)
      replace N2 := N2.kp (Kept.of hb)
      replace BW := BW.trans (hb.mono BW.size)
      clear hb
      clear hHeld
      refine hK.out _ _ (by exact ⟨K4.cs, K18.cs⟩) (fun hHeld => ?_)
      clear hK
      (try simp only [p0, p1, p2, p3])
      refine pR1 13 (fun K hK => ?_)
      go_simp
      (go_at_call 101; with_reducible refine (q_quo N3 (G.gB.mono hC4) hbn hC5).mono ?_)
      rintro _ w64 ⟨g4, rfl, N4, hb⟩
      (try go_wp2_with fail)
      replace K4 := K4.on hb
      replace K18 := K18.on hb
      replace K47 := K47.on hb
      replace K56 := K56.on hb
      replace Z48 := Z48.on hb
      replace Z57 := Z57.on hb
      replace G := G.kp (Kept.of hb)
      replace LO := LO.kp (Kept.of hb)
      replace N1 := N1.kp (Kept.of hb)
      replace N2 := N2.kp (Kept.of hb)
      replace N3 := N3.kp (Kept.of hb)
      replace BW := BW.trans (hb.mono BW.size)
      clear hb
      clear hHeld
      refine hK.out _ _ (by exact ⟨K4.cs, K18.cs⟩) (fun hHeld => ?_)
      clear hK
      (try simp only [p0, p1, p2, p3])
      refine pR1 16 (fun K hK => ?_)
      obtain ⟨c65, c66, c67, c68⟩ := K56.c4
      obtain ⟨c69, c70, c71, c72⟩ := Z57.f4
      go_simp
      clear c65 c66 c67 c68 c69 c70 c71 c72
      obtain ⟨V73, hk75⟩ : ∃ V73, V73 = w64.setCells (b62) 0 [.bool g2.n, .slice g2.A g2.xs.length g2.c, .bool g2.m, .slice g2.B g2.ds.length g2.d] := ⟨_, rfl⟩
      have e74 := hk75
      simp only [World.setCells, Nat.zero_add, Nat.reduceAdd] at e74
      have hk76 := Kept.overE hk75 K56 rfl (Nat.le_of_ble_eq_true rfl)
      replace K4 := K4.awayE hk75 n58
      replace K18 := K18.awayE hk75 n59
      replace K47 := K47.awayE hk75 n60
      replace K56 := K56.overE hk75 rfl
      replace Z48 := Z48.putE hk75
      replace Z57 := Z57.putE hk75
      replace G := G.kp hk76
      replace LO := LO.kp hk76
      replace N1 := N1.kp hk76
      replace N2 := N2.kp hk76
      replace N3 := N3.kp hk76
      replace N4 := N4.kp hk76
      replace BW := Below.putE BW hk75 g61
      clear hk75 hk76
      rw [← e74]
      clear e74
      clear hHeld
      refine hK.out _ _ (by exact ⟨K4.cs, K18.cs⟩) (fun hHeld => ?_)
      clear hK
      (try simp only [p0, p1, p2, p3])
      refine pR1 17 (fun K hK => ?_)
      obtain ⟨c77, c78, c79, c80⟩ := K47.c4
      obtain ⟨c81, c82, c83, c84⟩ := Z48.f4
      go_simp
      clear c77 c78 c79 c80 c81 c82 c83 c84
      obtain ⟨V85, hk87⟩ : ∃ V85, V85 = V73.setCells (b52) 0 [.bool g4.n, .slice g4.A g4.xs.length g4.c, .bool g4.m, .slice g4.B g4.ds.length g4.d] := ⟨_, rfl⟩
      have e86 := hk87
      simp only [World.setCells, Nat.zero_add, Nat.reduceAdd] at e86
      have hk88 := Kept.overE hk87 K47 rfl (Nat.le_of_ble_eq_true rfl)
      replace K4 := K4.awayE hk87 n49
      replace K18 := K18.awayE hk87 n50
      replace K47 := K47.overE hk87 rfl
      replace K56 := K56.awayE hk87 n60.symm
      replace Z57 := Z57.putE hk87
      replace G := G.kp hk88
      replace LO := LO.kp hk88
      replace N1 := N1.kp hk88
      replace N2 := N2.kp hk88
      replace N3 := N3.kp hk88
      replace N4 := N4.kp hk88
      replace BW := Below.putE BW hk87 g51
      clear hk87 hk88
      rw [← e86]
      clear e86
      clear hHeld
      refine hK.out _ _ (by exact ⟨K4.cs, K18.cs⟩) (fun hHeld => ?_)
      clear hK
      (try simp only [p0, p1, p2, p3])
      refine wpAnyH_done (by kernel_rfl) (NoPanic.normal ?_) _
      go_wp2
      go_meet
      exact ⟨b62, b52, g2, g4, rfl, rfl, BW, K4, K18, G, LO, K56, K47, N2, N4⟩
   ·go_simp
    obtain ⟨V43, e44, hb45, K46, Z47, -⟩ := alloc_new w42 [.bool false, .slice none 0 0, .bool false, .slice none 0 0] 74
    have n48 : w.heap.size ≠ w42.heap.size := Nat.ne_of_lt (K4.lt)
    have n49 : b39 ≠ w42.heap.size := Nat.ne_of_lt (K18.lt)
    have g50 : w.heap.size ≤ w42.heap.size := BW.size
    replace K4 := K4.on hb45
    replace K18 := K18.on hb45
    replace G := G.kp (Kept.of hb45)
    replace LO := LO.kp (Kept.of hb45)
    replace N1 := N1.kp (Kept.of hb45)
    replace BW := BW.trans (hb45.mono BW.size)
    clear hb45
    rw [← e44]
    clear e44
    generalize w42.heap.size = b51 at *
    clear hHeld
    refine hK.out _ _ (by exact ⟨K4.cs, K18.cs⟩) (fun hHeld => ?_)
    clear hK
    (try simp only [p0, p1, p2, p3])
    refine pR2 6 15 (fun K hK => ?_) (fun K hK => ?_)
    ·go_simp
     (go_at_call 101; with_reducible refine (q_quo N1 (G.gB.mono hC4) hbn hC5).mono ?_)
     rintro _ w52 ⟨g2, rfl, N2, hb⟩
     (try go_wp2_with fail)
     replace K4 := K4.on hb
     replace K18 := K18.on hb
     replace K46 := K46.on hb
     replace Z47 := Z47.on hb
     replace G := G.kp (Kept.of hb)
     replace LO := LO.kp (Kept.of hb)
     replace N1 := N1.kp (Kept.of hb)
     replace BW := BW.trans (hb.mono BW.size)
     clear hb
     clear hHeld
     refine hK.out _ _ (by exact ⟨K4.cs, K18.cs⟩) (fun hHeld => ?_)
     clear hK
     (try simp only [p0, p1, p2, p3])
     refine pR2 10 15 (fun K hK => ?_) (fun K hK => ?_)
     ·go_simp
      (go_at_call 57; with_reducible refine (q_sub (LO.mono hC2) G.gD hC3).mono ?_)
      rintro _ w53 ⟨g3, rfl, N3, hb⟩
      (try go_wp2_with fail)
      replace K4 := K4.on hb
      replace K18 := K18.on hb
      replace K46 := K46.on hb
      replace Z47 := Z47.on hb
      replace G := G.kp (Kept.of hb)
      replace LO := LO.kp (Kept.of hb)
      replace N1 := N1.kp (Kept.of hb)
      replace N2 := N2.kp (Kept.of hb)
      replace BW := BW.trans (hb.mono BW.size)
      clear hb
      clear hHeld
      refine hK.out _ _ (by exact ⟨K4.cs, K18.cs⟩) (fun hHeld => ?_)
      clear hK
      (try simp only [p0, p1, p2, p3])
      refine pR2 13 15 (fun K hK => ?_) (fun K hK => ?_)
      ·go_simp
       (go_at_call 101; with_reducible refine (q_quo N3 (G.gB.mono hC4) hbn hC5).mono ?_)
       rintro _ w54 ⟨g4, rfl, N4, hb⟩
       (try go_wp2_with fail)
       replace K4 := K4.on hb
       replace K18 := K18.on hb
       replace K46 := K46.on hb
       replace Z47 := Z47.on hb
       replace G := G.kp (Kept.of hb)
       replace LO := LO.kp (Kept.of hb)
       replace N1 := N1.kp (Kept.of hb)
       replace N2 := N2.kp (Kept.of hb)
       replace N3 := N3.kp (Kept.of hb)
       replace BW := BW.trans (hb.mono BW.size)
       clear hb
       clear hHeld
       refine hK.out _ _ (by exact ⟨K4.cs, K18.cs⟩) (fun hHeld => ?_)
       clear hK
       (try simp only [p0, p1, p2, p3])
       refine pR1 15 (fun K hK => ?_)
       go_simp
       obtain ⟨V55, e56, hb57, K58, Z59, -⟩ := alloc_new w54 [.bool false, .slice none 0 0, .bool false, .slice none 0 0] 74
       have n60 : w.heap.size ≠ w54.heap.size := Nat.ne_of_lt (K4.lt)
       have n61 : b39 ≠ w54.heap.size := Nat.ne_of_lt (K18.lt)
       have n62 : b51 ≠ w54.heap.size := Nat.ne_of_lt (K46.lt)
       have g63 : w.heap.size ≤ w54.heap.size := BW.size
       replace K4 := K4.on hb57
       replace K18 := K18.on hb57
       replace K46 := K46.on hb57
       replace Z47 := Z47.on hb57
       replace G := G.kp (Kept.of hb57)
       replace LO := LO.kp (Kept.of hb57)
       replace N1 := N1.kp (Kept.of hb57)
       replace N2 := N2.kp (Kept.of hb57)
       replace N3 := N3.kp (Kept.of hb57)
       replace N4 := N4.kp (Kept.of hb57)
       replace BW := BW.trans (hb57.mono BW.size)
       clear hb57
       rw [← e56]
       clear e56
       generalize w54.heap.size = b64 at *
       clear hHeld
       refine hK.out _ _ (by exact ⟨K4.cs, K18.cs⟩) (fun hHeld => ?_)
       clear hK
       (try simp only [p0, p1, p2, p3])
       refine pR1 16 (fun K hK => ?_)
       obtain ⟨c65, c66, c67, c68⟩ := K46.c4
       obtain ⟨c69, c70, c71, c72⟩ := Z47.f4
       go_simp
       clear c65 c66 c67 c68 c69 c70 c71 c72
       obtain ⟨V73, hk75⟩ : ∃ V73, V73 = V55.setCells (b51) 0 [.bool g2.n, .slice g2.A g2.xs.length g2.c, .bool g2.m, .slice g2.B g2.ds.length g2.d] := ⟨_, rfl⟩
       have e74 := hk75
       simp only [World.setCells, Nat.zero_add, Nat.reduceAdd] at e74
       have hk76 := Kept.overE hk75 K46 rfl (Nat.le_of_ble_eq_true rfl)
       replace K4 := K4.awayE hk75 n48
       replace K18 := K18.awayE hk75 n49
       replace K46 := K46.overE hk75 rfl
       replace K58 := K58.awayE hk75 n62.symm
       replace Z47 := Z47.putE hk75
       replace Z59 := Z59.putE hk75
       replace G := G.kp hk76
       replace LO := LO.kp hk76
       replace N1 := N1.kp hk76
       replace N2 := N2.kp hk76
       replace N3 := N3.kp hk76
       replace N4 := N4.kp hk76
       replace BW := Below.putE BW hk75 g50
       clear hk75 hk76
       rw [← e74]
       clear e74
       clear hHeld
       refine hK.out _ _ (by exact ⟨K4.cs, K18.cs⟩) (fun hHeld => ?_)
       clear hK
       (try simp only [p0, p1, p2, p3])
       refine pR1 17 (fun K hK => ?_)
       obtain ⟨c77, c78, c79, c80⟩ := K58.c4
       obtain ⟨c81, c82, c83, c84⟩ := Z59.f4
       go_simp
       clear c77 c78 c79 c80 c81 c82 c83 c84
       obtain ⟨V85, hk87⟩ : ∃ V85, V85 = V73.setCells (b64) 0 [.bool g4.n, .slice g4.A g4.xs.length g4.c, .bool g4.m, .slice g4.B g4.ds.length g4.d] := ⟨_, rfl⟩
       have e86 := hk87
       simp only [World.setCells, Nat.zero_add, Nat.reduceAdd] at e86
       have hk88 := Kept.overE hk87 K58 rfl (Nat.le_of_ble_eq_true rfl)
       replace K4 := K4.awayE hk87 n60
       replace K18 := K18.awayE hk87 n61
       replace K46 := K46.awayE hk87 n62
       replace K58 := K58.overE hk87 rfl
       replace Z47 := Z47.putE hk87
       replace Z59 := Z59.putE hk87
       replace G := G.kp hk88
       replace LO := LO.kp hk88
       replace N1 := N1.kp hk88
       replace N2 := N2.kp hk88
       replace N3 := N3.kp hk88
       replace N4 := N4.kp hk88
       replace BW := Below.putE BW hk87 g63
       clear hk87 hk88
       rw [← e86]
       clear e86
       clear hHeld
       refine hK.out _ _ (by exact ⟨K4.cs, K18.cs⟩) (fun hHeld => ?_)
       clear hK
       (try simp only [p0, p1, p2, p3])
       refine wpAnyH_done (by kernel_rfl) (NoPanic.normal ?_) _
       go_wp2
       go_meet
       exact ⟨b51, b64, g2, g4, rfl, rfl, BW, K4, K18, G, LO, K46, K58, N2, N4⟩
      ·go_simp
       obtain ⟨V54, e55, hb56, K57, Z58, -⟩ := alloc_new w53 [.bool false, .slice none 0 0, .bool false, .slice none 0 0] 74
       have n59 : w.heap.size ≠ w53.heap.size := Nat.ne_of_lt (K4.lt)
       have n60 : b39 ≠ w53.heap.size := Nat.ne_of_lt (K18.lt)
       have n61 : b51 ≠ w53.heap.size := Nat.ne_of_lt (K46.lt)
       have g62 : w.heap.size ≤ w53.heap.size := BW.size
       replace K4 := K4.on hb56
       replace K18 := K18.on hb56
       replace K46 := K46.on hb56
       replace Z47 := Z47.on hb56
       replace G := G.kp (Kept.of hb56)
       replace LO := LO.kp (Kept.of hb56)
       replace N1 := N1.kp (Kept.of hb56)
       replace N2 := N2.kp (Kept.of hb56)
       replace N3 := N3.kp (Kept.of hb56)
       replace BW := BW.trans (hb56.mono BW.size)
       clear hb56
       rw [← e55]
       clear e55
       generalize w53.heap.size = b63 at *
       clear hHeld
       refine hK.out _ _ (by exact ⟨K4.cs, K18.cs⟩) (fun hHeld => ?_)
       clear hK
       (try simp only [p0, p1, p2, p3])
       refine pR1 13 (fun K hK => ?_)
       go_simp
       (go_at_call 101; with_reducible refine (q_quo N3 (G.gB.mono hC4) hbn hC5).mono ?_)
       rintro _ w64 ⟨g4, rfl, N4, hb⟩
       (try go_wp2_with fail)
       replace K4 := K4.on hb
       replace K18 := K18.on hb
       replace K46 := K46.on hb
       replace K57 := K57.on hb
       replace Z47 := Z47.on hb
       replace Z58 := Z58.on hb
       replace G := G.kp (Kept.of hb)
       replace LO := LO.kp (Kept.of hb)
       replace N1 := N1.kp (Kept.of hb)
       replace N2 := N2.kp (Kept.of hb)
       replace N3 := N3.kp (Kept.of hb)
       replace BW := BW.trans (hb.mono BW.size)
       clear hb
       clear hHeld
       refine hK.out _ _ (by exact ⟨K4.cs, K18.cs⟩) (fun hHeld => ?_)
       clear hK
       (try simp only [p0, p1, p2, p3])
       refine pR1 16 (fun K hK => ?_)
       obtain ⟨c65, c66, c67, c68⟩ := K46.c4
       obtain ⟨c69, c70, c71, c72⟩ := Z47.f4
       go_simp
       clear c65 c66 c67 c68 c69 c70 c71 c72
       obtain ⟨V73, hk75⟩ : ∃ V73, V73 = w64.setCells (b51) 0 [.bool g2.n, .slice g2.A g2.xs.length g2.c, .bool g2.m, .slice g2.B g2.ds.length g2.d] := ⟨_, rfl⟩
       have e74 := hk75
       simp only [World.setCells, Nat.zero_add, Nat.reduceAdd] at e74
       have hk76 := Kept.overE hk75 K46 rfl (Nat.le_of_ble_eq_true rfl)
       replace K4 := K4.awayE hk75 n48
       replace K18 := K18.awayE hk75 n49
       replace K46 := K46.overE hk75 rfl
       replace K57 := K57.awayE hk75 n61.symm
       replace Z47 := Z47.putE hk75
       replace Z58 := Z58.putE hk75
       replace G := G.kp hk76
       replace LO := LO.kp hk76
       replace N1 := N1.kp hk76
       replace N2 := N2.kp hk76
       replace N3 := N3.kp hk76
       replace N4 := N4.kp hk76
       replace BW := Below.putE BW hk75 g50
       clear hk75 hk76
       rw [← e74]
       clear e74
       clear hHeld
       refine hK.out _ _ (by exact ⟨K4.cs, K18.cs⟩) (fun hHeld => ?_)
       clear hK
       (try simp only [p0, p1, p2, p3])
       refine pR1 17 (fun K hK => ?_)
       obtain ⟨c77, c78, c79, c80⟩ := K57.c4
       obtain ⟨c81, c82, c83, c84⟩ := Z58.f4
       go_simp
       clear c77 c78 c79 c80 c81 c82 c83 c84
       obtain ⟨V85, hk87⟩ : ∃ V85, V85 = V73.setCells (b63) 0 [.bool g4.n, .slice g4.A g4.xs.length g4.c, .bool g4.m, .slice g4.B g4.ds.length g4.d] := ⟨_, rfl⟩
       have e86 := hk87
       simp only [World.setCells, Nat.zero_add, Nat.reduceAdd] at e86
       have hk88 := Kept.overE hk87 K57 rfl (Nat.le_of_ble_eq_true rfl)
       replace K4 := K4.awayE hk87 n59
       replace K18 := K18.awayE hk87 n60
       replace K46 := K46.awayE hk87 n61
       replace K57 := K57.overE hk87 rfl
       replace Z47 := Z47.putE hk87
       replace Z58 := Z58.putE hk87
       replace G := G.kp hk88
       replace LO := LO.kp hk88
       replace N1 := N1.kp hk88
       replace N2 := N2.kp hk88
       replace N3 := N3.kp hk88
       replace N4 := N4.kp hk88
       replace BW := Below.putE BW hk87 g62
       clear hk87 hk88
       rw [← e86]
       clear e86
       clear hHeld
       refine hK.out _ _ (by exact ⟨K4.cs, K18.cs⟩) (fun hHeld => ?_)
       clear hK
       (try simp only [p0, p1, p2, p3])
       refine wpAnyH_done (by kernel_rfl) (NoPanic.normal ?_) _
       go_wp2
       go_meet
       exact ⟨b51, b63, g2, g4, rfl, rfl, BW, K4, K18, G, LO, K46, K57, N2, N4⟩
     ·go_simp
      obtain ⟨V53, e54, hb55, K56, Z57, -⟩ := alloc_new w52 [.bool false, .slice none 0 0, .bool false, .slice none 0 0] 74
      have n58 : w.heap.size ≠ w52.heap.size := Nat.ne_of_lt (K4.lt)
      have n59 : b39 ≠ w52.heap.size := Nat.ne_of_lt (K18.lt)
      have n60 : b51 ≠ w52.heap.size := Nat.ne_of_lt (K46.lt)
      have g61 : w.heap.size ≤ w52.heap.size := BW.size
      replace K4 := K4.on hb55
      replace K18 := K18.on hb55
      replace K46 := K46.on hb55
      replace Z47 := Z47.on hb55
      replace G := G.kp (Kept.of hb55)
      replace LO := LO.kp (Kept.of hb55)
      replace N1 := N1.kp (Kept.of hb55)
      replace N2 := N2.kp (Kept.of hb55)
      replace BW := BW.trans (hb55.mono BW.size)
      clear hb55
      rw [← e54]
      clear e54
      generalize w52.heap.size = b62 at *
      clear hHeld
      refine hK.out _ _ (by exact ⟨K4.cs, K18.cs⟩) (fun hHeld => ?_)
      clear hK
      (try simp only [p0, p1, p2, p3])
      refine pR1 10 (fun K hK => ?_)
      go_simp
      (go_at_call 57; with_reducible refine (q_sub (LO.mono hC2) G.gD hC3).mono ?_)
      rintro _ w63 ⟨g3, rfl, N3, hb⟩
      (try go_wp2_with fail)
      replace K4 := K4.on hb
      replace K18 := K18.on hb
      replace K46 := K46.on hb
      replace K56 := K56.on hb
      replace Z47 := Z47.on hb
      replace Z57 := Z57.on hb
      replace G := G.kp (Kept.of hb)
      replace LO := LO.kp (Kept.of hb)
      replace N1 := N1.kp (Kept.of hb)
      replace N2 := N2.kp (Kept.of hb)
      replace BW := BW.trans (hb.mono BW.size)
      clear hb
      clear hHeld
      refine hK.out _ _ (by exact ⟨K4.cs, K18.cs⟩) (fun hHeld => ?_)
      clear hK
      (try simp only [p0, p1, p2, p3])
      refine pR1 13 (fun K hK => ?_)
      go_simp
      (go_at_call 101; with_reducible refine (q_quo N3 (G.gB.mono hC4) hbn hC5).mono ?_)
      rintro _ w64 ⟨g4, rfl, N4, hb⟩
      (try go_wp2_with fail)
      replace K4 := K4.on hb
      replace K18 := K18.on hb
      replace K46 := K46.on hb
      replace K56 := K56.on hb
      replace Z47 := Z47.on hb
      replace Z57 := Z57.on hb
      replace G := G.kp (Kept.of hb)
      replace LO := LO.kp (Kept.of hb)
      replace N1 := N1.kp (Kept.of hb)
      replace N2 := N2.kp (Kept.of hb)
      replace N3 := N3.kp (Kept.of hb)
      replace BW := BW.trans (hb.mono BW.size)
      clear hb
      clear hHeld
      refine hK.out _ _ (by exact ⟨K4.cs, K18.cs⟩) (fun hHeld => ?_)
      clear hK
      (try simp only [p0, p1, p2, p3])
      refine pR1 16 (fun K hK => ?_)
      obtain ⟨c65, c66, c67, c68⟩ := K46.c4
      obtain ⟨c69, c70, c71, c72⟩ := Z47.f4
      go_simp
      clear c65 c66 c67 c68 c69 c70 c71 c72
      obtain ⟨V73, hk75⟩ : ∃ V73, V73 = w64.setCells (b51) 0 [.bool g2.n, .slice g2.A g2.xs.length g2.c, .bool g2.m, .slice g2.B g2.ds.length g2.d] := ⟨_, rfl⟩
      have e74 := hk75
      simp only [World.setCells, Nat.zero_add, Nat.reduceAdd] at e74
      have hk76 := Kept.overE hk75 K46 rfl (Nat.le_of_ble_eq_true rfl)
      replace K4 := K4.awayE hk75 n48
      replace K18 := K18.awayE hk75 n49
      replace K46 := K46.overE hk75 rfl
      replace K56 := K56.awayE hk75 n60.symm
      replace Z47 := Z47.putE hk75
      replace Z57 := Z57.putE hk75
      replace G := G.kp hk76
      replace LO := LO.kp hk76
      replace N1 := N1.kp hk76
      replace N2 := N2.kp hk76
      replace N3 := N3.kp hk76
      replace N4 := N4.kp hk76
      replace BW := Below.putE BW hk75 g50
      clear hk75 hk76
      rw [← e74]
      clear e74
      clear hHeld
      refine hK.out _ _ (by exact ⟨K4.cs, K18.cs⟩) (fun hHeld => ?_)
      clear hK
      (try simp only [p0, p1, p2, p3])
      refine pR1 17 (fun K hK => ?_)
      obtain ⟨c77, c78, c79, c80⟩ := K56.c4
      obtain ⟨c81, c82, c83, c84⟩ := Z57.f4
      go_simp
      clear c77 c78 c79 c80 c81 c82 c83 c84
      obtain ⟨V85, hk87⟩ : ∃ V85, V85 = V73.setCells (b62) 0 [.bool g4.n, .slice g4.A g4.xs.length g4.c, .bool g4.m, .slice g4.B g4.ds.length g4.d] := ⟨_, rfl⟩
      have e86 := hk87
      simp only [World.setCells, Nat.zero_add, Nat.reduceAdd] at e86
      have hk88 := Kept.overE hk87 K56 rfl (Nat.le_of_ble_eq_true rfl)
      replace K4 := K4.awayE hk87 n58
      replace K18 := K18.awayE hk87 n59
      replace K46 := K46.awayE hk87 n60
      replace K56 := K56.overE hk87 rfl
      replace Z47 := Z47.putE hk87
      replace Z57 := Z57.putE hk87
      replace G := G.kp hk88
      replace LO := LO.kp hk88
      replace N1 := N1.kp hk88
      replace N2 := N2.kp hk88
      replace N3 := N3.kp hk88
      replace N4 := N4.kp hk88
      replace BW := Below.putE BW hk87 g61
      clear hk87 hk88
      rw [← e86]
      clear e86
      clear hHeld
      refine hK.out _ _ (by exact ⟨K4.cs, K18.cs⟩) (fun hHeld => ?_)
      clear hK
      (try simp only [p0, p1, p2, p3])
      refine wpAnyH_done (by kernel_rfl) (NoPanic.normal ?_) _
      go_wp2
      go_meet
      exact ⟨b51, b62, g2, g4, rfl, rfl, BW, K4, K18, G, LO, K46, K56, N2, N4⟩
    ·go_simp
     obtain ⟨V52, e53, hb54, K55, Z56, -⟩ := alloc_new V43 [.bool false, .slice none 0 0, .bool false, .slice none 0 0] 74
     have n57 : w.heap.size ≠ V43.heap.size := Nat.ne_of_lt (K4.lt)
     have n58 : b39 ≠ V43.heap.size := Nat.ne_of_lt (K18.lt)
     have n59 : b51 ≠ V43.heap.size := Nat.ne_of_lt (K46.lt)
     have g60 : w.heap.size ≤ V43.heap.size := BW.size
     replace K4 := K4.on hb54
     replace K18 := K18.on hb54
     replace K46 := K46.on hb54
     replace Z47 := Z47.on hb54
     replace G := G.kp (Kept.of hb54)
     replace LO := LO.kp (Kept.of hb54)
     replace N1 := N1.kp (Kept.of hb54)
     replace BW := BW.trans (hb54.mono BW.size)
     clear hb54
     rw [← e53]
     clear e53
     generalize V43.heap.size = b61 at *
     clear hHeld
     refine hK.out _ _ (by exact ⟨K4.cs, K18.cs⟩) (fun hHeld => ?_)
     clear hK
     (try simp only [p0, p1, p2, p3])
     refine pR1 6 (fun K hK => ?_)
     go_simp
     (go_at_call 101; with_reducible refine (q_quo N1 (G.gB.mono hC4) hbn hC5).mono ?_)
     rintro _ w62 ⟨g2, rfl, N2, hb⟩
     (try go_wp2_with fail)
     replace K4 := K4.on hb
     replace K18 := K18.on hb
     replace K46 := K46.on hb
     replace K55 := K55.on hb
     replace Z47 := Z47.on hb
     replace Z56 := Z56.on hb
     replace G := G.kp (Kept.of hb)
     replace LO := LO.kp (Kept.of hb)
     replace N1 := N1.kp (Kept.of hb)
     replace BW := BW.trans (hb.mono BW.size)
     clear hb
     clear hHeld
     refine hK.out _ _ (by exact ⟨K4.cs, K18.cs⟩) (fun hHeld => ?_)
     clear hK
     (try simp only [p0, p1, p2, p3])
     refine pR1 10 (fun K hK => ?_)
     go_simp
     (go_at_call 57; with_reducible refine (q_sub (LO.mono hC2) G.gD hC3).mono ?_)
     rintro _ w63 ⟨g3, rfl, N3, hb⟩
     (try go_wp2_with fail)
     replace K4 := K4.on hb
     replace K18 := K18.on hb
     replace K46 := K46.on hb
     replace K55 := K55.on hb
     replace Z47 := Z47.on hb
     replace Z56 := Z56.on hb
     replace G := G.kp (Kept.of hb)
     replace LO := LO.kp (Kept.of hb)
     replace N1 := N1.kp (Kept.of hb)
     replace N2 := N2.kp (Kept.of hb)
     replace BW := BW.trans (hb.mono BW.size)
     clear hb
     clear hHeld
     refine hK.out _ _ (by exact ⟨K4.cs, K18.cs⟩) (fun hHeld => ?_)
     clear hK
     (try simp only [p0, p1, p2, p3])
     refine pR1 13 (fun K hK => ?_)
     go_simp
     (go_at_call 101; with_reducible refine (q_quo N3 (G.gB.mono hC4) hbn hC5).mono ?_)
     rintro _ w64 ⟨g4, rfl, N4, hb⟩
     (try go_wp2_with fail)
     replace K4 := K4.on hb
     replace K18 := K18.on hb
     replace K46 := K46.on hb
     replace K55 := K55.on hb
     replace Z47 := Z47.on hb
     replace Z56 := Z56.on hb
     replace G := G.kp (Kept.of hb)
     replace LO := LO.kp (Kept.of hb)
     replace N1 := N1.kp (Kept.of hb)
     replace N2 := N2.kp (Kept.of hb)
     replace N3 := N3.kp (Kept.of hb)
     replace BW := BW.trans (hb.mono BW.size)
     clear hb
     clear hHeld
     refine hK.out _ _ (by exact ⟨K4.cs, K18.cs⟩) (fun hHeld => ?_)
     clear hK
     (try simp only [p0, p1, p2, p3])
     refine pR1 16 (fun K hK => ?_)
     obtain ⟨c65, c66, c67, c68⟩ := K46.c4
     obtain ⟨c69, c70, c71, c72⟩ := Z47.f4
     go_simp
     clear c65 c66 c67 c68 c69 c70 c71 c72
     obtain ⟨V73, hk75⟩ : ∃ V73, V73 = w64.setCells (b51) 0 [.bool g2.n, .slice g2.A g2.xs.length g2.c, .bool g2.m, .slice g2.B g2.ds.length g2.d] := ⟨_, rfl⟩
     have e74 := hk75
     simp only [World.setCells, Nat.zero_add, Nat.reduceAdd] at e74
     have hk76 := Kept.overE hk75 K46 rfl (Nat.le_of_ble_eq_true rfl)
     replace K4 := K4.awayE hk75 n48
     replace K18 := K18.awayE hk75 n49
     replace K46 := K46.overE hk75 rfl
     replace K55 := K55.awayE hk75 n59.symm
     replace Z47 := Z47.putE hk75
     replace Z56 := Z56.putE hk75
     replace G := G.kp hk76
     replace LO := LO.kp hk76
     replace N1 := N1.kp hk76
     replace N2 := N2.kp hk76
     replace N3 := N3.kp hk76
     replace N4 := N4.kp hk76
     replace BW := Below.putE BW hk75 g50
     clear hk75 hk76
     rw [← e74]
     clear e74
     clear hHeld
     refine hK.out _ _ (by exact ⟨K4.cs, K18.cs⟩) (fun hHeld => ?_)
     clear hK
     (try simp only [p0, p1, p2, p3])
     refine pR1 17 (fun K hK => ?_)
     obtain ⟨c77, c78, c79, c80⟩ := K55.c4
     obtain ⟨c81, c82, c83, c84⟩ := Z56.f4
     go_simp
     clear c77 c78 c79 c80 c81 c82 c83 c84
     obtain ⟨V85, hk87⟩ : ∃ V85, V85 = V73.setCells (b61) 0 [.bool g4.n, .slice g4.A g4.xs.length g4.c, .bool g4.m, .slice g4.B g4.ds.length g4.d] := ⟨_, rfl⟩
     have e86 := hk87
     simp only [World.setCells, Nat.zero_add, Nat.reduceAdd] at e86
     have hk88 := Kept.overE hk87 K55 rfl (Nat.le_of_ble_eq_true rfl)
     replace K4 := K4.awayE hk87 n57
     replace K18 := K18.awayE hk87 n58
     replace K46 := K46.awayE hk87 n59
     replace K55 := K55.overE hk87 rfl
     replace Z47 := Z47.putE hk87
     replace Z56 := Z56.putE hk87
     replace G := G.kp hk88
     replace LO := LO.kp hk88
     replace N1 := N1.kp hk88
     replace N2 := N2.kp hk88
     replace N3 := N3.kp hk88
     replace N4 := N4.kp hk88
     replace BW := Below.putE BW hk87 g60
     clear hk87 hk88
     rw [← e86]
     clear e86
     clear hHeld
     refine hK.out _ _ (by exact ⟨K4.cs, K18.cs⟩) (fun hHeld => ?_)
     clear hK
     (try simp only [p0, p1, p2, p3])
     refine wpAnyH_done (by kernel_rfl) (NoPanic.normal ?_) _
     go_wp2
     go_meet
     exact ⟨b51, b61, g2, g4, rfl, rfl, BW, K4, K18, G, LO, K46, K55, N2, N4⟩
   ·go_simp
    obtain ⟨V43, e44, hb45, K46, Z47, -⟩ := alloc_new w42 [.bool false, .slice none 0 0, .bool false, .slice none 0 0] 74
    have n48 : w.heap.size ≠ w42.heap.size := Nat.ne_of_lt (K4.lt)
    have n49 : b39 ≠ w42.heap.size := Nat.ne_of_lt (K18.lt)
    have g50 : w.heap.size ≤ w42.heap.size := BW.size
    replace K4 := K4.on hb45
    replace K18 := K18.on hb45
    replace G := G.kp (Kept.of hb45)
    replace LO := LO.kp (Kept.of hb45)
    replace N1 := N1.kp (Kept.of hb45)
    replace BW := BW.trans (hb45.mono BW.size)
    clear hb45
    rw [← e44]
    clear e44
    generalize w42.heap.size = b51 at *
    clear hHeld
    refine hK.out _ _ (by exact ⟨K4.cs, K18.cs⟩) (fun hHeld => ?_)
    clear hK
    (try simp only [p0, p1, p2, p3])
    refine pR2 6 14 (fun K hK => ?_) (fun K hK => ?_)
    ·go_simp
     (go_at_call 101; with_reducible refine (q_quo N1 (G.gB.mono hC4) hbn hC5).mono ?_)
     rintro _ w52 ⟨g2, rfl, N2, hb⟩
     (try go_wp2_with fail)
     replace K4 := K4.on hb
     replace K18 := K18.on hb
     replace K46 := K46.on hb
     replace Z47 := Z47.on hb
     replace G := G.kp (Kept.of hb)
     replace LO := LO.kp (Kept.of hb)
     replace N1 := N1.kp (Kept.of hb)
     replace BW := BW.trans (hb.mono BW.size)
     clear hb
     clear hHeld
     refine hK.out _ _ (by exact ⟨K4.cs, K18.cs⟩) (fun hHeld => ?_)
     clear hK
     (try simp only [p0, p1, p2, p3])
     refine pR2 10 14 (fun K hK => ?_) (fun K hK => ?_)
     ·go_simp
      (go_at_call 57; with_reducible refine (q_sub (LO.mono hC2) G.gD hC3).mono ?_)
      rintro _ w53 ⟨g3, rfl, N3, hb⟩
      (try go_wp2_with fail)
      replace K4 := K4.on hb
      replace K18 := K18.on hb
      replace K46 := K46.on hb
      replace Z47 := Z47.on hb
      replace G := G.kp (Kept.of hb)
      replace LO := LO.kp (Kept.of hb)
      replace N1 := N1.kp (Kept.of hb)
      replace N2 := N2.kp (Kept.of hb)
      replace BW := BW.trans (hb.mono BW.size)
      clear hb
      clear hHeld
      refine hK.out _ _ (by exact ⟨K4.cs, K18.cs⟩) (fun hHeld => ?_)
      clear hK
      (try simp only [p0, p1, p2, p3])
      refine pR2 13 14 (fun K hK => ?_) (fun K hK => ?_)
      ·go_simp
       (go_at_call 101; with_reducible refine (q_quo N3 (G.gB.mono hC4) hbn hC5).mono ?_)
       rintro _ w54 ⟨g4, rfl, N4, hb⟩
       (try go_wp2_with fail)
       replace K4 := K4.on hb
       replace K18 := K18.on hb
       replace K46 := K46.on hb
       replace Z47 := Z47.on hb
       replace G := G.kp (Kept.of hb)
       replace LO := LO.kp (Kept.of hb)
       replace N1 := N1.kp (Kept.of hb)
       replace N2 := N2.kp (Kept.of hb)
       replace N3 := N3.kp (Kept.of hb)
       replace BW := BW.trans (hb.mono BW.size)
       clear hb
       clear hHeld
       refine hK.out _ _ (by exact ⟨K4.cs, K18.cs⟩) (fun hHeld => ?_)
       clear hK
       (try simp only [p0, p1, p2, p3])
       refine pR1 14 (fun K hK => ?_)
       go_simp
       obtain ⟨V55, e56, hb57, K58, Z59, -⟩ := alloc_new w54 [.bool false, .slice none 0 0, .bool false, .slice none 0 0] 74
       have n60 : w.heap.size ≠ w54.heap.size := Nat.ne_of_lt (K4.lt)
       have n61 : b39 ≠ w54.heap.size := Nat.ne_of_lt (K18.lt)
       have n62 : b51 ≠ w54.heap.size := Nat.ne_of_lt (K46.lt)
       have g63 : w.heap.size ≤ w54.heap.size := BW.size
       replace K4 := K4.on hb57
       replace K18 := K18.on hb57
       replace K46 := K46.on hb57
       replace Z47 := Z47.on hb57
       replace G := G.kp (Kept.of hb57)
       replace LO := LO.kp (Kept.of hb57)
       replace N1 := N1.kp (Kept.of hb57)
       replace N2 := N2.kp (Kept.of hb57)
       replace N3 := N3.kp (Kept.of hb57)
       replace N4 := N4.kp (Kept.of hb57)
       replace BW := BW.trans (hb57.mono BW.size)
       clear hb57
       rw [← e56]
       clear e56
       generalize w54.heap.size = b64 at *
       clear hHeld
       refine hK.out _ _ (by exact ⟨K4.cs, K18.cs⟩) (fun hHeld => ?_)
       clear hK
       (try simp only [p0, p1, p2, p3])
       refine pR1 16 (fun K hK => ?_)
       obtain ⟨c65, c66, c67, c68⟩ := K58.c4
       obtain ⟨c69, c70, c71, c72⟩ := Z59.f4
       go_simp
       clear c65 c66 c67 c68 c69 c70 c71 c72
       obtain ⟨V73, hk75⟩ : ∃ V73, V73 = V55.setCells (b64) 0 [.bool g2.n, .slice g2.A g2.xs.length g2.c, .bool g2.m, .slice g2.B g2.ds.length g2.d] := ⟨_, rfl⟩
       have e74 := hk75
       simp only [World.setCells, Nat.zero_add, Nat.reduceAdd] at e74
       have hk76 := Kept.overE hk75 K58 rfl (Nat.le_of_ble_eq_true rfl)
       replace K4 := K4.awayE hk75 n60
       replace K18 := K18.awayE hk75 n61
       replace K46 := K46.awayE hk75 n62
       replace K58 := K58.overE hk75 rfl
       replace Z47 := Z47.putE hk75
       replace Z59 := Z59.putE hk75
       replace G := G.kp hk76
       replace LO := LO.kp hk76
       replace N1 := N1.kp hk76
       replace N2 := N2.kp hk76
       replace N3 := N3.kp hk76
       replace N4 := N4.kp hk76
       replace BW := Below.putE BW hk75 g63
       clear hk75 hk76
       rw [← e74]
       clear e74
       clear hHeld
       refine hK.out _ _ (by exact ⟨K4.cs, K18.cs⟩) (fun hHeld => ?_)
       clear hK
       (try simp only [p0, p1, p2, p3])
       refine pR1 17 (fun K hK => ?_)
       obtain ⟨c77, c78, c79, c80⟩ := K46.c4
       obtain ⟨c81, c82, c83, c84⟩ := Z47.f4
       go_simp
       clear c77 c78 c79 c80 c81 c82 c83 c84
       obtain ⟨V85, hk87⟩ : ∃ V85, V85 = V73.setCells (b51) 0 [.bool g4.n, .slice g4.A g4.xs.length g4.c, .bool g4.m, .slice g4.B g4.ds.length g4.d] := ⟨_, rfl⟩
       have e86 := hk87
       simp only [World.setCells, Nat.zero_add, Nat.reduceAdd] at e86
       have hk88 := Kept.overE hk87 K46 rfl (Nat.le_of_ble_eq_true rfl)
       replace K4 := K4.awayE hk87 n48
       replace K18 := K18.awayE hk87 n49
       replace K46 := K46.overE hk87 rfl
       replace K58 := K58.awayE hk87 n62.symm
       replace Z47 := Z47.putE hk87
       replace Z59 := Z59.putE hk87
       replace G := G.kp hk88
       replace LO := LO.kp hk88
       replace N1 := N1.kp hk88
       replace N2 := N2.kp hk88
       replace N3 := N3.kp hk88
       replace N4 := N4.kp hk88
       replace BW := Below.putE BW hk87 g50
       clear hk87 hk88
       rw [← e86]
       clear e86
       clear hHeld
       refine hK.out _ _ (by exact ⟨K4.cs, K18.cs⟩) (fun hHeld => ?_)
       clear hK
       (try simp only [p0, p1, p2, p3])
       refine wpAnyH_done (by kernel_rfl) (NoPanic.normal ?_) _
       go_wp2
       go_meet
       exact ⟨b64, b51, g2, g4, rfl, rfl, BW, K4, K18, G, LO, K58, K46, N2, N4⟩
      ·go_simp
       obtain ⟨V54, e55, hb56, K57, Z58, -⟩ := alloc_new w53 [.bool false, .slice none 0 0, .bool false, .slice none 0 0] 74
       have n59 : w.heap.size ≠ w53.heap.size := Nat.ne_of_lt (K4.lt)
       have n60 : b39 ≠ w53.heap.size := Nat.ne_of_lt (K18.lt)
       have n61 : b51 ≠ w53.heap.size := Nat.ne_of_lt (K46.lt)
       have g62 : w.heap.size ≤ w53.heap.size := BW.size
       replace K4 := K4.on hb56
       replace K18 := K18.on hb56
       replace K46 := K46.on hb56
       replace Z47 := Z47.on hb56
       replace G := G.kp (Kept.of hb56)
       replace LO := LO.kp (Kept.of hb56)
       replace N1 := N1.kp (Kept.of hb56)
       replace N2 := N2.kp (Kept.of hb56)
       replace N3 := N3.kp (Kept.of hb56)
       replace BW := BW.trans (hb56.mono BW.size)
       clear hb56
       rw [← e55]
       clear e55
       generalize w53.heap.size = b63 at *
       clear hHeld
       refine hK.out _ _ (by exact ⟨K4.cs, K18.cs⟩) (fun hHeld => ?_)
       clear hK
       (try simp only [p0, p1, p2, p3])
       refine pR1 13 (fun K hK => ?_)
       go_simp
       (go_at_call 101; with_reducible refine (q_quo N3 (G.gB.mono hC4) hbn hC5).mono ?_)
       rintro _ w64 ⟨g4, rfl, N4, hb⟩
       (try go_wp2_with fail)
       replace K4 := K4.on hb
       replace K18 := K18.on hb
       replace K46 := K46.on hb
       replace K57 := K57.on hb
       replace Z47 := Z47.on hb
       replace Z58 := Z58.on hb
       replace G := G.kp (Kept.of hb)
       replace LO := LO.kp (Kept.of hb)
       replace N1 := N1.kp (Kept.of hb)
       replace N2 := N2.kp (Kept.of hb)
       replace N3 := N3.kp (Kept.of hb)
       replace BW := BW.trans (hb.mono BW.size)
       clear hb
       clear hHeld
       refine hK.out _ _ (by exact ⟨K4.cs, K18.cs⟩) (fun hHeld => ?_)
       clear hK
       (try simp only [p0, p1, p2, p3])
       refine pR1 16 (fun K hK => ?_)
       obtain ⟨c65, c66, c67, c68⟩ := K57.c4
       obtain ⟨c69, c70, c71, c72⟩ := Z58.f4
       go_simp
       clear c65 c66 c67 c68 c69 c70 c71 c72
       obtain ⟨V73, hk75⟩ : ∃ V73, V73 = w64.setCells (b63) 0 [.bool g2.n, .slice g2.A g2.xs.length g2.c, .bool g2.m, .slice g2.B g2.ds.length g2.d] := ⟨_, rfl⟩
       have e74 := hk75
       simp only [World.setCells, Nat.zero_add, Nat.reduceAdd] at e74
       have hk76 := Kept.overE hk75 K57 rfl (Nat.le_of_ble_eq_true rfl)
       replace K4 := K4.awayE hk75 n59
       replace K18 := K18.awayE hk75 n60
       replace K46 := K46.awayE hk75 n61
       replace K57 := K57.overE hk75 rfl
       replace Z47 := Z47.putE hk75
       replace Z58 := Z58.putE hk75
       replace G := G.kp hk76
       replace LO := LO.kp hk76
       replace N1 := N1.kp hk76
       replace N2 := N2.kp hk76
       replace N3 := N3.kp hk76
       replace N4 := N4.kp hk76
       replace BW := Below.putE BW hk75 g62
       clear hk75 hk76
       rw [← e74]
       clear e74
       clear hHeld
       refine hK.out _ _ (by exact ⟨K4.cs, K18.cs⟩) (fun hHeld => ?_)
       clear hK
       (try simp only [p0, p1, p2, p3])
       refine pR1 17 (fun K hK => ?_)
       obtain ⟨c77, c78, c79, c80⟩ := K46.c4
       obtain ⟨c81, c82, c83, c84⟩ := Z47.f4
       go_simp
       clear c77 c78 c79 c80 c81 c82 c83 c84
       obtain ⟨V85, hk87⟩ : ∃ V85, V85 = V73.setCells (b51) 0 [.bool g4.n, .slice g4.A g4.xs.length g4.c, .bool g4.m, .slice g4.B g4.ds.length g4.d] := ⟨_, rfl⟩
       have e86 := hk87
       simp only [World.setCells, Nat.zero_add, Nat.reduceAdd] at e86
       have hk88 := Kept.overE hk87 K46 rfl (Nat.le_of_ble_eq_true rfl)
       replace K4 := K4.awayE hk87 n48
       replace K18 := K18.awayE hk87 n49
       replace K46 := K46.overE hk87 rfl
       replace K57 := K57.awayE hk87 n61.symm
       replace Z47 := Z47.putE hk87
       replace Z58 := Z58.putE hk87
       replace G := G.kp hk88
       replace LO := LO.kp hk88
       replace N1 := N1.kp hk88
       replace N2 := N2.kp hk88
       replace N3 := N3.kp hk88
       replace N4 := N4.kp hk88
       replace BW := Below.putE BW hk87 g50
       clear hk87 hk88
       rw [← e86]
       clear e86
       clear hHeld
       refine hK.out _ _ (by exact ⟨K4.cs, K18.cs⟩) (fun hHeld => ?_)
       clear hK
       (try simp only [p0, p1, p2, p3])
       refine wpAnyH_done (by kernel_rfl) (NoPanic.normal ?_) _
       go_wp2
       go_meet
       exact ⟨b63, b51, g2, g4, rfl, rfl, BW, K4, K18, G, LO, K57, K46, N2, N4⟩
     ·go_simp
      obtain ⟨V53, e54, hb55, K56, Z57, -⟩ := alloc_new w52 [.bool false, .slice none 0 0, .bool false, .slice none 0 0] 74
      have n58 : w.heap.size ≠ w52.heap.size := Nat.ne_of_lt (K4.lt)
      have n59 : b39 ≠ w52.heap.size := Nat.ne_of_lt (K18.lt)
      have n60 : b51 ≠ w52.heap.size := Nat.ne_of_lt (K46.lt)
      have g61 : w.heap.size ≤ w52.heap.size := BW.size
      replace K4 := K4.on hb55
      replace K18 := K18.on hb55
      replace K46 := K46.on hb55
      replace Z47 := Z47.on hb55
      replace G := G.kp (Kept.of hb55)
      replace LO := LO.kp (Kept.of hb55)
      replace N1 := N1.kp (Kept.of hb55)
      replace N2 := N2.kp (Kept.of hb55)
      replace BW := BW.trans (hb55.mono BW.size)
      clear hb55
      rw [← e54]
      clear e54
      generalize w52.heap.size = b62 at *
      clear hHeld
      refine hK.out _ _ (by exact ⟨K4.cs, K18.cs⟩) (fun hHeld => ?_)
      clear hK
      (try simp only [p0, p1, p2, p3])
      refine pR1 10 (fun K hK => ?_)
      go_simp
      (go_at_call 57; with_reducible refine (q_sub (LO.mono hC2) G.gD hC3).mono ?_)
      rintro _ w63 ⟨g3, rfl, N3, hb⟩
      (try go_wp2_with fail)
      replace K4 := K4.on hb
      replace K18 := K18.on hb
      replace K46 := K46.on hb
      replace K56 := K56.on hb
      replace Z47 := Z47.on hb
      replace Z57 := Z57.on hb
      replace G := G.kp (Kept.of hb)
      replace LO := LO.kp (Kept.of hb)
      replace N1 := N1.kp (Kept.of hb)
      replace N2 := N2.kp (Kept.of hb)
      replace BW := BW.trans (hb.mono BW.size)
      clear hb
      clear hHeld
      refine hK.out _ _ (by exact ⟨K4.cs, K18.cs⟩) (fun hHeld => ?_)
      clear hK
      (try simp only [p0, p1, p2, p3])
      refine pR1 13 (fun K hK => ?_)
      go_simp
      (go_at_call 101; with_reducible refine (q_quo N3 (G.gB.mono hC4) hbn hC5).mono ?_)
      rintro _ w64 ⟨g4, rfl, N4, hb⟩
      (try go_wp2_with fail)
      replace K4 := K4.on hb
      replace K18 := K18.on hb
      replace K46 := K46.on hb
      replace K56 := K56.on hb
      replace Z47 := Z47.on hb
      replace Z57 := Z57.on hb
      replace G := G.kp (Kept.of hb)
      replace LO := LO.kp (Kept.of hb)
      replace N1 := N1.kp (Kept.of hb)
      replace N2 := N2.kp (Kept.of hb)
      replace N3 := N3.kp (Kept.of hb)
      replace BW := BW.trans (hb.mono BW.size)
      clear hb
      clear hHeld
      refine hK.out _ _ (by exact ⟨K4.cs, K18.cs⟩) (fun hHeld => ?_)
      clear hK
      (try simp only [p0, p1, p2, p3])
      refine pR1 16 (fun K hK => ?_)
      obtain ⟨c65, c66, c67, c68⟩ := K56.c4
      obtain ⟨c69, c70, c71, c72⟩ := Z57.f4
      go_simp
      clear c65 c66 c67 c68 c69 c70 c71 c72
      obtain ⟨V73, hk75⟩ : ∃ V73, V73 = w64.setCells (b62) 0 [.bool g2.n, .slice g2.A g2.xs.length g2.c, .bool g2.m, .slice g2.B g2.ds.length g2.d] := ⟨_, rfl⟩
      have e74 := hk75
      simp only [World.setCells, Nat.zero_add, Nat.reduceAdd] at e74
      have hk76 := Kept.overE hk75 K56 rfl (Nat.le_of_ble_eq_true rfl)
      replace K4 := K4.awayE hk75 n58
      replace K18 := K18.awayE hk75 n59
      replace K46 := K46.awayE hk75 n60
      replace K56 := K56.overE hk75 rfl
      replace Z47 := Z47.putE hk75
      replace Z57 := Z57.putE hk75
      replace G := G.kp hk76
      replace LO := LO.kp hk76
      replace N1 := N1.kp hk76
      replace N2 := N2.kp hk76
      replace N3 := N3.kp hk76
      replace N4 := N4.kp hk76
      replace BW := Below.putE BW hk75 g61
      clear hk75 hk76
      rw [← e74]
      clear e74
      clear hHeld
      refine hK.out _ _ (by exact ⟨K4.cs, K18.cs⟩) (fun hHeld => ?_)
      clear hK
      (try simp only [p0, p1, p2, p3])
      refine pR1 17 (fun K hK => ?_)
      obtain ⟨c77, c78, c79, c80⟩ := K46.c4
      obtain ⟨c81, c82, c83, c84⟩ := Z47.f4
      go_simp
      clear c77 c78 c79 c80 c81 c82 c83 c84
      obtain ⟨V85, hk87⟩ : ∃ V85, V85 = V73.setCells (b51) 0 [.bool g4.n, .slice g4.A g4.xs.length g4.c, .bool g4.m, .slice g4.B g4.ds.length g4.d] := ⟨_, rfl⟩
      have e86 := hk87
      simp only [World.setCells, Nat.zero_add, Nat.reduceAdd] at e86
      have hk88 := Kept.overE hk87 K46 rfl (Nat.le_of_ble_eq_true rfl)
      replace K4 := K4.awayE hk87 n48
      replace K18 := K18.awayE hk87 n49
      replace K46 := K46.overE hk87 rfl
      replace K56 := K56.awayE hk87 n60.symm
      replace Z47 := Z47.putE hk87
      replace Z57 := Z57.putE hk87
      replace G := G.kp hk88
      replace LO := LO.kp hk88
      replace N1 := N1.kp hk88
      replace N2 := N2.kp hk88
      replace N3 := N3.kp hk88
      replace N4 := N4.kp hk88
      replace BW := Below.putE BW hk87 g50
      clear hk87 hk88
      rw [← e86]
      clear e86
      clear hHeld
      refine hK.out _ _ (by exact ⟨K4.cs, K18.cs⟩) (fun hHeld => ?_)
      clear hK
      (try simp only [p0, p1, p2, p3])
      refine wpAnyH_done (by kernel_rfl) (NoPanic.normal ?_) _
      go_wp2
      go_meet
      exact ⟨b62, b51, g2, g4, rfl, rfl, BW, K4, K18, G, LO, K56, K46, N2, N4⟩
    ·go_simp
     obtain ⟨V52, e53, hb54, K55, Z56, -⟩ := alloc_new V43 [.bool false, .slice none 0 0, .bool false, .slice none 0 0] 74
     have n57 : w.heap.size ≠ V43.heap.size := Nat.ne_of_lt (K4.lt)
     have n58 : b39 ≠ V43.heap.size := Nat.ne_of_lt (K18.lt)
     have n59 : b51 ≠ V43.heap.size := Nat.ne_of_lt (K46.lt)
     have g60 : w.heap.size ≤ V43.heap.size := BW.size
     replace K4 := K4.on hb54
     replace K18 := K18.on hb54
     replace K46 := K46.on hb54
     replace Z47 := Z47.on hb54
     replace G := G.kp (Kept.of hb54)
     replace LO := LO.kp (Kept.of hb54)
     replace N1 := N1.kp (Kept.of hb54)
     replace BW := BW.trans (hb54.mono BW.size)
     clear hb54
     rw [← e53]
     clear e53
     generalize V43.heap.size = b61 at *
     clear hHeld
     refine hK.out _ _ (by exact ⟨K4.cs, K18.cs⟩) (fun hHeld => ?_)
     clear hK
     (try simp only [p0, p1, p2, p3])
     refine pR1 6 (fun K hK => ?_)
     go_simp
     (go_at_call 101; with_reducible refine (q_quo N1 (G.gB.mono hC4) hbn hC5).mono ?_)
     rintro _ w62 ⟨g2, rfl, N2, hb⟩
     (try go_wp2_with fail)
     replace K4 := K4.on hb
     replace K18 := K18.on hb
     replace K46 := K46.on hb
     replace K55 := K55.on hb
     replace Z47 := Z47.on hb
     replace Z56 := Z56.on hb
     replace G := G.kp (Kept.of hb)
     replace LO := LO.kp (Kept.of hb)
     replace N1 := N1.kp (Kept.of hb)
     replace BW := BW.trans (hb.mono BW.size)
     clear hb
     clear hHeld
     refine hK.out _ _ (by exact ⟨K4.cs, K18.cs⟩) (fun hHeld => ?_)
     clear hK
     (try simp only [p0, p1, p2, p3])
     refine pR1 10 (fun K hK => ?_)
     go_simp
     (go_at_call 57; with_reducible refine (q_sub (LO.mono hC2) G.gD hC3).mono ?_)
     rintro _ w63 ⟨g3, rfl, N3, hb⟩
     (try go_wp2_with fail)
     replace K4 := K4.on hb
     replace K18 := K18.on hb
     replace K46 := K46.on hb
     replace K55 := K55.on hb
     replace Z47 := Z47.on hb
     replace Z56 := Z56.on hb
     replace G := G.kp (Kept.of hb)
     replace LO := LO.kp (Kept.of hb)
     replace N1 := N1.kp (Kept.of hb)
     replace N2 := N2.kp (Kept.of hb)
     replace BW := BW.trans (hb.mono BW.size)
     clear hb
     clear hHeld
     refine hK.out _ _ (by exact ⟨K4.cs, K18.cs⟩) (fun hHeld => ?_)
     clear hK
     (try simp only [p0, p1, p2, p3])
     refine pR1 13 (fun K hK => ?_)
     go_simp
     (go_at_call 101; with_reducible refine (q_quo N3 (G.gB.mono hC4) hbn hC5).mono ?_)
     rintro _ w64 ⟨g4, rfl, N4, hb⟩
     (try go_wp2_with fail)
     replace K4 := K4.on hb
     replace K18 := K18.on hb
     replace K46 := K46.on hb
     replace K55 := K55.on hb
     replace Z47 := Z47.on hb
     replace Z56 := Z56.on hb
     replace G := G.kp (Kept.of hb)
     replace LO := LO.kp (Kept.of hb)
     replace N1 := N1.kp (Kept.of hb)
     replace N2 := N2.kp (Kept.of hb)
     replace N3 := N3.kp (Kept.of hb)
     replace BW := BW.trans (hb.mono BW.size)
     clear hb
     clear hHeld
     refine hK.out _ _ (by exact ⟨K4.cs, K18.cs⟩) (fun hHeld => ?_)
     clear hK
     (try simp only [p0, p1, p2, p3])
     refine pR1 16 (fun K hK => ?_)
     obtain ⟨c65, c66, c67, c68⟩ := K55.c4
     obtain ⟨c69, c70, c71, c72⟩ := Z56.f4
     go_simp
     clear c65 c66 c67 c68 c69 c70 c71 c72
     obtain ⟨V73, hk75⟩ : ∃ V73, V73 = w64.setCells (b61) 0 [.bool g2.n, .slice g2.A g2.xs.length g2.c, .bool g2.m, .slice g2.B g2.ds.length g2.d] := ⟨_, rfl⟩
     have e74 := hk75
     simp only [World.setCells, Nat.zero_add, Nat.reduceAdd] at e74
     have hk76 := Kept.overE hk75 K55 rfl (Nat.le_of_ble_eq_true rfl)
     replace K4 := K4.awayE hk75 n57
     replace K18 := K18.awayE hk75 n58
     replace K46 := K46.awayE hk75 n59
     replace K55 := K55.overE hk75 rfl
     replace Z47 := Z47.putE hk75
     replace Z56 := Z56.putE hk75
     replace G := G.kp hk76
     replace LO := LO.kp hk76
     replace N1 := N1.kp hk76
     replace N2 := N2.kp hk76
     replace N3 := N3.kp hk76
     replace N4 := N4.kp hk76
     replace BW := Below.putE BW hk75 g60
     clear hk75 hk76
     rw [← e74]
     clear e74
     clear hHeld
     refine hK.out _ _ (by exact ⟨K4.cs, K18.cs⟩) (fun hHeld => ?_)
     clear hK
     (try simp only [p0, p1, p2, p3])
     refine pR1 17 (fun K hK => ?_)
     obtain ⟨c77, c78, c79, c80⟩ := K46.c4
     obtain ⟨c81, c82, c83, c84⟩ := Z47.f4
     go_simp
     clear c77 c78 c79 c80 c81 c82 c83 c84
     obtain ⟨V85, hk87⟩ : ∃ V85, V85 = V73.setCells (b51) 0 [.bool g4.n, .slice g4.A g4.xs.length g4.c, .bool g4.m, .slice g4.B g4.ds.length g4.d] := ⟨_, rfl⟩
     have e86 := hk87
     simp only [World.setCells, Nat.zero_add, Nat.reduceAdd] at e86
     have hk88 := Kept.overE hk87 K46 rfl (Nat.le_of_ble_eq_true rfl)
     replace K4 := K4.awayE hk87 n48
     replace K18 := K18.awayE hk87 n49
     replace K46 := K46.overE hk87 rfl
     replace K55 := K55.awayE hk87 n59.symm
     replace Z56 := Z56.putE hk87
     replace G := G.kp hk88
     replace LO := LO.kp hk88
     replace N1 := N1.kp hk88
     replace N2 := N2.kp hk88
     replace N3 := N3.kp hk88
     replace N4 := N4.kp hk88
     replace BW := Below.putE BW hk87 g50
     clear hk87 hk88
     rw [← e86]
     clear e86
     clear hHeld
     refine hK.out _ _ (by exact ⟨K4.cs, K18.cs⟩) (fun hHeld => ?_)
     clear hK
     (try simp only [p0, p1, p2, p3])
     refine wpAnyH_done (by kernel_rfl) (NoPanic.normal ?_) _
     go_wp2
     go_meet
     exact ⟨b61, b51, g2, g4, rfl, rfl, BW, K4, K18, G, LO, K55, K46, N2, N4⟩
  ·go_simp
   obtain ⟨V42, e43, hb44, K45, Z46, -⟩ := alloc_new Vd41 [.bool false, .slice none 0 0, .bool false, .slice none 0 0] 74
   have n47 : w.heap.size ≠ Vd41.heap.size := Nat.ne_of_lt (K4.lt)
   have n48 : b39 ≠ Vd41.heap.size := Nat.ne_of_lt (K18.lt)
   have g49 : w.heap.size ≤ Vd41.heap.size := BW.size
   replace K4 := K4.on hb44
   replace K18 := K18.on hb44
   replace G := G.kp (Kept.of hb44)
   replace LO := LO.kp (Kept.of hb44)
   replace BW := BW.trans (hb44.mono BW.size)
   clear hb44
   rw [← e43]
   clear e43
   generalize Vd41.heap.size = b50 at *
   clear hHeld
   refine hK.out _ _ (by exact ⟨K4.cs, K18.cs⟩) (fun hHeld => ?_)
   clear hK
   (try simp only [p0, p1, p2, p3])
   refine pR2 3 15 (fun K hK => ?_) (fun K hK => ?_)
   ·go_simp
    (go_at_call 57; with_reducible refine (q_sub (LO.mono hC2) G.gA hC3).mono ?_)
    rintro _ w51 ⟨g1, rfl, N1, hb⟩
    (try go_wp2_with fail)
    replace K4 := K4.on hb
    replace K18 := K18.on hb
    replace K45 := K45.on hb
    replace Z46 := Z46.on hb
    replace G := G.kp (Kept.of hb)
    replace LO := LO.kp (Kept.of hb)
    replace BW := BW.trans (hb.mono BW.size)
    clear hb
    clear hHeld
    refine hK.out _ _ (by exact ⟨K4.cs, K18.cs⟩) (fun hHeld => ?_)
    clear hK
    (try simp only [p0, p1, p2, p3])
    refine pR2 6 15 (fun K hK => ?_) (fun K hK => ?_)
    ·go_simp
     (go_at_call 101; with_reducible refine (q_quo N1 (G.gB.mono hC4) hbn hC5).mono ?_)
     rintro _ w52 ⟨g2, rfl, N2, hb⟩
     (try go_wp2_with fail)
     replace K4 := K4.on hb
     replace K18 := K18.on hb
     replace K45 := K45.on hb
     replace Z46 := Z46.on hb
     replace G := G.kp (Kept.of hb)
     replace LO := LO.kp (Kept.of hb)
     replace N1 := N1.kp (Kept.of hb)
     replace BW := BW.trans (hb.mono BW.size)
     clear hb
     clear hHeld
     refine hK.out _ _ (by exact ⟨K4.cs, K18.cs⟩) (fun hHeld => ?_)
     clear hK
     (try simp only [p0, p1, p2, p3])
     refine pR2 10 15 (fun K hK => ?_) (fun K hK => ?_)
     ·go_simp
      (go_at_call 57; with_reducible refine (q_sub (LO.mono hC2) G.gD hC3).mono ?_)
      rintro _ w53 ⟨g3, rfl, N3, hb⟩
      (try go_wp2_with fail)
      replace K4 := K4.on hb
      replace K18 := K18.on hb
      replace K45 := K45.on hb
      replace Z46 := Z46.on hb
      replace G := G.kp (Kept.of hb)
      replace LO := LO.kp (Kept.of hb)
      replace N1 := N1.kp (Kept.of hb)
      replace N2 := N2.kp (Kept.of hb)
      replace BW := BW.trans (hb.mono BW.size)
      clear hb
      clear hHeld
      refine hK.out _ _ (by exact ⟨K4.cs, K18.cs⟩) (fun hHeld => ?_)
      clear hK
      (try simp only [p0, p1, p2, p3])
      refine pR2 13 15 (fun K hK => ?_) (fun K hK => ?_)
      ·go_simp
       (go_at_call 101; with_reducible refine (q_quo N3 (G.gB.mono hC4) hbn hC5).mono ?_)
       rintro _ w54 ⟨g4, rfl, N4, hb⟩
       (try go_wp2_with fail)
       replace K4 := K4.on hb
       replace K18 := K18.on hb
       replace K45 := K45.on hb
       replace Z46 := Z46.on hb
       replace G := G.kp (Kept.of hb)
       replace LO := LO.kp (Kept.of hb)
       replace N1 := N1.kp (Kept.of hb)
       replace N2 := N2.kp (Kept.of hb)
       replace N3 := N3.kp (Kept.of hb)
       replace BW := BW.trans (hb.mono BW.size)
       clear hb
       clear hHeld
       refine hK.out _ _ (by exact ⟨K4.cs, K18.cs⟩) (fun hHeld => ?_)
       clear hK
       (try simp only [p0, p1, p2, p3])
       refine pR1 15 (fun K hK => ?_)
       go_simp
       obtain ⟨V55, e56, hb57, K58, Z59, -⟩ := alloc_new w54 [.bool false, .slice none 0 0, .bool false, .slice none 0 0] 74
       have n60 : w.heap.size ≠ w54.heap.size := Nat.ne_of_lt (K4.lt)
       have n61 : b39 ≠ w54.heap.size := Nat.ne_of_lt (K18.lt)
       have n62 : b50 ≠ w54.heap.size := Nat.ne_of_lt (K45.lt)
       have g63 : w.heap.size ≤ w54.heap.size := BW.size
       replace K4 := K4.on hb57
       replace K18 := K18.on hb57
       replace K45 := K45.on hb57
       replace Z46 := Z46.on hb57
       replace G := G.kp (Kept.of hb57)
       replace LO := LO.kp (Kept.of hb57)
       replace N1 := N1.kp (Kept.of hb57)
       replace N2 := N2.kp (Kept.of hb57)
       replace N3 := N3.kp (Kept.of hb57)
       replace N4 := N4.kp (Kept.of hb57)
       replace BW := BW.trans (hb57.mono BW.size)
       clear hb57
       rw [← e56]
       clear e56
       generalize w54.heap.size = b64 at *
       clear hHeld
       refine hK.out _ _ (by exact ⟨K4.cs, K18.cs⟩) (fun hHeld => ?_)
       clear hK
       (try simp only [p0, p1, p2, p3])
       refine pR1 16 (fun K hK => ?_)
       obtain ⟨c65, c66, c67, c68⟩ := K45.c4
       obtain ⟨c69, c70, c71, c72⟩ := Z46.f4
       go_simp
       clear c65 c66 c67 c68 c69 c70 c71 c72
       obtain ⟨V73, hk75⟩ : ∃ V73, V73 = V55.setCells (b50) 0 [.bool g2.n, .slice g2.A g2.xs.length g2.c, .bool g2.m, .slice g2.B g2.ds.length g2.d] := ⟨_, rfl⟩
       have e74 := hk75
       simp only [World.setCells, Nat.zero_add, Nat.reduceAdd] at e74
       have hk76 := Kept.overE hk75 K45 rfl (Nat.le_of_ble_eq_true rfl)
       replace K4 := K4.awayE hk75 n47
       replace K18 := K18.awayE hk75 n48
       replace K45 := K45.overE hk75 rfl
       replace K58 := K58.awayE hk75 n62.symm
       replace Z46 := Z46.putE hk75
       replace Z59 := Z59.putE hk75
       replace G := G.kp hk76
       replace LO := LO.kp hk76
       replace N1 := N1.kp hk76
       replace N2 := N2.kp hk76
       replace N3 := N3.kp hk76
       replace N4 := N4.kp hk76
       replace BW := Below.putE BW hk75 g49
       clear hk75 hk76
       rw [← e74]
       clear e74
       clear hHeld
       refine hK.out _ _ (by exact ⟨K4.cs, K18.cs⟩) (fun hHeld => ?_)
       clear hK
       (try simp only [p0, p1, p2, p3])
       refine pR1 17 (fun K hK => ?_)
       obtain ⟨c77, c78, c79, c80⟩ := K58.c4
       obtain ⟨c81, c82, c83, c84⟩ := Z59.f4
       go_simp
       clear c77 c78 c79 c80 c81 c82 c83 c84
       obtain ⟨V85, hk87⟩ : ∃ V85, V85 = V73.setCells (b64) 0 [.bool g4.n, .slice g4.A g4.xs.length g4.c, .bool g4.m, .slice g4.B g4.ds.length g4.d] := ⟨_, rfl⟩
       have e86 := hk87
       simp only [World.setCells, Nat.zero_add, Nat.reduceAdd] at e86
       have hk88 := Kept.overE hk87 K58 rfl (Nat.le_of_ble_eq_true rfl)
       replace K4 := K4.awayE hk87 n60
       replace K18 := K18.awayE hk87 n61
       replace K45 := K45.awayE hk87 n62
       replace K58 := K58.overE hk87 rfl
       replace Z46 := Z46.putE hk87
       replace Z59 := Z59.putE hk87
       replace G := G.kp hk88
       replace LO := LO.kp hk88
       replace N1 := N1.kp hk88
       replace N2 := N2.kp hk88
       replace N3 := N3.kp hk88
       replace N4 := N4.kp hk88
       replace BW := Below.putE BW hk87 g63
       clear hk87 hk88
       rw [← e86]
       clear e86
       clear hHeld
       refine hK.out _ _ (by exact ⟨K4.cs, K18.cs⟩) (fun hHeld => ?_)
       clear hK
       (try simp only [p0, p1, p2, p3])
       refine wpAnyH_done (by kernel_rfl) (NoPanic.normal ?_) _
       go_wp2
       go_meet
       exact ⟨b50, b64, g2, g4, rfl, rfl, BW, K4, K18, G, LO, K45, K58, N2, N4⟩
      ·go_simp
       obtain ⟨V54, e55, hb56, K57, Z58, -⟩ := alloc_new w53 [.bool false, .slice none 0 0, .bool false, .slice none 0 0] 74
       have n59 : w.heap.size ≠ w53.heap.size := Nat.ne_of_lt (K4.lt)
       have n60 : b39 ≠ w53.heap.size := Nat.ne_of_lt (K18.lt)
       have n61 : b50 ≠ w53.heap.size := Nat.ne_of_lt (K45.lt)
       have g62 : w.heap.size ≤ w53.heap.size := BW.size
       replace K4 := K4.on hb56
       replace K18 := K18.on hb56
       replace K45 := K45.on hb56
       replace Z46 := Z46.on hb56
       replace G := G.kp (Kept.of hb56)
       replace LO := LO.kp (Kept.of hb56)
       replace N1 := N1.kp (Kept.of hb56)
       replace N2 := N2.kp (Kept.of hb56)
       replace N3 := N3.kp (Kept.of hb56)
       replace BW := BW.trans (hb56.mono BW.size)
       clear hb56
       rw [← e55]
       clear e55
       generalize w53.heap.size = b63 at *
       clear hHeld
       refine hK.out _ _ (by exact ⟨K4.cs, K18.cs⟩) (fun hHeld => ?_)
       clear hK
       (try simp only [p0, p1, p2, p3])
       refine pR1 13 (fun K hK => ?_)
       go_simp
       (go_at_call 101; with_reducible refine (q_quo N3 (G.gB.mono hC4) hbn hC5).mono ?_)
       rintro _ w64 ⟨g4, rfl, N4, hb⟩
       (try go_wp2_with fail)
       replace K4 := K4.on hb
       replace K18 := K18.on hb
       replace K45 := K45.on hb
       replace K57 := K57.on hb
       replace Z46 := Z46.on hb
       replace Z58 := Z58.on hb
       replace G := G.kp (Kept.of hb)
       replace LO := LO.kp (Kept.of hb)
       replace N1 := N1.kp (Kept.of hb)
       replace N2 := N2.kp (Kept.of hb)
       replace N3 := N3.kp (Kept.of hb)
       replace BW := BW.trans (hb.mono BW.size)
       clear hb
       clear hHeld
       refine hK.out _ _ (by exact ⟨K4.cs, K18.cs⟩) (fun hHeld => ?_)
       clear hK
       (try simp only [p0, p1, p2, p3])
       refine pR1 16 (fun K hK => ?_)
       obtain ⟨c65, c66, c67, c68⟩ := K45.c4
       obtain ⟨c69, c70, c71, c72⟩ := Z46.f4
       go_simp
       clear c65 c66 c67 c68 c69 c70 c71 c72
       obtain ⟨V73, hk75⟩ : ∃ V73, V73 = w64.setCells (b50) 0 [.bool g2.n, .slice g2.A g2.xs.length g2.c, .bool g2.m, .slice g2.B g2.ds.length g2.d] := ⟨_, rfl⟩
       have e74 := hk75
       simp only [World.setCells, Nat.zero_add, Nat.reduceAdd] at e74
       have hk76 := Kept.overE hk75 K45 rfl (Nat.le_of_ble_eq_true rfl)
       replace K4 := K4.awayE hk75 n47
       replace K18 := K18.awayE hk75 n48
       replace K45 := K45.overE hk75 rfl
       replace K57 := K57.awayE hk75 n61.symm
       replace Z46 := Z46.putE hk75
       replace Z58 := Z58.putE hk75
       replace G := G.kp hk76
       replace LO := LO.kp hk76
       replace N1 := N1.kp hk76
       replace N2 := N2.kp hk76
       replace N3 := N3.kp hk76
       replace N4 := N4.kp hk76
       replace BW := Below.putE BW hk75 g49
       clear hk75 hk76
       rw [← e74]
       clear e74
       clear hHeld
       refine hK.out _ _ (by exact ⟨K4.cs, K18.cs⟩) (fun hHeld => ?_)
       clear hK
       (try simp only [p0, p1, p2, p3])
       refine pR1 17 (fun K hK => ?_)
       obtain ⟨c77, c78, c79, c80⟩ := K57.c4
       obtain ⟨c81, c82, c83, c84⟩ := Z58.f4
       go_simp
       clear c77 c78 c79 c80 c81 c82 c83 c84
       obtain ⟨V85, hk87⟩ : ∃ V85, V85 = V73.setCells (b63) 0 [.bool g4.n, .slice g4.A g4.xs.length g4.c, .bool g4.m, .slice g4.B g4.ds.length g4.d] := ⟨_, rfl⟩
       have e86 := hk87
       simp only [World.setCells, Nat.zero_add, Nat.reduceAdd] at e86
       have hk88 := Kept.overE hk87 K57 rfl (Nat.le_of_ble_eq_true rfl)
       replace K4 := K4.awayE hk87 n59
       replace K18 := K18.awayE hk87 n60
       replace K45 := K45.awayE hk87 n61
       replace K57 := K57.overE hk87 rfl
       replace Z46 := Z46.putE hk87
       replace Z58 := Z58.putE hk87
       replace G := G.kp hk88
       replace LO := LO.kp hk88
       replace N1 := N1.kp hk88
       replace N2 := N2.kp hk88
       replace N3 := N3.kp hk88
       replace N4 := N4.kp hk88
       replace BW := Below.putE BW hk87 g62
       clear hk87 hk88
       rw [← e86]
       clear e86
       clear hHeld
       refine hK.out _ _ (by exact ⟨K4.cs, K18.cs⟩) (fun hHeld => ?_)
       clear hK
       (try simp only [p0, p1, p2, p3])
       refine wpAnyH_done (by kernel_rfl) (NoPanic.normal ?_) _
       go_wp2
       go_meet
       exact ⟨b50, b63, g2, g4, rfl, rfl, BW, K4, K18, G, LO, K45, K57, N2, N4⟩
     ·go_simp
      obtain ⟨V53, e54, hb55, K56, Z57, -⟩ := alloc_new w52 [.bool false, .slice none 0 0, .bool false, .slice none 0 0] 74
      have n58 : w.heap.size ≠ w52.heap.size := Nat.ne_of_lt (K4.lt)
      have n59 : b39 ≠ w52.heap.size := Nat.ne_of_lt (K18.lt)
      have n60 : b50 ≠ w52.heap.size := Nat.ne_of_lt (K45.lt)
      have g61 : w.heap.size ≤ w52.heap.size := BW.size
      replace K4 := K4.on hb55
      replace K18 := K18.on hb55
      replace K45 := K45.on hb55
      replace Z46 := Z46.on hb55
      replace G := G.kp (Kept.of hb55)
      replace LO := LO.kp (Kept.of hb55)
      replace N1 := N1.kp (Kept.of hb55)
      replace N2 := N2.kp (Kept.of hb55)
      replace BW := BW.trans (hb55.mono BW.size)
      clear hb55
      rw [← e54]
      clear e54
      generalize w52.heap.size = b62 at *
      clear hHeld
      refine hK.out _ _ (by exact ⟨K4.cs, K18.cs⟩) (fun hHeld => ?_)
      clear hK
      (try simp only [p0, p1, p2, p3])
      refine pR1 10 (fun K hK => ?_)
      go_simp
      (go_at_call 57; with_reducible refine (q_sub (LO.mono hC2) G.gD hC3).mono ?_)
      rintro _ w63 ⟨g3, rfl, N3, hb⟩
      (try go_wp2_with fail)
      replace K4 := K4.on hb
      replace K18 := K18.on hb
      replace K45 := K45.on hb
      replace K56 := K56.on hb
      replace Z46 := Z46.on hb
      replace Z57 := Z57.on hb
      replace G := G.kp (Kept.of hb)
      replace LO := LO.kp (Kept.of hb)
      replace N1 := N1.kp (Kept.of hb)
      replace N2 := N2.kp (Kept.of hb)
      replace BW := BW.trans (hb.mono BW.size)
      clear hb
      clear hHeld
      refine hK.out _ _ (by exact ⟨K4.cs, K18.cs⟩) (fun hHeld => ?_)
      clear hK
      (try simp only [p0, p1, p2, p3])
      refine pR1 13 (fun K hK => ?_)
      go_simp
      (go_at_call 101; with_reducible refine (q_quo N3 (G.gB.mono hC4) hbn hC5).mono ?_)
      rintro _ w64 ⟨g4, rfl, N4, hb⟩
      (try go_wp2_with fail)
      replace K4 := K4.on hb
      replace K18 := K18.on hb
      replace K45 := K45.on hb
      replace K56 := K56.on hb
      replace Z46 := Z46.on hb
      replace Z57 := Z57.on hb
      replace G := G.kp (Kept.of hb)
      replace LO := LO.kp (Kept.of hb)
      replace N1 := N1.kp (Kept.of hb)
      replace N2 := N2.kp (Kept.of hb)
      replace N3 := N3.kp (Kept.of hb)
      replace BW := BW.trans (hb.mono BW.size)
      clear hb
      clear hHeld
      refine hK.out _ _ (by exact ⟨K4.cs, K18.cs⟩) (fun hHeld => ?_)
      clear hK
      (try simp only [p0, p1, p2, p3])
      refine pR1 16 (fun K hK => ?_)
      obtain ⟨c65, c66, c67, c68⟩ := K45.c4
      obtain ⟨c69, c70, c71, c72⟩ := Z46.f4
      go_simp
      clear c65 c66 c67 c68 c69 c70 c71 c72
      obtain ⟨V73, hk75⟩ : ∃ V73, V73 = w64.setCells (b50) 0 [.bool g2.n, .slice g2.A g2.xs.length g2.c, .bool g2.m, .slice g2.B g2.ds.length g2.d] := ⟨_, rfl⟩
      have e74 := hk75
      simp only [World.setCells, Nat.zero_add, Nat.reduceAdd] at e74
      have hk76 := Kept.overE hk75 K45 rfl (Nat.le_of_ble_eq_true rfl)
      replace K4 := K4.awayE hk75 n47
      replace K18 := K18.awayE hk75 n48
      replace K45 := K45.overE hk75 rfl
      replace K56 := K56.awayE hk75 n60.symm
      replace Z46 := Z46.putE hk75
      replace Z57 := Z57.putE hk75
      replace G := G.kp hk76
      replace LO := LO.kp hk76
      replace N1 := N1.kp hk76
      replace N2 := N2.kp hk76
      replace N3 := N3.kp hk76
      replace N4 := N4.kp hk76
      replace BW := Below.putE BW hk75 g49
      clear hk75 hk76
      rw [← e74]
      clear e74
      clear hHeld
      refine hK.out _ _ (by exact ⟨K4.cs, K18.cs⟩) (fun hHeld => ?_)
      clear hK
      (try simp only [p0, p1, p2, p3])
      refine pR1 17 (fun K hK => ?_)
      obtain ⟨c77, c78, c79, c80⟩ := K56.c4
      obtain ⟨c81, c82, c83, c84⟩ := Z57.f4
      go_simp
      clear c77 c78 c79 c80 c81 c82 c83 c84
      obtain ⟨V85, hk87⟩ : ∃ V85, V85 = V73.setCells (b62) 0 [.bool g4.n, .slice g4.A g4.xs.length g4.c, .bool g4.m, .slice g4.B g4.ds.length g4.d] := ⟨_, rfl⟩
      have e86 := hk87
      simp only [World.setCells, Nat.zero_add, Nat.reduceAdd] at e86
      have hk88 := Kept.overE hk87 K56 rfl (Nat.le_of_ble_eq_true rfl)
      replace K4 := K4.awayE hk87 n58
      replace K18 := K18.awayE hk87 n59
      replace K45 := K45.awayE hk87 n60
      replace K56 := K56.overE hk87 rfl
      replace Z46 := Z46.putE hk87
      replace Z57 := Z57.putE hk87
      replace G := G.kp hk88
      replace LO := LO.kp hk88
      replace N1 := N1.kp hk88
      replace N2 := N2.kp hk88
      replace N3 := N3.kp hk88
      replace N4 := N4.kp hk88
      replace BW := Below.putE BW hk87 g61
      clear hk87 hk88
      rw [← e86]
      clear e86
      clear hHeld
      refine hK.out _ _ (by exact ⟨K4.cs, K18.cs⟩) (fun hHeld => ?_)
      clear hK
      (try simp only [p0, p1, p2, p3])
      refine wpAnyH_done (by kernel_rfl) (NoPanic.normal ?_) _
      go_wp2
      go_meet
      exact ⟨b50, b62, g2, g4, rfl, rfl, BW, K4, K18, G, LO, K45, K56, N2, N4⟩
    ·go_simp
     obtain ⟨V52, e53, hb54, K55, Z56, -⟩ := alloc_new w51 [.bool false, .slice none 0 0, .bool false, .slice none 0 0] 74
     have n57 : w.heap.size ≠ w51.heap.size := Nat.ne_of_lt (K4.lt)
     have n58 : b39 ≠ w51.heap.size := Nat.ne_of_lt (K18.lt)
     have n59 : b50 ≠ w51.heap.size := Nat.ne_of_lt (K45.lt)
     have g60 : w.heap.size ≤ w51.heap.size := BW.size
     replace K4 := K4.on hb54
     replace K18 := K18.on hb54
     replace K45 := K45.on hb54
     replace Z46 := Z46.on hb54
     replace G := G.kp (Kept.of hb54)
     replace LO := LO.kp (Kept.of hb54)
     replace N1 := N1.kp (Kept.of hb54)
     replace BW := BW.trans (hb54.mono BW.size)
     clear hb54
     rw [← e53]
     clear e53
     generalize w51.heap.size = b61 at *
     clear hHeld
     refine hK.out _ _ (by exact ⟨K4.cs, K18.cs⟩) (fun hHeld => ?_)
     clear hK
     (try simp only [p0, p1, p2, p3])
     refine pR1 6 (fun K hK => ?_)
     go_simp
     (go_at_call 101; with_reducible refine (q_quo N1 (G.gB.mono hC4) hbn hC5).mono ?_)
     rintro _ w62 ⟨g2, rfl, N2, hb⟩
     (try go_wp2_with fail)
     replace K4 := K4.on hb
     replace K18 := K18.on hb
     replace K45 := K45.on hb
     replace K55 := K55.on hb
     replace Z46 := Z46.on hb
     replace Z56 := Z56.on hb
     replace G := G.kp (Kept.of hb)
     replace LO := LO.kp (Kept.of hb)
     replace N1 := N1.kp (Kept.of hb)
     replace BW := BW.trans (hb.mono BW.size)
     clear hb
     clear hHeld
     refine hK.out _ _ (by exact ⟨K4.cs, K18.cs⟩) (fun hHeld => ?_)
     clear hK
     (try simp only [p0, p1, p2, p3])
     refine pR1 10 (fun K hK => ?_)
     go_simp
     (go_at_call 57; with_reducible refine (q_sub (LO.mono hC2) G.gD hC3).mono ?_)
     rintro _ w63 ⟨g3, rfl, N3, hb⟩
     (try go_wp2_with fail)
     replace K4 := K4.on hb
     replace K18 := K18.on hb
     replace K45 := K45.on hb
     replace K55 := K55.on hb
     replace Z46 := Z46.on hb
     replace Z56 := Z56.on hb
     replace G := G.kp (Kept.of hb)
     replace LO := LO.kp (Kept.of hb)
     replace N1 := N1.kp (Kept.of hb)
     replace N2 := N2.kp (Kept.of hb)
     replace BW := BW.trans (hb.mono BW.size)
     clear hb
     clear hHeld
     refine hK.out _ _ (by exact ⟨K4.cs, K18.cs⟩) (fun hHeld => ?_)
     clear hK
     (try simp only [p0, p1, p2, p3])
     refine pR1 13 (fun K hK => ?_)
     go_simp
     (go_at_call 101; with_reducible refine (q_quo N3 (G.gB.mono hC4) hbn hC5).mono ?_)
     rintro _ w64 ⟨g4, rfl, N4, hb⟩
     (try go_wp2_with fail)
     replace K4 := K4.on hb
     replace K18 := K18.on hb
     replace K45 := K45.on hb
     replace K55 := K55.on hb
     replace Z46 := Z46.on hb
     replace Z56 := Z56.on hb
     replace G := G.kp (Kept.of hb)
     replace LO := LO.kp (Kept.of hb)
     replace N1 := N1.kp (Kept.of hb)
     replace N2 := N2.kp (Kept.of hb)
     replace N3 := N3.kp (Kept.of hb)
     replace BW := BW.trans (hb.mono BW.size)
     clear hb
     clear hHeld
     refine hK.out _ _ (by exact ⟨K4.cs, K18.cs⟩) (fun hHeld => ?_)
     clear hK
     (try simp only [p0, p1, p2, p3])
     refine pR1 16 (fun K hK => ?_)
     obtain ⟨c65, c66, c67, c68⟩ := K45.c4
     obtain ⟨c69, c70, c71, c72⟩ := Z46.f4
     go_simp
     clear c65 c66 c67 c68 c69 c70 c71 c72
     obtain ⟨V73, hk75⟩ : ∃ V73, V73 = w64.setCells (b50) 0 [.bool g2.n, .slice g2.A g2.xs.length g2.c, .bool g2.m, .slice g2.B g2.ds.length g2.d] := ⟨_, rfl⟩
     have e74 := hk75
     simp only [World.setCells, Nat.zero_add, Nat.reduceAdd] at e74
     have hk76 := Kept.overE hk75 K45 rfl (Nat.le_of_ble_eq_true rfl)
     replace K4 := K4.awayE hk75 n47
     replace K18 := K18.awayE hk75 n48
     replace K45 := K45.overE hk75 rfl
     replace K55 := K55.awayE hk75 n59.symm
     replace Z46 := Z46.putE hk75
     replace Z56 := Z56.putE hk75
     replace G := G.kp hk76
     replace LO := LO.kp hk76
     replace N1 := N1.kp hk76
     replace N2 := N2.kp hk76
     replace N3 := N3.kp hk76
     replace N4 := N4.kp hk76
     replace BW := Below.putE BW hk75 g49
     clear hk75 hk76
     rw [← e74]
     clear e74
     clear hHeld
     refine hK.out _ _ (by exact ⟨K4.cs, K18.cs⟩) (fun hHeld => ?_)
     clear hK
     (try simp only [p0, p1, p2, p3])
     refine pR1 17 (fun K hK => ?_)
     obtain ⟨c77, c78, c79, c80⟩ := K55.c4
     obtain ⟨c81, c82, c83, c84⟩ := Z56.f4
     go_simp
     clear c77 c78 c79 c80 c81 c82 c83 c84
     obtain ⟨V85, hk87⟩ : ∃ V85, V85 = V73.setCells (b61) 0 [.bool g4.n, .slice g4.A g4.xs.length g4.c, .bool g4.m, .slice g4.B g4.ds.length g4.d] := ⟨_, rfl⟩
     have e86 := hk87
     simp only [World.setCells, Nat.zero_add, Nat.reduceAdd] at e86
     have hk88 := Kept.overE hk87 K55 rfl (Nat.le_of_ble_eq_true rfl)
     replace K4 := K4.awayE hk87 n57
     replace K18 := K18.awayE hk87 n58
     replace K45 := K45.awayE hk87 n59
     replace K55 := K55.overE hk87 rfl
     replace Z46 := Z46.putE hk87
     replace Z56 := Z56.putE hk87
     replace G := G.kp hk88
     replace LO := LO.kp hk88
     replace N1 := N1.kp hk88
     replace N2 := N2.kp hk88
     replace N3 := N3.kp hk88
     replace N4 := N4.kp hk88
     replace BW := Below.putE BW hk87 g60
     clear hk87 hk88
     rw [← e86]
     clear e86
     clear hHeld
     refine hK.out _ _ (by exact ⟨K4.cs, K18.cs⟩) (fun hHeld => ?_)
     clear hK
     (try simp only [p0, p1, p2, p3])
     refine wpAnyH_done (by kernel_rfl) (NoPanic.normal ?_) _
     go_wp2
     go_meet
     exact ⟨b50, b61, g2, g4, rfl, rfl, BW, K4, K18, G, LO, K45, K55, N2, N4⟩
   ·go_simp
    obtain ⟨V51, e52, hb53, K54, Z55, -⟩ := alloc_new V42 [.bool false, .slice none 0 0, .bool false, .slice none 0 0] 74
    have n56 : w.heap.size ≠ V42.heap.size := Nat.ne_of_lt (K4.lt)
    have n57 : b39 ≠ V42.heap.size := Nat.ne_of_lt (K18.lt)
    have n58 : b50 ≠ V42.heap.size := Nat.ne_of_lt (K45.lt)
    have g59 : w.heap.size ≤ V42.heap.size := BW.size
    replace K4 := K4.on hb53
    replace K18 := K18.on hb53
    replace K45 := K45.on hb53
    replace Z46 := Z46.on hb53
    replace G := G.kp (Kept.of hb53)
    replace LO := LO.kp (Kept.of hb53)
    replace BW := BW.trans (hb53.mono BW.size)
    clear hb53
    rw [← e52]
    clear e52
    generalize V42.heap.size = b60 at *
    clear hHeld
    refine hK.out _ _ (by exact ⟨K4.cs, K18.cs⟩) (fun hHeld => ?_)
    clear hK
    (try simp only [p0, p1, p2, p3])
    refine pR1 3 (fun K hK => ?_)
    go_simp
    (go_at_call 57; with_reducible refine (q_sub (LO.mono hC2) G.gA hC3).mono ?_)
    rintro _ w61 ⟨g1, rfl, N1, hb⟩
    (try go_wp2_with fail)
    replace K4 := K4.on hb
    replace K18 := K18.on hb
    replace K45 := K45.on hb
    replace K54 := K54.on hb
    replace Z46 := Z46.on hb
    replace Z55 := Z55.on hb
    replace G := G.kp (Kept.of hb)
    replace LO := LO.kp (Kept.of hb)
    replace BW := BW.trans (hb.mono BW.size)
    clear hb
    clear hHeld
    refine hK.out _ _ (by exact ⟨K4.cs, K18.cs⟩) (fun hHeld => ?_)
    clear hK
    (try simp only [p0, p1, p2, p3])
    refine pR1 6 (fun K hK => ?_)
    go_simp
    (go_at_call 101; with_reducible refine (q_quo N1 (G.gB.mono hC4) hbn hC5).mono ?_)
    rintro _ w62 ⟨g2, rfl, N2, hb⟩
    (try go_wp2_with fail)
    replace K4 := K4.on hb
    replace K18 := K18.on hb
    replace K45 := K45.on hb
    replace K54 := K54.on hb
    replace Z46 := Z46.on hb
    replace Z55 := Z55.on hb
    replace G := G.kp (Kept.of hb)
    replace LO := LO.kp (Kept.of hb)
    replace N1 := N1.kp (Kept.of hb)
    replace BW := BW.trans (hb.mono BW.size)
    clear hb
    clear hHeld
    refine hK.out _ _ (by exact ⟨K4.cs, K18.cs⟩) (fun hHeld => ?_)
    clear hK
    (try simp only [p0, p1, p2, p3])
    refine pR1 10 (fun K hK => ?_)
    go_simp
    (go_at_call 57; with_reducible refine (q_sub (LO.mono hC2) G.gD hC3).mono ?_)
    rintro _ w63 ⟨g3, rfl, N3, hb⟩
    (try go_wp2_with fail)
    replace K4 := K4.on hb
    replace K18 := K18.on hb
    replace K45 := K45.on hb
    replace K54 := K54.on hb
    replace Z46 := Z46.on hb
    replace Z55 := Z55.on hb
    replace G := G.kp (Kept.of hb)
    replace LO := LO.kp (Kept.of hb)
    replace N1 := N1.kp (Kept.of hb)
    replace N2 := N2.kp (Kept.of hb)
    replace BW := BW.trans (hb.mono BW.size)
    clear hb
    clear hHeld
    refine hK.out _ _ (by exact ⟨K4.cs, K18.cs⟩) (fun hHeld => ?_)
    clear hK
    (try simp only [p0, p1, p2, p3])
    refine pR1 13 (fun K hK => ?_)
    go_simp
    (go_at_call 101; with_reducible refine (q_quo N3 (G.gB.mono hC4) hbn hC5).mono ?_)
    rintro _ w64 ⟨g4, rfl, N4, hb⟩
    (try go_wp2_with fail)
    replace K4 := K4.on hb
    replace K18 := K18.on hb
    replace K45 := K45.on hb
    replace K54 := K54.on hb
    replace Z46 := Z46.on hb
    replace Z55 := Z55.on hb
    replace G := G.kp (Kept.of hb)
    replace LO := LO.kp (Kept.of hb)
    replace N1 := N1.kp (Kept.of hb)
    replace N2 := N2.kp (Kept.of hb)
    replace N3 := N3.kp (Kept.of hb)
    replace BW := BW.trans (hb.mono BW.size)
    clear hb
    clear hHeld
    refine hK.out _ _ (by exact ⟨K4.cs, K18.cs⟩) (fun hHeld => ?_)
    clear hK
    (try simp only [p0, p1, p2, p3])
    refine pR1 16 (fun K hK => ?_)
    obtain ⟨c65, c66, c67, c68⟩ := K45.c4
    obtain ⟨c69, c70, c71, c72⟩ := Z46.f4
    go_simp
    clear c65 c66 c67 c68 c69 c70 c71 c72
    obtain ⟨V73, hk75⟩ : ∃ V73, V73 = w64.setCells (b50) 0 [.bool g2.n, .slice g2.A g2.xs.length g2.c, .bool g2.m, .slice g2.B g2.ds.length g2.d] := ⟨_, rfl⟩
    have e74 := hk75
    simp only [World.setCells, Nat.zero_add, Nat.reduceAdd] at e74
    have hk76 := Kept.overE hk75 K45 rfl (Nat.le_of_ble_eq_true rfl)
    replace K4 := K4.awayE hk75 n47
    replace K18 := K18.awayE hk75 n48
    replace K45 := K45.overE hk75 rfl
    replace K54 := K54.awayE hk75 n58.symm
    replace Z46 := Z46.putE hk75
    replace Z55 := Z55.putE hk75
    replace G := G.kp hk76
    replace LO := LO.kp hk76
    replace N1 := N1.kp hk76
    replace N2 := N2.kp hk76
    replace N3 := N3.kp hk76
    replace N4 := N4.kp hk76
    replace BW := Below.putE BW hk75 g49
    clear hk75 hk76
    rw [← e74]
    clear e74
    clear hHeld
    refine hK.out _ _ (by exact ⟨K4.cs, K18.cs⟩) (fun hHeld => ?_)
    clear hK
    (try simp only [p0, p1, p2, p3])
    refine pR1 17 (fun K hK => ?_)
    obtain ⟨c77, c78, c79, c80⟩ := K54.c4
    obtain ⟨c81, c82, c83, c84⟩ := Z55.f4
    go_simp
    clear c77 c78 c79 c80 c81 c82 c83 c84
    obtain ⟨V85, hk87⟩ : ∃ V85, V85 = V73.setCells (b60) 0 [.bool g4.n, .slice g4.A g4.xs.length g4.c, .bool g4.m, .slice g4.B g4.ds.length g4.d] := ⟨_, rfl⟩
    have e86 := hk87
    simp only [World.setCells, Nat.zero_add, Nat.reduceAdd] at e86
    have hk88 := Kept.overE hk87 K54 rfl (Nat.le_of_ble_eq_true rfl)
    replace K4 := K4.awayE hk87 n56
    replace K18 := K18.awayE hk87 n57
    replace K45 := K45.awayE hk87 n58
    replace K54 := K54.overE hk87 rfl
    replace Z46 := Z46.putE hk87
    replace Z55 := Z55.putE hk87
    replace G := G.kp hk88
    replace LO := LO.kp hk88
    replace N1 := N1.kp hk88
    replace N2 := N2.kp hk88
    replace N3 := N3.kp hk88
    replace N4 := N4.kp hk88
    replace BW := Below.putE BW hk87 g59
    clear hk87 hk88
    rw [← e86]
    clear e86
    clear hHeld
    refine hK.out _ _ (by exact ⟨K4.cs, K18.cs⟩) (fun hHeld => ?_)
    clear hK
    (try simp only [p0, p1, p2, p3])
    refine wpAnyH_done (by kernel_rfl) (NoPanic.normal ?_) _
    go_wp2
    go_meet
    exact ⟨b50, b60, g2, g4, rfl, rfl, BW, K4, K18, G, LO, K45, K54, N2, N4⟩
  ·go_simp
   obtain ⟨V42, e43, hb44, K45, Z46, -⟩ := alloc_new Vd41 [.bool false, .slice none 0 0, .bool false, .slice none 0 0] 74
   have n47 : w.heap.size ≠ Vd41.heap.size := Nat.ne_of_lt (K4.lt)
   have n48 : b39 ≠ Vd41.heap.size := Nat.ne_of_lt (K18.lt)
   have g49 : w.heap.size ≤ Vd41.heap.size := BW.size
   replace K4 := K4.on hb44
   replace K18 := K18.on hb44
   replace G := G.kp (Kept.of hb44)
   replace LO := LO.kp (Kept.of hb44)
   replace BW := BW.trans (hb44.mono BW.size)
   clear hb44
   rw [← e43]
   clear e43
   generalize Vd41.heap.size = b50 at *
   clear hHeld
   refine hK.out _ _ (by exact ⟨K4.cs, K18.cs⟩) (fun hHeld => ?_)
   clear hK
   (try simp only [p0, p1, p2, p3])
   refine pR2 3 14 (fun K hK => ?_) (fun K hK => ?_)
   ·go_simp
    (go_at_call 57; with_reducible refine (q_sub (LO.mono hC2) G.gA hC3).mono ?_)
    rintro _ w51 ⟨g1, rfl, N1, hb⟩
    (try go_wp2_with fail)
    replace K4 := K4.on hb
    replace K18 := K18.on hb
    replace K45 := K45.on hb
    replace Z46 := Z46.on hb
    replace G := G.kp (Kept.of hb)
    replace LO := LO.kp (Kept.of hb)
    replace BW := BW.trans (hb.mono BW.size)
    clear hb
    clear hHeld
    refine hK.out _ _ (by exact ⟨K4.cs, K18.cs⟩) (fun hHeld => ?_)
    clear hK
    (try simp only [p0, p1, p2, p3])
    refine pR2 6 14 (fun K hK => ?_) (fun K hK => ?_)
    ·go_simp
     (go_at_call 101; with_reducible refine (q_quo N1 (G.gB.mono hC4) hbn hC5).mono ?_)
     rintro _ w52 ⟨g2, rfl, N2, hb⟩
     (try go_wp2_with fail)
     replace K4 := K4.on hb
     replace K18 := K18.on hb
     replace K45 := K45.on hb
     replace Z46 := Z46.on hb
     replace G := G.kp (Kept.of hb)
     replace LO := LO.kp (Kept.of hb)
     replace N1 := N1.kp (Kept.of hb)
     replace BW := BW.trans (hb.mono BW.size)
     clear hb
     clear hHeld
     refine hK.out _ _ (by exact ⟨K4.cs, K18.cs⟩) (fun hHeld => ?_)
     clear hK
     (try simp only [p0, p1, p2, p3])
     refine pR2 10 14 (fun K hK => ?_) (fun K hK => ?_)
     ·go_simp
      (go_at_call 57; with_reducible refine (q_sub (LO.mono hC2) G.gD hC3).mono ?_)
      rintro _ w53 ⟨g3, rfl, N3, hb⟩
      (try go_wp2_with fail)
      replace K4 := K4.on hb
      replace K18 := K18.on hb
      replace K45 := K45.on hb
      replace Z46 := Z46.on hb
      replace G := G.kp (Kept.of hb)
      replace LO := LO.kp (Kept.of hb)
      replace N1 := N1.kp (Kept.of hb)
      replace N2 := N2.kp (Kept.of hb)
      replace BW := BW.trans (hb.mono BW.size)
      clear hb
      clear hHeld
      refine hK.out _ _ (by exact ⟨K4.cs, K18.cs⟩) (fun hHeld => ?_)
      clear hK
      (try simp only [p0, p1, p2, p3])
      refine pR2 13 14 (fun K hK => ?_) (fun K hK => ?_)
      ·go_simp
       (go_at_call 101; with_reducible refine (q_quo N3 (G.gB.mono hC4) hbn hC5).mono ?_)
       rintro _ w54 ⟨g4, rfl, N4, hb⟩
       (try go_wp2_with fail)
       replace K4 := K4.on hb
       replace K18 := K18.on hb
       replace K45 := K45.on hb
       replace Z46 := Z46.on hb
       replace G := G.kp (Kept.of hb)
       replace LO := LO.kp (Kept.of hb)
       replace N1 := N1.kp (Kept.of hb)
       replace N2 := N2.kp (Kept.of hb)
       replace N3 := N3.kp (Kept.of hb)
       replace BW := BW.trans (hb.mono BW.size)
       clear hb
       clear hHeld
       refine hK.out _ _ (by exact ⟨K4.cs, K18.cs⟩) (fun hHeld => ?_)
       clear hK
       (try simp only [p0, p1, p2, p3])
       refine pR1 14 (fun K hK => ?_)
       go_simp
       obtain ⟨V55, e56, hb57, K58, Z59, -⟩ := alloc_new w54 [.bool false, .slice none 0 0, .bool false, .slice none 0 0] 74
       have n60 : w.heap.size ≠ w54.heap.size := Nat.ne_of_lt (K4.lt)
       have n61 : b39 ≠ w54.heap.size := Nat.ne_of_lt (K18.lt)
       have n62 : b50 ≠ w54.heap.size := Nat.ne_of_lt (K45.lt)
       have g63 : w.heap.size ≤ w54.heap.size := BW.size
       replace K4 := K4.on hb57
       replace K18 := K18.on hb57
       replace K45 := K45.on hb57
       replace Z46 := Z46.on hb57
       replace G := G.kp (Kept.of hb57)
       replace LO := LO.kp (Kept.of hb57)
       replace N1 := N1.kp (Kept.of hb57)
       replace N2 := N2.kp (Kept.of hb57)
       replace N3 := N3.kp (Kept.of hb57)
       replace N4 := N4.kp (Kept.of hb57)
       replace BW := BW.trans (hb57.mono BW.size)
       clear hb57
       rw [← e56]
       clear e56
       generalize w54.heap.size = b64 at *
       clear hHeld
       refine hK.out _ _ (by exact ⟨K4.cs, K18.cs⟩) (fun hHeld => ?_)
       clear hK
       (try simp only [p0, p1, p2, p3])
       refine pR1 16 (fun K hK => ?_)
       obtain ⟨c65, c66, c67, c68⟩ := K58.c4
       obtain ⟨c69, c70, c71, c72⟩ := Z59.f4
       go_simp
       clear c65 c66 c67 c68 c69 c70 c71 c72
       obtain ⟨V73, hk75⟩ : ∃ V73, V73 = V55.setCells (b64) 0 [.bool g2.n, .slice g2.A g2.xs.length g2.c, .bool g2.m, .slice g2.B g2.ds.length g2.d] := ⟨_, rfl⟩
       have e74 := hk75
       simp only [World.setCells, Nat.zero_add, Nat.reduceAdd] at e74
       have hk76 := Kept.overE hk75 K58 rfl (Nat.le_of_ble_eq_true rfl)
       replace K4 := K4.awayE hk75 n60
       replace K18 := K18.awayE hk75 n61
       replace K45 := K45.awayE hk75 n62
       replace K58 := K58.overE hk75 rfl
       replace Z46 := Z46.putE hk75
       replace G := G.kp hk76
       replace LO := LO.kp hk76
       replace N1 := N1.kp hk76
       replace N2 := N2.kp hk76
       replace N3 := N3.kp hk76
       replace N4 := N4.kp hk76
       replace BW := Below.putE BW hk75 g63
       clear hk75 hk76
       rw [← e74]
       clear e74
       clear hHeld
       refine hK.out _ _ (by exact ⟨K4.cs, K18.cs⟩) (fun hHeld => ?_)
       clear hK
       (try simp only [p0, p1, p2, p3])
       refine pR1 17 (fun K hK => ?_)
       obtain ⟨c77, c78, c79, c80⟩ := K45.c4
       obtain ⟨c81, c82, c83, c84⟩ := Z46.f4
       go_simp
       clear c77 c78 c79 c80 c81 c82 c83 c84
       obtain ⟨V85, hk87⟩ : ∃ V85, V85 = V73.setCells (b50) 0 [.bool g4.n, .slice g4.A g4.xs.length g4.c, .bool g4.m, .slice g4.B g4.ds.length g4.d] := ⟨_, rfl⟩
       have e86 := hk87
       simp only [World.setCells, Nat.zero_add, Nat.reduceAdd] at e86
       have hk88 := Kept.overE hk87 K45 rfl (Nat.le_of_ble_eq_true rfl)
       replace K4 := K4.awayE hk87 n47
       replace K18 := K18.awayE hk87 n48
       replace K45 := K45.overE hk87 rfl
       replace K58 := K58.awayE hk87 n62.symm
       replace Z46 := Z46.putE hk87
       replace G := G.kp hk88
       replace LO := LO.kp hk88
       replace N1 := N1.kp hk88
       replace N2 := N2.kp hk88
       replace N3 := N3.kp hk88
       replace N4 := N4.kp hk88
       replace BW := Below.putE BW hk87 g49
       clear hk87 hk88
       rw [← e86]
       clear e86
       clear hHeld
       refine hK.out _ _ (by exact ⟨K4.cs, K18.cs⟩) (fun hHeld => ?_)
       clear hK
       (try simp only [p0, p1, p2, p3])
       refine wpAnyH_done (by kernel_rfl) (NoPanic.normal ?_) _
       go_wp2
       go_meet
       exact ⟨b64, b50, g2, g4, rfl, rfl, BW, K4, K18, G, LO, K58, K45, N2, N4⟩
      ·go_simp
       obtain ⟨V54, e55, hb56, K57, Z58, -⟩ := alloc_new w53 [.bool false, .slice none 0 0, .bool false, .slice none 0 0] 74
       have n59 : w.heap.size ≠ w53.heap.size := Nat.ne_of_lt (K4.lt)
       have n60 : b39 ≠ w53.heap.size := Nat.ne_of_lt (K18.lt)
       have n61 : b50 ≠ w53.heap.size := Nat.ne_of_lt (K45.lt)
       have g62 : w.heap.size ≤ w53.heap.size := BW.size
       replace K4 := K4.on hb56
       replace K18 := K18.on hb56
       replace K45 := K45.on hb56
       replace Z46 := Z46.on hb56
       replace G := G.kp (Kept.of hb56)
       replace LO := LO.kp (Kept.of hb56)
       replace N1 := N1.kp (Kept.of hb56)
       replace N2 := N2.kp (Kept.of hb56)
       replace N3 := N3.kp (Kept.of hb56)
       replace BW := BW.trans (hb56.mono BW.size)
       clear hb56
       rw [← e55]
       clear e55
       generalize w53.heap.size = b63 at *
       clear hHeld
       refine hK.out _ _ (by exact ⟨K4.cs, K18.cs⟩) (fun hHeld => ?_)
       clear hK
       (try simp only [p0, p1, p2, p3])
       refine pR1 13 (fun K hK => ?_)
       go_simp
       (go_at_call 101; with_reducible refine (q_quo N3 (G.gB.mono hC4) hbn hC5).mono ?_)
       rintro _ w64 ⟨g4, rfl, N4, hb⟩
       (try go_wp2_with fail)
       replace K4 := K4.on hb
       replace K18 := K18.on hb
       replace K45 := K45.on hb
       replace K57 := K57.on hb
       replace Z46 := Z46.on hb
       replace Z58 := Z58.on hb
       replace G := G.kp (Kept.of hb)
       replace LO := LO.kp (Kept.of hb)
       replace N1 := N1.kp (Kept.of hb)
       replace N2 := N2.kp (Kept.of hb)
       replace N3 := N3.kp (Kept.of hb)
       replace BW := BW.trans (hb.mono BW.size)
       clear hb
       clear hHeld
       refine hK.out _ _ (by exact ⟨K4.cs, K18.cs⟩) (fun hHeld => ?_)
       clear hK
       (try simp only [p0, p1, p2, p3])
       refine pR1 16 (fun K hK => ?_)
       obtain ⟨c65, c66, c67, c68⟩ := K57.c4
       obtain ⟨c69, c70, c71, c72⟩ := Z58.f4
       go_simp
       clear c65 c66 c67 c68 c69 c70 c71 c72
       obtain ⟨V73, hk75⟩ : ∃ V73, V73 = w64.setCells (b63) 0 [.bool g2.n, .slice g2.A g2.xs.length g2.c, .bool g2.m, .slice g2.B g2.ds.length g2.d] := ⟨_, rfl⟩
       have e74 := hk75
       simp only [World.setCells, Nat.zero_add, Nat.reduceAdd] at e74
       have hk76 := Kept.overE hk75 K57 rfl (Nat.le_of_ble_eq_true rfl)
       replace K4 := K4.awayE hk75 n59
       replace K18 := K18.awayE hk75 n60
       replace K45 := K45.awayE hk75 n61
       replace K57 := K57.overE hk75 rfl
       replace Z46 := Z46.putE hk75
       replace G := G.kp hk76
       replace LO := LO.kp hk76
       replace N1 := N1.kp hk76
       replace N2 := N2.kp hk76
       replace N3 := N3.kp hk76
       replace N4 := N4.kp hk76
       replace BW := Below.putE BW hk75 g62
       clear hk75 hk76
       rw [← e74]
       clear e74
       clear hHeld
       refine hK.out _ _ (by exact ⟨K4.cs, K18.cs⟩) (fun hHeld => ?_)
       clear hK
       (try simp only [p0, p1, p2, p3])
       refine pR1 17 (fun K hK => ?_)
       obtain ⟨c77, c78, c79, c80⟩ := K45.c4
       obtain ⟨c81, c82, c83, c84⟩ := Z46.f4
       go_simp
       clear c77 c78 c79 c80 c81 c82 c83 c84
       obtain ⟨V85, hk87⟩ : ∃ V85, V85 = V73.setCells (b50) 0 [.bool g4.n, .slice g4.A g4.xs.length g4.c, .bool g4.m, .slice g4.B g4.ds.length g4.d] := ⟨_, rfl⟩
       have e86 := hk87
       simp only [World.setCells, Nat.zero_add, Nat.reduceAdd] at e86
       have hk88 := Kept.overE hk87 K45 rfl (Nat.le_of_ble_eq_true rfl)
       replace K4 := K4.awayE hk87 n47
       replace K18 := K18.awayE hk87 n48
       replace K45 := K45.overE hk87 rfl
       replace K57 := K57.awayE hk87 n61.symm
       replace Z46 := Z46.putE hk87
       replace G := G.kp hk88
       replace LO := LO.kp hk88
       replace N1 := N1.kp hk88
       replace N2 := N2.kp hk88
       replace N3 := N3.kp hk88
       replace N4 := N4.kp hk88
       replace BW := Below.putE BW hk87 g49
       clear hk87 hk88
       rw [← e86]
       clear e86
       clear hHeld
       refine hK.out _ _ (by exact ⟨K4.cs, K18.cs⟩) (fun hHeld => ?_)
       clear hK
       (try simp only [p0, p1, p2, p3])
       refine wpAnyH_done (by kernel_rfl) (NoPanic.normal ?_) _
       go_wp2
       go_meet
       exact ⟨b63, b50, g2, g4, rfl, rfl, BW, K4, K18, G, LO, K57, K45, N2, N4⟩
     ·go_simp
      obtain ⟨V53, e54, hb55, K56, Z57, -⟩ := alloc_new w52 [.bool false, .slice none 0 0, .bool false, .slice none 0 0] 74
      have n58 : w.heap.size ≠ w52.heap.size := Nat.ne_of_lt (K4.lt)
      have n59 : b39 ≠ w52.heap.size := Nat.ne_of_lt (K18.lt)
      have n60 : b50 ≠ w52.heap.size := Nat.ne_of_lt (K45.lt)
      have g61 : w.heap.size ≤ w52.heap.size := BW.size
      replace K4 := K4.on hb55
      replace K18 := K18.on hb55
      replace K45 := K45.on hb55
      replace Z46 := Z46.on hb55
      replace G := G.kp (Kept.of hb55)
      replace LO := LO.kp (Kept.of hb55)
      replace N1 := N1.kp (Kept.of hb55)
      replace N2 := N2.kp (Kept.of hb55)
      replace BW := BW.trans (hb55.mono BW.size)
      clear hb55
      rw [← e54]
      clear e54
      generalize w52.heap.size = b62 at *
      clear hHeld
      refine hK.out _ _ (by exact ⟨K4.cs, K18.cs⟩) (fun hHeld => ?_)
      clear hK
      (try simp only [p0, p1, p2, p3])
      refine pR1 10 (fun K hK => ?_)
      go_simp
      (go_at_call 57; with_reducible refine (q_sub (LO.mono hC2) G.gD hC3).mono ?_)
      rintro _ w63 ⟨g3, rfl, N3, hb⟩
      (try go_wp2_with fail)
      replace K4 := K4.on hb
      replace K18 := K18.on hb
      replace K45 := K45.on hb
      replace K56 := K56.on hb
      replace Z46 := Z46.on hb
      replace Z57 := Z57.on hb
      replace G := G.kp (Kept.of hb)
      replace LO := LO.kp (Kept.of hb)
      replace N1 := N1.kp (Kept.of hb)
      replace N2 := N2.kp (Kept.of hb)
      replace BW := BW.trans (hb.mono BW.size)
      clear hb
      clear hHeld
      refine hK.out _ _ (by exact ⟨K4.cs, K18.cs⟩) (fun hHeld => ?_)
      clear hK
      (try simp only [p0, p1, p2, p3])
      refine pR1 13 (fun K hK => ?_)
      go_simp
      (go_at_call 101; with_reducible refine (q_quo N3 (G.gB.mono hC4) hbn hC5).mono ?_)
      rintro _ w64 ⟨g4, rfl, N4, hb⟩
      (try go_wp2_with fail)
      replace K4 := K4.on hb
      replace K18 := K18.on hb
      replace K45 := K45.on hb
      replace K56 := K56.on hb
      replace Z46 := Z46.on hb
      replace Z57 := Z57.on hb
      replace G := G.kp (Kept.of hb)
      replace LO := LO.kp (Kept.of hb)
      replace N1 := N1.kp (Kept.of hb)
      replace N2 := N2.kp (Kept.of hb)
      replace N3 := N3.kp (Kept.of hb)
      replace BW := BW.trans (hb.mono BW.size)
      clear hb
      clear hHeld
      refine hK.out _ _ (by exact ⟨K4.cs, K18.cs⟩) (fun hHeld => ?_)
      clear hK
      (try simp only [p0, p1, p2, p3])
      refine pR1 16 (fun K hK => ?_)
      obtain ⟨c65, c66, c67, c68⟩ := K56.c4
      obtain ⟨c69, c70, c71, c72⟩ := Z57.f4
      go_simp
      clear c65 c66 c67 c68 c69 c70 c71 c72
      obtain ⟨V73, hk75⟩ : ∃ V73, V73 = w64.setCells (b62) 0 [.bool g2.n, .slice g2.A g2.xs.length g2.c, .bool g2.m, .slice g2.B g2.ds.length g2.d] := ⟨_, rfl⟩
      have e74 := hk75
      simp only [World.setCells, Nat.zero_add, Nat.reduceAdd] at e74
      have hk76 := Kept.overE hk75 K56 rfl (Nat.le_of_ble_eq_true rfl)
      replace K4 := K4.awayE hk75 n58
      replace K18 := K18.awayE hk75 n59
      replace K45 := K45.awayE hk75 n60
      replace K56 := K56.overE hk75 rfl
      replace Z46 := Z46.putE hk75
      replace G := G.kp hk76
      replace LO := LO.kp hk76
      replace N1 := N1.kp hk76
      replace N2 := N2.kp hk76
      replace N3 := N3.kp hk76
      replace N4 := N4.kp hk76
      replace BW := Below.putE BW hk75 g61
      clear hk75 hk76
      rw [← e74]
      clear e74
      clear hHeld
      refine hK.out _ _ (by exact ⟨K4.cs, K18.cs⟩) (fun hHeld => ?_)
      clear hK
      (try simp only [p0, p1, p2, p3])
      refine pR1 17 (fun K hK => ?_)
      obtain ⟨c77, c78, c79, c80⟩ := K45.c4
      obtain ⟨c81, c82, c83, c84⟩ := Z46.f4
      go_simp
      clear c77 c78 c79 c80 c81 c82 c83 c84
      obtain ⟨V85, hk87⟩ : ∃ V85, V85 = V73.setCells (b50) 0 [.bool g4.n, .slice g4.A g4.xs.length g4.c, .bool g4.m, .slice g4.B g4.ds.length g4.d] := ⟨_, rfl⟩
      have e86 := hk87
      simp only [World.setCells, Nat.zero_add, Nat.reduceAdd] at e86
      have hk88 := Kept.overE hk87 K45 rfl (Nat.le_of_ble_eq_true rfl)
      replace K4 := K4.awayE hk87 n47
      replace K18 := K18.awayE hk87 n48
      replace K45 := K45.overE hk87 rfl
      replace K56 := K56.awayE hk87 n60.symm
      replace Z46 := Z46.putE hk87
      replace G := G.kp hk88
      replace LO := LO.kp hk88
      replace N1 := N1.kp hk88
      replace N2 := N2.kp hk88
      replace N3 := N3.kp hk88
      replace N4 := N4.kp hk88
      replace BW := Below.putE BW hk87 g49
      clear hk87 hk88
      rw [← e86]
      clear e86
      clear hHeld
      refine hK.out _ _ (by exact ⟨K4.cs, K18.cs⟩) (fun hHeld => ?_)
      clear hK
      (try simp only [p0, p1, p2, p3])
      refine wpAnyH_done (by kernel_rfl) (NoPanic.normal ?_) _
      go_wp2
      go_meet
      exact ⟨b62, b50, g2, g4, rfl, rfl, BW, K4, K18, G, LO, K56, K45, N2, N4⟩
    ·go_simp
     obtain ⟨V52, e53, hb54, K55, Z56, -⟩ := alloc_new w51 [.bool false, .slice none 0 0, .bool false, .slice none 0 0] 74
     have n57 : w.heap.size ≠ w51.heap.size := Nat.ne_of_lt (K4.lt)
     have n58 : b39 ≠ w51.heap.size := Nat.ne_of_lt (K18.lt)
     have n59 : b50 ≠ w51.heap.size := Nat.ne_of_lt (K45.lt)
     have g60 : w.heap.size ≤ w51.heap.size := BW.size
     replace K4 := K4.on hb54
     replace K18 := K18.on hb54
     replace K45 := K45.on hb54
     replace Z46 := Z46.on hb54
     replace G := G.kp (Kept.of hb54)
     replace LO := LO.kp (Kept.of hb54)
     replace N1 := N1.kp (Kept.of hb54)
     replace BW := BW.trans (hb54.mono BW.size)
     clear hb54
     rw [← e53]
     clear e53
     generalize w51.heap.size = b61 at *
     clear hHeld
     refine hK.out _ _ (by exact ⟨K4.cs, K18.cs⟩) (fun hHeld => ?_)
     clear hK
     (try simp only [p0, p1, p2, p3])
     refine pR1 6 (fun K hK => ?_)
     go_simp
     (go_at_call 101; with_reducible refine (q_quo N1 (G.gB.mono hC4) hbn hC5).mono ?_)
     rintro _ w62 ⟨g2, rfl, N2, hb⟩
     (try go_wp2_with fail)
     replace K4 := K4.on hb
     replace K18 := K18.on hb
     replace K45 := K45.on hb
     replace K55 := K55.on hb
     replace Z46 := Z46.on hb
     replace Z56 := Z56.on hb
     replace G := G.kp (Kept.of hb)
     replace LO := LO.kp (Kept.of hb)
     replace N1 := N1.kp (Kept.of hb)
     replace BW := BW.trans (hb.mono BW.size)
     clear hb
     clear hHeld
     refine hK.out _ _ (by exact ⟨K4.cs, K18.cs⟩) (fun hHeld => ?_)
     clear hK
     (try simp only [p0, p1, p2, p3])
     refine pR1 10 (fun K hK => ?_)
     go_simp
     (go_at_call 57; with_reducible refine (q_sub (LO.mono hC2) G.gD hC3).mono ?_)
     rintro _ w63 ⟨g3, rfl, N3, hb⟩
     (try go_wp2_with fail)
     replace K4 := K4.on hb
     replace K18 := K18.on hb
     replace K45 := K45.on hb
     replace K55 := K55.on hb
     replace Z46 := Z46.on hb
     replace Z56 := Z56.on hb
     replace G := G.kp (Kept.of hb)
     replace LO := LO.kp (Kept.of hb)
     replace N1 := N1.kp (Kept.of hb)
     replace N2 := N2.kp (Kept.of hb)
     replace BW := BW.trans (hb.mono BW.size)
     clear hb
     clear hHeld
     refine hK.out _ _ (by exact ⟨K4.cs, K18.cs⟩) (fun hHeld => ?_)
     clear hK
     (try simp only [p0, p1, p2, p3])
     refine pR1 13 (fun K hK => ?_)
     go_simp
     (go_at_call 101; with_reducible refine (q_quo N3 (G.gB.mono hC4) hbn hC5).mono ?_)
     rintro _ w64 ⟨g4, rfl, N4, hb⟩
     (try go_wp2_with fail)
     replace K4 := K4.on hb
     replace K18 := K18.on hb
     replace K45 := K45.on hb
     replace K55 := K55.on hb
     replace Z46 := Z46.on hb
     replace Z56 := Z56.on hb
     replace G := G.kp (Kept.of hb)
     replace LO := LO.kp (Kept.of hb)
     replace N1 := N1.kp (Kept.of hb)
     replace N2 := N2.kp (Kept.of hb)
     replace N3 := N3.kp (Kept.of hb)
     replace BW := BW.trans (hb.mono BW.size)
     clear hb
     clear hHeld
     refine hK.out _ _ (by exact ⟨K4.cs, K18.cs⟩) (fun hHeld => ?_)
     clear hK
     (try simp only [p0, p1, p2, p3])
     refine pR1 16 (fun K hK => ?_)
     obtain ⟨c65, c66, c67, c68⟩ := K55.c4
     obtain ⟨c69, c70, c71, c72⟩ := Z56.f4
     go_simp
     clear c65 c66 c67 c68 c69 c70 c71 c72
     obtain ⟨V73, hk75⟩ : ∃ V73, V73 = w64.setCells (b61) 0 [.bool g2.n, .slice g2.A g2.xs.length g2.c, .bool g2.m, .slice g2.B g2.ds.length g2.d] := ⟨_, rfl⟩
     have e74 := hk75
     simp only [World.setCells, Nat.zero_add, Nat.reduceAdd] at e74
     have hk76 := Kept.overE hk75 K55 rfl (Nat.le_of_ble_eq_true rfl)
     replace K4 := K4.awayE hk75 n57
     replace K18 := K18.awayE hk75 n58
     replace K45 := K45.awayE hk75 n59
     replace K55 := K55.overE hk75 rfl
     replace Z46 := Z46.putE hk75
     replace G := G.kp hk76
     replace LO := LO.kp hk76
     replace N1 := N1.kp hk76
     replace N2 := N2.kp hk76
     replace N3 := N3.kp hk76
     replace N4 := N4.kp hk76
     replace BW := Below.putE BW hk75 g60
     clear hk75 hk76
     rw [← e74]
     clear e74
     clear hHeld
     refine hK.out _ _ (by exact ⟨K4.cs, K18.cs⟩) (fun hHeld => ?_)
     clear hK
     (try simp only [p0, p1, p2, p3])
     refine pR1 17 (fun K hK => ?_)
     obtain ⟨c77, c78, c79, c80⟩ := K45.c4
     obtain ⟨c81, c82, c83, c84⟩ := Z46.f4
     go_simp
     clear c77 c78 c79 c80 c81 c82 c83 c84
     obtain ⟨V85, hk87⟩ : ∃ V85, V85 = V73.setCells (b50) 0 [.bool g4.n, .slice g4.A g4.xs.length g4.c, .bool g4.m, .slice g4.B g4.ds.length g4.d] := ⟨_, rfl⟩
     have e86 := hk87
     simp only [World.setCells, Nat.zero_add, Nat.reduceAdd] at e86
     have hk88 := Kept.overE hk87 K45 rfl (Nat.le_of_ble_eq_true rfl)
     replace K4 := K4.awayE hk87 n47
     replace K18 := K18.awayE hk87 n48
     replace K45 := K45.overE hk87 rfl
     replace K55 := K55.awayE hk87 n59.symm
     replace Z46 := Z46.putE hk87
     replace G := G.kp hk88
     replace LO := LO.kp hk88
     replace N1 := N1.kp hk88
     replace N2 := N2.kp hk88
     replace N3 := N3.kp hk88
     replace N4 := N4.kp hk88
     replace BW := Below.putE BW hk87 g49
     clear hk87 hk88
     rw [← e86]
     clear e86
     clear hHeld
     refine hK.out _ _ (by exact ⟨K4.cs, K18.cs⟩) (fun hHeld => ?_)
     clear hK
     (try simp only [p0, p1, p2, p3])
     refine wpAnyH_done (by kernel_rfl) (NoPanic.normal ?_) _
     go_wp2
     go_meet
     exact ⟨b61, b50, g2, g4, rfl, rfl, BW, K4, K18, G, LO, K55, K45, N2, N4⟩
   ·go_simp
    obtain ⟨V51, e52, hb53, K54, Z55, -⟩ := alloc_new V42 [.bool false, .slice none 0 0, .bool false, .slice none 0 0] 74
    have n56 : w.heap.size ≠ V42.heap.size := Nat.ne_of_lt (K4.lt)
    have n57 : b39 ≠ V42.heap.size := Nat.ne_of_lt (K18.lt)
    have n58 : b50 ≠ V42.heap.size := Nat.ne_of_lt (K45.lt)
    have g59 : w.heap.size ≤ V42.heap.size := BW.size
    replace K4 := K4.on hb53
    replace K18 := K18.on hb53
    replace K45 := K45.on hb53
    replace Z46 := Z46.on hb53
    replace G := G.kp (Kept.of hb53)
    replace LO := LO.kp (Kept.of hb53)
    replace BW := BW.trans (hb53.mono BW.size)
    clear hb53
    rw [← e52]
    clear e52
    generalize V42.heap.size = b60 at *
    clear hHeld
    refine hK.out _ _ (by exact ⟨K4.cs, K18.cs⟩) (fun hHeld => ?_)
    clear hK
    (try simp only [p0, p1, p2, p3])
    refine pR1 3 (fun K hK => ?_)
    go_simp
    (go_at_call 57; with_reducible refine (q_sub (LO.mono hC2) G.gA hC3).mono ?_)
    rintro _ w61 ⟨g1, rfl, N1, hb⟩
    (try go_wp2_with fail)
    replace K4 := K4.on hb
    replace K18 := K18.on hb
    replace K45 := K45.on hb
    replace K54 := K54.on hb
    replace Z46 := Z46.on hb
    replace Z55 := Z55.on hb
    replace G := G.kp (Kept.of hb)
    replace LO := LO.kp (Kept.of hb)
    replace BW := BW.trans (hb.mono BW.size)
    clear hb
    clear hHeld
    refine hK.out _ _ (by exact ⟨K4.cs, K18.cs⟩) (fun hHeld => ?_)
    clear hK
    (try simp only [p0, p1, p2, p3])
    refine pR1 6 (fun K hK => ?_)
    go_simp
    (go_at_call 101; with_reducible refine (q_quo N1 (G.gB.mono hC4) hbn hC5).mono ?_)
    rintro _ w62 ⟨g2, rfl, N2, hb⟩
    (try go_wp2_with fail)
    replace K4 := K4.on hb
    replace K18 := K18.on hb
    replace K45 := K45.on hb
    replace K54 := K54.on hb
    replace Z46 := Z46.on hb
    replace Z55 := Z55.on hb
    replace G := G.kp (Kept.of hb)
    replace LO := LO.kp (Kept.of hb)
    replace BW := BW.trans (hb.mono BW.size)
    clear hb
    clear hHeld
    refine hK.out _ _ (by exact ⟨K4.cs, K18.cs⟩) (fun hHeld => ?_)
    clear hK
    (try simp only [p0, p1, p2, p3])
    refine pR1 10 (fun K hK => ?_)
    go_simp
    (go_at_call 57; with_reducible refine (q_sub (LO.mono hC2) G.gD hC3).mono ?_)
    rintro _ w63 ⟨g3, rfl, N3, hb⟩
    (try go_wp2_with fail)
    replace K4 := K4.on hb
    replace K18 := K18.on hb
    replace K45 := K45.on hb
    replace K54 := K54.on hb
    replace Z46 := Z46.on hb
    replace Z55 := Z55.on hb
    replace G := G.kp (Kept.of hb)
    replace LO := LO.kp (Kept.of hb)
    replace N2 := N2.kp (Kept.of hb)
    replace BW := BW.trans (hb.mono BW.size)
    clear hb
    clear hHeld
    refine hK.out _ _ (by exact ⟨K4.cs, K18.cs⟩) (fun hHeld => ?_)
    clear hK
    (try simp only [p0, p1, p2, p3])
    refine pR1 13 (fun K hK => ?_)
    go_simp
    (go_at_call 101; with_reducible refine (q_quo N3 (G.gB.mono hC4) hbn hC5).mono ?_)
    rintro _ w64 ⟨g4, rfl, N4, hb⟩
    (try go_wp2_with fail)
    replace K4 := K4.on hb
    replace K18 := K18.on hb
    replace K45 := K45.on hb
    replace K54 := K54.on hb
    replace Z46 := Z46.on hb
    replace Z55 := Z55.on hb
    replace G := G.kp (Kept.of hb)
    replace LO := LO.kp (Kept.of hb)
    replace N2 := N2.kp (Kept.of hb)
    replace BW := BW.trans (hb.mono BW.size)
    clear hb
    clear hHeld
    refine hK.out _ _ (by exact ⟨K4.cs, K18.cs⟩) (fun hHeld => ?_)
    clear hK
    (try simp only [p0, p1, p2, p3])
    refine pR1 16 (fun K hK => ?_)
    obtain ⟨c65, c66, c67, c68⟩ := K54.c4
    obtain ⟨c69, c70, c71, c72⟩ := Z55.f4
    go_simp
    clear c65 c66 c67 c68 c69 c70 c71 c72
    obtain ⟨V73, hk75⟩ : ∃ V73, V73 = w64.setCells (b60) 0 [.bool g2.n, .slice g2.A g2.xs.length g2.c, .bool g2.m, .slice g2.B g2.ds.length g2.d] := ⟨_, rfl⟩
    have e74 := hk75
    simp only [World.setCells, Nat.zero_add, Nat.reduceAdd] at e74
    have hk76 := Kept.overE hk75 K54 rfl (Nat.le_of_ble_eq_true rfl)
    replace K4 := K4.awayE hk75 n56
    replace K18 := K18.awayE hk75 n57
    replace K45 := K45.awayE hk75 n58
    replace K54 := K54.overE hk75 rfl
    replace Z46 := Z46.putE hk75
    replace G := G.kp hk76
    replace LO := LO.kp hk76
    replace N2 := N2.kp hk76
    replace N4 := N4.kp hk76
    replace BW := Below.putE BW hk75 g59
    clear hk75 hk76
    rw [← e74]
    clear e74
    clear hHeld
    refine hK.out _ _ (by exact ⟨K4.cs, K18.cs⟩) (fun hHeld => ?_)
    clear hK
    (try simp only [p0, p1, p2, p3])
    refine pR1 17 (fun K hK => ?_)
    obtain ⟨c77, c78, c79, c80⟩ := K45.c4
    obtain ⟨c81, c82, c83, c84⟩ := Z46.f4
    go_simp
    clear c77 c78 c79 c80 c81 c82 c83 c84
    obtain ⟨V85, hk87⟩ : ∃ V85, V85 = V73.setCells (b50) 0 [.bool g4.n, .slice g4.A g4.xs.length g4.c, .bool g4.m, .slice g4.B g4.ds.length g4.d] := ⟨_, rfl⟩
    have e86 := hk87
    simp only [World.setCells, Nat.zero_add, Nat.reduceAdd] at e86
    have hk88 := Kept.overE hk87 K45 rfl (Nat.le_of_ble_eq_true rfl)
    replace K4 := K4.awayE hk87 n47
    replace K18 := K18.awayE hk87 n48
    replace K45 := K45.overE hk87 rfl
    replace K54 := K54.awayE hk87 n58.symm
    replace G := G.kp hk88
    replace LO := LO.kp hk88
    replace N2 := N2.kp hk88
    replace N4 := N4.kp hk88
    replace BW := Below.putE BW hk87 g49
    clear hk87 hk88
    rw [← e86]
    clear e86
    clear hHeld
    refine hK.out _ _ (by exact ⟨K4.cs, K18.cs⟩) (fun hHeld => ?_)
    clear hK
    (try simp only [p0, p1, p2, p3])
    refine wpAnyH_done (by kernel_rfl) (NoPanic.normal ?_) _
    go_wp2
    go_meet
    exact ⟨b60, b50, g2, g4, rfl, rfl, BW, K4, K18, G, LO, K54, K45, N2, N4⟩
 case rest =>
  obtain ⟨pka_0, pka_1, g2, g4, rfl, rfl, BW, K4, K18, G, LO, KNa_0, KNa_1, N2, N4⟩ := hcut
  obtain ⟨c41, c42, c43, c44, c45, c46, c47, c48, c49, c50, c51, c52, c53, c54, c55, c56⟩ := K4.c16
  obtain ⟨c57, c58, c59, c60⟩ := KNa_0.c4
  obtain ⟨c61, c62, c63, c64⟩ := KNa_1.c4
  obtain ⟨V65, e66, hb67, K68, Z69, -⟩ := alloc_new wc [.int .u8 2, .bool g2.n, .slice g2.A g2.xs.length g2.c, .bool g2.m, .slice g2.B g2.ds.length g2.d, .int .u8 1, .bool m.B.n, .slice m.B.A m.B.xs.length m.B.c, .bool m.B.m, .slice m.B.B m.B.ds.length m.B.d, .int .u8 2, .bool g4.n, .slice g4.A g4.xs.length g4.c, .bool g4.m, .slice g4.B g4.ds.length g4.d] 113
  have n70 : w.heap.size ≠ wc.heap.size := Nat.ne_of_lt (K4.lt)
  have n71 : b39 ≠ wc.heap.size := Nat.ne_of_lt (K18.lt)
  have n72 : pka_0 ≠ wc.heap.size := Nat.ne_of_lt (KNa_0.lt)
  have n73 : pka_1 ≠ wc.heap.size := Nat.ne_of_lt (KNa_1.lt)
  have g74 : w.heap.size ≤ wc.heap.size := BW.size
  replace G := G.kp (Kept.of hb67)
  replace N2 := N2.kp (Kept.of hb67)
  replace N4 := N4.kp (Kept.of hb67)
  replace BW := BW.trans (hb67.mono BW.size)
  clear hb67
  go_wp2_with fail
  clear c41 c42 c43 c44 c45 c46 c47 c48 c49 c50 c51 c52 c53 c54 c55 c56 c57 c58 c59 c60 c61 c62 c63 c64
  rw [← e66]
  clear e66
  generalize wc.heap.size = b75 at *
  have SP : Spl V65 (some ⟨b75, 0, none⟩) 3 [⟨2, g2⟩, ⟨1, m.B⟩, ⟨2, g4⟩] := ⟨by simp, by simp [maxLen], _, rfl, [], K68⟩
  have GP : Gps V65 (rows0 q) [⟨2, g2⟩, ⟨1, m.B⟩, ⟨2, g4⟩] (4 * C + 10) := .cons ⟨rfl, N2.mono (by omega)⟩ (.cons ⟨rfl, G.gB.mono (by omega)⟩ (.cons ⟨rfl, N4.mono (by omega)⟩ .nil))
  exact bodyPost_ret (v := .slice (some ⟨b75, 0, none⟩) 3 3) (by simp [results, Tryz.results71, go_sem]) rfl ⟨_, 3, _, rfl, SP, GP, BW⟩
end Go.Proofs.YtjamfkafgfpobaaGreat
