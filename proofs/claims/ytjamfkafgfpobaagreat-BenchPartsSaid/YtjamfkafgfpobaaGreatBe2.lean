/-
  Parts of a matrix whose B is nought. Conditions: as each theorem states.
-/
import Derived.Test.YtjamfkafgfpobaaGreatBe0
import Derived.Test.YtjamfkafgfpobaaGreatBc3
import Derived.Deep.RegionHeld3
import Derived.Deep.DeepCutAuto
import Derived.BigRegion
namespace Go.Proofs.YtjamfkafgfpobaaGreat
open Go.RowKit Nb
theorem wp_appP {op : Oper} {a : Act} {K : Act → World → Prop} {Q : Exit → Act → World → Prop} {W W' : World} {s x : Operand} {vs vx v' : Value} (ho : op.op = .call { callee := .builtin .append, args := #[s, x], argTypes := #[111, 111] }) (hs : a.eval s = vs) (hx : a.eval x = vx)
  (hr : (Builtin.append_ #[111, 111] op.type #[vs, vx]).run Tryz.prog W = .ok v' W') (h : K (a.put op.dst v') W') : op.wp Tryz.prog a W K Q := by
 unfold Oper.wp execOp
 simp only [ho, resolve, invoke, builtin, Sem.run_bind, Sem.run_pure, Result.andThen_ok, List.map_toArray, List.map_cons, List.map_nil, hs, hx, hr]
 exact h
theorem PartsIs.to {w w' : World} {zs ys : List (Int × Rat)} {C D : Nat} {e : Ending} (h : PartsIs w zs C e w') (e1 : zs = ys) (hC : C ≤ D) : PartsIs w ys D e w' := by
 subst e1
 obtain ⟨a, c, xs, h1, h2, h3, h4⟩ := h
 exact ⟨a, c, xs, h1, h2, h3.mono hC, h4⟩
set_option maxHeartbeats 16000000 in
set_option maxRecDepth 100000 in
theorem p_parts2 {q : Mq} {m : Mv} {C : Nat} {w : World} (G : Gm w q m C) (hC2 : 2 ≤ C) (hC : 4 * C + 10 ≤ 1759218604390) (hB : q.b = 0) (HA : q.a = ((1 : Int) : Rat)) :
    Calls Tryz.prog 71 #[mv m] w (PartsIs w [(2, -q.c)] (4 * C + 10)) := by
 have hC1 : C ≤ 17592186043904 := by omega
 have hC3 : C ≤ 1759218604390 := by omega
 have BW : Below w.heap.size w w := Below.refl _ _
 obtain ⟨V1, e2, hb3, K4, -, -⟩ := alloc_new w [.bool m.A.n, .slice m.A.A m.A.xs.length m.A.c, .bool m.A.m, .slice m.A.B m.A.ds.length m.A.d, .bool m.B.n, .slice m.B.A m.B.xs.length m.B.c, .bool m.B.m, .slice m.B.B m.B.ds.length m.B.d, .bool m.C.n, .slice m.C.A m.C.xs.length m.C.c, .bool m.C.m, .slice m.C.B m.C.ds.length m.C.d, .bool m.D.n, .slice m.D.A m.D.xs.length m.D.c, .bool m.D.m, .slice m.D.B m.D.ds.length m.D.d] 76
 replace K4 : Box V1 (w.heap.size) (mcs m) := K4
 replace G := G.kp (Kept.of hb3)
 replace BW := BW.trans (hb3.mono BW.size)
 clear hb3
 go_enter Tryz.func71, Tryz.ntmps71
 go_wp2_with fail
 rw [← e2]
 clear e2
 refine (b_of (n := 0) (by decide) (by decide)).mono ?_
 rintro _ w5 ⟨z, rfl, LZ, hb⟩
 replace K4 := K4.on hb
 replace G := G.kp (Kept.of hb)
 replace BW := BW.trans (hb.mono BW.size)
 clear hb
 obtain ⟨V6, e7, hb8, K9, Z10, -⟩ := alloc_new w5 [.int .u8 5, .bool z.n, .slice z.A z.xs.length z.c, .bool z.m, .slice z.B z.ds.length z.d] 113
 have n11 : w.heap.size ≠ w5.heap.size := Nat.ne_of_lt (K4.lt)
 have g12 : w.heap.size ≤ w5.heap.size := BW.size
 replace K4 := K4.on hb8
 replace G := G.kp (Kept.of hb8)
 replace BW := BW.trans (hb8.mono BW.size)
 clear hb8
 go_wp2_with fail
 rw [← e7]
 clear e7
 generalize w5.heap.size = b13 at *
 refine (b_of (n := 1) (by decide) (by decide)).mono ?_
 rintro _ w14 ⟨o, rfl, LO, hb⟩
 replace K4 := K4.on hb
 replace K9 := K9.on hb
 replace G := G.kp (Kept.of hb)
 replace BW := BW.trans (hb.mono BW.size)
 clear hb
 obtain ⟨V15, e16, hb17, K18, Z19, -⟩ := alloc_new w14 [.bool o.n, .slice o.A o.xs.length o.c, .bool o.m, .slice o.B o.ds.length o.d] 74
 have n20 : w.heap.size ≠ w14.heap.size := Nat.ne_of_lt (K4.lt)
 have n21 : b13 ≠ w14.heap.size := Nat.ne_of_lt (K9.lt)
 have g22 : w.heap.size ≤ w14.heap.size := BW.size
 replace K4 := K4.on hb17
 replace K9 := K9.on hb17
 replace G := G.kp (Kept.of hb17)
 replace LO := LO.kp (Kept.of hb17)
 replace BW := BW.trans (hb17.mono BW.size)
 clear hb17
 obtain ⟨c23, c24, c25, c26, c27, c28, c29, c30, c31, c32, c33, c34, c35, c36, c37, c38⟩ := K4.c16
 rw [e16] at c23 c24 c25 c26 c27 c28 c29 c30 c31 c32 c33 c34 c35 c36 c37 c38
 go_wp2_with fail
 clear c23 c24 c25 c26 c27 c28 c29 c30 c31 c32 c33 c34 c35 c36 c37 c38
 rw [← e16]
 clear e16
 generalize w14.heap.size = b39 at *
 refine (b_sign G.gB hC1).mono ?_
 rintro _ w40 ⟨rfl, hb⟩
 replace K4 := K4.on hb
 replace K9 := K9.on hb
 replace K18 := K18.on hb
 replace G := G.kp (Kept.of hb)
 replace LO := LO.kp (Kept.of hb)
 replace BW := BW.trans (hb.mono BW.size)
 clear hb
 generalize hs : sgnQ q.b = s at *
 have HS := Lib.hid hs
 clear hs
 have HB := Lib.hid hB
 clear hB
 obtain rfl : s = 0 := by rw [← HS.out]; exact sgn_zero.2 HB.out
 obtain ⟨c41, c42, c43, c44, c45, c46, c47, c48, c49, c50, c51, c52, c53, c54, c55, c56⟩ := K4.c16
 obtain ⟨c57, c58, c59, c60⟩ := K18.c4
 go_wp2_with fail
 clear c41 c42 c43 c44 c45 c46 c47 c48 c49 c50 c51 c52 c53 c54 c55 c56 c57 c58 c59 c60
 refine (q_cmp G.gA (LO.mono hC2) hC3).mono ?_
 rintro _ w61 ⟨⟨t, rfl, ht⟩, hb⟩
 replace K4 := K4.on hb
 replace K9 := K9.on hb
 replace K18 := K18.on hb
 replace G := G.kp (Kept.of hb)
 replace BW := BW.trans (hb.mono BW.size)
 clear hb
 obtain rfl : t = 0 := ht.2 HA
 clear ht
 obtain ⟨c62, c63, c64, c65, c66, c67, c68, c69, c70, c71, c72, c73, c74, c75, c76, c77⟩ := K4.c16
 go_wp2_with fail
 clear c62 c63 c64 c65 c66 c67 c68 c69 c70 c71 c72 c73 c74 c75 c76 c77
 refine (q_neg G.gC hC3).mono ?_
 rintro _ w78 ⟨g1, rfl, N1, hb⟩
 replace K4 := K4.on hb
 replace K9 := K9.on hb
 replace K18 := K18.on hb
 replace BW := BW.trans (hb.mono BW.size)
 clear hb
 obtain ⟨V79, e80, hb81, K82, Z83, -⟩ := alloc_new w78 [.int .u8 2, .bool g1.n, .slice g1.A g1.xs.length g1.c, .bool g1.m, .slice g1.B g1.ds.length g1.d] 113
 have n84 : w.heap.size ≠ w78.heap.size := Nat.ne_of_lt (K4.lt)
 have n85 : b13 ≠ w78.heap.size := Nat.ne_of_lt (K9.lt)
 have n86 : b39 ≠ w78.heap.size := Nat.ne_of_lt (K18.lt)
 have g87 : w.heap.size ≤ w78.heap.size := BW.size
 replace N1 := N1.kp (Kept.of hb81)
 replace BW := BW.trans (hb81.mono BW.size)
 clear hb81
 go_wp2_with fail
 rw [← e80]
 clear e80
 generalize w78.heap.size = b88 at *
 exact bodyPost_ret (v := .slice (some ⟨b88, 0, none⟩) 1 1) (by simp [results, Tryz.results71, go_sem]) rfl ⟨_, 1, [⟨2, g1⟩], rfl, ⟨by simp, by simp [maxLen], _, rfl, [], K82⟩, .cons ⟨rfl, N1.mono (by omega)⟩ .nil, BW⟩
set_option maxHeartbeats 16000000 in
set_option maxRecDepth 100000 in
theorem p_parts3 {q : Mq} {m : Mv} {C : Nat} {w : World} (G : Gm w q m C) (hC2 : 2 ≤ C) (hC : 4 * C + 10 ≤ 1759218604390) (hB : q.b = 0) (HA : ¬ q.a = ((1 : Int) : Rat)) (HN : q.a = -((1 : Int) : Rat)) :
    Calls Tryz.prog 71 #[mv m] w (PartsIs w [(5, ((0 : Int) : Rat)), (2, q.c)] (4 * C + 10)) := by
 have hC1 : C ≤ 17592186043904 := by omega
 have hC3 : C ≤ 1759218604390 := by omega
 have BW : Below w.heap.size w w := Below.refl _ _
 obtain ⟨V1, e2, hb3, K4, -, -⟩ := alloc_new w [.bool m.A.n, .slice m.A.A m.A.xs.length m.A.c, .bool m.A.m, .slice m.A.B m.A.ds.length m.A.d, .bool m.B.n, .slice m.B.A m.B.xs.length m.B.c, .bool m.B.m, .slice m.B.B m.B.ds.length m.B.d, .bool m.C.n, .slice m.C.A m.C.xs.length m.C.c, .bool m.C.m, .slice m.C.B m.C.ds.length m.C.d, .bool m.D.n, .slice m.D.A m.D.xs.length m.D.c, .bool m.D.m, .slice m.D.B m.D.ds.length m.D.d] 76
 replace K4 : Box V1 (w.heap.size) (mcs m) := K4
 replace G := G.kp (Kept.of hb3)
 replace BW := BW.trans (hb3.mono BW.size)
 clear hb3
 go_enter Tryz.func71, Tryz.ntmps71
 go_wp2_with fail
 rw [← e2]
 clear e2
 refine (b_of (n := 0) (by decide) (by decide)).mono ?_
 rintro _ w5 ⟨z, rfl, LZ, hb⟩
 replace K4 := K4.on hb
 replace G := G.kp (Kept.of hb)
 replace BW := BW.trans (hb.mono BW.size)
 clear hb
 obtain ⟨V6, e7, hb8, K9, Z10, -⟩ := alloc_new w5 [.int .u8 5, .bool z.n, .slice z.A z.xs.length z.c, .bool z.m, .slice z.B z.ds.length z.d] 113
 have n11 : w.heap.size ≠ w5.heap.size := Nat.ne_of_lt (K4.lt)
 have g12 : w.heap.size ≤ w5.heap.size := BW.size
 replace K4 := K4.on hb8
 replace G := G.kp (Kept.of hb8)
 replace LZ := LZ.kp (Kept.of hb8)
 replace BW := BW.trans (hb8.mono BW.size)
 clear hb8
 go_wp2_with fail
 rw [← e7]
 clear e7
 generalize w5.heap.size = b13 at *
 refine (b_of (n := 1) (by decide) (by decide)).mono ?_
 rintro _ w14 ⟨o, rfl, LO, hb⟩
 replace K4 := K4.on hb
 replace K9 := K9.on hb
 replace G := G.kp (Kept.of hb)
 replace LZ := LZ.kp (Kept.of hb)
 replace BW := BW.trans (hb.mono BW.size)
 clear hb
 obtain ⟨V15, e16, hb17, K18, Z19, -⟩ := alloc_new w14 [.bool o.n, .slice o.A o.xs.length o.c, .bool o.m, .slice o.B o.ds.length o.d] 74
 have n20 : w.heap.size ≠ w14.heap.size := Nat.ne_of_lt (K4.lt)
 have n21 : b13 ≠ w14.heap.size := Nat.ne_of_lt (K9.lt)
 have g22 : w.heap.size ≤ w14.heap.size := BW.size
 replace K4 := K4.on hb17
 replace K9 := K9.on hb17
 replace G := G.kp (Kept.of hb17)
 replace LZ := LZ.kp (Kept.of hb17)
 replace LO := LO.kp (Kept.of hb17)
 replace BW := BW.trans (hb17.mono BW.size)
 clear hb17
 obtain ⟨c23, c24, c25, c26, c27, c28, c29, c30, c31, c32, c33, c34, c35, c36, c37, c38⟩ := K4.c16
 rw [e16] at c23 c24 c25 c26 c27 c28 c29 c30 c31 c32 c33 c34 c35 c36 c37 c38
 go_wp2_with fail
 clear c23 c24 c25 c26 c27 c28 c29 c30 c31 c32 c33 c34 c35 c36 c37 c38
 rw [← e16]
 clear e16
 generalize w14.heap.size = b39 at *
 refine (b_sign G.gB hC1).mono ?_
 rintro _ w40 ⟨rfl, hb⟩
 replace K4 := K4.on hb
 replace K9 := K9.on hb
 replace K18 := K18.on hb
 replace G := G.kp (Kept.of hb)
 replace LZ := LZ.kp (Kept.of hb)
 replace LO := LO.kp (Kept.of hb)
 replace BW := BW.trans (hb.mono BW.size)
 clear hb
 generalize hs : sgnQ q.b = s at *
 have HS := Lib.hid hs
 clear hs
 have HB := Lib.hid hB
 clear hB
 obtain rfl : s = 0 := by rw [← HS.out]; exact sgn_zero.2 HB.out
 obtain ⟨c41, c42, c43, c44, c45, c46, c47, c48, c49, c50, c51, c52, c53, c54, c55, c56⟩ := K4.c16
 obtain ⟨c57, c58, c59, c60⟩ := K18.c4
 go_wp2_with fail
 clear c41 c42 c43 c44 c45 c46 c47 c48 c49 c50 c51 c52 c53 c54 c55 c56 c57 c58 c59 c60
 refine (q_cmp G.gA (LO.mono hC2) hC3).mono ?_
 rintro _ w61 ⟨⟨t, rfl, ht⟩, hb⟩
 replace K4 := K4.on hb
 replace K9 := K9.on hb
 replace K18 := K18.on hb
 replace G := G.kp (Kept.of hb)
 replace LZ := LZ.kp (Kept.of hb)
 replace LO := LO.kp (Kept.of hb)
 replace BW := BW.trans (hb.mono BW.size)
 clear hb
 have ht0 : (t == 0) = false := by simpa using (fun e => HA (ht.1 e))
 clear ht
 go_wp2_with fail
 clear ht0
 refine wp_region_noPanic ?_
 have hb : Below w61.heap.size w61 w61.drew := (Below.refl _ _).drew
 replace K4 := K4.on hb
 replace K9 := K9.on hb
 replace K18 := K18.on hb
 replace G := G.kp (Kept.of hb)
 replace LZ := LZ.kp (Kept.of hb)
 replace LO := LO.kp (Kept.of hb)
 replace BW := BW.trans (hb.mono BW.size)
 clear hb
 refine wp_region_held_drew (S := (fun wx => Cs wx (w.heap.size) 0 [.bool m.A.n, .slice m.A.A m.A.xs.length m.A.c, .bool m.A.m, .slice m.A.B m.A.ds.length m.A.d, .bool m.B.n, .slice m.B.A m.B.xs.length m.B.c, .bool m.B.m, .slice m.B.B m.B.ds.length m.B.d, .bool m.C.n, .slice m.C.A m.C.xs.length m.C.c, .bool m.C.m, .slice m.C.B m.C.ds.length m.C.d, .bool m.D.n, .slice m.D.A m.D.xs.length m.D.c, .bool m.D.m, .slice m.D.B m.D.ds.length m.D.d] ∧ Cs wx (b39) 0 [.bool o.n, .slice o.A o.xs.length o.c, .bool o.m, .slice o.B o.ds.length o.d])) (by kernel_rfl) (by exact ⟨K4.cs, K18.cs⟩) (fun hHeld => ?_)
 generalize w61.drew = Vd62 at *
 refine pT 0 ?_
 (try simp only [p0, p1, p2, p3])
 refine pT 1 ?_
 (try simp only [p0, p1, p2, p3])
 refine pT 2 ?_
 (try simp only [p0, p1, p2, p3])
 refine pR1 3 (fun K hK => ?_)
 go_simp
 (go_at_call 86; with_reducible refine (q_neg LO (by decide)).mono ?_)
 rintro _ w63 ⟨g0, rfl, N0, hb⟩
 (try go_wp2_with fail)
 replace K4 := K4.on hb
 replace K9 := K9.on hb
 replace K18 := K18.on hb
 replace G := G.kp (Kept.of hb)
 replace LZ := LZ.kp (Kept.of hb)
 replace BW := BW.trans (hb.mono BW.size)
 clear hb
 clear hHeld
 refine hK.out _ _ (by exact ⟨K4.cs, K18.cs⟩) (fun hHeld => ?_)
 clear hK
 (try simp only [p0, p1, p2, p3])
 refine pR1 4 (fun K hK => ?_)
 go_simp
 (go_at_call 44; with_reducible refine (q_cmp G.gA (N0.mono hC2) hC3).mono ?_)
 rintro _ w64 ⟨⟨t, rfl, ht⟩, hb⟩
 (try go_wp2_with fail)
 replace K4 := K4.on hb
 replace K9 := K9.on hb
 replace K18 := K18.on hb
 replace G := G.kp (Kept.of hb)
 replace LZ := LZ.kp (Kept.of hb)
 replace BW := BW.trans (hb.mono BW.size)
 clear hb
 obtain rfl : t = 0 := ht.2 HN
 clear ht
 clear hHeld
 refine hK.out _ _ (by exact ⟨K4.cs, K18.cs⟩) (fun hHeld => ?_)
 clear hK
 (try simp only [p0, p1, p2, p3])
 refine pT 5 ?_
 (try simp only [p0, p1, p2, p3])
 refine pT 6 ?_
 (try simp only [p0, p1, p2, p3])
 refine wpAnyH_done (by kernel_rfl) (NoPanic.normal ?_) _
 obtain ⟨c65, c66, c67, c68, c69, c70, c71, c72, c73, c74, c75, c76, c77, c78, c79, c80⟩ := K4.c16
 obtain ⟨c81, c82, c83, c84, c85⟩ := K9.c5
 obtain ⟨V86, e87, hb88, K89, Z90, -⟩ := alloc_new w64 [.int .u8 5, .bool z.n, .slice z.A z.xs.length z.c, .bool z.m, .slice z.B z.ds.length z.d, .int .u8 2, .bool m.C.n, .slice m.C.A m.C.xs.length m.C.c, .bool m.C.m, .slice m.C.B m.C.ds.length m.C.d] 113
 have n91 : w.heap.size ≠ w64.heap.size := Nat.ne_of_lt (K4.lt)
 have n92 : b13 ≠ w64.heap.size := Nat.ne_of_lt (K9.lt)
 have n93 : b39 ≠ w64.heap.size := Nat.ne_of_lt (K18.lt)
 have g94 : w.heap.size ≤ w64.heap.size := BW.size
 replace G := G.kp (Kept.of hb88)
 replace LZ := LZ.kp (Kept.of hb88)
 replace BW := BW.trans (hb88.mono BW.size)
 clear hb88
 go_wp2_with fail
 clear c65 c66 c67 c68 c69 c70 c71 c72 c73 c74 c75 c76 c77 c78 c79 c80 c81 c82 c83 c84 c85
 rw [← e87]
 clear e87
 generalize w64.heap.size = b95 at *
 exact bodyPost_ret (v := .slice (some ⟨b95, 0, none⟩) 2 2) (by simp [results, Tryz.results71, go_sem]) rfl ⟨_, 2, [⟨5, z⟩, ⟨2, m.C⟩], rfl, ⟨by simp, by simp [maxLen], _, rfl, [], K89⟩, .cons ⟨rfl, LZ.mono (by omega)⟩ (.cons ⟨rfl, G.gC.mono (by omega)⟩ .nil), BW⟩
end Go.Proofs.YtjamfkafgfpobaaGreat
