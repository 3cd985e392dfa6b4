/-
  A ray handed on, an element's matrix. Conditions: as each theorem states.
-/
import Derived.Test.YtjamfkafgfpobaaGreatTr0
import Derived.Test.YtjamfkafgfpobaaGreatBm5
import Derived.Test.YtjamfkafgfpobaaGreatRsy
import Derived.Test.YtjamfkafgfpobaaGreatBl2
import Derived.Deep.RegionHeld3
import Derived.Deep.DeepCutAuto
import Derived.BigRegion
namespace Go.Proofs.YtjamfkafgfpobaaGreat
open Go.RowKit Nb

section
variable {W : World}
theorem wpList_makeF2 {ops : Array Oper} {rest : List Oper} {op : Oper} {a : Act} {Q : Exit → Act → World → Prop} {l c : Operand} (hgd : op.guard = none) (ho : op.op = Op.makeSlice 125 l c) (hl : a.eval l = .int .i64 2) (hc : a.eval c = .int .i64 2)
  (h : wpList Tryz.prog ops Q rest (a.put op.dst (.slice (some ⟨W.heap.size, 0, none⟩) 2 2)) (W.alloc (.cells #[.bool false, .slice none 0 0, .bool false, .slice none 0 0, .bool false, .slice none 0 0, .bool false, .slice none 0 0] 29))) : wpList Tryz.prog ops Q (op :: rest) a W :=
 wpList_plain hgd fun _ hK => by
  have hi : (Tryz.prog.info? 29).map (fun i => (i.zero, i.size, i.bytes)) = some (some (fv fv0), 4, 64) := by kernel_rfl
  cases hq : Tryz.prog.info? 29 with
  | none => rw [hq] at hi; cases hi
  | some i =>
   rw [hq] at hi
   simp only [Option.map_some, Option.some.injEq, Prod.mk.injEq] at hi
   obtain ⟨hz, hs, hby⟩ := hi
   have hr := run_make (P := Tryz.prog) W 125 29 i (fv fv0) Tryz.underlying125 hq hz .i64 .i64 2 2 (by omega) (by omega) (by rw [hby]; omega) (by omega)
   simp only [hs] at hr
   have hm : madeCells (fv fv0).cells (Int.toNat 2 * 4) = #[.bool false, .slice none 0 0, .bool false, .slice none 0 0, .bool false, .slice none 0 0, .bool false, .slice none 0 0] := by
    apply Array.toList_inj.1
    have := made_list (fv fv0).cells 2 (by decide)
    exact this
   rw [hm] at hr
   unfold Oper.wp execOp
   simp only [ho, hl, hc, hr, Sem.run_bind, Sem.run_pure, Result.andThen_ok]
   exact hK _ _ h
end
set_option maxHeartbeats 16000000 in
set_option maxRecDepth 100000 in
theorem b_fit2 {q : Yq} {m : Yv} {C g : Nat} {w : World} (G : Gy w q m C) (Kg : Box w g (ycs m)) (hC : C ≤ 1759218604390) :
    Calls Tryz.prog 78 #[.slice (some ⟨g, 0, none⟩) 2 2] w (fun e w' => ∃ (v : Value) (er : Int), e = .returned (.tuple #[v, .int .i64 er]) ∧ ((er = 0 ∧ FitsY q ∧ ∃ (f : Yv) (h : Nat), v = .slice (some ⟨h, 0, none⟩) 2 2 ∧ Fy w' q f ∧ Box w' h (ycs f) ∧ w.heap.size ≤ h) ∨ (er = 4 ∧ ¬ FitsY q ∧ v = .slice none 0 0)) ∧ Below w.heap.size w w') := by
 have BW : Below w.heap.size w w := Below.refl _ _
 obtain ⟨V1, e2, hb3, K4, Z5, -⟩ := alloc_new w [.bool false, .slice none 0 0, .bool false, .slice none 0 0, .bool false, .slice none 0 0, .bool false, .slice none 0 0] 29
 replace K4 : Box V1 (w.heap.size) (zcs8) := K4
 have n6 : g ≠ w.heap.size := Nat.ne_of_lt (Kg.lt)
 have g7 : w.heap.size ≤ w.heap.size := BW.size
 replace Kg := Kg.on hb3
 replace G := G.kp (Kept.of hb3)
 replace BW := BW.trans (hb3.mono BW.size)
 clear hb3
 go_enter Tryz.func78, Tryz.ntmps78
 go_wp2_with (first | (refine wpList_makeF2 (by rfl) (by rfl) (by rfl) (by rfl) ?_))
 rw [← e2]
 clear e2
 have gz : w.heap.size ≤ w.heap.size := Nat.le_refl _
 refine wp_loop_rounds 3 ?_
 rw [rounds_succ]
 obtain ⟨c8, c9, c10, c11, c12, c13, c14, c15⟩ := Kg.c8
 obtain ⟨V16, e17, hb18, K19, Z20, -⟩ := alloc_new V1 [.bool m.Y.n, .slice m.Y.A m.Y.xs.length m.Y.c, .bool m.Y.m, .slice m.Y.B m.Y.ds.length m.Y.d] 74
 have n21 : g ≠ V1.heap.size := Nat.ne_of_lt (Kg.lt)
 have n22 : w.heap.size ≠ V1.heap.size := Nat.ne_of_lt (K4.lt)
 have g23 : w.heap.size ≤ V1.heap.size := BW.size
 replace Kg := Kg.on hb18
 replace K4 := K4.on hb18
 replace Z5 := Z5.on hb18
 replace G := G.kp (Kept.of hb18)
 replace BW := BW.trans (hb18.mono BW.size)
 clear hb18
 go_wp2_with fail
 clear c8 c9 c10 c11 c12 c13 c14 c15
 rw [← e17]
 clear e17
 generalize V1.heap.size = b24 at *
 obtain ⟨c25, c26, c27, c28⟩ := K19.c4
 go_wp2_with fail
 clear c25 c26 c27 c28
 refine (q_fit G.gY hC).mono ?_
 rintro _ w29 ⟨f0, er0, rfl, k0, hb⟩
 replace Kg := Kg.on hb
 replace K4 := K4.on hb
 replace K19 := K19.on hb
 replace Z5 := Z5.on hb
 replace G := G.kp (Kept.of hb)
 replace BW := BW.trans (hb.mono BW.size)
 clear hb
 rcases k0 with ⟨_, F0, rfl, L0⟩ | ⟨⟨hh, _⟩ | ⟨_, N0, rfl⟩, -⟩
 · obtain ⟨c30, c31, c32, c33, c34, c35, c36, c37⟩ := K4.c8
   obtain ⟨c38, c39, c40, c41, c42, c43, c44, c45⟩ := Z5.f8
   obtain ⟨V46, hk48⟩ : ∃ V46, V46 = w29.setCells (w.heap.size) 0 [.bool f0.n, .slice f0.A f0.xs.length f0.c, .bool f0.m, .slice f0.B f0.ds.length f0.d] := ⟨_, rfl⟩
   have e47 := hk48
   simp only [World.setCells, Nat.zero_add, Nat.reduceAdd] at e47
   have hk49 := Kept.overE hk48 K4 rfl (Nat.le_of_ble_eq_true rfl)
   replace Kg := Kg.awayE hk48 n6
   replace K4 := K4.part (us' := [.bool f0.n, .slice f0.A f0.xs.length f0.c, .bool f0.m, .slice f0.B f0.ds.length f0.d, .bool false, .slice none 0 0, .bool false, .slice none 0 0]) hk48 rfl (Nat.le_of_ble_eq_true rfl)
   replace K19 := K19.awayE hk48 n22.symm
   replace Z5 := Z5.putE hk48
   replace G := G.kp hk49
   replace L0 := L0.kp hk49
   replace BW := Below.putE BW hk48 gz
   clear hk48 hk49
   go_wp2_with fail
   clear c30 c31 c32 c33 c34 c35 c36 c37 c38 c39 c40 c41 c42 c43 c44 c45
   rw [← e47]
   clear e47
   rw [rounds_succ]
   obtain ⟨c50, c51, c52, c53, c54, c55, c56, c57⟩ := Kg.c8
   obtain ⟨V58, e59, hb60, K61, Z62, -⟩ := alloc_new V46 [.bool m.U.n, .slice m.U.A m.U.xs.length m.U.c, .bool m.U.m, .slice m.U.B m.U.ds.length m.U.d] 74
   have n63 : g ≠ V46.heap.size := Nat.ne_of_lt (Kg.lt)
   have n64 : w.heap.size ≠ V46.heap.size := Nat.ne_of_lt (K4.lt)
   have n65 : b24 ≠ V46.heap.size := Nat.ne_of_lt (K19.lt)
   have g66 : w.heap.size ≤ V46.heap.size := BW.size
   replace K4 := K4.on hb60
   replace Z5 := Z5.on hb60
   replace G := G.kp (Kept.of hb60)
   replace L0 := L0.kp (Kept.of hb60)
   replace BW := BW.trans (hb60.mono BW.size)
   clear hb60
   go_wp2_with fail
   clear c50 c51 c52 c53 c54 c55 c56 c57
   rw [← e59]
   clear e59
   generalize V46.heap.size = b67 at *
   obtain ⟨c68, c69, c70, c71⟩ := K61.c4
   go_wp2_with fail
   clear c68 c69 c70 c71
   refine (q_fit G.gU hC).mono ?_
   rintro _ w72 ⟨f1, er1, rfl, k1, hb⟩
   replace K4 := K4.on hb
   replace Z5 := Z5.on hb
   replace L0 := L0.kp (Kept.of hb)
   replace BW := BW.trans (hb.mono BW.size)
   clear hb
   rcases k1 with ⟨_, F1, rfl, L1⟩ | ⟨⟨hh, _⟩ | ⟨_, N1, rfl⟩, -⟩
   · obtain ⟨c73, c74, c75, c76, c77, c78, c79, c80⟩ := K4.c8
     obtain ⟨c81, c82, c83, c84, c85, c86, c87, c88⟩ := Z5.f8
     obtain ⟨V89, hk91⟩ : ∃ V89, V89 = w72.setCells (w.heap.size) 4 [.bool f1.n, .slice f1.A f1.xs.length f1.c, .bool f1.m, .slice f1.B f1.ds.length f1.d] := ⟨_, rfl⟩
     have e90 := hk91
     simp only [World.setCells, Nat.reduceAdd] at e90
     have hk92 := Kept.overE hk91 K4 rfl (Nat.le_of_ble_eq_true rfl)
     replace K4 := K4.part (us' := [.bool f0.n, .slice f0.A f0.xs.length f0.c, .bool f0.m, .slice f0.B f0.ds.length f0.d, .bool f1.n, .slice f1.A f1.xs.length f1.c, .bool f1.m, .slice f1.B f1.ds.length f1.d]) hk91 rfl (Nat.le_of_ble_eq_true rfl)
     replace Z5 := Z5.putE hk91
     replace L0 := L0.kp hk92
     replace L1 := L1.kp hk92
     replace BW := Below.putE BW hk91 gz
     clear hk91 hk92
     go_wp2_with fail
     clear c73 c74 c75 c76 c77 c78 c79 c80 c81 c82 c83 c84 c85 c86 c87 c88
     rw [← e90]
     clear e90
     rw [rounds_succ]
     go_wp2_with fail
     exact bodyPost_ret (v := .tuple #[.slice (some ⟨w.heap.size, 0, none⟩) 2 2, .int .i64 0]) (by simp [results, Tryz.results78, go_sem]) rfl ⟨_, _, rfl, .inl ⟨rfl, ⟨F0, F1⟩, ⟨f0, f1⟩, w.heap.size, rfl, ⟨L0, L1⟩, K4, Nat.le_refl _⟩, BW⟩
   · exact hh.elim
   · obtain ⟨c73, c74, c75, c76, c77, c78, c79, c80⟩ := K4.c8
     obtain ⟨c81, c82, c83, c84, c85, c86, c87, c88⟩ := Z5.f8
     obtain ⟨V89, hk91⟩ : ∃ V89, V89 = w72.setCells (w.heap.size) 4 [.bool f1.n, .slice f1.A f1.xs.length f1.c, .bool f1.m, .slice f1.B f1.ds.length f1.d] := ⟨_, rfl⟩
     have e90 := hk91
     simp only [World.setCells, Nat.reduceAdd] at e90
     have hk92 := Kept.overE hk91 K4 rfl (Nat.le_of_ble_eq_true rfl)
     replace K4 := K4.part (us' := [.bool f0.n, .slice f0.A f0.xs.length f0.c, .bool f0.m, .slice f0.B f0.ds.length f0.d, .bool f1.n, .slice f1.A f1.xs.length f1.c, .bool f1.m, .slice f1.B f1.ds.length f1.d]) hk91 rfl (Nat.le_of_ble_eq_true rfl)
     replace Z5 := Z5.putE hk91
     replace BW := Below.putE BW hk91 gz
     clear hk91 hk92
     go_wp2_with fail
     clear c73 c74 c75 c76 c77 c78 c79 c80 c81 c82 c83 c84 c85 c86 c87 c88
     rw [← e90]
     clear e90
     exact bodyPost_ret (v := .tuple #[.slice none 0 0, .int .i64 4]) (by simp [results, Tryz.results78, go_sem]) rfl ⟨_, _, rfl, .inr ⟨rfl, fun h => N1 h.2, rfl⟩, BW⟩
 · exact hh.elim
 · obtain ⟨c30, c31, c32, c33, c34, c35, c36, c37⟩ := K4.c8
   obtain ⟨c38, c39, c40, c41, c42, c43, c44, c45⟩ := Z5.f8
   obtain ⟨V46, hk48⟩ : ∃ V46, V46 = w29.setCells (w.heap.size) 0 [.bool f0.n, .slice f0.A f0.xs.length f0.c, .bool f0.m, .slice f0.B f0.ds.length f0.d] := ⟨_, rfl⟩
   have e47 := hk48
   simp only [World.setCells, Nat.zero_add, Nat.reduceAdd] at e47
   have hk49 := Kept.overE hk48 K4 rfl (Nat.le_of_ble_eq_true rfl)
   replace K4 := K4.part (us' := [.bool f0.n, .slice f0.A f0.xs.length f0.c, .bool f0.m, .slice f0.B f0.ds.length f0.d, .bool false, .slice none 0 0, .bool false, .slice none 0 0]) hk48 rfl (Nat.le_of_ble_eq_true rfl)
   replace BW := Below.putE BW hk48 gz
   clear hk48 hk49
   go_wp2_with fail
   clear c30 c31 c32 c33 c34 c35 c36 c37 c38 c39 c40 c41 c42 c43 c44 c45
   rw [← e47]
   clear e47
   exact bodyPost_ret (v := .tuple #[.slice none 0 0, .int .i64 4]) (by simp [results, Tryz.results78, go_sem]) rfl ⟨_, _, rfl, .inr ⟨rfl, fun h => N0 h.1, rfl⟩, BW⟩
set_option maxHeartbeats 16000000 in
set_option maxRecDepth 100000 in
theorem b_fitY {q : Yq} {m : Yv} {C : Nat} {w : World} (G : Gy w q m C) (hC : C ≤ 1759218604390) :
    Calls Tryz.prog 63 #[yv m] w (fun e w' => ∃ (f : Yv) (e1 : Int), e = .returned (.tuple #[yv f, .int .i64 e1]) ∧ YIs w' q f e1 ∧ Below w.heap.size w w') := by
 have BW : Below w.heap.size w w := Below.refl _ _
 obtain ⟨V2, e3, hb4, K5, Z6, z1⟩ := alloc_new w [.bool m.Y.n, .slice m.Y.A m.Y.xs.length m.Y.c, .bool m.Y.m, .slice m.Y.B m.Y.ds.length m.Y.d, .bool m.U.n, .slice m.U.A m.U.xs.length m.U.c, .bool m.U.m, .slice m.U.B m.U.ds.length m.U.d] 105
 replace K5 : Box V2 (w.heap.size) (ycs m) := K5
 have g7 : w.heap.size ≤ w.heap.size := BW.size
 replace G := G.kp (Kept.of hb4)
 replace BW := BW.trans (hb4.mono BW.size)
 clear hb4
 obtain ⟨V9, e10, hb11, K12, Z13, z8⟩ := alloc_new V2 [.bool false, .slice none 0 0, .bool false, .slice none 0 0, .bool false, .slice none 0 0, .bool false, .slice none 0 0] 40
 rw [z1] at K12 Z13 z8
 replace K12 : Box V9 (w.heap.size + 1) (zcs8) := K12
 have n14 : w.heap.size ≠ w.heap.size + 1 := Nat.ne_of_lt (z1 ▸ K5.lt)
 have g15 : w.heap.size ≤ w.heap.size + 1 := z1 ▸ BW.size
 replace K5 := K5.on hb11
 replace G := G.kp (Kept.of hb11)
 replace BW := BW.trans (hb11.mono BW.size)
 clear hb11
 obtain ⟨V16, e17, hb18, K19, Z20, -⟩ := alloc_new V9 [.bool m.Y.n, .slice m.Y.A m.Y.xs.length m.Y.c, .bool m.Y.m, .slice m.Y.B m.Y.ds.length m.Y.d, .bool m.U.n, .slice m.U.A m.U.xs.length m.U.c, .bool m.U.m, .slice m.U.B m.U.ds.length m.U.d] 74
 rw [z8] at K19 Z20
 replace K19 : Box V16 (w.heap.size + 1 + 1) (ycs m) := K19
 have n21 : w.heap.size ≠ w.heap.size + 1 + 1 := Nat.ne_of_lt (z8 ▸ K5.lt)
 have n22 : w.heap.size + 1 ≠ w.heap.size + 1 + 1 := Nat.ne_of_lt (z8 ▸ K12.lt)
 have g23 : w.heap.size ≤ w.heap.size + 1 + 1 := z8 ▸ BW.size
 replace K12 := K12.on hb18
 replace Z13 := Z13.on hb18
 replace G := G.kp (Kept.of hb18)
 replace BW := BW.trans (hb18.mono BW.size)
 clear hb18
 clear z1 z8
 go_enter Tryz.func63, Tryz.ntmps63
 go_wp2_with fail
 rw [← e3, ← e10, ← e17]
 clear e3 e10 e17
 have hl0 := K12.lt
 refine (b_fit2 G K19 hC).mono ?_
 rintro _ w24 ⟨v, er, rfl, hv, hb⟩
 replace K12 := K12.on hb
 replace Z13 := Z13.on hb
 replace BW := BW.trans (hb.mono BW.size)
 clear hb
 rcases hv with ⟨rfl, hF, f, h, rfl, L, Kh, hge⟩ | ⟨rfl, hN, rfl⟩
 · go_wp2_with fail
   have gz : w.heap.size ≤ w.heap.size + 1 := by omega
   have nh : h ≠ w.heap.size + 1 := by omega
   refine wp_region_noPanic ?_
   have hb : Below w24.heap.size w24 w24.drew := (Below.refl _ _).drew
   replace K12 := K12.on hb
   replace Kh := Kh.on hb
   replace Z13 := Z13.on hb
   replace L := L.kp (Kept.of hb)
   replace BW := BW.trans (hb.mono BW.size)
   clear hb
   refine wp_region_held_drew (S := (fun wx => Cs wx (h) 0 [.bool f.Y.n, .slice f.Y.A f.Y.xs.length f.Y.c, .bool f.Y.m, .slice f.Y.B f.Y.ds.length f.Y.d, .bool f.U.n, .slice f.U.A f.U.xs.length f.U.c, .bool f.U.m, .slice f.U.B f.U.ds.length f.U.d])) (by kernel_rfl) (by exact Kh.cs) (fun hHeld => ?_)
   generalize w24.drew = Vd25 at *
   refine pT 0 ?_
   (try simp only [p0, p1, p2, p3])
   refine pT 1 ?_
   (try simp only [p0, p1, p2, p3])
   refine pT 2 ?_
   (try simp only [p0, p1, p2, p3])
   refine pT 3 ?_
   (try simp only [p0, p1, p2, p3])
   refine pT 4 ?_
   (try simp only [p0, p1, p2, p3])
   refine pT 5 ?_
   (try simp only [p0, p1, p2, p3])
   refine pT 6 ?_
   (try simp only [p0, p1, p2, p3])
   refine pR1 7 (fun K hK => ?_)
   obtain ⟨c26, c27, c28, c29, c30, c31, c32, c33⟩ := K12.c8
   obtain ⟨c34, c35, c36, c37, c38, c39, c40, c41⟩ := Z13.f8
   go_simp
   clear c26 c27 c28 c29 c30 c31 c32 c33 c34 c35 c36 c37 c38 c39 c40 c41
   obtain ⟨V42, hk44⟩ : ∃ V42, V42 = Vd25.setCells (w.heap.size + 1) 0 [.bool f.Y.n, .slice f.Y.A f.Y.xs.length f.Y.c, .bool f.Y.m, .slice f.Y.B f.Y.ds.length f.Y.d, .bool f.U.n, .slice f.U.A f.U.xs.length f.U.c, .bool f.U.m, .slice f.U.B f.U.ds.length f.U.d] := ⟨_, rfl⟩
   have e43 := hk44
   simp only [World.setCells, Nat.zero_add, Nat.reduceAdd] at e43
   have hk45 := Kept.overE hk44 K12 rfl (Nat.le_of_ble_eq_true rfl)
   replace K12 := K12.overE hk44 rfl
   replace Kh := Kh.awayE hk44 nh
   replace Z13 := Z13.putE hk44
   replace L := L.kp hk45
   replace BW := Below.putE BW hk44 gz
   clear hk44 hk45
   replace K12 : Box V42 (w.heap.size + 1) (ycs f) := K12
   rw [← e43]
   clear e43
   clear hHeld
   refine hK.out _ _ (by exact Kh.cs) (fun hHeld => ?_)
   clear hK
   (try simp only [p0, p1, p2, p3])
   refine pT 8 ?_
   (try simp only [p0, p1, p2, p3])
   refine wpAnyH_done (by kernel_rfl) (NoPanic.normal ?_) _
   go_wp2
   obtain ⟨c46, c47, c48, c49, c50, c51, c52, c53⟩ := K12.c8
   exact bodyPost_ret (v := .tuple #[yv f, .int .i64 0]) (by simp [results, Tryz.results63, go_sem, c46, c47, c48, c49, c50, c51, c52, c53]) rfl ⟨f, 0, rfl, .inl ⟨rfl, hF, L⟩, BW⟩
 · obtain ⟨c25, c26, c27, c28, c29, c30, c31, c32⟩ := K12.c8
   obtain ⟨c33, c34, c35, c36, c37, c38, c39, c40⟩ := Z13.f8
   obtain ⟨V41, hk43⟩ : ∃ V41, V41 = w24.setCells (w.heap.size + 1) 0 [.bool false, .slice none 0 0, .bool false, .slice none 0 0, .bool false, .slice none 0 0, .bool false, .slice none 0 0] := ⟨_, rfl⟩
   have e42 := hk43
   simp only [World.setCells, Nat.zero_add, Nat.reduceAdd] at e42
   have hk44 := Kept.overE hk43 K12 rfl (Nat.le_of_ble_eq_true rfl)
   replace K12 := K12.overE hk43 rfl
   replace BW := Below.putE BW hk43 g15
   clear hk43 hk44
   replace K12 : Box V41 (w.heap.size + 1) (zcs8) := K12
   go_wp2_with fail
   clear c25 c26 c27 c28 c29 c30 c31 c32 c33 c34 c35 c36 c37 c38 c39 c40
   rw [← e42]
   clear e42
   obtain ⟨c45, c46, c47, c48, c49, c50, c51, c52⟩ := K12.c8
   exact bodyPost_ret (v := .tuple #[.agg #[.bool false, .slice none 0 0, .bool false, .slice none 0 0, .bool false, .slice none 0 0, .bool false, .slice none 0 0], .int .i64 4]) (by simp [results, Tryz.results63, go_sem, c45, c46, c47, c48, c49, c50, c51, c52]) rfl ⟨yv0, 4, rfl, .inr ⟨rfl, hN⟩, BW⟩
set_option maxHeartbeats 16000000 in
set_option maxRecDepth 100000 in
theorem b_OneE {z : Eq} {e : Ev} {w : World} (X : Fe w z e) (hz : z.may) :
    Calls Tryz.prog 25 #[ev e] w (fun e w' => ∃ (f : Mv) (e1 : Int), e = .returned (.tuple #[mv f, .int .i64 e1]) ∧ MIs w' z.mat f e1 ∧ Below w.heap.size w w') := by
 have HM := Lib.hid hz
 clear hz
 have BW : Below w.heap.size w w := Below.refl _ _
 obtain ⟨V2, e3, hb4, K5, Z6, z1⟩ := alloc_new w [.int .u8 e.k, .bool e.P.n, .slice e.P.A e.P.xs.length e.P.c, .bool e.P.m, .slice e.P.B e.P.ds.length e.P.d, .bool e.Q.n, .slice e.Q.A e.Q.xs.length e.Q.c, .bool e.Q.m, .slice e.Q.B e.Q.ds.length e.Q.d] 58
 have g7 : w.heap.size ≤ w.heap.size := BW.size
 replace X := X.kp (Kept.of hb4)
 replace BW := BW.trans (hb4.mono BW.size)
 clear hb4
 obtain ⟨V8, e9, hb10, K11, Z12, -⟩ := alloc_new V2 [.bool false, .slice none 0 0, .bool false, .slice none 0 0, .bool false, .slice none 0 0, .bool false, .slice none 0 0, .bool false, .slice none 0 0, .bool false, .slice none 0 0, .bool false, .slice none 0 0, .bool false, .slice none 0 0] 31
 rw [z1] at K11 Z12
 replace K11 : Box V8 (w.heap.size + 1) (zcs16) := K11
 have n13 : w.heap.size ≠ w.heap.size + 1 := Nat.ne_of_lt (z1 ▸ K5.lt)
 have g14 : w.heap.size ≤ w.heap.size + 1 := z1 ▸ BW.size
 replace K5 := K5.on hb10
 replace X := X.kp (Kept.of hb10)
 replace BW := BW.trans (hb10.mono BW.size)
 clear hb10
 clear z1
 go_enter Tryz.func25, Tryz.ntmps25
 go_wp2_with fail
 rw [← e3, ← e9]
 clear e3 e9
 have X0 := Lib.hid X
 refine (b_may (X.xe HM.out)).mono ?_
 rintro _ w15 ⟨r, rfl, hr, hb⟩
 replace K5 := K5.on hb
 replace K11 := K11.on hb
 replace Z12 := Z12.on hb
 replace X := X.kp (Kept.of hb)
 replace BW := BW.trans (hb.mono BW.size)
 clear hb
 obtain rfl : r = true := hr.2 ⟨z, X0.out, HM.out⟩
 clear hr
 obtain ⟨c16, c17, c18, c19, c20, c21, c22, c23, c24⟩ := K5.c9
 go_wp2_with fail
 clear c16 c17 c18 c19 c20 c21 c22 c23 c24
 refine (b_matrix X HM.out).mono ?_
 rintro _ w25 ⟨f, rfl, L, hb⟩
 replace K11 := K11.on hb
 replace Z12 := Z12.on hb
 replace BW := BW.trans (hb.mono BW.size)
 clear hb
 go_wp2_with fail
 refine (b_fit L (by decide)).mono ?_
 rintro _ w26 ⟨f4, e4, rfl, h4, hb⟩
 replace K11 := K11.on hb
 replace Z12 := Z12.on hb
 replace BW := BW.trans (hb.mono BW.size)
 clear hb
 obtain ⟨c27, c28, c29, c30, c31, c32, c33, c34, c35, c36, c37, c38, c39, c40, c41, c42⟩ := K11.c16
 obtain ⟨c43, c44, c45, c46, c47, c48, c49, c50, c51, c52, c53, c54, c55, c56, c57, c58⟩ := Z12.f16
 obtain ⟨V59, hk61⟩ : ∃ V59, V59 = w26.setCells (w.heap.size + 1) 0 [.bool f4.A.n, .slice f4.A.A f4.A.xs.length f4.A.c, .bool f4.A.m, .slice f4.A.B f4.A.ds.length f4.A.d, .bool f4.B.n, .slice f4.B.A f4.B.xs.length f4.B.c, .bool f4.B.m, .slice f4.B.B f4.B.ds.length f4.B.d, .bool f4.C.n, .slice f4.C.A f4.C.xs.length f4.C.c, .bool f4.C.m, .slice f4.C.B f4.C.ds.length f4.C.d, .bool f4.D.n, .slice f4.D.A f4.D.xs.length f4.D.c, .bool f4.D.m, .slice f4.D.B f4.D.ds.length f4.D.d] := ⟨_, rfl⟩
 have e60 := hk61
 simp only [World.setCells, Nat.zero_add, Nat.reduceAdd] at e60
 have hk62 := Kept.overE hk61 K11 rfl (Nat.le_of_ble_eq_true rfl)
 replace K11 := K11.overE hk61 rfl
 replace h4 := h4.kp hk62
 replace BW := Below.putE BW hk61 g14
 clear hk61 hk62
 replace K11 : Box V59 (w.heap.size + 1) (mcs f4) := K11
 go_wp2_with fail
 clear c27 c28 c29 c30 c31 c32 c33 c34 c35 c36 c37 c38 c39 c40 c41 c42 c43 c44 c45 c46 c47 c48 c49 c50 c51 c52 c53 c54 c55 c56 c57 c58
 rw [← e60]
 clear e60
 exact bodyPost_ret (v := .tuple #[mv f4, .int .i64 e4]) (res_M2 Tryz.results25 (by rfl) (by rfl) K11 rfl) rfl ⟨f4, e4, rfl, h4, BW⟩
end Go.Proofs.YtjamfkafgfpobaaGreat
