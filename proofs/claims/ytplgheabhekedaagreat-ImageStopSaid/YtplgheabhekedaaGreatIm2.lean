/-
  What image's both and its closure answer. Conditions: as each theorem states.
-/
import Derived.Test.YtplgheabhekedaaGreatIm1
import Derived.Test.YtplgheabhekedaaGreatBny
import Derived.Deep.RegionHeld3
import Derived.Deep.DeepCutAuto
import Derived.BigRegion
namespace Go.Proofs.YtplgheabhekedaaGreat
open Go.RowKit Nb

def BothIs (W : World) (x y : Rat) (f g : Fv) (e : Int) : Prop := (e = 0 ∧ FitsQ x ∧ FitsQ y ∧ Ff W x f ∧ Ff W y g) ∨ (e = 4 ∧ ¬ (FitsQ x ∧ FitsQ y) ∧ f = fv0 ∧ g = fv0)
set_option maxHeartbeats 16000000 in
set_option maxRecDepth 100000 in
theorem i_both {x y : Rat} {a b : Fv} {C : Nat} {w : World} (La : Fq w x a C) (Lb : Fq w y b C) (hC : C ≤ 1759218604390) :
    Calls Tryz.prog 96 #[fv a, fv b, .int .i64 0] w (fun e w' => ∃ (f g : Fv) (er : Int), e = .returned (.tuple #[fv f, fv g, .int .i64 er]) ∧ BothIs w' x y f g er ∧ Below w.heap.size w w') := by
 have BW : Below w.heap.size w w := Below.refl _ _
 obtain ⟨V2, e3, hb4, K5, Z6, z1⟩ := alloc_new w [.bool a.n, .slice a.A a.xs.length a.c, .bool a.m, .slice a.B a.ds.length a.d] 88
 have g7 : w.heap.size ≤ w.heap.size := BW.size
 replace La := La.kp (Kept.of hb4)
 replace Lb := Lb.kp (Kept.of hb4)
 replace BW := BW.trans (hb4.mono BW.size)
 clear hb4
 obtain ⟨V9, e10, hb11, K12, Z13, z8⟩ := alloc_new V2 [.bool b.n, .slice b.A b.xs.length b.c, .bool b.m, .slice b.B b.ds.length b.d] 88
 rw [z1] at K12 Z13 z8
 have n14 : w.heap.size ≠ w.heap.size + 1 := Nat.ne_of_lt (z1 ▸ K5.lt)
 have g15 : w.heap.size ≤ w.heap.size + 1 := z1 ▸ BW.size
 replace K5 := K5.on hb11
 replace La := La.kp (Kept.of hb11)
 replace Lb := Lb.kp (Kept.of hb11)
 replace BW := BW.trans (hb11.mono BW.size)
 clear hb11
 obtain ⟨V17, e18, hb19, K20, Z21, z16⟩ := alloc_new V9 [.bool false, .slice none 0 0, .bool false, .slice none 0 0] 29
 rw [z8] at K20 Z21 z16
 have n22 : w.heap.size ≠ w.heap.size + 1 + 1 := Nat.ne_of_lt (z8 ▸ K5.lt)
 have n23 : w.heap.size + 1 ≠ w.heap.size + 1 + 1 := Nat.ne_of_lt (z8 ▸ K12.lt)
 have g24 : w.heap.size ≤ w.heap.size + 1 + 1 := z8 ▸ BW.size
 replace K5 := K5.on hb19
 replace K12 := K12.on hb19
 replace La := La.kp (Kept.of hb19)
 replace Lb := Lb.kp (Kept.of hb19)
 replace BW := BW.trans (hb19.mono BW.size)
 clear hb19
 obtain ⟨V25, e26, hb27, K28, Z29, -⟩ := alloc_new V17 [.bool false, .slice none 0 0, .bool false, .slice none 0 0] 29
 rw [z16] at K28 Z29
 have n30 : w.heap.size ≠ w.heap.size + 1 + 1 + 1 := Nat.ne_of_lt (z16 ▸ K5.lt)
 have n31 : w.heap.size + 1 ≠ w.heap.size + 1 + 1 + 1 := Nat.ne_of_lt (z16 ▸ K12.lt)
 have n32 : w.heap.size + 1 + 1 ≠ w.heap.size + 1 + 1 + 1 := Nat.ne_of_lt (z16 ▸ K20.lt)
 have g33 : w.heap.size ≤ w.heap.size + 1 + 1 + 1 := z16 ▸ BW.size
 replace K5 := K5.on hb27
 replace K12 := K12.on hb27
 replace K20 := K20.on hb27
 replace Z21 := Z21.on hb27
 replace La := La.kp (Kept.of hb27)
 replace Lb := Lb.kp (Kept.of hb27)
 replace BW := BW.trans (hb27.mono BW.size)
 clear hb27
 clear z1 z8 z16
 go_enter Tryz.func96, Tryz.ntmps96
 go_wp2_with fail
 rw [← e3, ← e10, ← e18, ← e26]
 clear e3 e10 e18 e26
 refine (q_fit La hC).mono ?_
 rintro _ w34 ⟨f, er, rfl, R, hb⟩
 replace K5 := K5.on hb
 replace K12 := K12.on hb
 replace K20 := K20.on hb
 replace K28 := K28.on hb
 replace Z21 := Z21.on hb
 replace Z29 := Z29.on hb
 replace Lb := Lb.kp (Kept.of hb)
 replace BW := BW.trans (hb.mono BW.size)
 clear hb
 obtain ⟨V35, e36, hb37, K38, Z39, -⟩ := alloc_new w34 [.bool f.n, .slice f.A f.xs.length f.c, .bool f.m, .slice f.B f.ds.length f.d] 29
 have n40 : w.heap.size ≠ w34.heap.size := Nat.ne_of_lt (K5.lt)
 have n41 : w.heap.size + 1 ≠ w34.heap.size := Nat.ne_of_lt (K12.lt)
 have n42 : w.heap.size + 1 + 1 ≠ w34.heap.size := Nat.ne_of_lt (K20.lt)
 have n43 : w.heap.size + 1 + 1 + 1 ≠ w34.heap.size := Nat.ne_of_lt (K28.lt)
 have g44 : w.heap.size ≤ w34.heap.size := BW.size
 replace K5 := K5.on hb37
 replace K12 := K12.on hb37
 replace K20 := K20.on hb37
 replace K28 := K28.on hb37
 replace Z21 := Z21.on hb37
 replace Z29 := Z29.on hb37
 replace Lb := Lb.kp (Kept.of hb37)
 replace R := R.kp (Kept.of hb37)
 replace BW := BW.trans (hb37.mono BW.size)
 clear hb37
 obtain ⟨c45, c46, c47, c48⟩ := K12.c4
 rw [e36] at c45 c46 c47 c48
 go_wp2_with fail
 clear c45 c46 c47 c48
 rw [← e36]
 clear e36
 generalize w34.heap.size = b49 at *
 refine (q_fit Lb hC).mono ?_
 rintro _ w50 ⟨g, es, rfl, S, hb⟩
 replace K5 := K5.on hb
 replace K12 := K12.on hb
 replace K20 := K20.on hb
 replace K28 := K28.on hb
 replace K38 := K38.on hb
 replace Z21 := Z21.on hb
 replace Z29 := Z29.on hb
 replace R := R.kp (Kept.of hb)
 replace BW := BW.trans (hb.mono BW.size)
 clear hb
 obtain ⟨V52, e53, hb54, K55, Z56, z51⟩ := alloc_new w50 [.bool g.n, .slice g.A g.xs.length g.c, .bool g.m, .slice g.B g.ds.length g.d] 29
 have n57 : w.heap.size ≠ w50.heap.size := Nat.ne_of_lt (K5.lt)
 have n58 : w.heap.size + 1 ≠ w50.heap.size := Nat.ne_of_lt (K12.lt)
 have n59 : w.heap.size + 1 + 1 ≠ w50.heap.size := Nat.ne_of_lt (K20.lt)
 have n60 : w.heap.size + 1 + 1 + 1 ≠ w50.heap.size := Nat.ne_of_lt (K28.lt)
 have n61 : b49 ≠ w50.heap.size := Nat.ne_of_lt (K38.lt)
 have g62 : w.heap.size ≤ w50.heap.size := BW.size
 replace K5 := K5.on hb54
 replace K12 := K12.on hb54
 replace K20 := K20.on hb54
 replace K28 := K28.on hb54
 replace K38 := K38.on hb54
 replace Z21 := Z21.on hb54
 replace Z29 := Z29.on hb54
 replace R := R.kp (Kept.of hb54)
 replace S := S.kp (Kept.of hb54)
 replace BW := BW.trans (hb54.mono BW.size)
 clear hb54
 obtain ⟨V63, e64, hb65, K66, Z67, -⟩ := alloc_new V52 [.int .i64 0, .int .i64 er, .int .i64 es] 32
 rw [z51] at K66 Z67
 have n68 : w.heap.size ≠ w50.heap.size + 1 := Nat.ne_of_lt (z51 ▸ K5.lt)
 have n69 : w.heap.size + 1 ≠ w50.heap.size + 1 := Nat.ne_of_lt (z51 ▸ K12.lt)
 have n70 : w.heap.size + 1 + 1 ≠ w50.heap.size + 1 := Nat.ne_of_lt (z51 ▸ K20.lt)
 have n71 : w.heap.size + 1 + 1 + 1 ≠ w50.heap.size + 1 := Nat.ne_of_lt (z51 ▸ K28.lt)
 have n72 : b49 ≠ w50.heap.size + 1 := Nat.ne_of_lt (z51 ▸ K38.lt)
 have n73 : w50.heap.size ≠ w50.heap.size + 1 := Nat.ne_of_lt (z51 ▸ K55.lt)
 have g74 : w.heap.size ≤ w50.heap.size + 1 := z51 ▸ BW.size
 replace K20 := K20.on hb65
 replace K28 := K28.on hb65
 replace K38 := K38.on hb65
 replace K55 := K55.on hb65
 replace Z21 := Z21.on hb65
 replace Z29 := Z29.on hb65
 replace R := R.kp (Kept.of hb65)
 replace S := S.kp (Kept.of hb65)
 replace BW := BW.trans (hb65.mono BW.size)
 clear hb65
 clear z51
 go_wp2_with fail
 rw [← e53, ← e64]
 clear e53 e64
 generalize w50.heap.size + 1 = b75 at *
 generalize w50.heap.size = b76 at *
 refine (cor_three K66).mono ?_
 rintro _ w77 ⟨rfl, hb⟩
 replace K20 := K20.on hb
 replace K28 := K28.on hb
 replace K38 := K38.on hb
 replace K55 := K55.on hb
 replace K66 := K66.on hb
 replace Z21 := Z21.on hb
 replace Z29 := Z29.on hb
 replace R := R.kp (Kept.of hb)
 replace S := S.kp (Kept.of hb)
 replace BW := BW.trans (hb.mono BW.size)
 clear hb
 clear K66
 by_cases hF : FitsQ x ∧ FitsQ y
 ·obtain ⟨rfl, L1⟩ := R.yes not_false hF.1
  obtain ⟨rfl, L2⟩ := S.yes not_false hF.2
  have HF := Lib.hid hF
  clear hF R S
  rw [show orE3 0 0 0 = 0 from rfl]
  go_wp2_with fail
  refine wp_region_noPanic ?_
  have hb : Below w77.heap.size w77 w77.drew := (Below.refl _ _).drew
  replace K20 := K20.on hb
  replace K28 := K28.on hb
  replace K38 := K38.on hb
  replace K55 := K55.on hb
  replace Z21 := Z21.on hb
  replace Z29 := Z29.on hb
  replace L1 := L1.kp (Kept.of hb)
  replace L2 := L2.kp (Kept.of hb)
  replace BW := BW.trans (hb.mono BW.size)
  clear hb
  refine wp_region_held_drew (S := (fun wx => Cs wx (b49) 0 [.bool f.n, .slice f.A f.xs.length f.c, .bool f.m, .slice f.B f.ds.length f.d] ∧ Cs wx (b76) 0 [.bool g.n, .slice g.A g.xs.length g.c, .bool g.m, .slice g.B g.ds.length g.d])) (by kernel_rfl) (by exact ⟨K38.cs, K55.cs⟩) (fun hHeld => ?_)
  generalize w77.drew = Vd78 at *
  refine pT 0 ?_
  (try simp only [p0, p1, p2, p3])
  refine pT 1 ?_
  (try simp only [p0, p1, p2, p3])
  refine pR1 2 (fun K hK => ?_)
  obtain ⟨c79, c80, c81, c82⟩ := K20.c4
  obtain ⟨c83, c84, c85, c86⟩ := Z21.f4
  go_simp
  clear c79 c80 c81 c82 c83 c84 c85 c86
  obtain ⟨V87, hk89⟩ : ∃ V87, V87 = Vd78.setCells (w.heap.size + 1 + 1) 0 [.bool f.n, .slice f.A f.xs.length f.c, .bool f.m, .slice f.B f.ds.length f.d] := ⟨_, rfl⟩
  have e88 := hk89
  simp only [World.setCells, Nat.zero_add, Nat.reduceAdd] at e88
  have hk90 := Kept.overE hk89 K20 rfl (Nat.le_of_ble_eq_true rfl)
  replace K20 := K20.overE hk89 rfl
  replace K28 := K28.awayE hk89 n32.symm
  replace K38 := K38.awayE hk89 n42.symm
  replace K55 := K55.awayE hk89 n59.symm
  replace Z21 := Z21.putE hk89
  replace Z29 := Z29.putE hk89
  replace L1 := L1.kp hk90
  replace L2 := L2.kp hk90
  replace BW := Below.putE BW hk89 g24
  clear hk89 hk90
  rw [← e88]
  clear e88
  clear hHeld
  refine hK.out _ _ (by exact ⟨K38.cs, K55.cs⟩) (fun hHeld => ?_)
  clear hK
  (try simp only [p0, p1, p2, p3])
  refine pR1 3 (fun K hK => ?_)
  obtain ⟨c91, c92, c93, c94⟩ := K28.c4
  obtain ⟨c95, c96, c97, c98⟩ := Z29.f4
  go_simp
  clear c91 c92 c93 c94 c95 c96 c97 c98
  obtain ⟨V99, hk101⟩ : ∃ V99, V99 = V87.setCells (w.heap.size + 1 + 1 + 1) 0 [.bool g.n, .slice g.A g.xs.length g.c, .bool g.m, .slice g.B g.ds.length g.d] := ⟨_, rfl⟩
  have e100 := hk101
  simp only [World.setCells, Nat.zero_add, Nat.reduceAdd] at e100
  have hk102 := Kept.overE hk101 K28 rfl (Nat.le_of_ble_eq_true rfl)
  replace K20 := K20.awayE hk101 n32
  replace K28 := K28.overE hk101 rfl
  replace K38 := K38.awayE hk101 n43.symm
  replace K55 := K55.awayE hk101 n60.symm
  replace Z21 := Z21.putE hk101
  replace Z29 := Z29.putE hk101
  replace L1 := L1.kp hk102
  replace L2 := L2.kp hk102
  replace BW := Below.putE BW hk101 g33
  clear hk101 hk102
  rw [← e100]
  clear e100
  clear hHeld
  refine hK.out _ _ (by exact ⟨K38.cs, K55.cs⟩) (fun hHeld => ?_)
  clear hK
  (try simp only [p0, p1, p2, p3])
  refine pT 4 ?_
  (try simp only [p0, p1, p2, p3])
  refine wpAnyH_done (by kernel_rfl) (NoPanic.normal ?_) _
  go_wp2
  obtain ⟨c103, c104, c105, c106⟩ := K20.c4
  obtain ⟨c107, c108, c109, c110⟩ := K28.c4
  exact bodyPost_ret (v := .tuple #[fv f, fv g, .int .i64 0]) (by simp [results, Tryz.results96, go_sem, c103, c104, c105, c106, c107, c108, c109, c110]) rfl ⟨f, g, 0, rfl, .inl ⟨rfl, HF.out.1, HF.out.2, L1, L2⟩, BW⟩
 ·rw [fr_bad R S hF]
  have HF := Lib.hid hF
  clear hF R S
  obtain ⟨c78, c79, c80, c81⟩ := K20.c4
  obtain ⟨c82, c83, c84, c85⟩ := Z21.f4
  obtain ⟨V86, hk88⟩ : ∃ V86, V86 = w77.setCells (w.heap.size + 1 + 1) 0 [.bool false, .slice none 0 0, .bool false, .slice none 0 0] := ⟨_, rfl⟩
  have e87 := hk88
  simp only [World.setCells, Nat.zero_add, Nat.reduceAdd] at e87
  have hk89 := Kept.overE hk88 K20 rfl (Nat.le_of_ble_eq_true rfl)
  replace K20 := K20.overE hk88 rfl
  replace K28 := K28.awayE hk88 n32.symm
  replace Z29 := Z29.putE hk88
  replace BW := Below.putE BW hk88 g24
  clear hk88 hk89
  obtain ⟨c90, c91, c92, c93⟩ := K28.c4
  obtain ⟨c94, c95, c96, c97⟩ := Z29.f4
  rw [e87] at c90 c91 c92 c93 c94 c95 c96 c97
  obtain ⟨V98, hk100⟩ : ∃ V98, V98 = V86.setCells (w.heap.size + 1 + 1 + 1) 0 [.bool false, .slice none 0 0, .bool false, .slice none 0 0] := ⟨_, rfl⟩
  have e99 := hk100
  simp only [World.setCells, Nat.zero_add, Nat.reduceAdd] at e99
  have hk101 := Kept.overE hk100 K28 rfl (Nat.le_of_ble_eq_true rfl)
  replace K20 := K20.awayE hk100 n32
  replace K28 := K28.overE hk100 rfl
  replace BW := Below.putE BW hk100 g33
  clear hk100 hk101
  go_wp2_with fail
  clear c78 c79 c80 c81 c82 c83 c84 c85 c90 c91 c92 c93 c94 c95 c96 c97
  rw [← e87, ← e99]
  clear e87 e99
  obtain ⟨c102, c103, c104, c105⟩ := K20.c4
  obtain ⟨c106, c107, c108, c109⟩ := K28.c4
  exact bodyPost_ret (v := .tuple #[.agg #[.bool false, .slice none 0 0, .bool false, .slice none 0 0], .agg #[.bool false, .slice none 0 0, .bool false, .slice none 0 0], .int .i64 4]) (by simp [results, Tryz.results96, go_sem, c102, c103, c104, c105, c106, c107, c108, c109]) rfl ⟨fv0, fv0, 4, rfl, .inr ⟨rfl, HF.out, rfl, rfl⟩, BW⟩
set_option maxHeartbeats 16000000 in
set_option maxRecDepth 100000 in
theorem i_both3 {w : World} :
    Calls Tryz.prog 96 #[.agg #[.bool false, .slice none 0 0, .bool false, .slice none 0 0], .agg #[.bool false, .slice none 0 0, .bool false, .slice none 0 0], .int .i64 3] w (fun e w' => e = .returned (.tuple #[.agg #[.bool false, .slice none 0 0, .bool false, .slice none 0 0], .agg #[.bool false, .slice none 0 0, .bool false, .slice none 0 0], .int .i64 3]) ∧ Below w.heap.size w w') := by
 have BW : Below w.heap.size w w := Below.refl _ _
 obtain ⟨V2, e3, hb4, K5, Z6, z1⟩ := alloc_new w [.bool false, .slice none 0 0, .bool false, .slice none 0 0] 88
 have g7 : w.heap.size ≤ w.heap.size := BW.size
 replace BW := BW.trans (hb4.mono BW.size)
 clear hb4
 obtain ⟨V9, e10, hb11, K12, Z13, z8⟩ := alloc_new V2 [.bool false, .slice none 0 0, .bool false, .slice none 0 0] 88
 rw [z1] at K12 Z13 z8
 have n14 : w.heap.size ≠ w.heap.size + 1 := Nat.ne_of_lt (z1 ▸ K5.lt)
 have g15 : w.heap.size ≤ w.heap.size + 1 := z1 ▸ BW.size
 replace K5 := K5.on hb11
 replace BW := BW.trans (hb11.mono BW.size)
 clear hb11
 obtain ⟨V17, e18, hb19, K20, Z21, z16⟩ := alloc_new V9 [.bool false, .slice none 0 0, .bool false, .slice none 0 0] 29
 rw [z8] at K20 Z21 z16
 have n22 : w.heap.size ≠ w.heap.size + 1 + 1 := Nat.ne_of_lt (z8 ▸ K5.lt)
 have n23 : w.heap.size + 1 ≠ w.heap.size + 1 + 1 := Nat.ne_of_lt (z8 ▸ K12.lt)
 have g24 : w.heap.size ≤ w.heap.size + 1 + 1 := z8 ▸ BW.size
 replace K5 := K5.on hb19
 replace K12 := K12.on hb19
 replace BW := BW.trans (hb19.mono BW.size)
 clear hb19
 obtain ⟨V25, e26, hb27, K28, Z29, -⟩ := alloc_new V17 [.bool false, .slice none 0 0, .bool false, .slice none 0 0] 29
 rw [z16] at K28 Z29
 have n30 : w.heap.size ≠ w.heap.size + 1 + 1 + 1 := Nat.ne_of_lt (z16 ▸ K5.lt)
 have n31 : w.heap.size + 1 ≠ w.heap.size + 1 + 1 + 1 := Nat.ne_of_lt (z16 ▸ K12.lt)
 have n32 : w.heap.size + 1 + 1 ≠ w.heap.size + 1 + 1 + 1 := Nat.ne_of_lt (z16 ▸ K20.lt)
 have g33 : w.heap.size ≤ w.heap.size + 1 + 1 + 1 := z16 ▸ BW.size
 replace K5 := K5.on hb27
 replace K12 := K12.on hb27
 replace K20 := K20.on hb27
 replace Z21 := Z21.on hb27
 replace BW := BW.trans (hb27.mono BW.size)
 clear hb27
 clear z1 z8 z16
 go_enter Tryz.func96, Tryz.ntmps96
 go_wp2_with fail
 rw [← e3, ← e10, ← e18, ← e26]
 clear e3 e10 e18 e26
 refine (zero_fit).mono ?_
 rintro _ w34 ⟨f, rfl, hb⟩
 replace K5 := K5.on hb
 replace K12 := K12.on hb
 replace K20 := K20.on hb
 replace K28 := K28.on hb
 replace Z21 := Z21.on hb
 replace Z29 := Z29.on hb
 replace BW := BW.trans (hb.mono BW.size)
 clear hb
 obtain ⟨V35, e36, hb37, K38, Z39, -⟩ := alloc_new w34 [.bool f.n, .slice f.A f.xs.length f.c, .bool f.m, .slice f.B f.ds.length f.d] 29
 have n40 : w.heap.size ≠ w34.heap.size := Nat.ne_of_lt (K5.lt)
 have n41 : w.heap.size + 1 ≠ w34.heap.size := Nat.ne_of_lt (K12.lt)
 have n42 : w.heap.size + 1 + 1 ≠ w34.heap.size := Nat.ne_of_lt (K20.lt)
 have n43 : w.heap.size + 1 + 1 + 1 ≠ w34.heap.size := Nat.ne_of_lt (K28.lt)
 have g44 : w.heap.size ≤ w34.heap.size := BW.size
 replace K5 := K5.on hb37
 replace K12 := K12.on hb37
 replace K20 := K20.on hb37
 replace K28 := K28.on hb37
 replace Z21 := Z21.on hb37
 replace Z29 := Z29.on hb37
 replace BW := BW.trans (hb37.mono BW.size)
 clear hb37
 obtain ⟨c45, c46, c47, c48⟩ := K12.c4
 rw [e36] at c45 c46 c47 c48
 go_wp2_with fail
 clear c45 c46 c47 c48
 rw [← e36]
 clear e36
 generalize w34.heap.size = b49 at *
 refine (zero_fit).mono ?_
 rintro _ w50 ⟨g, rfl, hb⟩
 replace K5 := K5.on hb
 replace K12 := K12.on hb
 replace K20 := K20.on hb
 replace K28 := K28.on hb
 replace K38 := K38.on hb
 replace Z21 := Z21.on hb
 replace Z29 := Z29.on hb
 replace BW := BW.trans (hb.mono BW.size)
 clear hb
 obtain ⟨V52, e53, hb54, K55, Z56, z51⟩ := alloc_new w50 [.bool g.n, .slice g.A g.xs.length g.c, .bool g.m, .slice g.B g.ds.length g.d] 29
 have n57 : w.heap.size ≠ w50.heap.size := Nat.ne_of_lt (K5.lt)
 have n58 : w.heap.size + 1 ≠ w50.heap.size := Nat.ne_of_lt (K12.lt)
 have n59 : w.heap.size + 1 + 1 ≠ w50.heap.size := Nat.ne_of_lt (K20.lt)
 have n60 : w.heap.size + 1 + 1 + 1 ≠ w50.heap.size := Nat.ne_of_lt (K28.lt)
 have n61 : b49 ≠ w50.heap.size := Nat.ne_of_lt (K38.lt)
 have g62 : w.heap.size ≤ w50.heap.size := BW.size
 replace K5 := K5.on hb54
 replace K12 := K12.on hb54
 replace K20 := K20.on hb54
 replace K28 := K28.on hb54
 replace K38 := K38.on hb54
 replace Z21 := Z21.on hb54
 replace Z29 := Z29.on hb54
 replace BW := BW.trans (hb54.mono BW.size)
 clear hb54
 obtain ⟨V63, e64, hb65, K66, Z67, -⟩ := alloc_new V52 [.int .i64 3, .int .i64 0, .int .i64 0] 32
 rw [z51] at K66 Z67
 have n68 : w.heap.size ≠ w50.heap.size + 1 := Nat.ne_of_lt (z51 ▸ K5.lt)
 have n69 : w.heap.size + 1 ≠ w50.heap.size + 1 := Nat.ne_of_lt (z51 ▸ K12.lt)
 have n70 : w.heap.size + 1 + 1 ≠ w50.heap.size + 1 := Nat.ne_of_lt (z51 ▸ K20.lt)
 have n71 : w.heap.size + 1 + 1 + 1 ≠ w50.heap.size + 1 := Nat.ne_of_lt (z51 ▸ K28.lt)
 have n72 : b49 ≠ w50.heap.size + 1 := Nat.ne_of_lt (z51 ▸ K38.lt)
 have n73 : w50.heap.size ≠ w50.heap.size + 1 := Nat.ne_of_lt (z51 ▸ K55.lt)
 have g74 : w.heap.size ≤ w50.heap.size + 1 := z51 ▸ BW.size
 replace K20 := K20.on hb65
 replace K28 := K28.on hb65
 replace Z21 := Z21.on hb65
 replace Z29 := Z29.on hb65
 replace BW := BW.trans (hb65.mono BW.size)
 clear hb65
 clear z51
 go_wp2_with fail
 rw [← e53, ← e64]
 clear e53 e64
 generalize w50.heap.size + 1 = b75 at *
 generalize w50.heap.size = b76 at *
 refine (cor_three K66).mono ?_
 rintro _ w77 ⟨rfl, hb⟩
 replace K20 := K20.on hb
 replace K28 := K28.on hb
 replace Z21 := Z21.on hb
 replace Z29 := Z29.on hb
 replace BW := BW.trans (hb.mono BW.size)
 clear hb
 rw [show orE3 3 0 0 = 3 from rfl]
 obtain ⟨c78, c79, c80, c81⟩ := K20.c4
 obtain ⟨c82, c83, c84, c85⟩ := Z21.f4
 obtain ⟨V86, hk88⟩ : ∃ V86, V86 = w77.setCells (w.heap.size + 1 + 1) 0 [.bool false, .slice none 0 0, .bool false, .slice none 0 0] := ⟨_, rfl⟩
 have e87 := hk88
 simp only [World.setCells, Nat.zero_add, Nat.reduceAdd] at e87
 have hk89 := Kept.overE hk88 K20 rfl (Nat.le_of_ble_eq_true rfl)
 replace K20 := K20.overE hk88 rfl
 replace K28 := K28.awayE hk88 n32.symm
 replace Z29 := Z29.putE hk88
 replace BW := Below.putE BW hk88 g24
 clear hk88 hk89
 obtain ⟨c90, c91, c92, c93⟩ := K28.c4
 obtain ⟨c94, c95, c96, c97⟩ := Z29.f4
 rw [e87] at c90 c91 c92 c93 c94 c95 c96 c97
 obtain ⟨V98, hk100⟩ : ∃ V98, V98 = V86.setCells (w.heap.size + 1 + 1 + 1) 0 [.bool false, .slice none 0 0, .bool false, .slice none 0 0] := ⟨_, rfl⟩
 have e99 := hk100
 simp only [World.setCells, Nat.zero_add, Nat.reduceAdd] at e99
 have hk101 := Kept.overE hk100 K28 rfl (Nat.le_of_ble_eq_true rfl)
 replace K20 := K20.awayE hk100 n32
 replace K28 := K28.overE hk100 rfl
 replace BW := Below.putE BW hk100 g33
 clear hk100 hk101
 go_wp2_with fail
 clear c78 c79 c80 c81 c82 c83 c84 c85 c90 c91 c92 c93 c94 c95 c96 c97
 rw [← e87, ← e99]
 clear e87 e99
 obtain ⟨c102, c103, c104, c105⟩ := K20.c4
 obtain ⟨c106, c107, c108, c109⟩ := K28.c4
 exact bodyPost_ret (v := .tuple #[.agg #[.bool false, .slice none 0 0, .bool false, .slice none 0 0], .agg #[.bool false, .slice none 0 0, .bool false, .slice none 0 0], .int .i64 3]) (by simp [results, Tryz.results96, go_sem, c102, c103, c104, c105, c106, c107, c108, c109]) rfl ⟨rfl, BW⟩
theorem i_bothE {x y p : Rat} {a b : Fv} {C : Nat} {e0 : Int} {w : World} (h : (p = 0 ∧ e0 = 3 ∧ a = fv0 ∧ b = fv0) ∨ (p ≠ 0 ∧ e0 = 0 ∧ Fq w x a C ∧ Fq w y b C)) (hC : C ≤ 1759218604390) : Calls Tryz.prog 96 #[fv a, fv b, .int .i64 e0] w (fun e w' => ∃ (f g : Fv) (er : Int), e = .returned (.tuple #[fv f, fv g, .int .i64 er]) ∧ ((p = 0 ∧ er = 3 ∧ f = fv0 ∧ g = fv0) ∨ (p ≠ 0 ∧ BothIs w' x y f g er)) ∧ Below w.heap.size w w') := by
 rcases h with ⟨h0, rfl, rfl, rfl⟩ | ⟨h0, rfl, h1, h2⟩
 ·exact (i_both3).mono fun _ _ ⟨h, hb⟩ => ⟨fv0, fv0, 3, h, .inl ⟨h0, rfl, rfl, rfl⟩, hb⟩
 ·exact (i_both h1 h2 hC).mono fun _ _ ⟨f, g, er, h, hr, hb⟩ => ⟨f, g, er, h, .inr ⟨h0, hr⟩, hb⟩
set_option maxHeartbeats 8000000 in
set_option maxRecDepth 20000 in
theorem i_spaced {m : Mv} {w : World} :
    Calls Tryz.prog 92 #[mv m] w (fun e w' => ∃ g : Nat, e = .returned (.func (.func 128) #[] #[.pointer (some ⟨g, 0, none⟩)]) ∧ Box w' g (mcs m) ∧ w.heap.size ≤ g ∧ Below w.heap.size w w') := by
 have BW : Below w.heap.size w w := Below.refl _ _
 obtain ⟨V1, e2, hb3, K4, Z5, -⟩ := alloc_new w [.bool m.A.n, .slice m.A.A m.A.xs.length m.A.c, .bool m.A.m, .slice m.A.B m.A.ds.length m.A.d, .bool m.B.n, .slice m.B.A m.B.xs.length m.B.c, .bool m.B.m, .slice m.B.B m.B.ds.length m.B.d, .bool m.C.n, .slice m.C.A m.C.xs.length m.C.c, .bool m.C.m, .slice m.C.B m.C.ds.length m.C.d, .bool m.D.n, .slice m.D.A m.D.xs.length m.D.c, .bool m.D.m, .slice m.D.B m.D.ds.length m.D.d] 90
 replace K4 : Box V1 (w.heap.size) (mcs m) := K4
 have g6 : w.heap.size ≤ w.heap.size := BW.size
 replace BW := BW.trans (hb3.mono BW.size)
 clear hb3
 go_enter Tryz.func92, Tryz.ntmps92
 go_wp2_with fail
 rw [← e2]
 clear e2
 exact bodyPost_ret (v := .func (.func 128) #[] #[.pointer (some ⟨w.heap.size, 0, none⟩)]) (by simp [results, Tryz.results92, go_sem]) rfl ⟨_, rfl, K4, Nat.le_refl _, BW⟩
set_option maxHeartbeats 16000000 in
set_option maxRecDepth 20000 in
theorem i_sclo0 {q : Mq} {x t : Rat} {m : Mv} {a b : Fv} {g C : Nat} {w : World} (G : Gm w q m C) (La : Fq w x a C) (Lb : Fq w t b C) (hC2 : 2 ≤ C) (hC : 8 * C + 18 ≤ 1759218604390) (Kg : Box w g (mcs m)) :
    Calls Tryz.prog 128 #[fv a, fv b, .pointer (some ⟨g, 0, none⟩)] w (GMx w (imS q x t) (4 * (4 * C + 8) + 8)) := by
 have hC3 : 2 * C + 2 ≤ 1759218604390 := by omega
 have hC4 : C ≤ 4 * C + 8 := by omega
 have hC5 : 2 ≤ 4 * C + 8 := by omega
 have hC6 : 2 * (4 * C + 8) + 2 ≤ 1759218604390 := by omega
 have BW : Below w.heap.size w w := Below.refl _ _
 obtain ⟨V2, e3, hb4, K5, -, z1⟩ := alloc_new w [.bool a.n, .slice a.A a.xs.length a.c, .bool a.m, .slice a.B a.ds.length a.d] 88
 replace Kg := Kg.on hb4
 replace G := G.kp (Kept.of hb4)
 replace La := La.kp (Kept.of hb4)
 replace Lb := Lb.kp (Kept.of hb4)
 replace BW := BW.trans (hb4.mono BW.size)
 clear hb4
 obtain ⟨V7, e8, hb9, K10, -, z6⟩ := alloc_new V2 [.bool b.n, .slice b.A b.xs.length b.c, .bool b.m, .slice b.B b.ds.length b.d] 88
 rw [z1] at K10 z6
 replace Kg := Kg.on hb9
 replace K5 := K5.on hb9
 replace G := G.kp (Kept.of hb9)
 replace La := La.kp (Kept.of hb9)
 replace Lb := Lb.kp (Kept.of hb9)
 replace BW := BW.trans (hb9.mono BW.size)
 clear hb9
 obtain ⟨V11, e12, hb13, K14, Z15, -⟩ := alloc_new V7 [.bool false, .slice none 0 0, .bool false, .slice none 0 0, .bool false, .slice none 0 0, .bool false, .slice none 0 0, .bool false, .slice none 0 0, .bool false, .slice none 0 0, .bool false, .slice none 0 0, .bool false, .slice none 0 0] 90
 rw [z6] at K14 Z15
 replace K14 : Box V11 (w.heap.size + 1 + 1) (zcs16) := K14
 have n16 : g ≠ w.heap.size + 1 + 1 := Nat.ne_of_lt (z6 ▸ Kg.lt)
 have n17 : w.heap.size ≠ w.heap.size + 1 + 1 := Nat.ne_of_lt (z6 ▸ K5.lt)
 have n18 : w.heap.size + 1 ≠ w.heap.size + 1 + 1 := Nat.ne_of_lt (z6 ▸ K10.lt)
 have g19 : w.heap.size ≤ w.heap.size + 1 + 1 := z6 ▸ BW.size
 replace Kg := Kg.on hb13
 replace K5 := K5.on hb13
 replace K10 := K10.on hb13
 replace G := G.kp (Kept.of hb13)
 replace La := La.kp (Kept.of hb13)
 replace Lb := Lb.kp (Kept.of hb13)
 replace BW := BW.trans (hb13.mono BW.size)
 clear hb13
 clear z1 z6
 go_enter Tryz.func128, Tryz.ntmps128
 go_wp2_with fail
 rw [← e3, ← e8, ← e12]
 clear e3 e8 e12
 refine wp_region_noPanic ?_
 have hb : Below V11.heap.size V11 V11.drew := (Below.refl _ _).drew
 replace Kg := Kg.on hb
 replace K5 := K5.on hb
 replace K10 := K10.on hb
 replace K14 := K14.on hb
 replace Z15 := Z15.on hb
 replace G := G.kp (Kept.of hb)
 replace La := La.kp (Kept.of hb)
 replace Lb := Lb.kp (Kept.of hb)
 replace BW := BW.trans (hb.mono BW.size)
 clear hb
 refine wp_region_held_drew (S := (fun wx => Box wx (g) [.bool m.A.n, .slice m.A.A m.A.xs.length m.A.c, .bool m.A.m, .slice m.A.B m.A.ds.length m.A.d, .bool m.B.n, .slice m.B.A m.B.xs.length m.B.c, .bool m.B.m, .slice m.B.B m.B.ds.length m.B.d, .bool m.C.n, .slice m.C.A m.C.xs.length m.C.c, .bool m.C.m, .slice m.C.B m.C.ds.length m.C.d, .bool m.D.n, .slice m.D.A m.D.xs.length m.D.c, .bool m.D.m, .slice m.D.B m.D.ds.length m.D.d] ∧ Cs wx (w.heap.size) 0 [.bool a.n, .slice a.A a.xs.length a.c, .bool a.m, .slice a.B a.ds.length a.d] ∧ Cs wx (w.heap.size + 1) 0 [.bool b.n, .slice b.A b.xs.length b.c, .bool b.m, .slice b.B b.ds.length b.d])) (by kernel_rfl) (by exact ⟨Kg, K5.cs, K10.cs⟩) (fun hHeld => ?_)
 generalize V11.drew = Vd20 at *
 refine pT 0 ?_
 (try simp only [p0, p1, p2, p3])
 refine pT 2 ?_ (hy := fun wt hSw => ldL rfl rfl hSw.1)
 (try simp only [p0, p1, p2, p3])
 refine pT 4 ?_
 (try simp only [p0, p1, p2, p3])
 refine pR1 1 (fun K hK => ?_)
 go_simp
 (go_at_call 104; with_reducible refine (b_space Lb hC2).mono ?_)
 rintro _ w21 ⟨m1, rfl, L1, hb⟩
 (try go_wp2_with fail)
 replace Kg := Kg.on hb
 replace K5 := K5.on hb
 replace K10 := K10.on hb
 replace K14 := K14.on hb
 replace Z15 := Z15.on hb
 replace G := G.kp (Kept.of hb)
 replace La := La.kp (Kept.of hb)
 replace BW := BW.trans (hb.mono BW.size)
 clear hb
 clear hHeld
 refine hK.out _ _ (by exact ⟨Kg, K5.cs, K10.cs⟩) (fun hHeld => ?_)
 clear hK
 (try simp only [p0, p1, p2, p3])
 refine pR1 3 (fun K hK => ?_)
 go_simp
 (go_at_call 56; with_reducible refine (b_mul L1 G hC3).mono ?_)
 rintro _ w22 ⟨m2, rfl, L2, hb⟩
 (try go_wp2_with fail)
 replace Kg := Kg.on hb
 replace K5 := K5.on hb
 replace K10 := K10.on hb
 replace K14 := K14.on hb
 replace Z15 := Z15.on hb
 replace La := La.kp (Kept.of hb)
 replace BW := BW.trans (hb.mono BW.size)
 clear hb
 clear hHeld
 refine hK.out _ _ (by exact ⟨Kg, K5.cs, K10.cs⟩) (fun hHeld => ?_)
 clear hK
 (try simp only [p0, p1, p2, p3])
 refine pR1 5 (fun K hK => ?_)
 go_simp
 (go_at_call 104; with_reducible refine (b_space (La.mono hC4) hC5).mono ?_)
 rintro _ w23 ⟨m3, rfl, L3, hb⟩
 (try go_wp2_with fail)
 replace Kg := Kg.on hb
 replace K5 := K5.on hb
 replace K10 := K10.on hb
 replace K14 := K14.on hb
 replace Z15 := Z15.on hb
 replace L2 := L2.kp (Kept.of hb)
 replace BW := BW.trans (hb.mono BW.size)
 clear hb
 clear hHeld
 refine hK.out _ _ (by exact ⟨Kg, K5.cs, K10.cs⟩) (fun hHeld => ?_)
 clear hK
 (try simp only [p0, p1, p2, p3])
 refine pR1 6 (fun K hK => ?_)
 go_simp
 (go_at_call 56; with_reducible refine (b_mul L2 L3 hC6).mono ?_)
 rintro _ w24 ⟨f, rfl, L4, hb⟩
 (try go_wp2_with fail)
 replace Kg := Kg.on hb
 replace K5 := K5.on hb
 replace K10 := K10.on hb
 replace K14 := K14.on hb
 replace Z15 := Z15.on hb
 replace BW := BW.trans (hb.mono BW.size)
 clear hb
 clear hHeld
 refine hK.out _ _ (by exact ⟨Kg, K5.cs, K10.cs⟩) (fun hHeld => ?_)
 clear hK
 (try simp only [p0, p1, p2, p3])
 refine pR1 7 (fun K hK => ?_)
 refine ite_yes (by rfl) (wp_stL rfl rfl rfl K14 Z15 rfl rfl rfl ?_)
 obtain ⟨V25, hk27⟩ : ∃ V25, V25 = w24.setCells (w.heap.size + 1 + 1) 0 [.bool f.A.n, .slice f.A.A f.A.xs.length f.A.c, .bool f.A.m, .slice f.A.B f.A.ds.length f.A.d, .bool f.B.n, .slice f.B.A f.B.xs.length f.B.c, .bool f.B.m, .slice f.B.B f.B.ds.length f.B.d, .bool f.C.n, .slice f.C.A f.C.xs.length f.C.c, .bool f.C.m, .slice f.C.B f.C.ds.length f.C.d, .bool f.D.n, .slice f.D.A f.D.xs.length f.D.c, .bool f.D.m, .slice f.D.B f.D.ds.length f.D.d] := ⟨_, rfl⟩
 have e26 := hk27
 have hk28 := Kept.overE hk27 K14 rfl (Nat.le_of_ble_eq_true rfl)
 replace Kg := Kg.awayE hk27 n16
 replace K5 := K5.awayE hk27 n17
 replace K10 := K10.awayE hk27 n18
 replace K14 := K14.overE hk27 rfl
 replace L4 := L4.kp hk28
 replace BW := Below.putE BW hk27 g19
 clear hk27 hk28
 replace K14 : Box V25 (w.heap.size + 1 + 1) (mcs f) := K14
 rw [← e26]
 clear e26
 clear hHeld
 refine hK.out _ _ (by exact ⟨Kg, K5.cs, K10.cs⟩) (fun hHeld => ?_)
 clear hK
 (try simp only [p0])
 refine wpAnyH_done (by kernel_rfl) (NoPanic.normal ?_) _
 go_wp2
 exact bodyPost_ret (v := .agg #[.bool f.A.n, .slice f.A.A f.A.xs.length f.A.c, .bool f.A.m, .slice f.A.B f.A.ds.length f.A.d, .bool f.B.n, .slice f.B.A f.B.xs.length f.B.c, .bool f.B.m, .slice f.B.B f.B.ds.length f.B.d, .bool f.C.n, .slice f.C.A f.C.xs.length f.C.c, .bool f.C.m, .slice f.C.B f.C.ds.length f.C.d, .bool f.D.n, .slice f.D.A f.D.xs.length f.D.c, .bool f.D.m, .slice f.D.B f.D.ds.length f.D.d]) (res_L Tryz.results128 (by rfl) K14 rfl) rfl ⟨f, rfl, L4, BW⟩
theorem f_check0 {W : World} {q : Rat} {f : Fv} (h : Ff W q f) : Calls Tryz.prog 62 #[fv f] W (fun e w' => e = .returned (.int .i64 0) ∧ Below W.heap.size W w') := by
 have := r_check h.fx
 rwa [chkv_ok h.okv] at this
theorem i_sclo {q : Mq} {x t : Rat} {m : Mv} {a b : Fv} {g C D : Nat} {w : World} (G : Gm w q m C) (La : Fq w x a C) (Lb : Fq w t b C) (hC2 : 2 ≤ C) (hC : 8 * C + 18 ≤ 1759218604390) (Kg : Box w g (mcs m)) (hD : 4 * (4 * C + 8) + 8 ≤ D) : Calls Tryz.prog 128 #[fv a, fv b, .pointer (some ⟨g, 0, none⟩)] w (GMx w (imS q x t) D) :=
 (i_sclo0 G La Lb hC2 hC Kg).mono fun _ _ ⟨m, h1, h2, h3⟩ => ⟨m, h1, h2.mono hD, h3⟩
theorem im_is {W : World} {q : Mq} {x : Rat} {f g : Fv} {e : Int} (hd : q.det = 1) (hz : imD q x ≠ 0) (h : BothIs W (imT q x) (imS q x (imT q x)).a f g e) : ImIs W q x f g e := by
 rw [im_a hd hz] at h
 rcases h with ⟨h1, _, _, h4, h5⟩ | ⟨h1, h2, h3, h4⟩
 ·exact .inl ⟨hz, h1, h4, h5⟩
 ·exact .inr (.inr ⟨hz, h1, h3, h4, h2⟩)
theorem im_or {w W : World} {m : Mv} {a : Fv} {r : Int} (X : Xm w m) (hn : ¬ (MayM w m ∧ okv a)) (hr : Chk W m r) : orE r (chkv a) = 1 := by
 unfold orE
 rcases hr with ⟨h1, h2⟩ | ⟨h1, _⟩
 ·rw [if_pos h1]
  rcases chkv_two a with h | h
  ·exact absurd ⟨MayM.at X h2, chkv_zero h⟩ hn
  ·exact h
 ·rw [if_neg (by omega)]; exact h1
end Go.Proofs.YtplgheabhekedaaGreat
