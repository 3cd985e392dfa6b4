/-
 Complex numbers of fractions in words: what large's operations make of them. Conditions: that they are fractions, and no longer than memory.
-/
import Derived.Test.YtplgheabhekedaaGreatDoorKp
import Derived.Deep.RegionHeld3
import Derived.Deep.DeepCutAuto
import Derived.BigRegion
namespace Go.Proofs.YtplgheabhekedaaGreatDoor
open Go.RowKit Nb
abbrev gv (f g : Fv) : Value := .agg #[.bool f.n, .slice f.A f.xs.length f.c, .bool f.m, .slice f.B f.ds.length f.d, .bool g.n, .slice g.A g.xs.length g.c, .bool g.m, .slice g.B g.ds.length g.d]
def GG (w : World) (q p : Rat) (C : Nat) (e : Ending) (w' : World) : Prop := ∃ f g : Fv, e = .returned (gv f g) ∧ Fq w' q f C ∧ Fq w' p g C ∧ Below w.heap.size w w'
/-- The number, or the refusal. -/
def Gr (W : World) (z y : Rat) (f g : Fv) (er : Int) : Prop := (FitsQ z ∧ FitsQ y ∧ er = 0 ∧ Ff W z f ∧ Ff W y g) ∨ (¬ (FitsQ z ∧ FitsQ y) ∧ er = 4 ∧ f = fv0 ∧ g = fv0)
def GGr (w : World) (z y : Rat) (e : Ending) (w' : World) : Prop := ∃ (f g : Fv) (er : Int), e = .returned (.tuple #[gv f g, .int .i64 er]) ∧ Gr w' z y f g er ∧ Below w.heap.size w w'
set_option maxHeartbeats 8000000 in
set_option maxRecDepth 20000 in
theorem g_from {q p : Rat} {a b : Fv} {w : World} (ha : Ff w q a) (hb0 : Ff w p b) :
  Calls Tryz.prog 55 #[gv a b] w (GG w q p 1024) := by
 have BW : Below w.heap.size w w := Below.refl _ _
 obtain ⟨V2, e3, hb4, K5, -, z1⟩ := alloc_new w [.bool a.n, .slice a.A a.xs.length a.c, .bool a.m, .slice a.B a.ds.length a.d, .bool b.n, .slice b.A b.xs.length b.c, .bool b.m, .slice b.B b.ds.length b.d] 33
 replace ha := ha.kp (Kept.of hb4)
 replace hb0 := hb0.kp (Kept.of hb4)
 replace BW := BW.trans (hb4.mono BW.size)
 clear hb4
 obtain ⟨V6, e7, hb8, K9, Z10, -⟩ := alloc_new V2 [.bool false, .slice none 0 0, .bool false, .slice none 0 0, .bool false, .slice none 0 0, .bool false, .slice none 0 0] 91
 rw [z1] at K9 Z10
 have n11 : w.heap.size ≠ w.heap.size + 1 := Nat.ne_of_lt (z1 ▸ K5.lt)
 have g12 : w.heap.size ≤ w.heap.size + 1 := z1 ▸ BW.size
 replace K5 := K5.on hb8
 replace ha := ha.kp (Kept.of hb8)
 replace hb0 := hb0.kp (Kept.of hb8)
 replace BW := BW.trans (hb8.mono BW.size)
 clear hb8
 clear z1
 go_enter Tryz.func55, Tryz.ntmps55
 go_wp2_with fail
 rw [← e3, ← e7]
 clear e3 e7
 refine wp_region_noPanic ?_
 have hb : Below V6.heap.size V6 V6.drew := (Below.refl _ _).drew
 replace K5 := K5.on hb
 replace K9 := K9.on hb
 replace Z10 := Z10.on hb
 replace ha := ha.kp (Kept.of hb)
 replace hb0 := hb0.kp (Kept.of hb)
 replace BW := BW.trans (hb.mono BW.size)
 clear hb
 refine wp_region_held_drew (S := (fun wx => Cs wx (w.heap.size) 0 [.bool a.n, .slice a.A a.xs.length a.c, .bool a.m, .slice a.B a.ds.length a.d, .bool b.n, .slice b.A b.xs.length b.c, .bool b.m, .slice b.B b.ds.length b.d])) (by kernel_rfl) (by exact K5.cs) (fun hHeld => ?_)
 generalize V6.drew = Vd13 at *
 refine pT 0 ?_
 (try simp only [p0, p1, p2, p3])
 refine pT 1 ?_
 (try simp only [p0, p1, p2, p3])
 refine pT 3 ?_
 (try simp only [p0, p1, p2, p3])
 refine pT 4 ?_
 (try simp only [p0, p1, p2, p3])
 refine pR1 2 (fun K hK => ?_)
 go_simp
 (go_at_call 50; with_reducible refine (q_from ha).mono ?_)
 rintro _ w14 ⟨f1, rfl, h1, hb⟩
 (try go_wp2_with fail)
 replace K5 := K5.on hb
 replace K9 := K9.on hb
 replace Z10 := Z10.on hb
 replace hb0 := hb0.kp (Kept.of hb)
 replace BW := BW.trans (hb.mono BW.size)
 clear hb
 refine hK.out _ _ (by exact K5.cs) (fun hHeld => ?_)
 clear hK
 (try simp only [p0, p1, p2, p3])
 refine pR1 5 (fun K hK => ?_)
 go_simp
 (go_at_call 50; with_reducible refine (q_from hb0).mono ?_)
 rintro _ w15 ⟨f2, rfl, h2, hb⟩
 (try go_wp2_with fail)
 replace K5 := K5.on hb
 replace K9 := K9.on hb
 replace Z10 := Z10.on hb
 replace h1 := h1.kp (Kept.of hb)
 replace BW := BW.trans (hb.mono BW.size)
 clear hb
 refine hK.out _ _ (by exact K5.cs) (fun hHeld => ?_)
 clear hK
 (try simp only [p0, p1, p2, p3])
 refine pT 6 ?_
 (try simp only [p0, p1, p2, p3])
 refine pR1 7 (fun K hK => ?_)
 obtain ⟨c16, c17, c18, c19, c20, c21, c22, c23⟩ := K9.c8
 obtain ⟨c24, c25, c26, c27, c28, c29, c30, c31⟩ := Z10.f8
 go_simp
 clear c16 c17 c18 c19 c20 c21 c22 c23 c24 c25 c26 c27 c28 c29 c30 c31
 obtain ⟨V32, hk34⟩ : ∃ V32, V32 = w15.setCells (w.heap.size + 1) 0 [.bool f1.n, .slice f1.A f1.xs.length f1.c, .bool f1.m, .slice f1.B f1.ds.length f1.d, .bool f2.n, .slice f2.A f2.xs.length f2.c, .bool f2.m, .slice f2.B f2.ds.length f2.d] := ⟨_, rfl⟩
 have e33 := hk34
 simp only [World.setCells, Nat.zero_add, Nat.reduceAdd] at e33
 have hk35 := Kept.overE hk34 K9 rfl (by simp)
 replace K5 := K5.awayE hk34 n11
 replace K9 := K9.overE hk34 rfl
 replace h1 := h1.kp hk35
 replace h2 := h2.kp hk35
 replace BW := Below.putE BW hk34 g12
 clear hk34 hk35
 rw [← e33]
 clear e33
 refine hK.out _ _ (by exact K5.cs) (fun hHeld => ?_)
 clear hK
 (try simp only [p0, p1, p2, p3])
 refine wpAnyH_done (by kernel_rfl) (NoPanic.normal ?_) _
 go_wp2
 obtain ⟨c36, c37, c38, c39, c40, c41, c42, c43⟩ := K9.c8
 exact bodyPost_ret (v := gv f1 f2) (by simp [results, Tryz.results55, go_sem, c36, c37, c38, c39, c40, c41, c42, c43]) rfl ⟨f1, f2, rfl, h1, h2, BW⟩
set_option maxHeartbeats 8000000 in
set_option maxRecDepth 20000 in
theorem g_mul {q p s t : Rat} {a b c d : Fv} {C : Nat} {w : World} (Fa : Fq w q a C) (Fb : Fq w p b C) (Fc : Fq w s c C) (Fd : Fq w t d C) (hC : C ≤ 1000000) :
  Calls Tryz.prog 114 #[gv a b, gv c d] w (GG w (q * s - p * t) (q * t + p * s) (4 * C + 8)) := by
 have HC := Lib.hid hC
 clear hC
 have BW : Below w.heap.size w w := Below.refl _ _
 obtain ⟨V2, e3, hb4, K5, -, z1⟩ := alloc_new w [.bool a.n, .slice a.A a.xs.length a.c, .bool a.m, .slice a.B a.ds.length a.d, .bool b.n, .slice b.A b.xs.length b.c, .bool b.m, .slice b.B b.ds.length b.d] 91
 replace Fa := Fa.kp (Kept.of hb4)
 replace Fb := Fb.kp (Kept.of hb4)
 replace Fc := Fc.kp (Kept.of hb4)
 replace Fd := Fd.kp (Kept.of hb4)
 replace BW := BW.trans (hb4.mono BW.size)
 clear hb4
 obtain ⟨V7, e8, hb9, K10, -, z6⟩ := alloc_new V2 [.bool c.n, .slice c.A c.xs.length c.c, .bool c.m, .slice c.B c.ds.length c.d, .bool d.n, .slice d.A d.xs.length d.c, .bool d.m, .slice d.B d.ds.length d.d] 91
 rw [z1] at K10 z6
 replace K5 := K5.on hb9
 replace Fa := Fa.kp (Kept.of hb9)
 replace Fb := Fb.kp (Kept.of hb9)
 replace Fc := Fc.kp (Kept.of hb9)
 replace Fd := Fd.kp (Kept.of hb9)
 replace BW := BW.trans (hb9.mono BW.size)
 clear hb9
 obtain ⟨V11, e12, hb13, K14, Z15, -⟩ := alloc_new V7 [.bool false, .slice none 0 0, .bool false, .slice none 0 0, .bool false, .slice none 0 0, .bool false, .slice none 0 0] 91
 rw [z6] at K14 Z15
 have n16 : w.heap.size ≠ w.heap.size + 1 + 1 := Nat.ne_of_lt (z6 ▸ K5.lt)
 have n17 : w.heap.size + 1 ≠ w.heap.size + 1 + 1 := Nat.ne_of_lt (z6 ▸ K10.lt)
 have g18 : w.heap.size ≤ w.heap.size + 1 + 1 := z6 ▸ BW.size
 replace K5 := K5.on hb13
 replace K10 := K10.on hb13
 replace Fa := Fa.kp (Kept.of hb13)
 replace Fb := Fb.kp (Kept.of hb13)
 replace Fc := Fc.kp (Kept.of hb13)
 replace Fd := Fd.kp (Kept.of hb13)
 replace BW := BW.trans (hb13.mono BW.size)
 clear hb13
 clear z1 z6
 go_enter Tryz.func114, Tryz.ntmps114
 go_wp2_with fail
 rw [← e3, ← e8, ← e12]
 clear e3 e8 e12
 refine wp_region_noPanic ?_
 have hb : Below V11.heap.size V11 V11.drew := (Below.refl _ _).drew
 replace K5 := K5.on hb
 replace K10 := K10.on hb
 replace K14 := K14.on hb
 replace Z15 := Z15.on hb
 replace Fa := Fa.kp (Kept.of hb)
 replace Fb := Fb.kp (Kept.of hb)
 replace Fc := Fc.kp (Kept.of hb)
 replace Fd := Fd.kp (Kept.of hb)
 replace BW := BW.trans (hb.mono BW.size)
 clear hb
 refine wp_region_held_drew (S := (fun wx => Cs wx (w.heap.size) 0 [.bool a.n, .slice a.A a.xs.length a.c, .bool a.m, .slice a.B a.ds.length a.d, .bool b.n, .slice b.A b.xs.length b.c, .bool b.m, .slice b.B b.ds.length b.d] ∧ Cs wx (w.heap.size + 1) 0 [.bool c.n, .slice c.A c.xs.length c.c, .bool c.m, .slice c.B c.ds.length c.d, .bool d.n, .slice d.A d.xs.length d.c, .bool d.m, .slice d.B d.ds.length d.d])) (by kernel_rfl) (by exact ⟨K5.cs, K10.cs⟩) (fun hHeld => ?_)
 generalize V11.drew = Vd19 at *
 refine pT 0 ?_
 (try simp only [p0, p1, p2, p3])
 refine pT 1 ?_
 (try simp only [p0, p1, p2, p3])
 refine pT 2 ?_
 (try simp only [p0, p1, p2, p3])
 refine pT 3 ?_
 (try simp only [p0, p1, p2, p3])
 refine pT 5 ?_
 (try simp only [p0, p1, p2, p3])
 refine pT 6 ?_
 (try simp only [p0, p1, p2, p3])
 refine pT 7 ?_
 (try simp only [p0, p1, p2, p3])
 refine pT 8 ?_
 (try simp only [p0, p1, p2, p3])
 refine pT 11 ?_
 (try simp only [p0, p1, p2, p3])
 refine pT 12 ?_
 (try simp only [p0, p1, p2, p3])
 refine pT 13 ?_
 (try simp only [p0, p1, p2, p3])
 refine pT 14 ?_
 (try simp only [p0, p1, p2, p3])
 refine pT 16 ?_
 (try simp only [p0, p1, p2, p3])
 refine pT 17 ?_
 (try simp only [p0, p1, p2, p3])
 refine pT 18 ?_
 (try simp only [p0, p1, p2, p3])
 refine pT 19 ?_
 (try simp only [p0, p1, p2, p3])
 refine pR1 4 (fun K hK => ?_)
 go_simp
 (go_at_call 61; with_reducible refine (q_mul Fa Fc (by have := HC.out; omega)).mono ?_)
 rintro _ w20 ⟨f1, rfl, h1, hb⟩
 (try go_wp2_with fail)
 replace K5 := K5.on hb
 replace K10 := K10.on hb
 replace K14 := K14.on hb
 replace Z15 := Z15.on hb
 replace Fa := Fa.kp (Kept.of hb)
 replace Fb := Fb.kp (Kept.of hb)
 replace Fc := Fc.kp (Kept.of hb)
 replace Fd := Fd.kp (Kept.of hb)
 replace BW := BW.trans (hb.mono BW.size)
 clear hb
 refine hK.out _ _ (by exact ⟨K5.cs, K10.cs⟩) (fun hHeld => ?_)
 clear hK
 (try simp only [p0, p1, p2, p3])
 refine pR1 9 (fun K hK => ?_)
 go_simp
 (go_at_call 61; with_reducible refine (q_mul Fb Fd (by have := HC.out; omega)).mono ?_)
 rintro _ w21 ⟨f2, rfl, h2, hb⟩
 (try go_wp2_with fail)
 replace K5 := K5.on hb
 replace K10 := K10.on hb
 replace K14 := K14.on hb
 replace Z15 := Z15.on hb
 replace Fa := Fa.kp (Kept.of hb)
 replace Fb := Fb.kp (Kept.of hb)
 replace Fc := Fc.kp (Kept.of hb)
 replace Fd := Fd.kp (Kept.of hb)
 replace h1 := h1.kp (Kept.of hb)
 replace BW := BW.trans (hb.mono BW.size)
 clear hb
 refine hK.out _ _ (by exact ⟨K5.cs, K10.cs⟩) (fun hHeld => ?_)
 clear hK
 (try simp only [p0, p1, p2, p3])
 refine pR1 10 (fun K hK => ?_)
 go_simp
 (go_at_call 63; with_reducible refine (q_sub h1 h2 (by have := HC.out; omega)).mono ?_)
 rintro _ w22 ⟨f3, rfl, h3, hb⟩
 (try go_wp2_with fail)
 replace K5 := K5.on hb
 replace K10 := K10.on hb
 replace K14 := K14.on hb
 replace Z15 := Z15.on hb
 replace Fa := Fa.kp (Kept.of hb)
 replace Fb := Fb.kp (Kept.of hb)
 replace Fc := Fc.kp (Kept.of hb)
 replace Fd := Fd.kp (Kept.of hb)
 replace BW := BW.trans (hb.mono BW.size)
 clear hb
 refine hK.out _ _ (by exact ⟨K5.cs, K10.cs⟩) (fun hHeld => ?_)
 clear hK
 (try simp only [p0, p1, p2, p3])
 refine pR1 15 (fun K hK => ?_)
 go_simp
 (go_at_call 61; with_reducible refine (q_mul Fa Fd (by have := HC.out; omega)).mono ?_)
 rintro _ w23 ⟨f4, rfl, h4, hb⟩
 (try go_wp2_with fail)
 replace K5 := K5.on hb
 replace K10 := K10.on hb
 replace K14 := K14.on hb
 replace Z15 := Z15.on hb
 replace Fb := Fb.kp (Kept.of hb)
 replace Fc := Fc.kp (Kept.of hb)
 replace h3 := h3.kp (Kept.of hb)
 replace BW := BW.trans (hb.mono BW.size)
 clear hb
 refine hK.out _ _ (by exact ⟨K5.cs, K10.cs⟩) (fun hHeld => ?_)
 clear hK
 (try simp only [p0, p1, p2, p3])
 refine pR1 20 (fun K hK => ?_)
 go_simp
 (go_at_call 61; with_reducible refine (q_mul Fb Fc (by have := HC.out; omega)).mono ?_)
 rintro _ w24 ⟨f5, rfl, h5, hb⟩
 (try go_wp2_with fail)
 replace K5 := K5.on hb
 replace K10 := K10.on hb
 replace K14 := K14.on hb
 replace Z15 := Z15.on hb
 replace h3 := h3.kp (Kept.of hb)
 replace h4 := h4.kp (Kept.of hb)
 replace BW := BW.trans (hb.mono BW.size)
 clear hb
 refine hK.out _ _ (by exact ⟨K5.cs, K10.cs⟩) (fun hHeld => ?_)
 clear hK
 (try simp only [p0, p1, p2, p3])
 refine pR1 21 (fun K hK => ?_)
 go_simp
 (go_at_call 65; with_reducible refine (q_add h4 h5 (by have := HC.out; omega)).mono ?_)
 rintro _ w25 ⟨f6, rfl, h6, hb⟩
 (try go_wp2_with fail)
 replace K5 := K5.on hb
 replace K10 := K10.on hb
 replace K14 := K14.on hb
 replace Z15 := Z15.on hb
 replace h3 := h3.kp (Kept.of hb)
 replace BW := BW.trans (hb.mono BW.size)
 clear hb
 refine hK.out _ _ (by exact ⟨K5.cs, K10.cs⟩) (fun hHeld => ?_)
 clear hK
 (try simp only [p0, p1, p2, p3])
 refine pT 22 ?_
 (try simp only [p0, p1, p2, p3])
 refine pR1 23 (fun K hK => ?_)
 obtain ⟨c26, c27, c28, c29, c30, c31, c32, c33⟩ := K14.c8
 obtain ⟨c34, c35, c36, c37, c38, c39, c40, c41⟩ := Z15.f8
 go_simp
 clear c26 c27 c28 c29 c30 c31 c32 c33 c34 c35 c36 c37 c38 c39 c40 c41
 obtain ⟨V42, hk44⟩ : ∃ V42, V42 = w25.setCells (w.heap.size + 1 + 1) 0 [.bool f3.n, .slice f3.A f3.xs.length f3.c, .bool f3.m, .slice f3.B f3.ds.length f3.d, .bool f6.n, .slice f6.A f6.xs.length f6.c, .bool f6.m, .slice f6.B f6.ds.length f6.d] := ⟨_, rfl⟩
 have e43 := hk44
 simp only [World.setCells, Nat.zero_add, Nat.reduceAdd] at e43
 have hk45 := Kept.overE hk44 K14 rfl (by simp)
 replace K5 := K5.awayE hk44 n16
 replace K10 := K10.awayE hk44 n17
 replace K14 := K14.overE hk44 rfl
 replace h3 := h3.kp hk45
 replace h6 := h6.kp hk45
 replace BW := Below.putE BW hk44 g18
 clear hk44 hk45
 rw [← e43]
 clear e43
 refine hK.out _ _ (by exact ⟨K5.cs, K10.cs⟩) (fun hHeld => ?_)
 clear hK
 (try simp only [p0, p1, p2, p3])
 refine wpAnyH_done (by kernel_rfl) (NoPanic.normal ?_) _
 go_wp2
 obtain ⟨c46, c47, c48, c49, c50, c51, c52, c53⟩ := K14.c8
 exact bodyPost_ret (v := gv f3 f6) (by simp [results, Tryz.results114, go_sem, c46, c47, c48, c49, c50, c51, c52, c53]) rfl ⟨f3, f6, rfl, h3.mono (by have := HC.out; omega), h6.mono (by have := HC.out; omega), BW⟩
set_option maxHeartbeats 8000000 in
set_option maxRecDepth 20000 in
theorem g_conj {q p : Rat} {a b : Fv} {C : Nat} {w : World} (Fa : Fq w q a C) (Fb : Fq w p b C) (hC : C ≤ 1000000) :
  Calls Tryz.prog 52 #[gv a b] w (GG w q (-p) C) := by
 have HC := Lib.hid hC
 clear hC
 have BW : Below w.heap.size w w := Below.refl _ _
 obtain ⟨V2, e3, hb4, K5, -, z1⟩ := alloc_new w [.bool a.n, .slice a.A a.xs.length a.c, .bool a.m, .slice a.B a.ds.length a.d, .bool b.n, .slice b.A b.xs.length b.c, .bool b.m, .slice b.B b.ds.length b.d] 91
 replace Fa := Fa.kp (Kept.of hb4)
 replace Fb := Fb.kp (Kept.of hb4)
 replace BW := BW.trans (hb4.mono BW.size)
 clear hb4
 obtain ⟨V6, e7, hb8, K9, Z10, -⟩ := alloc_new V2 [.bool false, .slice none 0 0, .bool false, .slice none 0 0, .bool false, .slice none 0 0, .bool false, .slice none 0 0] 91
 rw [z1] at K9 Z10
 have n11 : w.heap.size ≠ w.heap.size + 1 := Nat.ne_of_lt (z1 ▸ K5.lt)
 have g12 : w.heap.size ≤ w.heap.size + 1 := z1 ▸ BW.size
 replace K5 := K5.on hb8
 replace Fa := Fa.kp (Kept.of hb8)
 replace Fb := Fb.kp (Kept.of hb8)
 replace BW := BW.trans (hb8.mono BW.size)
 clear hb8
 clear z1
 go_enter Tryz.func52, Tryz.ntmps52
 go_wp2_with fail
 rw [← e3, ← e7]
 clear e3 e7
 refine wp_region_noPanic ?_
 have hb : Below V6.heap.size V6 V6.drew := (Below.refl _ _).drew
 replace K5 := K5.on hb
 replace K9 := K9.on hb
 replace Z10 := Z10.on hb
 replace Fa := Fa.kp (Kept.of hb)
 replace Fb := Fb.kp (Kept.of hb)
 replace BW := BW.trans (hb.mono BW.size)
 clear hb
 refine wp_region_held_drew (S := (fun wx => Cs wx (w.heap.size) 0 [.bool a.n, .slice a.A a.xs.length a.c, .bool a.m, .slice a.B a.ds.length a.d, .bool b.n, .slice b.A b.xs.length b.c, .bool b.m, .slice b.B b.ds.length b.d])) (by kernel_rfl) (by exact K5.cs) (fun hHeld => ?_)
 generalize V6.drew = Vd13 at *
 refine pT 0 ?_
 (try simp only [p0, p1, p2, p3])
 refine pT 1 ?_
 (try simp only [p0, p1, p2, p3])
 refine pT 2 ?_
 (try simp only [p0, p1, p2, p3])
 refine pT 3 ?_
 (try simp only [p0, p1, p2, p3])
 refine pR1 4 (fun K hK => ?_)
 go_simp
 (go_at_call 121; with_reducible refine (q_neg Fb (by have := HC.out; omega)).mono ?_)
 rintro _ w14 ⟨f1, rfl, h1, hb⟩
 (try go_wp2_with fail)
 replace K5 := K5.on hb
 replace K9 := K9.on hb
 replace Z10 := Z10.on hb
 replace Fa := Fa.kp (Kept.of hb)
 replace BW := BW.trans (hb.mono BW.size)
 clear hb
 refine hK.out _ _ (by exact K5.cs) (fun hHeld => ?_)
 clear hK
 (try simp only [p0, p1, p2, p3])
 refine pT 5 ?_
 (try simp only [p0, p1, p2, p3])
 refine pR1 6 (fun K hK => ?_)
 obtain ⟨c15, c16, c17, c18, c19, c20, c21, c22⟩ := K9.c8
 obtain ⟨c23, c24, c25, c26, c27, c28, c29, c30⟩ := Z10.f8
 go_simp
 clear c15 c16 c17 c18 c19 c20 c21 c22 c23 c24 c25 c26 c27 c28 c29 c30
 obtain ⟨V31, hk33⟩ : ∃ V31, V31 = w14.setCells (w.heap.size + 1) 0 [.bool a.n, .slice a.A a.xs.length a.c, .bool a.m, .slice a.B a.ds.length a.d, .bool f1.n, .slice f1.A f1.xs.length f1.c, .bool f1.m, .slice f1.B f1.ds.length f1.d] := ⟨_, rfl⟩
 have e32 := hk33
 simp only [World.setCells, Nat.zero_add, Nat.reduceAdd] at e32
 have hk34 := Kept.overE hk33 K9 rfl (by simp)
 replace K5 := K5.awayE hk33 n11
 replace K9 := K9.overE hk33 rfl
 replace Fa := Fa.kp hk34
 replace h1 := h1.kp hk34
 replace BW := Below.putE BW hk33 g12
 clear hk33 hk34
 rw [← e32]
 clear e32
 refine hK.out _ _ (by exact K5.cs) (fun hHeld => ?_)
 clear hK
 (try simp only [p0, p1, p2, p3])
 refine wpAnyH_done (by kernel_rfl) (NoPanic.normal ?_) _
 go_wp2
 obtain ⟨c35, c36, c37, c38, c39, c40, c41, c42⟩ := K9.c8
 exact bodyPost_ret (v := gv a f1) (by simp [results, Tryz.results52, go_sem, c35, c36, c37, c38, c39, c40, c41, c42]) rfl ⟨a, f1, rfl, Fa, h1, BW⟩
set_option maxHeartbeats 8000000 in
set_option maxRecDepth 20000 in
theorem g_norm {q p : Rat} {a b : Fv} {C : Nat} {w : World} (Fa : Fq w q a C) (Fb : Fq w p b C) (hC : C ≤ 1000000) :
  Calls Tryz.prog 56 #[gv a b] w (GQ w (q * q + p * p) (4 * C + 8)) := by
 have HC := Lib.hid hC
 clear hC
 have BW : Below w.heap.size w w := Below.refl _ _
 obtain ⟨V2, e3, hb4, K5, -, z1⟩ := alloc_new w [.bool a.n, .slice a.A a.xs.length a.c, .bool a.m, .slice a.B a.ds.length a.d, .bool b.n, .slice b.A b.xs.length b.c, .bool b.m, .slice b.B b.ds.length b.d] 91
 replace Fa := Fa.kp (Kept.of hb4)
 replace Fb := Fb.kp (Kept.of hb4)
 replace BW := BW.trans (hb4.mono BW.size)
 clear hb4
 obtain ⟨V6, e7, hb8, K9, Z10, -⟩ := alloc_new V2 [.bool false, .slice none 0 0, .bool false, .slice none 0 0] 87
 rw [z1] at K9 Z10
 have n11 : w.heap.size ≠ w.heap.size + 1 := Nat.ne_of_lt (z1 ▸ K5.lt)
 have g12 : w.heap.size ≤ w.heap.size + 1 := z1 ▸ BW.size
 replace K5 := K5.on hb8
 replace Fa := Fa.kp (Kept.of hb8)
 replace Fb := Fb.kp (Kept.of hb8)
 replace BW := BW.trans (hb8.mono BW.size)
 clear hb8
 clear z1
 go_enter Tryz.func56, Tryz.ntmps56
 go_wp2_with fail
 rw [← e3, ← e7]
 clear e3 e7
 refine wp_region_noPanic ?_
 have hb : Below V6.heap.size V6 V6.drew := (Below.refl _ _).drew
 replace K5 := K5.on hb
 replace K9 := K9.on hb
 replace Z10 := Z10.on hb
 replace Fa := Fa.kp (Kept.of hb)
 replace Fb := Fb.kp (Kept.of hb)
 replace BW := BW.trans (hb.mono BW.size)
 clear hb
 refine wp_region_held_drew (S := (fun wx => Cs wx (w.heap.size) 0 [.bool a.n, .slice a.A a.xs.length a.c, .bool a.m, .slice a.B a.ds.length a.d, .bool b.n, .slice b.A b.xs.length b.c, .bool b.m, .slice b.B b.ds.length b.d])) (by kernel_rfl) (by exact K5.cs) (fun hHeld => ?_)
 generalize V6.drew = Vd13 at *
 refine pT 0 ?_
 (try simp only [p0, p1, p2, p3])
 refine pT 1 ?_
 (try simp only [p0, p1, p2, p3])
 refine pT 2 ?_
 (try simp only [p0, p1, p2, p3])
 refine pT 3 ?_
 (try simp only [p0, p1, p2, p3])
 refine pT 5 ?_
 (try simp only [p0, p1, p2, p3])
 refine pT 6 ?_
 (try simp only [p0, p1, p2, p3])
 refine pT 7 ?_
 (try simp only [p0, p1, p2, p3])
 refine pT 8 ?_
 (try simp only [p0, p1, p2, p3])
 refine pR1 4 (fun K hK => ?_)
 go_simp
 (go_at_call 61; with_reducible refine (q_mul Fa Fa (by have := HC.out; omega)).mono ?_)
 rintro _ w14 ⟨f1, rfl, h1, hb⟩
 (try go_wp2_with fail)
 replace K5 := K5.on hb
 replace K9 := K9.on hb
 replace Z10 := Z10.on hb
 replace Fb := Fb.kp (Kept.of hb)
 replace BW := BW.trans (hb.mono BW.size)
 clear hb
 refine hK.out _ _ (by exact K5.cs) (fun hHeld => ?_)
 clear hK
 (try simp only [p0, p1, p2, p3])
 refine pR1 9 (fun K hK => ?_)
 go_simp
 (go_at_call 61; with_reducible refine (q_mul Fb Fb (by have := HC.out; omega)).mono ?_)
 rintro _ w15 ⟨f2, rfl, h2, hb⟩
 (try go_wp2_with fail)
 replace K5 := K5.on hb
 replace K9 := K9.on hb
 replace Z10 := Z10.on hb
 replace h1 := h1.kp (Kept.of hb)
 replace BW := BW.trans (hb.mono BW.size)
 clear hb
 refine hK.out _ _ (by exact K5.cs) (fun hHeld => ?_)
 clear hK
 (try simp only [p0, p1, p2, p3])
 refine pR1 10 (fun K hK => ?_)
 go_simp
 (go_at_call 65; with_reducible refine (q_add h1 h2 (by have := HC.out; omega)).mono ?_)
 rintro _ w16 ⟨f3, rfl, h3, hb⟩
 (try go_wp2_with fail)
 replace K5 := K5.on hb
 replace K9 := K9.on hb
 replace Z10 := Z10.on hb
 replace BW := BW.trans (hb.mono BW.size)
 clear hb
 refine hK.out _ _ (by exact K5.cs) (fun hHeld => ?_)
 clear hK
 (try simp only [p0, p1, p2, p3])
 refine pR1 11 (fun K hK => ?_)
 obtain ⟨c17, c18, c19, c20⟩ := K9.c4
 obtain ⟨c21, c22, c23, c24⟩ := Z10.f4
 go_simp
 clear c17 c18 c19 c20 c21 c22 c23 c24
 obtain ⟨V25, hk27⟩ : ∃ V25, V25 = w16.setCells (w.heap.size + 1) 0 [.bool f3.n, .slice f3.A f3.xs.length f3.c, .bool f3.m, .slice f3.B f3.ds.length f3.d] := ⟨_, rfl⟩
 have e26 := hk27
 simp only [World.setCells, Nat.zero_add, Nat.reduceAdd] at e26
 have hk28 := Kept.overE hk27 K9 rfl (by simp)
 replace K5 := K5.awayE hk27 n11
 replace K9 := K9.overE hk27 rfl
 replace h3 := h3.kp hk28
 replace BW := Below.putE BW hk27 g12
 clear hk27 hk28
 rw [← e26]
 clear e26
 refine hK.out _ _ (by exact K5.cs) (fun hHeld => ?_)
 clear hK
 (try simp only [p0, p1, p2, p3])
 refine wpAnyH_done (by kernel_rfl) (NoPanic.normal ?_) _
 go_wp2
 obtain ⟨c29, c30, c31, c32⟩ := K9.c4
 exact bodyPost_ret (v := fv f3) (by simp [results, Tryz.results56, go_sem, c29, c30, c31, c32]) rfl ⟨f3, rfl, h3.mono (by have := HC.out; omega), BW⟩
theorem Fr.two {W : World} {z : Rat} {f : Fv} {er : Int} (h : Fr W False z f er) : (FitsQ z ∧ er = 0 ∧ Ff W z f) ∨ (¬ FitsQ z ∧ er = 4 ∧ f = fv0) := by
 rcases h with ⟨_, h2, h3, h4⟩ | ⟨⟨h1, _⟩ | ⟨_, h2, h3⟩, h4⟩
 ·exact .inl ⟨h2, h3, h4⟩
 ·exact absurd h1 not_false
 ·exact .inr ⟨h2, h3, h4⟩
set_option maxHeartbeats 8000000 in
set_option maxRecDepth 20000 in
theorem g_fit {q p : Rat} {a b : Fv} {C : Nat} {w : World} (Fa : Fq w q a C) (Fb : Fq w p b C) (hC : C ≤ 1000000) :
  Calls Tryz.prog 53 #[gv a b] w (GGr w q p) := by
 have HC := Lib.hid hC
 clear hC
 have BW : Below w.heap.size w w := Below.refl _ _
 obtain ⟨V2, e3, hb4, K5, -, z1⟩ := alloc_new w [.bool a.n, .slice a.A a.xs.length a.c, .bool a.m, .slice a.B a.ds.length a.d, .bool b.n, .slice b.A b.xs.length b.c, .bool b.m, .slice b.B b.ds.length b.d] 91
 replace Fa := Fa.kp (Kept.of hb4)
 replace Fb := Fb.kp (Kept.of hb4)
 replace BW := BW.trans (hb4.mono BW.size)
 clear hb4
 obtain ⟨V6, e7, hb8, K9, Z10, -⟩ := alloc_new V2 [.bool false, .slice none 0 0, .bool false, .slice none 0 0, .bool false, .slice none 0 0, .bool false, .slice none 0 0] 33
 rw [z1] at K9 Z10
 have n11 : w.heap.size ≠ w.heap.size + 1 := Nat.ne_of_lt (z1 ▸ K5.lt)
 have g12 : w.heap.size ≤ w.heap.size + 1 := z1 ▸ BW.size
 replace K5 := K5.on hb8
 replace Fa := Fa.kp (Kept.of hb8)
 replace Fb := Fb.kp (Kept.of hb8)
 replace BW := BW.trans (hb8.mono BW.size)
 clear hb8
 clear z1
 go_enter Tryz.func53, Tryz.ntmps53
 go_wp2_with fail
 rw [← e3, ← e7]
 clear e3 e7
 refine (q_fit Fa (by have := HC.out; omega)).mono ?_
 rintro _ w13 ⟨f1, er1, rfl, h1, hb⟩
 replace K5 := K5.on hb
 replace K9 := K9.on hb
 replace Z10 := Z10.on hb
 replace Fb := Fb.kp (Kept.of hb)
 replace BW := BW.trans (hb.mono BW.size)
 clear hb
 obtain ⟨V14, e15, hb16, K17, -, -⟩ := alloc_new w13 [.bool f1.n, .slice f1.A f1.xs.length f1.c, .bool f1.m, .slice f1.B f1.ds.length f1.d] 26
 have n18 : w.heap.size + 1 ≠ w13.heap.size := Nat.ne_of_lt (K9.lt)
 replace K5 := K5.on hb16
 replace K9 := K9.on hb16
 replace Z10 := Z10.on hb16
 replace Fb := Fb.kp (Kept.of hb16)
 replace h1 := h1.kp (Kept.of hb16)
 replace BW := BW.trans (hb16.mono BW.size)
 clear hb16
 obtain ⟨c19, c20, c21, c22, c23, c24, c25, c26⟩ := K5.c8
 rw [e15] at c19 c20 c21 c22 c23 c24 c25 c26
 go_wp2_with fail
 clear c19 c20 c21 c22 c23 c24 c25 c26
 rw [← e15]
 clear e15
 generalize w13.heap.size = b27 at *
 refine (q_fit Fb (by have := HC.out; omega)).mono ?_
 rintro _ w28 ⟨f2, er2, rfl, h2, hb⟩
 replace K9 := K9.on hb
 replace K17 := K17.on hb
 replace Z10 := Z10.on hb
 replace h1 := h1.kp (Kept.of hb)
 replace BW := BW.trans (hb.mono BW.size)
 clear hb
 rcases h1.two with ⟨u1, rfl, k1⟩ | ⟨u1, rfl, -⟩ <;> rcases h2.two with ⟨u2, rfl, k2⟩ | ⟨u2, rfl, -⟩
 ·obtain ⟨V29, e30, hb31, K32, -, -⟩ := alloc_new w28 [.bool f2.n, .slice f2.A f2.xs.length f2.c, .bool f2.m, .slice f2.B f2.ds.length f2.d] 26
  have n33 : w.heap.size + 1 ≠ w28.heap.size := Nat.ne_of_lt (K9.lt)
  replace K9 := K9.on hb31
  replace K17 := K17.on hb31
  replace Z10 := Z10.on hb31
  replace k1 := k1.kp (Kept.of hb31)
  replace k2 := k2.kp (Kept.of hb31)
  replace BW := BW.trans (hb31.mono BW.size)
  clear hb31
  obtain ⟨c34, c35, c36, c37⟩ := K17.c4
  rw [e30] at c34 c35 c36 c37
  obtain ⟨c38, c39, c40, c41, c42, c43, c44, c45⟩ := K9.c8
  obtain ⟨c46, c47, c48, c49, c50, c51, c52, c53⟩ := Z10.f8
  rw [e30] at c38 c39 c40 c41 c42 c43 c44 c45 c46 c47 c48 c49 c50 c51 c52 c53
  obtain ⟨V54, hk56⟩ : ∃ V54, V54 = V29.setCells (w.heap.size + 1) 0 [.bool f1.n, .slice f1.A f1.xs.length f1.c, .bool f1.m, .slice f1.B f1.ds.length f1.d, .bool f2.n, .slice f2.A f2.xs.length f2.c, .bool f2.m, .slice f2.B f2.ds.length f2.d] := ⟨_, rfl⟩
  have e55 := hk56
  simp only [World.setCells, Nat.zero_add, Nat.reduceAdd] at e55
  have hk57 := Kept.overE hk56 K9 rfl (by simp)
  replace K9 := K9.overE hk56 rfl
  replace k1 := k1.kp hk57
  replace k2 := k2.kp hk57
  replace BW := Below.putE BW hk56 g12
  clear hk56 hk57
  go_wp2_with fail
  clear c34 c35 c36 c37 c38 c39 c40 c41 c42 c43 c44 c45 c46 c47 c48 c49 c50 c51 c52 c53
  rw [← e30, ← e55]
  clear e30 e55
  generalize w28.heap.size = b58 at *
  obtain ⟨c59, c60, c61, c62, c63, c64, c65, c66⟩ := K9.c8
  exact bodyPost_ret (v := .tuple #[gv f1 f2, .int .i64 0]) (by simp [results, Tryz.results53, go_sem, c59, c60, c61, c62, c63, c64, c65, c66]) rfl ⟨f1, f2, 0, rfl, .inl ⟨u1, u2, rfl, k1, k2⟩, BW⟩
 ·obtain ⟨V29, e30, hb31, K32, -, -⟩ := alloc_new w28 [.bool f2.n, .slice f2.A f2.xs.length f2.c, .bool f2.m, .slice f2.B f2.ds.length f2.d] 26
  have n33 : w.heap.size + 1 ≠ w28.heap.size := Nat.ne_of_lt (K9.lt)
  replace K9 := K9.on hb31
  replace Z10 := Z10.on hb31
  replace BW := BW.trans (hb31.mono BW.size)
  clear hb31
  obtain ⟨c34, c35, c36, c37, c38, c39, c40, c41⟩ := K9.c8
  obtain ⟨c42, c43, c44, c45, c46, c47, c48, c49⟩ := Z10.f8
  rw [e30] at c34 c35 c36 c37 c38 c39 c40 c41 c42 c43 c44 c45 c46 c47 c48 c49
  obtain ⟨V50, hk52⟩ : ∃ V50, V50 = V29.setCells (w.heap.size + 1) 0 [.bool false, .slice none 0 0, .bool false, .slice none 0 0, .bool false, .slice none 0 0, .bool false, .slice none 0 0] := ⟨_, rfl⟩
  have e51 := hk52
  simp only [World.setCells, Nat.zero_add, Nat.reduceAdd] at e51
  have hk53 := Kept.overE hk52 K9 rfl (by simp)
  replace K9 := K9.overE hk52 rfl
  replace BW := Below.putE BW hk52 g12
  clear hk52 hk53
  go_wp2_with fail
  clear c34 c35 c36 c37 c38 c39 c40 c41 c42 c43 c44 c45 c46 c47 c48 c49
  rw [← e30, ← e51]
  clear e30 e51
  generalize w28.heap.size = b54 at *
  obtain ⟨c55, c56, c57, c58, c59, c60, c61, c62⟩ := K9.c8
  exact bodyPost_ret (v := .tuple #[.agg #[.bool false, .slice none 0 0, .bool false, .slice none 0 0, .bool false, .slice none 0 0, .bool false, .slice none 0 0], .int .i64 4]) (by simp [results, Tryz.results53, go_sem, c55, c56, c57, c58, c59, c60, c61, c62]) rfl ⟨fv0, fv0, 4, rfl, .inr ⟨fun hh => u2 hh.2, rfl, rfl, rfl⟩, BW⟩
 ·obtain ⟨V29, e30, hb31, K32, -, -⟩ := alloc_new w28 [.bool f2.n, .slice f2.A f2.xs.length f2.c, .bool f2.m, .slice f2.B f2.ds.length f2.d] 26
  have n33 : w.heap.size + 1 ≠ w28.heap.size := Nat.ne_of_lt (K9.lt)
  replace K9 := K9.on hb31
  replace Z10 := Z10.on hb31
  replace BW := BW.trans (hb31.mono BW.size)
  clear hb31
  obtain ⟨c34, c35, c36, c37, c38, c39, c40, c41⟩ := K9.c8
  obtain ⟨c42, c43, c44, c45, c46, c47, c48, c49⟩ := Z10.f8
  rw [e30] at c34 c35 c36 c37 c38 c39 c40 c41 c42 c43 c44 c45 c46 c47 c48 c49
  obtain ⟨V50, hk52⟩ : ∃ V50, V50 = V29.setCells (w.heap.size + 1) 0 [.bool false, .slice none 0 0, .bool false, .slice none 0 0, .bool false, .slice none 0 0, .bool false, .slice none 0 0] := ⟨_, rfl⟩
  have e51 := hk52
  simp only [World.setCells, Nat.zero_add, Nat.reduceAdd] at e51
  have hk53 := Kept.overE hk52 K9 rfl (by simp)
  replace K9 := K9.overE hk52 rfl
  replace BW := Below.putE BW hk52 g12
  clear hk52 hk53
  go_wp2_with fail
  clear c34 c35 c36 c37 c38 c39 c40 c41 c42 c43 c44 c45 c46 c47 c48 c49
  rw [← e30, ← e51]
  clear e30 e51
  generalize w28.heap.size = b54 at *
  obtain ⟨c55, c56, c57, c58, c59, c60, c61, c62⟩ := K9.c8
  exact bodyPost_ret (v := .tuple #[.agg #[.bool false, .slice none 0 0, .bool false, .slice none 0 0, .bool false, .slice none 0 0, .bool false, .slice none 0 0], .int .i64 4]) (by simp [results, Tryz.results53, go_sem, c55, c56, c57, c58, c59, c60, c61, c62]) rfl ⟨fv0, fv0, 4, rfl, .inr ⟨fun hh => u1 hh.1, rfl, rfl, rfl⟩, BW⟩
 ·obtain ⟨V29, e30, hb31, K32, -, -⟩ := alloc_new w28 [.bool f2.n, .slice f2.A f2.xs.length f2.c, .bool f2.m, .slice f2.B f2.ds.length f2.d] 26
  have n33 : w.heap.size + 1 ≠ w28.heap.size := Nat.ne_of_lt (K9.lt)
  replace K9 := K9.on hb31
  replace Z10 := Z10.on hb31
  replace BW := BW.trans (hb31.mono BW.size)
  clear hb31
  obtain ⟨c34, c35, c36, c37, c38, c39, c40, c41⟩ := K9.c8
  obtain ⟨c42, c43, c44, c45, c46, c47, c48, c49⟩ := Z10.f8
  rw [e30] at c34 c35 c36 c37 c38 c39 c40 c41 c42 c43 c44 c45 c46 c47 c48 c49
  obtain ⟨V50, hk52⟩ : ∃ V50, V50 = V29.setCells (w.heap.size + 1) 0 [.bool false, .slice none 0 0, .bool false, .slice none 0 0, .bool false, .slice none 0 0, .bool false, .slice none 0 0] := ⟨_, rfl⟩
  have e51 := hk52
  simp only [World.setCells, Nat.zero_add, Nat.reduceAdd] at e51
  have hk53 := Kept.overE hk52 K9 rfl (by simp)
  replace K9 := K9.overE hk52 rfl
  replace BW := Below.putE BW hk52 g12
  clear hk52 hk53
  go_wp2_with fail
  clear c34 c35 c36 c37 c38 c39 c40 c41 c42 c43 c44 c45 c46 c47 c48 c49
  rw [← e30, ← e51]
  clear e30 e51
  generalize w28.heap.size = b54 at *
  obtain ⟨c55, c56, c57, c58, c59, c60, c61, c62⟩ := K9.c8
  exact bodyPost_ret (v := .tuple #[.agg #[.bool false, .slice none 0 0, .bool false, .slice none 0 0, .bool false, .slice none 0 0, .bool false, .slice none 0 0], .int .i64 4]) (by simp [results, Tryz.results53, go_sem, c55, c56, c57, c58, c59, c60, c61, c62]) rfl ⟨fv0, fv0, 4, rfl, .inr ⟨fun hh => u1 hh.1, rfl, rfl, rfl⟩, BW⟩
set_option maxHeartbeats 8000000 in
set_option maxRecDepth 20000 in
theorem g_quo1 {q y : Rat} {a n : Fv} {C g : Nat} {w : World} (Fa : Fq w q a C) (Fn : Fq w y n C) (Kg : Box w g [.bool n.n, .slice n.A n.xs.length n.c, .bool n.m, .slice n.B n.ds.length n.d]) (hN : y.num ≠ 0) (hC : C ≤ 1000000) :
  Calls Tryz.prog 120 #[fv a, .pointer (some ⟨g, 0, none⟩)] w (GQ w (q / y) (2 * C + 2)) := by
 have HC := Lib.hid hC
 have HN := Lib.hid hN
 clear hC hN
 have BW : Below w.heap.size w w := Below.refl _ _
 obtain ⟨V2, e3, hb4, K5, -, z1⟩ := alloc_new w [.bool a.n, .slice a.A a.xs.length a.c, .bool a.m, .slice a.B a.ds.length a.d] 87
 replace Kg := Kg.on hb4
 replace Fa := Fa.kp (Kept.of hb4)
 replace Fn := Fn.kp (Kept.of hb4)
 replace BW := BW.trans (hb4.mono BW.size)
 clear hb4
 obtain ⟨V6, e7, hb8, K9, Z10, -⟩ := alloc_new V2 [.bool false, .slice none 0 0, .bool false, .slice none 0 0] 87
 rw [z1] at K9 Z10
 have n11 : g ≠ w.heap.size + 1 := Nat.ne_of_lt (z1 ▸ Kg.lt)
 have n12 : w.heap.size ≠ w.heap.size + 1 := Nat.ne_of_lt (z1 ▸ K5.lt)
 have g13 : w.heap.size ≤ w.heap.size + 1 := z1 ▸ BW.size
 replace Kg := Kg.on hb8
 replace Fa := Fa.kp (Kept.of hb8)
 replace Fn := Fn.kp (Kept.of hb8)
 replace BW := BW.trans (hb8.mono BW.size)
 clear hb8
 obtain ⟨c14, c15, c16, c17⟩ := Kg.c4
 rw [e7, e3] at c14 c15 c16 c17
 clear z1
 go_enter Tryz.func120, Tryz.ntmps120
 go_wp2_with fail
 clear c14 c15 c16 c17
 rw [← e3, ← e7]
 clear e3 e7
 refine (q_quo Fa Fn HN.out (by have := HC.out; omega)).mono ?_
 rintro _ w18 ⟨f1, rfl, h1, hb⟩
 replace K9 := K9.on hb
 replace Z10 := Z10.on hb
 replace BW := BW.trans (hb.mono BW.size)
 clear hb
 obtain ⟨c19, c20, c21, c22⟩ := K9.c4
 obtain ⟨c23, c24, c25, c26⟩ := Z10.f4
 obtain ⟨V27, hk29⟩ : ∃ V27, V27 = w18.setCells (w.heap.size + 1) 0 [.bool f1.n, .slice f1.A f1.xs.length f1.c, .bool f1.m, .slice f1.B f1.ds.length f1.d] := ⟨_, rfl⟩
 have e28 := hk29
 simp only [World.setCells, Nat.zero_add, Nat.reduceAdd] at e28
 have hk30 := Kept.overE hk29 K9 rfl (by simp)
 replace K9 := K9.overE hk29 rfl
 replace h1 := h1.kp hk30
 replace BW := Below.putE BW hk29 g13
 clear hk29 hk30
 go_wp2_with fail
 clear c19 c20 c21 c22 c23 c24 c25 c26
 rw [← e28]
 clear e28
 obtain ⟨c31, c32, c33, c34⟩ := K9.c4
 exact bodyPost_ret (v := fv f1) (by simp [results, Tryz.results120, go_sem, c31, c32, c33, c34]) rfl ⟨f1, rfl, h1, BW⟩
set_option maxHeartbeats 8000000 in
set_option maxRecDepth 20000 in
theorem g_each {q p y : Rat} {a b n : Fv} {C g : Nat} {w : World} (Fa : Fq w q a C) (Fb : Fq w p b C) (Fn : Fq w y n C) (Kg : Box w g [.bool n.n, .slice n.A n.xs.length n.c, .bool n.m, .slice n.B n.ds.length n.d]) (hN : y.num ≠ 0) (hC : C ≤ 1000000) :
  Calls Tryz.prog 119 #[gv a b, .func (.func 120) #[] #[.pointer (some ⟨g, 0, none⟩)]] w (GG w (q / y) (p / y) (2 * C + 2)) := by
 have HC := Lib.hid hC
 have HN := Lib.hid hN
 clear hC hN
 have NG0 : g ≠ w.heap.size := Nat.ne_of_lt Kg.lt
 have NG1 : g ≠ w.heap.size + 1 := Nat.ne_of_lt (Nat.lt_succ_of_lt Kg.lt)
 have BW : Below w.heap.size w w := Below.refl _ _
 obtain ⟨V2, e3, hb4, K5, -, z1⟩ := alloc_new w [.bool a.n, .slice a.A a.xs.length a.c, .bool a.m, .slice a.B a.ds.length a.d, .bool b.n, .slice b.A b.xs.length b.c, .bool b.m, .slice b.B b.ds.length b.d] 91
 replace Kg := Kg.on hb4
 replace Fa := Fa.kp (Kept.of hb4)
 replace Fb := Fb.kp (Kept.of hb4)
 replace Fn := Fn.kp (Kept.of hb4)
 replace BW := BW.trans (hb4.mono BW.size)
 clear hb4
 obtain ⟨V6, e7, hb8, K9, Z10, -⟩ := alloc_new V2 [.bool false, .slice none 0 0, .bool false, .slice none 0 0, .bool false, .slice none 0 0, .bool false, .slice none 0 0] 91
 rw [z1] at K9 Z10
 have n11 : g ≠ w.heap.size + 1 := Nat.ne_of_lt (z1 ▸ Kg.lt)
 have n12 : w.heap.size ≠ w.heap.size + 1 := Nat.ne_of_lt (z1 ▸ K5.lt)
 have g13 : w.heap.size ≤ w.heap.size + 1 := z1 ▸ BW.size
 replace Kg := Kg.on hb8
 replace K5 := K5.on hb8
 replace Fa := Fa.kp (Kept.of hb8)
 replace Fb := Fb.kp (Kept.of hb8)
 replace Fn := Fn.kp (Kept.of hb8)
 replace BW := BW.trans (hb8.mono BW.size)
 clear hb8
 clear z1
 go_enter Tryz.func119, Tryz.ntmps119
 go_wp2_with fail
 rw [← e3, ← e7]
 clear e3 e7
 refine wp_region_noPanic ?_
 have hb : Below V6.heap.size V6 V6.drew := (Below.refl _ _).drew
 replace Kg := Kg.on hb
 replace K5 := K5.on hb
 replace K9 := K9.on hb
 replace Z10 := Z10.on hb
 replace Fa := Fa.kp (Kept.of hb)
 replace Fb := Fb.kp (Kept.of hb)
 replace Fn := Fn.kp (Kept.of hb)
 replace BW := BW.trans (hb.mono BW.size)
 clear hb
 refine wp_region_held_drew (S := (fun wx => Cs wx (w.heap.size) 0 [.bool a.n, .slice a.A a.xs.length a.c, .bool a.m, .slice a.B a.ds.length a.d, .bool b.n, .slice b.A b.xs.length b.c, .bool b.m, .slice b.B b.ds.length b.d])) (by kernel_rfl) (by exact K5.cs) (fun hHeld => ?_)
 generalize V6.drew = Vd14 at *
 refine pT 0 ?_
 (try simp only [p0, p1, p2, p3])
 refine pT 1 ?_
 (try simp only [p0, p1, p2, p3])
 refine pT 2 ?_
 (try simp only [p0, p1, p2, p3])
 refine pT 4 ?_
 (try simp only [p0, p1, p2, p3])
 refine pT 5 ?_
 (try simp only [p0, p1, p2, p3])
 refine pT 6 ?_
 (try simp only [p0, p1, p2, p3])
 refine pR1 3 (fun K hK => ?_)
 go_simp
 (go_at_call 120; with_reducible refine (g_quo1 Fa Fn Kg HN.out (by have := HC.out; omega)).mono ?_)
 rintro _ w15 ⟨f1, rfl, h1, hb⟩
 (try go_wp2_with fail)
 replace Kg := Kg.on hb
 replace K5 := K5.on hb
 replace K9 := K9.on hb
 replace Z10 := Z10.on hb
 replace Fb := Fb.kp (Kept.of hb)
 replace Fn := Fn.kp (Kept.of hb)
 replace BW := BW.trans (hb.mono BW.size)
 clear hb
 refine hK.out _ _ (by exact K5.cs) (fun hHeld => ?_)
 clear hK
 (try simp only [p0, p1, p2, p3])
 refine pR1 7 (fun K hK => ?_)
 go_simp
 (go_at_call 120; with_reducible refine (g_quo1 Fb Fn Kg HN.out (by have := HC.out; omega)).mono ?_)
 rintro _ w16 ⟨f2, rfl, h2, hb⟩
 (try go_wp2_with fail)
 replace K5 := K5.on hb
 replace K9 := K9.on hb
 replace Z10 := Z10.on hb
 replace h1 := h1.kp (Kept.of hb)
 replace BW := BW.trans (hb.mono BW.size)
 clear hb
 refine hK.out _ _ (by exact K5.cs) (fun hHeld => ?_)
 clear hK
 (try simp only [p0, p1, p2, p3])
 refine pT 8 ?_
 (try simp only [p0, p1, p2, p3])
 refine pR1 9 (fun K hK => ?_)
 obtain ⟨c17, c18, c19, c20, c21, c22, c23, c24⟩ := K9.c8
 obtain ⟨c25, c26, c27, c28, c29, c30, c31, c32⟩ := Z10.f8
 go_simp
 clear c17 c18 c19 c20 c21 c22 c23 c24 c25 c26 c27 c28 c29 c30 c31 c32
 obtain ⟨V33, hk35⟩ : ∃ V33, V33 = w16.setCells (w.heap.size + 1) 0 [.bool f1.n, .slice f1.A f1.xs.length f1.c, .bool f1.m, .slice f1.B f1.ds.length f1.d, .bool f2.n, .slice f2.A f2.xs.length f2.c, .bool f2.m, .slice f2.B f2.ds.length f2.d] := ⟨_, rfl⟩
 have e34 := hk35
 simp only [World.setCells, Nat.zero_add, Nat.reduceAdd] at e34
 have hk36 := Kept.overE hk35 K9 rfl (by simp)
 replace K5 := K5.awayE hk35 n12
 replace K9 := K9.overE hk35 rfl
 replace h1 := h1.kp hk36
 replace h2 := h2.kp hk36
 replace BW := Below.putE BW hk35 g13
 clear hk35 hk36
 rw [← e34]
 clear e34
 refine hK.out _ _ (by exact K5.cs) (fun hHeld => ?_)
 clear hK
 (try simp only [p0, p1, p2, p3])
 refine wpAnyH_done (by kernel_rfl) (NoPanic.normal ?_) _
 go_wp2
 obtain ⟨c37, c38, c39, c40, c41, c42, c43, c44⟩ := K9.c8
 exact bodyPost_ret (v := gv f1 f2) (by simp [results, Tryz.results119, go_sem, c37, c38, c39, c40, c41, c42, c43, c44]) rfl ⟨f1, f2, rfl, h1, h2, BW⟩
set_option maxHeartbeats 8000000 in
set_option maxRecDepth 20000 in
theorem g_quo {q p s t : Rat} {a b c d : Fv} {C : Nat} {w : World} (Fa : Fq w q a C) (Fb : Fq w p b C) (Fc : Fq w s c C) (Fd : Fq w t d C) (hN : (s * s + t * t).num ≠ 0) (hC : C ≤ 200000) :
  Calls Tryz.prog 51 #[gv a b, gv c d] w (GG w ((q * s + p * t) / (s * s + t * t)) ((p * s - q * t) / (s * s + t * t)) (8 * C + 18)) := by
 have HC := Lib.hid hC
 have HN := Lib.hid hN
 clear hC hN
 have BW : Below w.heap.size w w := Below.refl _ _
 obtain ⟨V2, e3, hb4, K5, -, z1⟩ := alloc_new w [.bool a.n, .slice a.A a.xs.length a.c, .bool a.m, .slice a.B a.ds.length a.d, .bool b.n, .slice b.A b.xs.length b.c, .bool b.m, .slice b.B b.ds.length b.d] 91
 replace Fa := Fa.kp (Kept.of hb4)
 replace Fb := Fb.kp (Kept.of hb4)
 replace Fc := Fc.kp (Kept.of hb4)
 replace Fd := Fd.kp (Kept.of hb4)
 replace BW := BW.trans (hb4.mono BW.size)
 clear hb4
 obtain ⟨V7, e8, hb9, K10, -, z6⟩ := alloc_new V2 [.bool c.n, .slice c.A c.xs.length c.c, .bool c.m, .slice c.B c.ds.length c.d, .bool d.n, .slice d.A d.xs.length d.c, .bool d.m, .slice d.B d.ds.length d.d] 91
 rw [z1] at K10 z6
 replace K5 := K5.on hb9
 replace Fa := Fa.kp (Kept.of hb9)
 replace Fb := Fb.kp (Kept.of hb9)
 replace Fc := Fc.kp (Kept.of hb9)
 replace Fd := Fd.kp (Kept.of hb9)
 replace BW := BW.trans (hb9.mono BW.size)
 clear hb9
 obtain ⟨V11, e12, hb13, K14, Z15, -⟩ := alloc_new V7 [.bool false, .slice none 0 0, .bool false, .slice none 0 0, .bool false, .slice none 0 0, .bool false, .slice none 0 0] 91
 rw [z6] at K14 Z15
 have n16 : w.heap.size ≠ w.heap.size + 1 + 1 := Nat.ne_of_lt (z6 ▸ K5.lt)
 have n17 : w.heap.size + 1 ≠ w.heap.size + 1 + 1 := Nat.ne_of_lt (z6 ▸ K10.lt)
 have g18 : w.heap.size ≤ w.heap.size + 1 + 1 := z6 ▸ BW.size
 replace K5 := K5.on hb13
 replace K10 := K10.on hb13
 replace Fa := Fa.kp (Kept.of hb13)
 replace Fb := Fb.kp (Kept.of hb13)
 replace Fc := Fc.kp (Kept.of hb13)
 replace Fd := Fd.kp (Kept.of hb13)
 replace BW := BW.trans (hb13.mono BW.size)
 clear hb13
 clear z1 z6
 go_enter Tryz.func51, Tryz.ntmps51
 go_wp2_with fail
 rw [← e3, ← e8, ← e12]
 clear e3 e8 e12
 refine (g_norm Fc Fd (by have := HC.out; omega)).mono ?_
 rintro _ w19 ⟨n, rfl, Fn, hb⟩
 replace K5 := K5.on hb
 replace K10 := K10.on hb
 replace K14 := K14.on hb
 replace Z15 := Z15.on hb
 replace Fa := Fa.kp (Kept.of hb)
 replace Fb := Fb.kp (Kept.of hb)
 replace Fc := Fc.kp (Kept.of hb)
 replace Fd := Fd.kp (Kept.of hb)
 replace BW := BW.trans (hb.mono BW.size)
 clear hb
 obtain ⟨V20, e21, hb22, K23, -, -⟩ := alloc_new w19 [.bool n.n, .slice n.A n.xs.length n.c, .bool n.m, .slice n.B n.ds.length n.d] 87
 have n24 : w.heap.size + 1 + 1 ≠ w19.heap.size := Nat.ne_of_lt (K14.lt)
 replace K5 := K5.on hb22
 replace K10 := K10.on hb22
 replace K14 := K14.on hb22
 replace Z15 := Z15.on hb22
 replace Fa := Fa.kp (Kept.of hb22)
 replace Fb := Fb.kp (Kept.of hb22)
 replace Fc := Fc.kp (Kept.of hb22)
 replace Fd := Fd.kp (Kept.of hb22)
 replace Fn := Fn.kp (Kept.of hb22)
 replace BW := BW.trans (hb22.mono BW.size)
 clear hb22
 go_wp2_with fail
 rw [← e21]
 clear e21
 generalize w19.heap.size = b25 at *
 refine wp_region_noPanic ?_
 have hb : Below V20.heap.size V20 V20.drew := (Below.refl _ _).drew
 replace K5 := K5.on hb
 replace K10 := K10.on hb
 replace K14 := K14.on hb
 replace K23 := K23.on hb
 replace Z15 := Z15.on hb
 replace Fa := Fa.kp (Kept.of hb)
 replace Fb := Fb.kp (Kept.of hb)
 replace Fc := Fc.kp (Kept.of hb)
 replace Fd := Fd.kp (Kept.of hb)
 replace Fn := Fn.kp (Kept.of hb)
 replace BW := BW.trans (hb.mono BW.size)
 clear hb
 refine wp_region_held_drew (S := (fun wx => Cs wx (w.heap.size) 0 [.bool a.n, .slice a.A a.xs.length a.c, .bool a.m, .slice a.B a.ds.length a.d, .bool b.n, .slice b.A b.xs.length b.c, .bool b.m, .slice b.B b.ds.length b.d] ∧ Cs wx (w.heap.size + 1) 0 [.bool c.n, .slice c.A c.xs.length c.c, .bool c.m, .slice c.B c.ds.length c.d, .bool d.n, .slice d.A d.xs.length d.c, .bool d.m, .slice d.B d.ds.length d.d])) (by kernel_rfl) (by exact ⟨K5.cs, K10.cs⟩) (fun hHeld => ?_)
 generalize V20.drew = Vd26 at *
 refine pT 0 ?_
 (try simp only [p0, p1, p2, p3])
 refine pT 1 ?_
 (try simp only [p0, p1, p2, p3])
 refine pR2 2 4 (fun K hK => ?_) (fun K hK => ?_)
 ·go_simp
  (go_at_call 52; with_reducible refine (g_conj Fc Fd (by have := HC.out; omega)).mono ?_)
  rintro _ w27 ⟨c1, d1, rfl, Fc1, Fd1, hb⟩
  (try go_wp2_with fail)
  replace K5 := K5.on hb
  replace K10 := K10.on hb
  replace K14 := K14.on hb
  replace K23 := K23.on hb
  replace Z15 := Z15.on hb
  replace Fa := Fa.kp (Kept.of hb)
  replace Fb := Fb.kp (Kept.of hb)
  replace Fn := Fn.kp (Kept.of hb)
  replace BW := BW.trans (hb.mono BW.size)
  clear hb
  refine hK.out _ _ (by exact ⟨K5.cs, K10.cs⟩) (fun hHeld => ?_)
  clear hK
  (try simp only [p0, p1, p2, p3])
  refine pR2 3 4 (fun K hK => ?_) (fun K hK => ?_)
  ·go_simp
   (go_at_call 114; with_reducible refine (g_mul Fa Fb Fc1 Fd1 (by have := HC.out; omega)).mono ?_)
   rintro _ w28 ⟨f1, f2, rfl, h1, h2, hb⟩
   (try go_wp2_with fail)
   replace K5 := K5.on hb
   replace K10 := K10.on hb
   replace K14 := K14.on hb
   replace K23 := K23.on hb
   replace Z15 := Z15.on hb
   replace Fn := Fn.kp (Kept.of hb)
   replace BW := BW.trans (hb.mono BW.size)
   clear hb
   refine hK.out _ _ (by exact ⟨K5.cs, K10.cs⟩) (fun hHeld => ?_)
   clear hK
   (try simp only [p0, p1, p2, p3])
   refine pR1 4 (fun K hK => ?_)
   go_simp
   refine hK.out _ _ (by exact ⟨K5.cs, K10.cs⟩) (fun hHeld => ?_)
   clear hK
   (try simp only [p0, p1, p2, p3])
   refine pR1 5 (fun K hK => ?_)
   go_simp
   (go_at_call 119; with_reducible refine (g_each h1 h2 Fn K23 HN.out (by have := HC.out; omega)).mono ?_)
   rintro _ w29 ⟨f3, f4, rfl, h3, h4, hb⟩
   (try go_wp2_with fail)
   replace K5 := K5.on hb
   replace K10 := K10.on hb
   replace K14 := K14.on hb
   replace Z15 := Z15.on hb
   replace BW := BW.trans (hb.mono BW.size)
   clear hb
   refine hK.out _ _ (by exact ⟨K5.cs, K10.cs⟩) (fun hHeld => ?_)
   clear hK
   (try simp only [p0, p1, p2, p3])
   refine pR1 6 (fun K hK => ?_)
   obtain ⟨c30, c31, c32, c33, c34, c35, c36, c37⟩ := K14.c8
   obtain ⟨c38, c39, c40, c41, c42, c43, c44, c45⟩ := Z15.f8
   go_simp
   clear c30 c31 c32 c33 c34 c35 c36 c37 c38 c39 c40 c41 c42 c43 c44 c45
   obtain ⟨V46, hk48⟩ : ∃ V46, V46 = w29.setCells (w.heap.size + 1 + 1) 0 [.bool f3.n, .slice f3.A f3.xs.length f3.c, .bool f3.m, .slice f3.B f3.ds.length f3.d, .bool f4.n, .slice f4.A f4.xs.length f4.c, .bool f4.m, .slice f4.B f4.ds.length f4.d] := ⟨_, rfl⟩
   have e47 := hk48
   simp only [World.setCells, Nat.zero_add, Nat.reduceAdd] at e47
   have hk49 := Kept.overE hk48 K14 rfl (by simp)
   replace K5 := K5.awayE hk48 n16
   replace K10 := K10.awayE hk48 n17
   replace K14 := K14.overE hk48 rfl
   replace h3 := h3.kp hk49
   replace h4 := h4.kp hk49
   replace BW := Below.putE BW hk48 g18
   clear hk48 hk49
   rw [← e47]
   clear e47
   refine hK.out _ _ (by exact ⟨K5.cs, K10.cs⟩) (fun hHeld => ?_)
   clear hK
   (try simp only [p0, p1, p2, p3])
   refine wpAnyH_done (by kernel_rfl) (NoPanic.normal ?_) _
   replace h3 := (h3.mono (C' := 8 * C + 18) (by have := HC.out; omega)).to (by rw [Rat.mul_neg, Rat.sub_eq_add_neg, Rat.neg_neg])
   replace h4 := (h4.mono (C' := 8 * C + 18) (by have := HC.out; omega)).to (by rw [Rat.mul_neg, Rat.add_comm, ← Rat.sub_eq_add_neg])
   go_wp2
   obtain ⟨c50, c51, c52, c53, c54, c55, c56, c57⟩ := K14.c8
   exact bodyPost_ret (v := gv f3 f4) (by simp [results, Tryz.results51, go_sem, c50, c51, c52, c53, c54, c55, c56, c57]) rfl ⟨f3, f4, rfl, h3, h4, BW⟩
  ·go_simp
   refine hK.out _ _ (by exact ⟨K5.cs, K10.cs⟩) (fun hHeld => ?_)
   clear hK
   (try simp only [p0, p1, p2, p3])
   refine pR1 3 (fun K hK => ?_)
   go_simp
   (go_at_call 114; with_reducible refine (g_mul Fa Fb Fc1 Fd1 (by have := HC.out; omega)).mono ?_)
   rintro _ w28 ⟨f1, f2, rfl, h1, h2, hb⟩
   (try go_wp2_with fail)
   replace K5 := K5.on hb
   replace K10 := K10.on hb
   replace K14 := K14.on hb
   replace K23 := K23.on hb
   replace Z15 := Z15.on hb
   replace Fn := Fn.kp (Kept.of hb)
   replace BW := BW.trans (hb.mono BW.size)
   clear hb
   refine hK.out _ _ (by exact ⟨K5.cs, K10.cs⟩) (fun hHeld => ?_)
   clear hK
   (try simp only [p0, p1, p2, p3])
   refine pR1 5 (fun K hK => ?_)
   go_simp
   (go_at_call 119; with_reducible refine (g_each h1 h2 Fn K23 HN.out (by have := HC.out; omega)).mono ?_)
   rintro _ w29 ⟨f3, f4, rfl, h3, h4, hb⟩
   (try go_wp2_with fail)
   replace K5 := K5.on hb
   replace K10 := K10.on hb
   replace K14 := K14.on hb
   replace Z15 := Z15.on hb
   replace BW := BW.trans (hb.mono BW.size)
   clear hb
   refine hK.out _ _ (by exact ⟨K5.cs, K10.cs⟩) (fun hHeld => ?_)
   clear hK
   (try simp only [p0, p1, p2, p3])
   refine pR1 6 (fun K hK => ?_)
   obtain ⟨c30, c31, c32, c33, c34, c35, c36, c37⟩ := K14.c8
   obtain ⟨c38, c39, c40, c41, c42, c43, c44, c45⟩ := Z15.f8
   go_simp
   clear c30 c31 c32 c33 c34 c35 c36 c37 c38 c39 c40 c41 c42 c43 c44 c45
   obtain ⟨V46, hk48⟩ : ∃ V46, V46 = w29.setCells (w.heap.size + 1 + 1) 0 [.bool f3.n, .slice f3.A f3.xs.length f3.c, .bool f3.m, .slice f3.B f3.ds.length f3.d, .bool f4.n, .slice f4.A f4.xs.length f4.c, .bool f4.m, .slice f4.B f4.ds.length f4.d] := ⟨_, rfl⟩
   have e47 := hk48
   simp only [World.setCells, Nat.zero_add, Nat.reduceAdd] at e47
   have hk49 := Kept.overE hk48 K14 rfl (by simp)
   replace K5 := K5.awayE hk48 n16
   replace K10 := K10.awayE hk48 n17
   replace K14 := K14.overE hk48 rfl
   replace h3 := h3.kp hk49
   replace h4 := h4.kp hk49
   replace BW := Below.putE BW hk48 g18
   clear hk48 hk49
   rw [← e47]
   clear e47
   refine hK.out _ _ (by exact ⟨K5.cs, K10.cs⟩) (fun hHeld => ?_)
   clear hK
   (try simp only [p0, p1, p2, p3])
   refine wpAnyH_done (by kernel_rfl) (NoPanic.normal ?_) _
   replace h3 := (h3.mono (C' := 8 * C + 18) (by have := HC.out; omega)).to (by rw [Rat.mul_neg, Rat.sub_eq_add_neg, Rat.neg_neg])
   replace h4 := (h4.mono (C' := 8 * C + 18) (by have := HC.out; omega)).to (by rw [Rat.mul_neg, Rat.add_comm, ← Rat.sub_eq_add_neg])
   go_wp2
   obtain ⟨c50, c51, c52, c53, c54, c55, c56, c57⟩ := K14.c8
   exact bodyPost_ret (v := gv f3 f4) (by simp [results, Tryz.results51, go_sem, c50, c51, c52, c53, c54, c55, c56, c57]) rfl ⟨f3, f4, rfl, h3, h4, BW⟩
 ·go_simp
  refine hK.out _ _ (by exact ⟨K5.cs, K10.cs⟩) (fun hHeld => ?_)
  clear hK
  (try simp only [p0, p1, p2, p3])
  refine pR1 2 (fun K hK => ?_)
  go_simp
  (go_at_call 52; with_reducible refine (g_conj Fc Fd (by have := HC.out; omega)).mono ?_)
  rintro _ w27 ⟨c1, d1, rfl, Fc1, Fd1, hb⟩
  (try go_wp2_with fail)
  replace K5 := K5.on hb
  replace K10 := K10.on hb
  replace K14 := K14.on hb
  replace K23 := K23.on hb
  replace Z15 := Z15.on hb
  replace Fa := Fa.kp (Kept.of hb)
  replace Fb := Fb.kp (Kept.of hb)
  replace Fn := Fn.kp (Kept.of hb)
  replace BW := BW.trans (hb.mono BW.size)
  clear hb
  refine hK.out _ _ (by exact ⟨K5.cs, K10.cs⟩) (fun hHeld => ?_)
  clear hK
  (try simp only [p0, p1, p2, p3])
  refine pR1 3 (fun K hK => ?_)
  go_simp
  (go_at_call 114; with_reducible refine (g_mul Fa Fb Fc1 Fd1 (by have := HC.out; omega)).mono ?_)
  rintro _ w28 ⟨f1, f2, rfl, h1, h2, hb⟩
  (try go_wp2_with fail)
  replace K5 := K5.on hb
  replace K10 := K10.on hb
  replace K14 := K14.on hb
  replace K23 := K23.on hb
  replace Z15 := Z15.on hb
  replace Fn := Fn.kp (Kept.of hb)
  replace BW := BW.trans (hb.mono BW.size)
  clear hb
  refine hK.out _ _ (by exact ⟨K5.cs, K10.cs⟩) (fun hHeld => ?_)
  clear hK
  (try simp only [p0, p1, p2, p3])
  refine pR1 5 (fun K hK => ?_)
  go_simp
  (go_at_call 119; with_reducible refine (g_each h1 h2 Fn K23 HN.out (by have := HC.out; omega)).mono ?_)
  rintro _ w29 ⟨f3, f4, rfl, h3, h4, hb⟩
  (try go_wp2_with fail)
  replace K5 := K5.on hb
  replace K10 := K10.on hb
  replace K14 := K14.on hb
  replace Z15 := Z15.on hb
  replace BW := BW.trans (hb.mono BW.size)
  clear hb
  refine hK.out _ _ (by exact ⟨K5.cs, K10.cs⟩) (fun hHeld => ?_)
  clear hK
  (try simp only [p0, p1, p2, p3])
  refine pR1 6 (fun K hK => ?_)
  obtain ⟨c30, c31, c32, c33, c34, c35, c36, c37⟩ := K14.c8
  obtain ⟨c38, c39, c40, c41, c42, c43, c44, c45⟩ := Z15.f8
  go_simp
  clear c30 c31 c32 c33 c34 c35 c36 c37 c38 c39 c40 c41 c42 c43 c44 c45
  obtain ⟨V46, hk48⟩ : ∃ V46, V46 = w29.setCells (w.heap.size + 1 + 1) 0 [.bool f3.n, .slice f3.A f3.xs.length f3.c, .bool f3.m, .slice f3.B f3.ds.length f3.d, .bool f4.n, .slice f4.A f4.xs.length f4.c, .bool f4.m, .slice f4.B f4.ds.length f4.d] := ⟨_, rfl⟩
  have e47 := hk48
  simp only [World.setCells, Nat.zero_add, Nat.reduceAdd] at e47
  have hk49 := Kept.overE hk48 K14 rfl (by simp)
  replace K5 := K5.awayE hk48 n16
  replace K10 := K10.awayE hk48 n17
  replace K14 := K14.overE hk48 rfl
  replace h3 := h3.kp hk49
  replace h4 := h4.kp hk49
  replace BW := Below.putE BW hk48 g18
  clear hk48 hk49
  rw [← e47]
  clear e47
  refine hK.out _ _ (by exact ⟨K5.cs, K10.cs⟩) (fun hHeld => ?_)
  clear hK
  (try simp only [p0, p1, p2, p3])
  refine wpAnyH_done (by kernel_rfl) (NoPanic.normal ?_) _
  replace h3 := (h3.mono (C' := 8 * C + 18) (by have := HC.out; omega)).to (by rw [Rat.mul_neg, Rat.sub_eq_add_neg, Rat.neg_neg])
  replace h4 := (h4.mono (C' := 8 * C + 18) (by have := HC.out; omega)).to (by rw [Rat.mul_neg, Rat.add_comm, ← Rat.sub_eq_add_neg])
  go_wp2
  obtain ⟨c50, c51, c52, c53, c54, c55, c56, c57⟩ := K14.c8
  exact bodyPost_ret (v := gv f3 f4) (by simp [results, Tryz.results51, go_sem, c50, c51, c52, c53, c54, c55, c56, c57]) rfl ⟨f3, f4, rfl, h3, h4, BW⟩
end Go.Proofs.YtplgheabhekedaaGreatDoor
