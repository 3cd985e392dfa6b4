/-
  What gauss.Of, Unit, Text of the statements' own numbers return, and how great sums and products of those that are handed in may be. Conditions: as each theorem states.
-/
import Derived.Test.YtplgheabhekedaaGreatDoorGc
import Derived.Deep.RegionHeld3
import Derived.Deep.DeepCutAuto
import Derived.BigRegion
namespace Go.Proofs.YtplgheabhekedaaGreatDoor
open Go.RowKit Nb
theorem rat_int (n : Int) : Rat.divInt n 1 = (n : Rat) := by rw [Rat.divInt_eq_div]; grind
theorem int_num (n : Int) : (n : Rat).num = n := rfl
theorem int_den (n : Int) : (n : Rat).den = 1 := rfl
theorem fits_int {n : Int} (h : n.natAbs < 2 ^ 100) : FitsQ (n : Rat) := ⟨by rw [int_num]; exact fits_low h, by rw [int_den]; exact fits_low (by decide)⟩
theorem al1 : ((3 : Int) : Rat) * ((1 : Int) : Rat) - ((-4 : Int) : Rat) * ((2 : Int) : Rat) = ((11 : Int) : Rat) := by decide +kernel
theorem al2 : ((3 : Int) : Rat) * ((2 : Int) : Rat) + ((-4 : Int) : Rat) * ((1 : Int) : Rat) = ((2 : Int) : Rat) := by decide +kernel
theorem al3 : FitsQ (((3 : Int) : Rat) * ((1 : Int) : Rat) - ((-4 : Int) : Rat) * ((2 : Int) : Rat)) := by rw [al1]; exact fits_int (by decide)
theorem al4 : FitsQ (((3 : Int) : Rat) * ((2 : Int) : Rat) + ((-4 : Int) : Rat) * ((1 : Int) : Rat)) := by rw [al2]; exact fits_int (by decide)
theorem f_int {n : Int} {w : World} (h0 : -9223372036854775808 ≤ n) (h1 : n ≤ 9223372036854775807) :
  Calls Tryz.prog 14 #[.int .i64 n, .int .i64 1] w fun e w' => ∃ f : Fv, e = .returned (.tuple #[fv f, .int .i64 0]) ∧ Ff w' (n : Rat) f ∧ Below w.heap.size w w' := by
 refine (r_of n 1 w h0 h1 (by decide) (by decide)).mono ?_
 rintro _ w1 ⟨f, er, rfl, h, hb⟩
 rw [rat_int] at h
 obtain ⟨rfl, k⟩ := h.yes (by decide) (fits_int (by omega))
 exact ⟨f, rfl, k, hb⟩
theorem lof_n {n : Int} {w : World} (h0 : -9223372036854775808 ≤ n) (h1 : n ≤ 9223372036854775807) : Calls Tryz.prog 111 #[.int .i64 n] w (GivesN w n 1) := by
 refine (large_of_any n w h0 h1).mono ?_
 rintro _ w1 ⟨g, rfl, hs, _, hb⟩
 refine ⟨_, _, _, _, rfl, ⟨⟨hs, ofL_dig h0 h1, ofL_norm n, fun e => ?_, by have := ofL_len n; omega, Nat.le_refl _⟩, ?_⟩, hb⟩
 ·have := ofL_val n
  rw [e] at this
  have h3 : n = 0 := by simp [val] at this; omega
  rw [h3]; rfl
 ·rw [ofL_val]
  unfold sv
  by_cases h : n < 0
  ·rw [decide_eq_true h, if_pos rfl]; omega
  ·rw [decide_eq_false h]; simp; omega
theorem q_ratio {X Y : Int} {n m : Bool} {A B : Option Addr} {xs ds : List Nat} {c d C : Nat} {w : World} (h : Nw w X C n A xs c) (k : Nw w Y C m B ds d) (hY : Y ≠ 0) (hC : C ≤ 1759218604390) :
  Calls Tryz.prog 126 #[big n A xs.length c, big m B ds.length d] w (GQ w (Rat.divInt X Y) (C + 1)) := by
 refine (ratio_any X Y n m A B xs ds c d C w h k hY hC).mono ?_
 rintro _ _ ⟨n, A, xs, c, B, ds, d, rfl, hL, hb⟩
 exact ⟨⟨n, A, xs, c, false, B, ds, d⟩, rfl, ⟨rfl, hL⟩, hb⟩
set_option maxHeartbeats 8000000 in
set_option maxRecDepth 20000 in
theorem g_of1 {n : Int} {w : World} (h0 : -9223372036854775808 ≤ n) (h1 : n ≤ 9223372036854775807) :
  Calls Tryz.prog 69 #[.int .i64 n] w (fun e w' => ∃ f : Fv, e = .returned (.tuple #[fv f, .int .i64 0]) ∧ Ff w' (n : Rat) f ∧ Below w.heap.size w w') := by
 have HB := Lib.hid (And.intro h0 h1)
 clear h0 h1
 have BW : Below w.heap.size w w := Below.refl _ _
 obtain ⟨V1, e2, hb3, K4, Z5, -⟩ := alloc_new w [.bool false, .slice none 0 0, .bool false, .slice none 0 0] 26
 have g6 : w.heap.size ≤ w.heap.size := BW.size
 replace BW := BW.trans (hb3.mono BW.size)
 clear hb3
 go_enter Tryz.func69, Tryz.ntmps69
 go_wp2_with fail
 rw [← e2]
 clear e2
 refine (f_int HB.out.1 HB.out.2).mono ?_
 rintro _ w7 ⟨f, rfl, h, hb⟩
 replace K4 := K4.on hb
 replace Z5 := Z5.on hb
 replace BW := BW.trans (hb.mono BW.size)
 clear hb
 obtain ⟨c8, c9, c10, c11⟩ := K4.c4
 obtain ⟨c12, c13, c14, c15⟩ := Z5.f4
 obtain ⟨V16, hk18⟩ : ∃ V16, V16 = w7.setCells (w.heap.size) 0 [.bool f.n, .slice f.A f.xs.length f.c, .bool f.m, .slice f.B f.ds.length f.d] := ⟨_, rfl⟩
 have e17 := hk18
 simp only [World.setCells, Nat.zero_add, Nat.reduceAdd] at e17
 have hk19 := Kept.overE hk18 K4 rfl (by simp)
 replace K4 := K4.overE hk18 rfl
 replace h := h.kp hk19
 replace BW := Below.putE BW hk18 g6
 clear hk18 hk19
 go_wp2_with fail
 clear c8 c9 c10 c11 c12 c13 c14 c15
 rw [← e17]
 clear e17
 obtain ⟨c20, c21, c22, c23⟩ := K4.c4
 exact bodyPost_ret (v := .tuple #[fv f, .int .i64 0]) (by simp [results, Tryz.results69, go_sem, c20, c21, c22, c23]) rfl ⟨f, rfl, h, BW⟩
set_option maxHeartbeats 8000000 in
set_option maxRecDepth 20000 in
theorem g_bothof {n m : Int} {w : World} (h0 : -9223372036854775808 ≤ n) (h1 : n ≤ 9223372036854775807) (k0 : -9223372036854775808 ≤ m) (k1 : m ≤ 9223372036854775807) :
  Calls Tryz.prog 68 #[.int .i64 n, .int .i64 m, .func (.func 69) #[] #[]] w (fun e w' => ∃ f g : Fv, e = .returned (.tuple #[fv f, fv g, .int .i64 0]) ∧ Ff w' (n : Rat) f ∧ Ff w' (m : Rat) g ∧ Below w.heap.size w w') := by
 have HB := Lib.hid (And.intro (And.intro h0 h1) (And.intro k0 k1))
 clear h0 h1 k0 k1
 have BW : Below w.heap.size w w := Below.refl _ _
 obtain ⟨V2, e3, hb4, K5, Z6, z1⟩ := alloc_new w [.bool false, .slice none 0 0, .bool false, .slice none 0 0] 26
 have g7 : w.heap.size ≤ w.heap.size := BW.size
 replace BW := BW.trans (hb4.mono BW.size)
 clear hb4
 obtain ⟨V8, e9, hb10, K11, Z12, -⟩ := alloc_new V2 [.bool false, .slice none 0 0, .bool false, .slice none 0 0] 26
 rw [z1] at K11 Z12
 have n13 : w.heap.size ≠ w.heap.size + 1 := Nat.ne_of_lt (z1 ▸ K5.lt)
 have g14 : w.heap.size ≤ w.heap.size + 1 := z1 ▸ BW.size
 replace K5 := K5.on hb10
 replace Z6 := Z6.on hb10
 replace BW := BW.trans (hb10.mono BW.size)
 clear hb10
 clear z1
 go_enter Tryz.func68, Tryz.ntmps68
 go_wp2_with fail
 rw [← e3, ← e9]
 clear e3 e9
 refine (g_of1 HB.out.1.1 HB.out.1.2).mono ?_
 rintro _ w15 ⟨f, rfl, h, hb⟩
 replace K5 := K5.on hb
 replace K11 := K11.on hb
 replace Z6 := Z6.on hb
 replace Z12 := Z12.on hb
 replace BW := BW.trans (hb.mono BW.size)
 clear hb
 obtain ⟨c16, c17, c18, c19⟩ := K5.c4
 obtain ⟨c20, c21, c22, c23⟩ := Z6.f4
 obtain ⟨V24, hk26⟩ : ∃ V24, V24 = w15.setCells (w.heap.size) 0 [.bool f.n, .slice f.A f.xs.length f.c, .bool f.m, .slice f.B f.ds.length f.d] := ⟨_, rfl⟩
 have e25 := hk26
 simp only [World.setCells, Nat.zero_add, Nat.reduceAdd] at e25
 have hk27 := Kept.overE hk26 K5 rfl (by simp)
 replace K5 := K5.overE hk26 rfl
 replace K11 := K11.awayE hk26 n13.symm
 replace Z6 := Z6.putE hk26
 replace Z12 := Z12.putE hk26
 replace h := h.kp hk27
 replace BW := Below.putE BW hk26 g7
 clear hk26 hk27
 go_wp2_with fail
 clear c16 c17 c18 c19 c20 c21 c22 c23
 rw [← e25]
 clear e25
 refine (g_of1 HB.out.2.1 HB.out.2.2).mono ?_
 rintro _ w28 ⟨g, rfl, k, hb⟩
 replace K5 := K5.on hb
 replace K11 := K11.on hb
 replace Z6 := Z6.on hb
 replace Z12 := Z12.on hb
 replace h := h.kp (Kept.of hb)
 replace BW := BW.trans (hb.mono BW.size)
 clear hb
 obtain ⟨c29, c30, c31, c32⟩ := K11.c4
 obtain ⟨c33, c34, c35, c36⟩ := Z12.f4
 obtain ⟨V37, hk39⟩ : ∃ V37, V37 = w28.setCells (w.heap.size + 1) 0 [.bool g.n, .slice g.A g.xs.length g.c, .bool g.m, .slice g.B g.ds.length g.d] := ⟨_, rfl⟩
 have e38 := hk39
 simp only [World.setCells, Nat.zero_add, Nat.reduceAdd] at e38
 have hk40 := Kept.overE hk39 K11 rfl (by simp)
 replace K5 := K5.awayE hk39 n13
 replace K11 := K11.overE hk39 rfl
 replace Z6 := Z6.putE hk39
 replace Z12 := Z12.putE hk39
 replace h := h.kp hk40
 replace k := k.kp hk40
 replace BW := Below.putE BW hk39 g14
 clear hk39 hk40
 go_wp2_with fail
 clear c29 c30 c31 c32 c33 c34 c35 c36
 rw [← e38]
 clear e38
 refine wp_region_noPanic ?_
 have hb : Below V37.heap.size V37 V37.drew := (Below.refl _ _).drew
 replace K5 := K5.on hb
 replace K11 := K11.on hb
 replace Z6 := Z6.on hb
 replace Z12 := Z12.on hb
 replace h := h.kp (Kept.of hb)
 replace k := k.kp (Kept.of hb)
 replace BW := BW.trans (hb.mono BW.size)
 clear hb
 refine wp_region_held_drew (S := (fun wx => Cs wx (w.heap.size) 0 [.bool f.n, .slice f.A f.xs.length f.c, .bool f.m, .slice f.B f.ds.length f.d] ∧ Cs wx (w.heap.size + 1) 0 [.bool g.n, .slice g.A g.xs.length g.c, .bool g.m, .slice g.B g.ds.length g.d])) (by kernel_rfl) (by exact ⟨K5.cs, K11.cs⟩) (fun hHeld => ?_)
 generalize V37.drew = Vd41 at *
 refine pT 0 ?_
 (try simp only [p0, p1, p2, p3])
 refine pT 1 ?_
 (try simp only [p0, p1, p2, p3])
 refine pR1 2 (fun K hK => ?_)
 obtain ⟨c42, c43, c44, c45⟩ := K5.c4
 obtain ⟨c46, c47, c48, c49⟩ := Z6.f4
 go_simp
 clear c42 c43 c44 c45 c46 c47 c48 c49
 obtain ⟨V50, hk52⟩ : ∃ V50, V50 = Vd41.setCells (w.heap.size) 0 [.bool f.n, .slice f.A f.xs.length f.c, .bool f.m, .slice f.B f.ds.length f.d] := ⟨_, rfl⟩
 have e51 := hk52
 simp only [World.setCells, Nat.zero_add, Nat.reduceAdd] at e51
 have hk53 := Kept.overE hk52 K5 rfl (by simp)
 replace K5 := K5.overE hk52 rfl
 replace K11 := K11.awayE hk52 n13.symm
 replace Z12 := Z12.putE hk52
 replace h := h.kp hk53
 replace k := k.kp hk53
 replace BW := Below.putE BW hk52 g7
 clear hk52 hk53
 rw [← e51]
 clear e51
 refine hK.out _ _ (by exact ⟨K5.cs, K11.cs⟩) (fun hHeld => ?_)
 clear hK
 (try simp only [p0, p1, p2, p3])
 refine pR1 3 (fun K hK => ?_)
 obtain ⟨c54, c55, c56, c57⟩ := K11.c4
 obtain ⟨c58, c59, c60, c61⟩ := Z12.f4
 go_simp
 clear c54 c55 c56 c57 c58 c59 c60 c61
 obtain ⟨V62, hk64⟩ : ∃ V62, V62 = V50.setCells (w.heap.size + 1) 0 [.bool g.n, .slice g.A g.xs.length g.c, .bool g.m, .slice g.B g.ds.length g.d] := ⟨_, rfl⟩
 have e63 := hk64
 simp only [World.setCells, Nat.zero_add, Nat.reduceAdd] at e63
 have hk65 := Kept.overE hk64 K11 rfl (by simp)
 replace K5 := K5.awayE hk64 n13
 replace K11 := K11.overE hk64 rfl
 replace h := h.kp hk65
 replace k := k.kp hk65
 replace BW := Below.putE BW hk64 g14
 clear hk64 hk65
 rw [← e63]
 clear e63
 refine hK.out _ _ (by exact ⟨K5.cs, K11.cs⟩) (fun hHeld => ?_)
 clear hK
 (try simp only [p0, p1, p2, p3])
 refine pT 4 ?_
 (try simp only [p0, p1, p2, p3])
 refine wpAnyH_done (by kernel_rfl) (NoPanic.normal ?_) _
 go_wp2
 obtain ⟨c66, c67, c68, c69⟩ := K5.c4
 obtain ⟨c70, c71, c72, c73⟩ := K11.c4
 exact bodyPost_ret (v := .tuple #[fv f, fv g, .int .i64 0]) (by simp [results, Tryz.results68, go_sem, c66, c67, c68, c69, c70, c71, c72, c73]) rfl ⟨f, g, rfl, h, k, BW⟩
set_option maxHeartbeats 8000000 in
set_option maxRecDepth 20000 in
theorem g_made {f g : Fv} {e : Int} {w : World} :
  Calls Tryz.prog 67 #[fv f, fv g, .int .i64 e] w (fun r w' => r = .returned (.tuple #[gv f g, .int .i64 e]) ∧ Below w.heap.size w w') := by
 have BW : Below w.heap.size w w := Below.refl _ _
 obtain ⟨V2, e3, hb4, K5, -, z1⟩ := alloc_new w [.bool f.n, .slice f.A f.xs.length f.c, .bool f.m, .slice f.B f.ds.length f.d] 26
 replace BW := BW.trans (hb4.mono BW.size)
 clear hb4
 obtain ⟨V7, e8, hb9, K10, -, z6⟩ := alloc_new V2 [.bool g.n, .slice g.A g.xs.length g.c, .bool g.m, .slice g.B g.ds.length g.d] 26
 rw [z1] at K10 z6
 replace BW := BW.trans (hb9.mono BW.size)
 clear hb9
 obtain ⟨V11, e12, hb13, K14, -, -⟩ := alloc_new V7 [.bool f.n, .slice f.A f.xs.length f.c, .bool f.m, .slice f.B f.ds.length f.d, .bool g.n, .slice g.A g.xs.length g.c, .bool g.m, .slice g.B g.ds.length g.d] 33
 rw [z6] at K14
 replace BW := BW.trans (hb13.mono BW.size)
 clear hb13
 clear z1 z6
 go_enter Tryz.func67, Tryz.ntmps67
 go_wp2_with fail
 rw [← e3, ← e8, ← e12]
 clear e3 e8 e12
 obtain ⟨c15, c16, c17, c18, c19, c20, c21, c22⟩ := K14.c8
 exact bodyPost_ret (v := .tuple #[gv f g, .int .i64 e]) (by simp [results, Tryz.results67, go_sem, c15, c16, c17, c18, c19, c20, c21, c22]) rfl ⟨rfl, BW⟩
set_option maxHeartbeats 8000000 in
set_option maxRecDepth 20000 in
theorem g_Of {n m : Int} {w : World} (h0 : -9223372036854775808 ≤ n) (h1 : n ≤ 9223372036854775807) (k0 : -9223372036854775808 ≤ m) (k1 : m ≤ 9223372036854775807) :
  Calls Tryz.prog 22 #[.int .i64 n, .int .i64 m] w (fun r w' => ∃ f g : Fv, r = .returned (gv f g) ∧ Ff w' (n : Rat) f ∧ Ff w' (m : Rat) g ∧ Below w.heap.size w w') := by
 have HB := Lib.hid (And.intro (And.intro h0 h1) (And.intro k0 k1))
 clear h0 h1 k0 k1
 have BW : Below w.heap.size w w := Below.refl _ _
 obtain ⟨V1, e2, hb3, K4, Z5, -⟩ := alloc_new w [.bool false, .slice none 0 0, .bool false, .slice none 0 0, .bool false, .slice none 0 0, .bool false, .slice none 0 0] 33
 have g6 : w.heap.size ≤ w.heap.size := BW.size
 replace BW := BW.trans (hb3.mono BW.size)
 clear hb3
 go_enter Tryz.func22, Tryz.ntmps22
 go_wp2_with fail
 rw [← e2]
 clear e2
 refine (g_bothof HB.out.1.1 HB.out.1.2 HB.out.2.1 HB.out.2.2).mono ?_
 rintro _ w7 ⟨f, g, rfl, h, k, hb⟩
 replace K4 := K4.on hb
 replace Z5 := Z5.on hb
 replace BW := BW.trans (hb.mono BW.size)
 clear hb
 go_wp2_with fail
 refine (g_made).mono ?_
 rintro _ w8 ⟨rfl, hb⟩
 replace K4 := K4.on hb
 replace Z5 := Z5.on hb
 replace h := h.kp (Kept.of hb)
 replace k := k.kp (Kept.of hb)
 replace BW := BW.trans (hb.mono BW.size)
 clear hb
 obtain ⟨V9, e10, hb11, K12, -, -⟩ := alloc_new w8 [.bool f.n, .slice f.A f.xs.length f.c, .bool f.m, .slice f.B f.ds.length f.d, .bool g.n, .slice g.A g.xs.length g.c, .bool g.m, .slice g.B g.ds.length g.d] 33
 have n13 : w.heap.size ≠ w8.heap.size := Nat.ne_of_lt (K4.lt)
 replace K4 := K4.on hb11
 replace Z5 := Z5.on hb11
 replace h := h.kp (Kept.of hb11)
 replace k := k.kp (Kept.of hb11)
 replace BW := BW.trans (hb11.mono BW.size)
 clear hb11
 obtain ⟨c14, c15, c16, c17, c18, c19, c20, c21⟩ := K4.c8
 obtain ⟨c22, c23, c24, c25, c26, c27, c28, c29⟩ := Z5.f8
 rw [e10] at c14 c15 c16 c17 c18 c19 c20 c21 c22 c23 c24 c25 c26 c27 c28 c29
 obtain ⟨V30, hk32⟩ : ∃ V30, V30 = V9.setCells (w.heap.size) 0 [.bool f.n, .slice f.A f.xs.length f.c, .bool f.m, .slice f.B f.ds.length f.d, .bool g.n, .slice g.A g.xs.length g.c, .bool g.m, .slice g.B g.ds.length g.d] := ⟨_, rfl⟩
 have e31 := hk32
 simp only [World.setCells, Nat.zero_add, Nat.reduceAdd] at e31
 have hk33 := Kept.overE hk32 K4 rfl (by simp)
 replace K4 := K4.overE hk32 rfl
 replace h := h.kp hk33
 replace k := k.kp hk33
 replace BW := Below.putE BW hk32 g6
 clear hk32 hk33
 go_wp2_with fail
 clear c14 c15 c16 c17 c18 c19 c20 c21 c22 c23 c24 c25 c26 c27 c28 c29
 rw [← e10, ← e31]
 clear e10 e31
 generalize w8.heap.size = b34 at *
 obtain ⟨c35, c36, c37, c38, c39, c40, c41, c42⟩ := K4.c8
 exact bodyPost_ret (v := gv f g) (by simp [results, Tryz.results22, go_sem, c35, c36, c37, c38, c39, c40, c41, c42]) rfl ⟨f, g, rfl, h, k, BW⟩
set_option maxHeartbeats 8000000 in
set_option maxRecDepth 20000 in
theorem q_whole {n : Int} {w : World} (h0 : -9223372036854775808 ≤ n) (h1 : n ≤ 9223372036854775807) :
    Calls Tryz.prog 49 #[.int .i64 n] w (GQ w (n : Rat) 2) := by
  have BW : Below w.heap.size w w := Below.refl _ _
  obtain ⟨V1, e2, hb3, K4, Z5, -⟩ := alloc_new w [.bool false, .slice none 0 0, .bool false, .slice none 0 0] 87
  have g6 : w.heap.size ≤ w.heap.size := BW.size
  replace BW := BW.trans (hb3.mono BW.size)
  clear hb3
  go_enter Tryz.func49, Tryz.ntmps49
  go_wp2_with fail
  rw [← e2]
  clear e2
  refine (lof_n h0 h1).mono ?_
  rintro _ w7 ⟨n1, A1, xs1, c1, rfl, N1, hb⟩
  replace K4 := K4.on hb
  replace Z5 := Z5.on hb
  replace BW := BW.trans (hb.mono BW.size)
  clear hb
  go_wp2_with fail
  refine (lof_n (n := 1) (by decide) (by decide)).mono ?_
  rintro _ w8 ⟨n2, A2, xs2, c2, rfl, N2, hb⟩
  replace K4 := K4.on hb
  replace Z5 := Z5.on hb
  replace N1 := N1.kp (Kept.of hb)
  replace BW := BW.trans (hb.mono BW.size)
  clear hb
  obtain ⟨c9, c10, c11, c12⟩ := K4.c4
  obtain ⟨c13, c14, c15, c16⟩ := Z5.f4
  obtain ⟨V17, hk19⟩ : ∃ V17, V17 = w8.setCells (w.heap.size) 0 [.bool n1, .slice A1 xs1.length c1, .bool n2, .slice A2 xs2.length c2] := ⟨_, rfl⟩
  have e18 := hk19
  simp only [World.setCells, Nat.zero_add, Nat.reduceAdd] at e18
  have hk20 := Kept.overE hk19 K4 rfl (Nat.le_of_ble_eq_true rfl)
  replace K4 := K4.overE hk19 rfl
  replace N1 := N1.kp hk20
  replace N2 := N2.kp hk20
  replace BW := Below.putE BW hk19 g6
  clear hk19 hk20
  go_wp2_with fail
  clear c9 c10 c11 c12 c13 c14 c15 c16
  rw [← e18]
  clear e18
  have L : Fq V17 (n : Rat) ⟨n1, A1, xs1, c1, n2, A2, xs2, c2⟩ 2 := ⟨(Lq.mk' (q := (n : Rat)) N1 N2).1, (Lq.mk' (q := (n : Rat)) N1 N2).2.mono (by decide)⟩
  obtain ⟨c21, c22, c23, c24⟩ := K4.c4
  exact bodyPost_ret (v := fv ⟨n1, A1, xs1, c1, n2, A2, xs2, c2⟩) (by simp [results, Tryz.results49, go_sem, c21, c22, c23, c24]) rfl ⟨⟨n1, A1, xs1, c1, n2, A2, xs2, c2⟩, rfl, L, BW⟩
set_option maxHeartbeats 8000000 in
set_option maxRecDepth 20000 in
theorem g_Unit {q : Rat} {a : Fv} {w : World} (Fa : Ff w q a) :
    Calls Tryz.prog 12 #[fv a] w (GGr w ((1 * 1 + q * -q) / (1 * 1 + -q * -q)) ((q * 1 - 1 * -q) / (1 * 1 + -q * -q))) := by
  have BW : Below w.heap.size w w := Below.refl _ _
  obtain ⟨V2, e3, hb4, K5, -, z1⟩ := alloc_new w [.bool a.n, .slice a.A a.xs.length a.c, .bool a.m, .slice a.B a.ds.length a.d] 26
  replace Fa := Fa.kp (Kept.of hb4)
  replace BW := BW.trans (hb4.mono BW.size)
  clear hb4
  obtain ⟨V6, e7, hb8, K9, Z10, -⟩ := alloc_new V2 [.bool false, .slice none 0 0, .bool false, .slice none 0 0, .bool false, .slice none 0 0, .bool false, .slice none 0 0] 33
  rw [z1] at K9 Z10
  have n11 : w.heap.size ≠ w.heap.size + 1 := Nat.ne_of_lt (z1 ▸ K5.lt)
  have g12 : w.heap.size ≤ w.heap.size + 1 := z1 ▸ BW.size
  replace K5 := K5.on hb8
  replace Fa := Fa.kp (Kept.of hb8)
  replace BW := BW.trans (hb8.mono BW.size)
  clear hb8
  clear z1
  go_enter Tryz.func12, Tryz.ntmps12
  go_wp2_with fail
  rw [← e3, ← e7]
  clear e3 e7
  have hck := chkv_ok Fa.okv
  refine (r_check Fa.fx).mono ?_
  rintro _ w13 ⟨rfl, hb⟩
  replace K5 := K5.on hb
  replace K9 := K9.on hb
  replace Z10 := Z10.on hb
  replace Fa := Fa.kp (Kept.of hb)
  replace BW := BW.trans (hb.mono BW.size)
  clear hb
  rw [hck]
  clear hck
  go_wp2_with fail
  refine (q_whole (n := 1) (by decide) (by decide)).mono ?_
  rintro _ w14 ⟨o, rfl, Fo, hb⟩
  replace K5 := K5.on hb
  replace K9 := K9.on hb
  replace Z10 := Z10.on hb
  replace Fa := Fa.kp (Kept.of hb)
  replace BW := BW.trans (hb.mono BW.size)
  clear hb
  replace Fo := (Fo.to (q := ((1 : Int) : Rat)) (p := 1) (by decide +kernel)).mono (C' := 1024) (by decide)
  obtain ⟨V15, e16, hb17, K18, -, -⟩ := alloc_new w14 [.bool o.n, .slice o.A o.xs.length o.c, .bool o.m, .slice o.B o.ds.length o.d] 87
  have n19 : w.heap.size + 1 ≠ w14.heap.size := Nat.ne_of_lt (K9.lt)
  replace K5 := K5.on hb17
  replace K9 := K9.on hb17
  replace Z10 := Z10.on hb17
  replace Fa := Fa.kp (Kept.of hb17)
  replace Fo := Fo.kp (Kept.of hb17)
  replace BW := BW.trans (hb17.mono BW.size)
  clear hb17
  go_wp2_with fail
  rw [← e16]
  clear e16
  generalize w14.heap.size = b20 at *
  go_cut [6] (fun s6 wx => ∃ (pk : Nat) (t : Fv), s6 = .pointer (some ⟨pk, 0, none⟩) ∧ Below w.heap.size w wx ∧ Box wx (w.heap.size + 1) [.bool false, .slice none 0 0, .bool false, .slice none 0 0, .bool false, .slice none 0 0, .bool false, .slice none 0 0] ∧ Box wx pk [.bool o.n, .slice o.A o.xs.length o.c, .bool o.m, .slice o.B o.ds.length o.d, .bool t.n, .slice t.A t.xs.length t.c, .bool t.m, .slice t.B t.ds.length t.d] ∧ Fz wx (w.heap.size + 1) ∧ Fq wx 1 o 1024 ∧ Fq wx q t 1024 ∧ w.heap.size + 1 ≠ pk)
  case first =>
    refine wp_region_noPanic ?_
    have hb : Below V15.heap.size V15 V15.drew := (Below.refl _ _).drew
    replace K5 := K5.on hb
    replace K9 := K9.on hb
    replace K18 := K18.on hb
    replace Z10 := Z10.on hb
    replace Fa := Fa.kp (Kept.of hb)
    replace Fo := Fo.kp (Kept.of hb)
    replace BW := BW.trans (hb.mono BW.size)
    clear hb
    refine wp_region_held_drew (S := (fun wx => Cs wx (w.heap.size) 0 [.bool a.n, .slice a.A a.xs.length a.c, .bool a.m, .slice a.B a.ds.length a.d] ∧ Cs wx (b20) 0 [.bool o.n, .slice o.A o.xs.length o.c, .bool o.m, .slice o.B o.ds.length o.d])) (by kernel_rfl) (by exact ⟨K5.cs, K18.cs⟩) (fun hHeld => ?_)
    generalize V15.drew = Vd21 at *
    refine pT 0 ?_
    (try simp only [p0, p1, p2, p3])
    refine pT 1 ?_
    (try simp only [p0, p1, p2, p3])
    refine pR2 2 4 (fun K hK => ?_) (fun K hK => ?_)
    · go_simp
      (go_at_call 50; with_reducible refine (q_from Fa).mono ?_)
      rintro _ w22 ⟨t, rfl, Ft, hb⟩
      (try go_wp2_with fail)
      replace K5 := K5.on hb
      replace K9 := K9.on hb
      replace K18 := K18.on hb
      replace Z10 := Z10.on hb
      replace Fa := Fa.kp (Kept.of hb)
      replace Fo := Fo.kp (Kept.of hb)
      replace BW := BW.trans (hb.mono BW.size)
      clear hb
      clear hHeld
      refine hK.out _ _ (by exact ⟨K5.cs, K18.cs⟩) (fun hHeld => ?_)
      clear hK
      (try simp only [p0, p1, p2, p3])
      refine pT 3 ?_
      (try simp only [p0, p1, p2, p3])
      refine pR1 4 (fun K hK => ?_)
      go_simp
      obtain ⟨V23, e24, hb25, K26, Z27, -⟩ := alloc_new w22 [.bool false, .slice none 0 0, .bool false, .slice none 0 0, .bool false, .slice none 0 0, .bool false, .slice none 0 0] 91
      have n28 : w.heap.size ≠ w22.heap.size := Nat.ne_of_lt (K5.lt)
      have n29 : w.heap.size + 1 ≠ w22.heap.size := Nat.ne_of_lt (K9.lt)
      have n30 : b20 ≠ w22.heap.size := Nat.ne_of_lt (K18.lt)
      have g31 : w.heap.size ≤ w22.heap.size := BW.size
      replace K5 := K5.on hb25
      replace K9 := K9.on hb25
      replace K18 := K18.on hb25
      replace Z10 := Z10.on hb25
      replace Fa := Fa.kp (Kept.of hb25)
      replace Fo := Fo.kp (Kept.of hb25)
      replace Ft := Ft.kp (Kept.of hb25)
      replace BW := BW.trans (hb25.mono BW.size)
      clear hb25
      rw [← e24]
      clear e24
      generalize w22.heap.size = b32 at *
      clear hHeld
      refine hK.out _ _ (by exact ⟨K5.cs, K18.cs⟩) (fun hHeld => ?_)
      clear hK
      (try simp only [p0, p1, p2, p3])
      refine pR1 5 (fun K hK => ?_)
      obtain ⟨c33, c34, c35, c36, c37, c38, c39, c40⟩ := K26.c8
      obtain ⟨c41, c42, c43, c44, c45, c46, c47, c48⟩ := Z27.f8
      go_simp
      clear c33 c34 c35 c36 c37 c38 c39 c40 c41 c42 c43 c44 c45 c46 c47 c48
      obtain ⟨V49, hk51⟩ : ∃ V49, V49 = V23.setCells (b32) 0 [.bool o.n, .slice o.A o.xs.length o.c, .bool o.m, .slice o.B o.ds.length o.d, .bool t.n, .slice t.A t.xs.length t.c, .bool t.m, .slice t.B t.ds.length t.d] := ⟨_, rfl⟩
      have e50 := hk51
      simp only [World.setCells, Nat.zero_add, Nat.reduceAdd] at e50
      have hk52 := Kept.overE hk51 K26 rfl (Nat.le_of_ble_eq_true rfl)
      replace K5 := K5.awayE hk51 n28
      replace K9 := K9.awayE hk51 n29
      replace K18 := K18.awayE hk51 n30
      replace K26 := K26.overE hk51 rfl
      replace Z10 := Z10.putE hk51
      replace Fa := Fa.kp hk52
      replace Fo := Fo.kp hk52
      replace Ft := Ft.kp hk52
      replace BW := Below.putE BW hk51 g31
      clear hk51 hk52
      rw [← e50]
      clear e50
      clear hHeld
      refine hK.out _ _ (by exact ⟨K5.cs, K18.cs⟩) (fun hHeld => ?_)
      clear hK
      (try simp only [p0, p1, p2, p3])
      refine wpAnyH_done (by kernel_rfl) (NoPanic.normal ?_) _
      go_wp2
      go_meet
      exact ⟨b32, t, rfl, BW, K9, K26, Z10, Fo, Ft, n29⟩
    · go_simp
      obtain ⟨V22, e23, hb24, K25, Z26, -⟩ := alloc_new Vd21 [.bool false, .slice none 0 0, .bool false, .slice none 0 0, .bool false, .slice none 0 0, .bool false, .slice none 0 0] 91
      have n27 : w.heap.size ≠ Vd21.heap.size := Nat.ne_of_lt (K5.lt)
      have n28 : w.heap.size + 1 ≠ Vd21.heap.size := Nat.ne_of_lt (K9.lt)
      have n29 : b20 ≠ Vd21.heap.size := Nat.ne_of_lt (K18.lt)
      have g30 : w.heap.size ≤ Vd21.heap.size := BW.size
      replace K5 := K5.on hb24
      replace K9 := K9.on hb24
      replace K18 := K18.on hb24
      replace Z10 := Z10.on hb24
      replace Fa := Fa.kp (Kept.of hb24)
      replace Fo := Fo.kp (Kept.of hb24)
      replace BW := BW.trans (hb24.mono BW.size)
      clear hb24
      rw [← e23]
      clear e23
      generalize Vd21.heap.size = b31 at *
      clear hHeld
      refine hK.out _ _ (by exact ⟨K5.cs, K18.cs⟩) (fun hHeld => ?_)
      clear hK
      (try simp only [p0, p1, p2, p3])
      refine pR1 2 (fun K hK => ?_)
      go_simp
      (go_at_call 50; with_reducible refine (q_from Fa).mono ?_)
      rintro _ w32 ⟨t, rfl, Ft, hb⟩
      (try go_wp2_with fail)
      replace K5 := K5.on hb
      replace K9 := K9.on hb
      replace K18 := K18.on hb
      replace K25 := K25.on hb
      replace Z10 := Z10.on hb
      replace Z26 := Z26.on hb
      replace Fo := Fo.kp (Kept.of hb)
      replace BW := BW.trans (hb.mono BW.size)
      clear hb
      clear hHeld
      refine hK.out _ _ (by exact ⟨K5.cs, K18.cs⟩) (fun hHeld => ?_)
      clear hK
      (try simp only [p0, p1, p2, p3])
      refine pT 3 ?_
      (try simp only [p0, p1, p2, p3])
      refine pR1 5 (fun K hK => ?_)
      obtain ⟨c33, c34, c35, c36, c37, c38, c39, c40⟩ := K25.c8
      obtain ⟨c41, c42, c43, c44, c45, c46, c47, c48⟩ := Z26.f8
      go_simp
      clear c33 c34 c35 c36 c37 c38 c39 c40 c41 c42 c43 c44 c45 c46 c47 c48
      obtain ⟨V49, hk51⟩ : ∃ V49, V49 = w32.setCells (b31) 0 [.bool o.n, .slice o.A o.xs.length o.c, .bool o.m, .slice o.B o.ds.length o.d, .bool t.n, .slice t.A t.xs.length t.c, .bool t.m, .slice t.B t.ds.length t.d] := ⟨_, rfl⟩
      have e50 := hk51
      simp only [World.setCells, Nat.zero_add, Nat.reduceAdd] at e50
      have hk52 := Kept.overE hk51 K25 rfl (Nat.le_of_ble_eq_true rfl)
      replace K5 := K5.awayE hk51 n27
      replace K9 := K9.awayE hk51 n28
      replace K18 := K18.awayE hk51 n29
      replace K25 := K25.overE hk51 rfl
      replace Z10 := Z10.putE hk51
      replace Fo := Fo.kp hk52
      replace Ft := Ft.kp hk52
      replace BW := Below.putE BW hk51 g30
      clear hk51 hk52
      rw [← e50]
      clear e50
      clear hHeld
      refine hK.out _ _ (by exact ⟨K5.cs, K18.cs⟩) (fun hHeld => ?_)
      clear hK
      (try simp only [p0, p1, p2, p3])
      refine wpAnyH_done (by kernel_rfl) (NoPanic.normal ?_) _
      go_wp2
      go_meet
      exact ⟨b31, t, rfl, BW, K9, K25, Z10, Fo, Ft, n28⟩
  case rest =>
    obtain ⟨pk, t, rfl, BW, KR, KO, ZR, Fo, Ft, NRO⟩ := hcut
    go_wp2_with fail
    have HN := Lib.hid (norm_pos (s := 1) (t := -q) (fun hh => absurd hh.1 (by decide)))
    refine wp_region_noPanic ?_
    have hb : Below wc.heap.size wc wc.drew := (Below.refl _ _).drew
    replace KR := KR.on hb
    replace KO := KO.on hb
    replace ZR := ZR.on hb
    replace Fo := Fo.kp (Kept.of hb)
    replace Ft := Ft.kp (Kept.of hb)
    replace BW := BW.trans (hb.mono BW.size)
    clear hb
    refine wp_region_held_drew (S := (fun wx => Cs wx (pk) 0 [.bool o.n, .slice o.A o.xs.length o.c, .bool o.m, .slice o.B o.ds.length o.d, .bool t.n, .slice t.A t.xs.length t.c, .bool t.m, .slice t.B t.ds.length t.d])) (by kernel_rfl) (by exact KO.cs) (fun hHeld => ?_)
    generalize wc.drew = Vd21 at *
    refine pT 0 ?_
    (try simp only [p0, p1, p2, p3])
    refine pT 1 ?_
    (try simp only [p0, p1, p2, p3])
    refine pR1 2 (fun K hK => ?_)
    go_simp
    (go_at_call 52; with_reducible refine (g_conj Fo Ft (by decide)).mono ?_)
    rintro _ w22 ⟨f1, f2, rfl, h1, h2, hb⟩
    (try go_wp2_with fail)
    replace KR := KR.on hb
    replace KO := KO.on hb
    replace ZR := ZR.on hb
    replace Fo := Fo.kp (Kept.of hb)
    replace Ft := Ft.kp (Kept.of hb)
    replace BW := BW.trans (hb.mono BW.size)
    clear hb
    clear hHeld
    refine hK.out _ _ (by exact KO.cs) (fun hHeld => ?_)
    clear hK
    (try simp only [p0, p1, p2, p3])
    refine pR1 3 (fun K hK => ?_)
    go_simp
    (go_at_call 51; with_reducible refine (g_quo Fo Ft h1 h2 HN.out (by decide)).mono ?_)
    rintro _ w23 ⟨f3, f4, rfl, h3, h4, hb⟩
    (try go_wp2_with fail)
    replace KR := KR.on hb
    replace KO := KO.on hb
    replace ZR := ZR.on hb
    replace BW := BW.trans (hb.mono BW.size)
    clear hb
    clear hHeld
    refine hK.out _ _ (by exact KO.cs) (fun hHeld => ?_)
    clear hK
    (try simp only [p0, p1, p2, p3])
    refine pR1 4 (fun K hK => ?_)
    go_simp
    (go_at_call 53; with_reducible refine (g_fit h3 h4 (by decide)).mono ?_)
    rintro _ w24 ⟨f5, f6, er, rfl, h5, hb⟩
    (try go_wp2_with fail)
    replace KR := KR.on hb
    replace KO := KO.on hb
    replace ZR := ZR.on hb
    replace BW := BW.trans (hb.mono BW.size)
    clear hb
    clear hHeld
    refine hK.out _ _ (by exact KO.cs) (fun hHeld => ?_)
    clear hK
    (try simp only [p0, p1, p2, p3])
    refine pT 5 ?_
    (try simp only [p0, p1, p2, p3])
    refine pT 6 ?_
    (try simp only [p0, p1, p2, p3])
    refine pR1 7 (fun K hK => ?_)
    obtain ⟨c25, c26, c27, c28, c29, c30, c31, c32⟩ := KR.c8
    obtain ⟨c33, c34, c35, c36, c37, c38, c39, c40⟩ := ZR.f8
    go_simp
    clear c25 c26 c27 c28 c29 c30 c31 c32 c33 c34 c35 c36 c37 c38 c39 c40
    obtain ⟨V41, hk43⟩ : ∃ V41, V41 = w24.setCells (w.heap.size + 1) 0 [.bool f5.n, .slice f5.A f5.xs.length f5.c, .bool f5.m, .slice f5.B f5.ds.length f5.d, .bool f6.n, .slice f6.A f6.xs.length f6.c, .bool f6.m, .slice f6.B f6.ds.length f6.d] := ⟨_, rfl⟩
    have e42 := hk43
    simp only [World.setCells, Nat.zero_add, Nat.reduceAdd] at e42
    have hk44 := Kept.overE hk43 KR rfl (Nat.le_of_ble_eq_true rfl)
    replace KR := KR.overE hk43 rfl
    replace KO := KO.awayE hk43 NRO.symm
    replace h5 := h5.kp hk44
    replace BW := Below.putE BW hk43 (by omega)
    clear hk43 hk44
    rw [← e42]
    clear e42
    clear hHeld
    refine hK.out _ _ (by exact KO.cs) (fun hHeld => ?_)
    clear hK
    (try simp only [p0, p1, p2, p3])
    refine pT 8 ?_
    (try simp only [p0, p1, p2, p3])
    refine wpAnyH_done (by kernel_rfl) (NoPanic.normal ?_) _
    go_wp2
    obtain ⟨c45, c46, c47, c48, c49, c50, c51, c52⟩ := KR.c8
    exact bodyPost_ret (v := .tuple #[gv f5 f6, .int .i64 er]) (by simp [results, Tryz.results12, go_sem, c45, c46, c47, c48, c49, c50, c51, c52]) rfl ⟨f5, f6, er, rfl, h5, BW⟩
theorem Ff.den {W : World} {q : Rat} {f : Fv} (h : Ff W q f) : Nl W (q.den : Int) f.m f.B f.ds f.d := by
 rw [h.1]; exact h.2.den
theorem wtext_z {Z : Nat} {n : Bool} {A : Option Addr} {ls : List Nat} {c : Nat} {w : World} {X : Int} (h : Nl w X n A ls c) (hX : X = (Z : Int)) (hz : Z ≠ 0) (htab : Tab w) (s : ByteArray) (hs : (⟨(Lib.decDigits Z).toArray⟩ : ByteArray) = s) :
  Calls Tryz.prog 152 #[big n A ls.length c] w fun e w' => e = .returned (.tuple #[.string s, .int .i64 0]) ∧ Below w.heap.size w w' := by
 subst hX
 have hn := h.pos
 subst hn
 exact wtext_n h (by omega) htab s (by rw [← hs]; rfl)
set_option maxHeartbeats 8000000 in
set_option maxRecDepth 20000 in
theorem f_text11 {f : Fv} {w : World} (h : Ff w ((11 : Int) : Rat) f) (htab : Tab w) :
  Calls Tryz.prog 116 #[fv f] w (fun e w' => e = .returned (.tuple #[.string ⟨#[49, 49]⟩, .int .i64 0]) ∧ Below w.heap.size w w') := by
 have HT := Lib.hid htab
 clear htab
 have BW : Below w.heap.size w w := Below.refl _ _
 obtain ⟨V1, e2, hb3, K4, -, -⟩ := alloc_new w [.bool f.n, .slice f.A f.xs.length f.c, .bool f.m, .slice f.B f.ds.length f.d] 26
 replace h := h.kp (Kept.of hb3)
 replace BW := BW.trans (hb3.mono BW.size)
 clear hb3
 go_enter Tryz.func116, Tryz.ntmps116
 go_wp2_with fail
 rw [← e2]
 clear e2
 have hck := chkv_ok h.okv
 refine (r_check h.fx).mono ?_
 rintro _ w5 ⟨rfl, hb⟩
 replace K4 := K4.on hb
 replace h := h.kp (Kept.of hb)
 replace BW := BW.trans (hb.mono BW.size)
 clear hb
 rw [hck]
 clear hck
 obtain ⟨c6, c7, c8, c9⟩ := K4.c4
 go_wp2_with fail
 clear c6 c7 c8 c9
 refine (wtext_z (Z := 11) h.2.num (int_num 11) (by decide) (tab_below HT.out BW) ⟨#[49, 49]⟩ (by decide +kernel)).mono ?_
 rintro _ w10 ⟨rfl, hb⟩
 replace K4 := K4.on hb
 replace h := h.kp (Kept.of hb)
 replace BW := BW.trans (hb.mono BW.size)
 clear hb
 obtain ⟨c11, c12, c13, c14⟩ := K4.c4
 go_wp2_with fail
 clear c11 c12 c13 c14
 refine (wtext_z (Z := 1) h.den (congrArg (fun x : Nat => (x : Int)) (int_den 11)) (by decide) (tab_below HT.out BW) ⟨#[49]⟩ (by decide +kernel)).mono ?_
 rintro _ w15 ⟨rfl, hb⟩
 replace BW := BW.trans (hb.mono BW.size)
 clear hb
 go_wp2_with fail
 exact bodyPost_ret (v := .tuple #[.string ⟨#[49, 49]⟩, .int .i64 0]) (by simp [results, Tryz.results116, go_sem]) rfl ⟨rfl, BW⟩
set_option maxHeartbeats 8000000 in
set_option maxRecDepth 20000 in
theorem f_text2 {f : Fv} {w : World} (h : Ff w ((2 : Int) : Rat) f) (htab : Tab w) :
  Calls Tryz.prog 116 #[fv f] w (fun e w' => e = .returned (.tuple #[.string ⟨#[50]⟩, .int .i64 0]) ∧ Below w.heap.size w w') := by
 have HT := Lib.hid htab
 clear htab
 have BW : Below w.heap.size w w := Below.refl _ _
 obtain ⟨V1, e2, hb3, K4, -, -⟩ := alloc_new w [.bool f.n, .slice f.A f.xs.length f.c, .bool f.m, .slice f.B f.ds.length f.d] 26
 replace h := h.kp (Kept.of hb3)
 replace BW := BW.trans (hb3.mono BW.size)
 clear hb3
 go_enter Tryz.func116, Tryz.ntmps116
 go_wp2_with fail
 rw [← e2]
 clear e2
 have hck := chkv_ok h.okv
 refine (r_check h.fx).mono ?_
 rintro _ w5 ⟨rfl, hb⟩
 replace K4 := K4.on hb
 replace h := h.kp (Kept.of hb)
 replace BW := BW.trans (hb.mono BW.size)
 clear hb
 rw [hck]
 clear hck
 obtain ⟨c6, c7, c8, c9⟩ := K4.c4
 go_wp2_with fail
 clear c6 c7 c8 c9
 refine (wtext_z (Z := 2) h.2.num (int_num 2) (by decide) (tab_below HT.out BW) ⟨#[50]⟩ (by decide +kernel)).mono ?_
 rintro _ w10 ⟨rfl, hb⟩
 replace K4 := K4.on hb
 replace h := h.kp (Kept.of hb)
 replace BW := BW.trans (hb.mono BW.size)
 clear hb
 obtain ⟨c11, c12, c13, c14⟩ := K4.c4
 go_wp2_with fail
 clear c11 c12 c13 c14
 refine (wtext_z (Z := 1) h.den (congrArg (fun x : Nat => (x : Int)) (int_den 2)) (by decide) (tab_below HT.out BW) ⟨#[49]⟩ (by decide +kernel)).mono ?_
 rintro _ w15 ⟨rfl, hb⟩
 replace BW := BW.trans (hb.mono BW.size)
 clear hb
 go_wp2_with fail
 exact bodyPost_ret (v := .tuple #[.string ⟨#[50]⟩, .int .i64 0]) (by simp [results, Tryz.results116, go_sem]) rfl ⟨rfl, BW⟩
set_option maxHeartbeats 8000000 in
set_option maxRecDepth 20000 in
theorem g_bothtext {f g : Fv} {w : World} (h : Ff w ((11 : Int) : Rat) f) (k : Ff w ((2 : Int) : Rat) g) (htab : Tab w) :
  Calls Tryz.prog 115 #[fv f, fv g, .func (.func 116) #[] #[]] w (fun e w' => e = .returned (.tuple #[.string ⟨#[49, 49]⟩, .string ⟨#[50]⟩, .int .i64 0]) ∧ Below w.heap.size w w') := by
 have HT := Lib.hid htab
 clear htab
 have BW : Below w.heap.size w w := Below.refl _ _
 obtain ⟨V2, e3, hb4, K5, -, z1⟩ := alloc_new w [.bool f.n, .slice f.A f.xs.length f.c, .bool f.m, .slice f.B f.ds.length f.d] 26
 replace h := h.kp (Kept.of hb4)
 replace k := k.kp (Kept.of hb4)
 replace BW := BW.trans (hb4.mono BW.size)
 clear hb4
 obtain ⟨V6, e7, hb8, K9, -, -⟩ := alloc_new V2 [.bool g.n, .slice g.A g.xs.length g.c, .bool g.m, .slice g.B g.ds.length g.d] 26
 rw [z1] at K9
 replace h := h.kp (Kept.of hb8)
 replace k := k.kp (Kept.of hb8)
 replace BW := BW.trans (hb8.mono BW.size)
 clear hb8
 clear z1
 go_enter Tryz.func115, Tryz.ntmps115
 go_wp2_with fail
 rw [← e3, ← e7]
 clear e3 e7
 refine (f_text11 h (tab_below HT.out BW)).mono ?_
 rintro _ w10 ⟨rfl, hb⟩
 replace K9 := K9.on hb
 replace k := k.kp (Kept.of hb)
 replace BW := BW.trans (hb.mono BW.size)
 clear hb
 obtain ⟨c11, c12, c13, c14⟩ := K9.c4
 go_wp2_with fail
 clear c11 c12 c13 c14
 refine (f_text2 k (tab_below HT.out BW)).mono ?_
 rintro _ w15 ⟨rfl, hb⟩
 replace BW := BW.trans (hb.mono BW.size)
 clear hb
 go_wp2_with fail
 exact bodyPost_ret (v := .tuple #[.string ⟨#[49, 49]⟩, .string ⟨#[50]⟩, .int .i64 0]) (by simp [results, Tryz.results115, go_sem]) rfl ⟨rfl, BW⟩
set_option maxHeartbeats 2000000 in
theorem g_joined (w : World) : Calls Tryz.prog 117 #[.string ⟨#[49, 49]⟩, .string ⟨#[50]⟩] w fun e w' => e = .returned (.string ⟨#[49, 49, 43, 50, 105]⟩) ∧ Below w.heap.size w w' := by
 go_enter Tryz.func117, Tryz.ntmps117
 go_wp2
 go_ret
 exact ⟨rfl, Below.refl _ _⟩
set_option maxHeartbeats 8000000 in
set_option maxRecDepth 20000 in
theorem g_text {f g : Fv} {w : World} (h : Ff w ((11 : Int) : Rat) f) (k : Ff w ((2 : Int) : Rat) g) (htab : Tab w) :
  Calls Tryz.prog 47 #[gv f g] w (fun e w' => e = .returned (.tuple #[.string ⟨#[49, 49, 43, 50, 105]⟩, .int .i64 0]) ∧ Below w.heap.size w w') := by
 have HT := Lib.hid htab
 clear htab
 have BW : Below w.heap.size w w := Below.refl _ _
 obtain ⟨V1, e2, hb3, K4, -, -⟩ := alloc_new w [.bool f.n, .slice f.A f.xs.length f.c, .bool f.m, .slice f.B f.ds.length f.d, .bool g.n, .slice g.A g.xs.length g.c, .bool g.m, .slice g.B g.ds.length g.d] 33
 replace h := h.kp (Kept.of hb3)
 replace k := k.kp (Kept.of hb3)
 replace BW := BW.trans (hb3.mono BW.size)
 clear hb3
 go_enter Tryz.func47, Tryz.ntmps47
 go_wp2_with fail
 rw [← e2]
 clear e2
 refine (g_bothtext h k (tab_below HT.out BW)).mono ?_
 rintro _ w5 ⟨rfl, hb⟩
 replace BW := BW.trans (hb.mono BW.size)
 clear hb
 go_wp2_with fail
 refine (g_joined _).mono ?_
 rintro _ w6 ⟨rfl, hb⟩
 replace BW := BW.trans (hb.mono BW.size)
 clear hb
 go_wp2_with fail
 exact bodyPost_ret (v := .tuple #[.string ⟨#[49, 49, 43, 50, 105]⟩, .int .i64 0]) (by simp [results, Tryz.results47, go_sem]) rfl ⟨rfl, BW⟩
set_option maxHeartbeats 8000000 in
set_option maxRecDepth 20000 in
theorem alive_any {w : World} (htab : Tab w) :
  Calls Tryz.prog 11 #[] w (fun e w' => e = .returned (.bool true) ∧ Below w.heap.size w w') := by
 have HT := Lib.hid htab
 clear htab
 have BW : Below w.heap.size w w := Below.refl _ _
 go_enter Tryz.func11, Tryz.ntmps11
 go_wp2_with fail
 refine (g_Of (n := 3) (m := -4) (by decide) (by decide) (by decide) (by decide)).mono ?_
 rintro _ w1 ⟨a, b, rfl, Fa, Fb, hb⟩
 replace BW := BW.trans (hb.mono BW.size)
 clear hb
 go_wp2_with fail
 refine (g_Of (n := 1) (m := 2) (by decide) (by decide) (by decide) (by decide)).mono ?_
 rintro _ w2 ⟨c, d, rfl, Fc, Fd, hb⟩
 replace Fa := Fa.kp (Kept.of hb)
 replace Fb := Fb.kp (Kept.of hb)
 replace BW := BW.trans (hb.mono BW.size)
 clear hb
 go_wp2_with fail
 refine (g_Mul Fa Fb Fc Fd).mono ?_
 rintro _ w3 ⟨f, g, er, rfl, Rm, hb⟩
 replace Fa := Fa.kp (Kept.of hb)
 replace Fb := Fb.kp (Kept.of hb)
 replace Fc := Fc.kp (Kept.of hb)
 replace Fd := Fd.kp (Kept.of hb)
 replace BW := BW.trans (hb.mono BW.size)
 clear hb
 obtain ⟨rfl, Ff1, Fg1⟩ := Rm.yes not_false al3 al4
 replace Ff1 := Ff1.to al1
 replace Fg1 := Fg1.to al2
 clear Rm Fa Fb Fc Fd
 obtain ⟨V4, e5, hb6, K7, -, -⟩ := alloc_new w3 [.bool f.n, .slice f.A f.xs.length f.c, .bool f.m, .slice f.B f.ds.length f.d, .bool g.n, .slice g.A g.xs.length g.c, .bool g.m, .slice g.B g.ds.length g.d] 33
 replace Ff1 := Ff1.kp (Kept.of hb6)
 replace Fg1 := Fg1.kp (Kept.of hb6)
 replace BW := BW.trans (hb6.mono BW.size)
 clear hb6
 go_wp2_with fail
 rw [← e5]
 clear e5
 generalize w3.heap.size = b8 at *
 refine (g_text Ff1 Fg1 (tab_below HT.out BW)).mono ?_
 rintro _ w9 ⟨rfl, hb⟩
 replace K7 := K7.on hb
 replace Ff1 := Ff1.kp (Kept.of hb)
 replace Fg1 := Fg1.kp (Kept.of hb)
 replace BW := BW.trans (hb.mono BW.size)
 clear hb
 go_wp2_with fail
 go_cut [2, 3, 4, 6] (fun s2 s3 s4 s6 wx => s2 = .int .i64 0 ∧ s3 = .string ⟨#[49, 49, 43, 50, 105]⟩ ∧ s4 = .int .i64 0 ∧ s6 = .int .i64 3 ∧ Below w.heap.size w wx)
 case first =>
  refine wp_region_noPanic ?_
  have hb : Below w9.heap.size w9 w9.drew := (Below.refl _ _).drew
  replace K7 := K7.on hb
  replace Ff1 := Ff1.kp (Kept.of hb)
  replace Fg1 := Fg1.kp (Kept.of hb)
  replace BW := BW.trans (hb.mono BW.size)
  clear hb
  refine wp_region_held_drew (S := (fun wx => Cs wx (b8) 0 [.bool f.n, .slice f.A f.xs.length f.c, .bool f.m, .slice f.B f.ds.length f.d, .bool g.n, .slice g.A g.xs.length g.c, .bool g.m, .slice g.B g.ds.length g.d])) (by kernel_rfl) (by exact K7.cs) (fun hHeld => ?_)
  generalize w9.drew = Vd10 at *
  refine pT 0 ?_
  (try simp only [p0, p1, p2, p3])
  refine pR2 1 6 (fun K hK => ?_) (fun K hK => ?_)
  ·go_simp
   (go_at_call 22; with_reducible refine (g_Of (n := 0) (m := 0) (by decide) (by decide) (by decide) (by decide)).mono ?_)
   rintro _ w11 ⟨c0, d0, rfl, Fc0, Fd0, hb⟩
   (try go_wp2_with fail)
   replace K7 := K7.on hb
   replace Ff1 := Ff1.kp (Kept.of hb)
   replace Fg1 := Fg1.kp (Kept.of hb)
   replace BW := BW.trans (hb.mono BW.size)
   clear hb
   refine hK.out _ _ (by exact K7.cs) (fun hHeld => ?_)
   clear hK
   (try simp only [p0, p1, p2, p3])
   refine pR2 2 6 (fun K hK => ?_) (fun K hK => ?_)
   ·go_simp
    (go_at_call 48; with_reducible refine (g_Quo Ff1 Fg1 Fc0 Fd0).mono ?_)
    rintro _ w12 ⟨f3, g3, er, rfl, Rq, hb⟩
    (try go_wp2_with fail)
    replace K7 := K7.on hb
    replace BW := BW.trans (hb.mono BW.size)
    clear hb
    obtain ⟨rfl, -, -⟩ := Rq.bad3 ⟨rfl, rfl⟩
    clear Rq
    refine hK.out _ _ (by exact K7.cs) (fun hHeld => ?_)
    clear hK
    (try simp only [p0, p1, p2, p3])
    refine pT 3 ?_
    (try simp only [p0, p1, p2, p3])
    refine pT 4 ?_
    (try simp only [p0, p1, p2, p3])
    refine pT 5 ?_
    (try simp only [p0, p1, p2, p3])
    refine pR1 6 (fun K hK => ?_)
    go_simp
    obtain ⟨V13, e14, hb15, K16, Z17, -⟩ := alloc_new w12 [.bool false, .slice none 0 0, .bool false, .slice none 0 0, .bool false, .slice none 0 0, .bool false, .slice none 0 0] 33
    have n18 : b8 ≠ w12.heap.size := Nat.ne_of_lt (K7.lt)
    have g19 : w.heap.size ≤ w12.heap.size := BW.size
    replace K7 := K7.on hb15
    replace BW := BW.trans (hb15.mono BW.size)
    clear hb15
    rw [← e14]
    clear e14
    generalize w12.heap.size = b20 at *
    refine hK.out _ _ (by exact K7.cs) (fun hHeld => ?_)
    clear hK
    (try simp only [p0, p1, p2, p3])
    refine pR1 7 (fun K hK => ?_)
    obtain ⟨c21, c22, c23, c24, c25, c26, c27, c28⟩ := K16.c8
    obtain ⟨c29, c30, c31, c32, c33, c34, c35, c36⟩ := Z17.f8
    go_simp
    clear c21 c22 c23 c24 c25 c26 c27 c28 c29 c30 c31 c32 c33 c34 c35 c36
    obtain ⟨V37, hk39⟩ : ∃ V37, V37 = V13.setCells (b20) 0 [.bool f3.n, .slice f3.A f3.xs.length f3.c, .bool f3.m, .slice f3.B f3.ds.length f3.d, .bool g3.n, .slice g3.A g3.xs.length g3.c, .bool g3.m, .slice g3.B g3.ds.length g3.d] := ⟨_, rfl⟩
    have e38 := hk39
    simp only [World.setCells, Nat.zero_add, Nat.reduceAdd] at e38
    have hk40 := Kept.overE hk39 K16 rfl (by simp)
    replace K7 := K7.awayE hk39 n18
    replace K16 := K16.overE hk39 rfl
    replace BW := Below.putE BW hk39 g19
    clear hk39 hk40
    rw [← e38]
    clear e38
    refine hK.out _ _ (by exact K7.cs) (fun hHeld => ?_)
    clear hK
    (try simp only [p0, p1, p2, p3])
    refine pT 8 ?_
    (try simp only [p0, p1, p2, p3])
    refine wpAnyH_done (by kernel_rfl) (NoPanic.normal ?_) _
    go_wp2
    go_meet
    exact ⟨rfl, rfl, rfl, rfl, BW⟩
   ·go_simp
    obtain ⟨V12, e13, hb14, K15, Z16, -⟩ := alloc_new w11 [.bool false, .slice none 0 0, .bool false, .slice none 0 0, .bool false, .slice none 0 0, .bool false, .slice none 0 0] 33
    have n17 : b8 ≠ w11.heap.size := Nat.ne_of_lt (K7.lt)
    have g18 : w.heap.size ≤ w11.heap.size := BW.size
    replace K7 := K7.on hb14
    replace Ff1 := Ff1.kp (Kept.of hb14)
    replace Fg1 := Fg1.kp (Kept.of hb14)
    replace Fc0 := Fc0.kp (Kept.of hb14)
    replace Fd0 := Fd0.kp (Kept.of hb14)
    replace BW := BW.trans (hb14.mono BW.size)
    clear hb14
    rw [← e13]
    clear e13
    generalize w11.heap.size = b19 at *
    refine hK.out _ _ (by exact K7.cs) (fun hHeld => ?_)
    clear hK
    (try simp only [p0, p1, p2, p3])
    refine pR1 2 (fun K hK => ?_)
    go_simp
    (go_at_call 48; with_reducible refine (g_Quo Ff1 Fg1 Fc0 Fd0).mono ?_)
    rintro _ w20 ⟨f3, g3, er, rfl, Rq, hb⟩
    (try go_wp2_with fail)
    replace K7 := K7.on hb
    replace K15 := K15.on hb
    replace Z16 := Z16.on hb
    replace BW := BW.trans (hb.mono BW.size)
    clear hb
    obtain ⟨rfl, -, -⟩ := Rq.bad3 ⟨rfl, rfl⟩
    clear Rq
    refine hK.out _ _ (by exact K7.cs) (fun hHeld => ?_)
    clear hK
    (try simp only [p0, p1, p2, p3])
    refine pT 3 ?_
    (try simp only [p0, p1, p2, p3])
    refine pT 4 ?_
    (try simp only [p0, p1, p2, p3])
    refine pT 5 ?_
    (try simp only [p0, p1, p2, p3])
    refine pR1 7 (fun K hK => ?_)
    obtain ⟨c21, c22, c23, c24, c25, c26, c27, c28⟩ := K15.c8
    obtain ⟨c29, c30, c31, c32, c33, c34, c35, c36⟩ := Z16.f8
    go_simp
    clear c21 c22 c23 c24 c25 c26 c27 c28 c29 c30 c31 c32 c33 c34 c35 c36
    obtain ⟨V37, hk39⟩ : ∃ V37, V37 = w20.setCells (b19) 0 [.bool f3.n, .slice f3.A f3.xs.length f3.c, .bool f3.m, .slice f3.B f3.ds.length f3.d, .bool g3.n, .slice g3.A g3.xs.length g3.c, .bool g3.m, .slice g3.B g3.ds.length g3.d] := ⟨_, rfl⟩
    have e38 := hk39
    simp only [World.setCells, Nat.zero_add, Nat.reduceAdd] at e38
    have hk40 := Kept.overE hk39 K15 rfl (by simp)
    replace K7 := K7.awayE hk39 n17
    replace K15 := K15.overE hk39 rfl
    replace BW := Below.putE BW hk39 g18
    clear hk39 hk40
    rw [← e38]
    clear e38
    refine hK.out _ _ (by exact K7.cs) (fun hHeld => ?_)
    clear hK
    (try simp only [p0, p1, p2, p3])
    refine pT 8 ?_
    (try simp only [p0, p1, p2, p3])
    refine wpAnyH_done (by kernel_rfl) (NoPanic.normal ?_) _
    go_wp2
    go_meet
    exact ⟨rfl, rfl, rfl, rfl, BW⟩
  ·go_simp
   obtain ⟨V11, e12, hb13, K14, Z15, -⟩ := alloc_new Vd10 [.bool false, .slice none 0 0, .bool false, .slice none 0 0, .bool false, .slice none 0 0, .bool false, .slice none 0 0] 33
   have n16 : b8 ≠ Vd10.heap.size := Nat.ne_of_lt (K7.lt)
   have g17 : w.heap.size ≤ Vd10.heap.size := BW.size
   replace K7 := K7.on hb13
   replace Ff1 := Ff1.kp (Kept.of hb13)
   replace Fg1 := Fg1.kp (Kept.of hb13)
   replace BW := BW.trans (hb13.mono BW.size)
   clear hb13
   rw [← e12]
   clear e12
   generalize Vd10.heap.size = b18 at *
   refine hK.out _ _ (by exact K7.cs) (fun hHeld => ?_)
   clear hK
   (try simp only [p0, p1, p2, p3])
   refine pR1 1 (fun K hK => ?_)
   go_simp
   (go_at_call 22; with_reducible refine (g_Of (n := 0) (m := 0) (by decide) (by decide) (by decide) (by decide)).mono ?_)
   rintro _ w19 ⟨c0, d0, rfl, Fc0, Fd0, hb⟩
   (try go_wp2_with fail)
   replace K7 := K7.on hb
   replace K14 := K14.on hb
   replace Z15 := Z15.on hb
   replace Ff1 := Ff1.kp (Kept.of hb)
   replace Fg1 := Fg1.kp (Kept.of hb)
   replace BW := BW.trans (hb.mono BW.size)
   clear hb
   refine hK.out _ _ (by exact K7.cs) (fun hHeld => ?_)
   clear hK
   (try simp only [p0, p1, p2, p3])
   refine pR1 2 (fun K hK => ?_)
   go_simp
   (go_at_call 48; with_reducible refine (g_Quo Ff1 Fg1 Fc0 Fd0).mono ?_)
   rintro _ w20 ⟨f3, g3, er, rfl, Rq, hb⟩
   (try go_wp2_with fail)
   replace K7 := K7.on hb
   replace K14 := K14.on hb
   replace Z15 := Z15.on hb
   replace BW := BW.trans (hb.mono BW.size)
   clear hb
   obtain ⟨rfl, -, -⟩ := Rq.bad3 ⟨rfl, rfl⟩
   clear Rq
   refine hK.out _ _ (by exact K7.cs) (fun hHeld => ?_)
   clear hK
   (try simp only [p0, p1, p2, p3])
   refine pT 3 ?_
   (try simp only [p0, p1, p2, p3])
   refine pT 4 ?_
   (try simp only [p0, p1, p2, p3])
   refine pT 5 ?_
   (try simp only [p0, p1, p2, p3])
   refine pR1 7 (fun K hK => ?_)
   obtain ⟨c21, c22, c23, c24, c25, c26, c27, c28⟩ := K14.c8
   obtain ⟨c29, c30, c31, c32, c33, c34, c35, c36⟩ := Z15.f8
   go_simp
   clear c21 c22 c23 c24 c25 c26 c27 c28 c29 c30 c31 c32 c33 c34 c35 c36
   obtain ⟨V37, hk39⟩ : ∃ V37, V37 = w20.setCells (b18) 0 [.bool f3.n, .slice f3.A f3.xs.length f3.c, .bool f3.m, .slice f3.B f3.ds.length f3.d, .bool g3.n, .slice g3.A g3.xs.length g3.c, .bool g3.m, .slice g3.B g3.ds.length g3.d] := ⟨_, rfl⟩
   have e38 := hk39
   simp only [World.setCells, Nat.zero_add, Nat.reduceAdd] at e38
   have hk40 := Kept.overE hk39 K14 rfl (by simp)
   replace K7 := K7.awayE hk39 n16
   replace K14 := K14.overE hk39 rfl
   replace BW := Below.putE BW hk39 g17
   clear hk39 hk40
   rw [← e38]
   clear e38
   refine hK.out _ _ (by exact K7.cs) (fun hHeld => ?_)
   clear hK
   (try simp only [p0, p1, p2, p3])
   refine pT 8 ?_
   (try simp only [p0, p1, p2, p3])
   refine wpAnyH_done (by kernel_rfl) (NoPanic.normal ?_) _
   go_wp2
   go_meet
   exact ⟨rfl, rfl, rfl, rfl, BW⟩
 case rest =>
  obtain ⟨rfl, rfl, rfl, rfl, BW⟩ := hcut
  go_wp2
  go_ret
  exact ⟨rfl, BW⟩
/-- The statements' size. -/
def gsz (f g : Fv) : Int := 4 + (f.xs.length : Int) + (f.ds.length : Int) + (g.xs.length : Int) + (g.ds.length : Int)
set_option maxHeartbeats 8000000 in
set_option maxRecDepth 20000 in
theorem h_times {q p s t : Rat} {a b c d : Fv} {k : Nat} {w : World} (Fa : Ff w q a) (Fb : Ff w p b) (Fc : Ff w s c) (Fd : Ff w t d) (Kk : Box w k [.bool true]) (Zk : Fz w k) (hz : FitsQ (q * s - p * t)) (hy : FitsQ (q * t + p * s)) :
  Calls Tryz.prog 19 #[gv a b, gv c d, .pointer (some ⟨k, 0, none⟩)] w (fun e w' => ∃ f g : Fv, e = .returned (gv f g) ∧ Ff w' (q * s - p * t) f ∧ Ff w' (q * t + p * s) g ∧ Below w.heap.size w w') := by
 have HF := Lib.hid (And.intro hz hy)
 clear hz hy
 have NK0 : k ≠ w.heap.size := Nat.ne_of_lt Kk.lt
 have NK1 : k ≠ w.heap.size + 1 := Nat.ne_of_lt (Nat.lt_succ_of_lt Kk.lt)
 have NK2 : k ≠ w.heap.size + 1 + 1 := Nat.ne_of_lt (Nat.lt_succ_of_lt (Nat.lt_succ_of_lt Kk.lt))
 have BW : Below w.heap.size w w := Below.refl _ _
 obtain ⟨V2, e3, hb4, K5, -, z1⟩ := alloc_new w [.bool a.n, .slice a.A a.xs.length a.c, .bool a.m, .slice a.B a.ds.length a.d, .bool b.n, .slice b.A b.xs.length b.c, .bool b.m, .slice b.B b.ds.length b.d] 33
 have n6 : k ≠ w.heap.size := Nat.ne_of_lt (Kk.lt)
 replace Kk := Kk.on hb4
 replace Zk := Zk.on hb4
 replace Fa := Fa.kp (Kept.of hb4)
 replace Fb := Fb.kp (Kept.of hb4)
 replace Fc := Fc.kp (Kept.of hb4)
 replace Fd := Fd.kp (Kept.of hb4)
 replace BW := BW.trans (hb4.mono BW.size)
 clear hb4
 obtain ⟨V8, e9, hb10, K11, -, z7⟩ := alloc_new V2 [.bool c.n, .slice c.A c.xs.length c.c, .bool c.m, .slice c.B c.ds.length c.d, .bool d.n, .slice d.A d.xs.length d.c, .bool d.m, .slice d.B d.ds.length d.d] 33
 rw [z1] at K11 z7
 have n12 : k ≠ w.heap.size + 1 := Nat.ne_of_lt (z1 ▸ Kk.lt)
 replace Kk := Kk.on hb10
 replace K5 := K5.on hb10
 replace Zk := Zk.on hb10
 replace Fa := Fa.kp (Kept.of hb10)
 replace Fb := Fb.kp (Kept.of hb10)
 replace Fc := Fc.kp (Kept.of hb10)
 replace Fd := Fd.kp (Kept.of hb10)
 replace BW := BW.trans (hb10.mono BW.size)
 clear hb10
 obtain ⟨V13, e14, hb15, K16, Z17, -⟩ := alloc_new V8 [.bool false, .slice none 0 0, .bool false, .slice none 0 0, .bool false, .slice none 0 0, .bool false, .slice none 0 0] 33
 rw [z7] at K16 Z17
 have n18 : k ≠ w.heap.size + 1 + 1 := Nat.ne_of_lt (z7 ▸ Kk.lt)
 have n19 : w.heap.size ≠ w.heap.size + 1 + 1 := Nat.ne_of_lt (z7 ▸ K5.lt)
 have n20 : w.heap.size + 1 ≠ w.heap.size + 1 + 1 := Nat.ne_of_lt (z7 ▸ K11.lt)
 have g21 : w.heap.size ≤ w.heap.size + 1 + 1 := z7 ▸ BW.size
 replace Kk := Kk.on hb15
 replace Zk := Zk.on hb15
 replace Fa := Fa.kp (Kept.of hb15)
 replace Fb := Fb.kp (Kept.of hb15)
 replace Fc := Fc.kp (Kept.of hb15)
 replace Fd := Fd.kp (Kept.of hb15)
 replace BW := BW.trans (hb15.mono BW.size)
 clear hb15
 clear z1 z7
 go_enter Tryz.func19, Tryz.ntmps19
 go_wp2_with fail
 rw [← e3, ← e9, ← e14]
 clear e3 e9 e14
 refine (g_Mul Fa Fb Fc Fd).mono ?_
 rintro _ w22 ⟨f, g, er, rfl, R, hb⟩
 replace Kk := Kk.on hb
 replace K16 := K16.on hb
 replace Zk := Zk.on hb
 replace Z17 := Z17.on hb
 replace Fa := Fa.kp (Kept.of hb)
 replace Fb := Fb.kp (Kept.of hb)
 replace Fc := Fc.kp (Kept.of hb)
 replace Fd := Fd.kp (Kept.of hb)
 replace BW := BW.trans (hb.mono BW.size)
 clear hb
 obtain ⟨rfl, F1, F2⟩ := R.yes not_false HF.out.1 HF.out.2
 clear R Fa Fb Fc Fd HF
 obtain ⟨V23, e24, hb25, K26, -, -⟩ := alloc_new w22 [.bool f.n, .slice f.A f.xs.length f.c, .bool f.m, .slice f.B f.ds.length f.d, .bool g.n, .slice g.A g.xs.length g.c, .bool g.m, .slice g.B g.ds.length g.d] 33
 have n27 : k ≠ w22.heap.size := Nat.ne_of_lt (Kk.lt)
 have n28 : w.heap.size + 1 + 1 ≠ w22.heap.size := Nat.ne_of_lt (K16.lt)
 replace Kk := Kk.on hb25
 replace K16 := K16.on hb25
 replace Zk := Zk.on hb25
 replace Z17 := Z17.on hb25
 replace F1 := F1.kp (Kept.of hb25)
 replace F2 := F2.kp (Kept.of hb25)
 replace BW := BW.trans (hb25.mono BW.size)
 clear hb25
 have c29 := Kk.c1
 rw [e24] at c29
 have c30 := Kk.c1
 have c31 := Zk.f1
 rw [e24] at c30 c31
 have e32 : V23 = V23.setCell ⟨k, 0, none⟩ (.bool true) := (setCell_id (Kk.c 0 _ rfl)).symm
 obtain ⟨c33, c34, c35, c36, c37, c38, c39, c40⟩ := K16.c8
 obtain ⟨c41, c42, c43, c44, c45, c46, c47, c48⟩ := Z17.f8
 rw [e32, e24] at c33 c34 c35 c36 c37 c38 c39 c40 c41 c42 c43 c44 c45 c46 c47 c48
 obtain ⟨V49, hk51⟩ : ∃ V49, V49 = V23.setCells (w.heap.size + 1 + 1) 0 [.bool f.n, .slice f.A f.xs.length f.c, .bool f.m, .slice f.B f.ds.length f.d, .bool g.n, .slice g.A g.xs.length g.c, .bool g.m, .slice g.B g.ds.length g.d] := ⟨_, rfl⟩
 have e50 := hk51
 simp only [World.setCells, Nat.zero_add, Nat.reduceAdd] at e50
 have hk52 := Kept.overE hk51 K16 rfl (by simp)
 replace K16 := K16.overE hk51 rfl
 replace F1 := F1.kp hk52
 replace F2 := F2.kp hk52
 replace BW := Below.putE BW hk51 g21
 clear hk51 hk52
 go_wp2_with fail
 clear c29 c30 c31 c33 c34 c35 c36 c37 c38 c39 c40 c41 c42 c43 c44 c45 c46 c47 c48
 rw [← e24, ← e32, ← e50]
 clear e24 e32 e50
 generalize w22.heap.size = b53 at *
 obtain ⟨c54, c55, c56, c57, c58, c59, c60, c61⟩ := K16.c8
 exact bodyPost_ret (v := gv f g) (by simp [results, Tryz.results19, go_sem, c54, c55, c56, c57, c58, c59, c60, c61]) rfl ⟨f, g, rfl, F1, F2, BW⟩
end Go.Proofs.YtplgheabhekedaaGreatDoor
namespace Go.Proofs.YtplgheabhekedaaGreatDoor
open Go.RowKit Nb
section
variable {k l : Nat} {a b : Int} {z y s t : Rat}
theorem bd_mul (ha : a.natAbs ≤ 2 ^ k) (hb : b.natAbs ≤ 2 ^ l) : (a * b).natAbs ≤ 2 ^ (k + l) := by
  rw [Int.natAbs_mul, Nat.pow_add]; exact Nat.mul_le_mul ha hb
theorem bd_add (ha : a.natAbs ≤ 2 ^ k) (hb : b.natAbs ≤ 2 ^ k) : (a + b).natAbs ≤ 2 ^ (k + 1) := by
  have := Int.natAbs_add_le a b
  rw [Nat.pow_succ]; omega
theorem bd_sub (ha : a.natAbs ≤ 2 ^ k) (hb : b.natAbs ≤ 2 ^ k) : (a - b).natAbs ≤ 2 ^ (k + 1) := by
  rw [Int.sub_eq_add_neg]; exact bd_add ha (by rw [Int.natAbs_neg]; exact hb)
theorem bd_mono (ha : a.natAbs ≤ 2 ^ k) (h : k ≤ l) : a.natAbs ≤ 2 ^ l := Nat.le_trans ha (Nat.pow_le_pow_right (by decide) h)
/-- A fraction of whole numbers of k binary digits. -/
def Hq (k : Nat) (z : Rat) : Prop := ∃ (D a : Int), 0 < D ∧ z * (D : Rat) = (a : Rat) ∧ D.natAbs ≤ 2 ^ k ∧ a.natAbs ≤ 2 ^ k
/-- Two of them, by one denominator. -/
def Hg (k : Nat) (z y : Rat) : Prop := ∃ (D a b : Int), 0 < D ∧ z * (D : Rat) = (a : Rat) ∧ y * (D : Rat) = (b : Rat) ∧ D.natAbs ≤ 2 ^ k ∧ a.natAbs ≤ 2 ^ k ∧ b.natAbs ≤ 2 ^ k
theorem rat_whole (z : Rat) : z * ((z.den : Int) : Rat) = (z.num : Rat) := by
  have h : z = (z.num : Rat) / ((z.den : Int) : Rat) := by
    conv => lhs; rw [← Rat.num_divInt_den z, Rat.divInt_eq_div]
  have hd : ((z.den : Int) : Rat) ≠ 0 := fun e => z.den_nz (by
    have e2 : ((z.den : Int) : Rat) = ((0 : Int) : Rat) := e
    have := Rat.intCast_inj.1 e2
    omega)
  generalize ((z.den : Int) : Rat) = d at *
  generalize (z.num : Rat) = n at *
  subst h
  grind
theorem Hq.parts (h : Hq k z) : z.den ≤ 2 ^ k ∧ z.num.natAbs ≤ 2 ^ k := by
  obtain ⟨D, a, hD, he, bD, ba⟩ := h
  have h1 := rat_whole z
  have h2 : ((z.num * D : Int) : Rat) = ((a * (z.den : Int) : Int) : Rat) := by
    rw [Rat.intCast_mul, Rat.intCast_mul, ← h1, ← he]; grind
  have h3 := Rat.intCast_inj.1 h2
  have h4 : z.num.natAbs * D.natAbs = a.natAbs * z.den := by
    have := congrArg Int.natAbs h3
    rwa [Int.natAbs_mul, Int.natAbs_mul, Int.natAbs_natCast] at this
  have h5 : z.den ∣ D.natAbs := by
    refine Nat.Coprime.dvd_of_dvd_mul_left (k := z.den) (m := z.num.natAbs) z.reduced.symm ?_
    rw [h4]; exact Nat.dvd_mul_left _ _
  have hDp : 0 < D.natAbs := by omega
  refine ⟨Nat.le_trans (Nat.le_of_dvd hDp h5) bD, ?_⟩
  obtain ⟨m, hm⟩ := h5
  have hmp : 0 < m := Nat.pos_of_ne_zero fun e => by rw [e] at hm; omega
  have h6 : z.num.natAbs * m = a.natAbs := by
    have := h4
    rw [hm, show z.num.natAbs * (z.den * m) = (z.num.natAbs * m) * z.den by grind] at this
    exact Nat.eq_of_mul_eq_mul_right z.den_pos this
  refine Nat.le_trans ?_ ba
  rw [← h6]
  exact Nat.le_mul_of_pos_right _ hmp
theorem pow_32 (n : Nat) : W32 ^ n = 2 ^ (32 * n) := by rw [show W32 = 2 ^ 32 from rfl, ← Nat.pow_mul]
theorem pow_lt_w (n : Nat) (hk : k < 32 * n) : 2 ^ k < W32 ^ n := by rw [pow_32]; exact Nat.pow_lt_pow_right (by decide) hk
theorem Hq.fits (h : Hq k z) (hk : k < 65536) : FitsQ z := by
  obtain ⟨h1, h2⟩ := h.parts
  have h3 := pow_lt_w (k := k) 2048 (by omega)
  refine ⟨?_, ?_⟩
  · unfold Fits; exact Nat.lt_of_le_of_lt h2 h3
  · unfold Fits; rw [Int.natAbs_natCast]; exact Nat.lt_of_le_of_lt h1 h3
theorem Hg.re (h : Hg k z y) : Hq k z := by obtain ⟨D, a, b, h0, h1, h2, h3, h4, h5⟩ := h; exact ⟨D, a, h0, h1, h3, h4⟩
theorem Hg.im (h : Hg k z y) : Hq k y := by obtain ⟨D, a, b, h0, h1, h2, h3, h4, h5⟩ := h; exact ⟨D, b, h0, h2, h3, h5⟩
theorem Hg.add (h : Hg k z y) (g : Hg l s t) : Hg (k + l + 1) (z + s) (y + t) := by
  obtain ⟨D, a, b, h0, h1, h2, h3, h4, h5⟩ := h
  obtain ⟨E, c, d, g0, g1, g2, g3, g4, g5⟩ := g
  refine ⟨D * E, a * E + c * D, b * E + d * D, Int.mul_pos h0 g0, ?_, ?_, bd_mono (bd_mul h3 g3) (by omega), bd_add (bd_mul h4 g3) (by have := bd_mul g4 h3; rwa [Nat.add_comm] at this), bd_add (bd_mul h5 g3) (by have := bd_mul g5 h3; rwa [Nat.add_comm] at this)⟩
  · simp only [Rat.intCast_mul, Rat.intCast_add]; rw [← h1, ← g1]; grind
  · simp only [Rat.intCast_mul, Rat.intCast_add]; rw [← h2, ← g2]; grind
theorem Hg.neg (h : Hg k z y) : Hg k z (-y) := by
  obtain ⟨D, a, b, h0, h1, h2, h3, h4, h5⟩ := h
  refine ⟨D, a, -b, h0, h1, ?_, h3, h4, by rw [Int.natAbs_neg]; exact h5⟩
  rw [Rat.intCast_neg, ← h2]; grind
theorem Hg.mul (h : Hg k z y) (g : Hg l s t) : Hg (k + l + 1) (z * s - y * t) (z * t + y * s) := by
  obtain ⟨D, a, b, h0, h1, h2, h3, h4, h5⟩ := h
  obtain ⟨E, c, d, g0, g1, g2, g3, g4, g5⟩ := g
  refine ⟨D * E, a * c - b * d, a * d + b * c, Int.mul_pos h0 g0, ?_, ?_, bd_mono (bd_mul h3 g3) (by omega), bd_sub (bd_mul h4 g4) (bd_mul h5 g5), bd_add (bd_mul h4 g5) (bd_mul h5 g4)⟩
  · simp only [Rat.intCast_mul, Rat.intCast_sub]; rw [← h1, ← g1, ← h2, ← g2]; grind
  · simp only [Rat.intCast_mul, Rat.intCast_add]; rw [← h1, ← g1, ← h2, ← g2]; grind
theorem Hg.norm (h : Hg k z y) : Hq (k + k + 1) (z * z + y * y) := by
  obtain ⟨D, a, b, h0, h1, h2, h3, h4, h5⟩ := h
  refine ⟨D * D, a * a + b * b, Int.mul_pos h0 h0, ?_, bd_mono (bd_mul h3 h3) (by omega), bd_add (bd_mul h4 h4) (bd_mul h5 h5)⟩
  simp only [Rat.intCast_mul, Rat.intCast_add]; rw [← h1, ← h2]; grind
theorem Hq.mul (h : Hq k z) (g : Hq l s) : Hq (k + l) (z * s) := by
  obtain ⟨D, a, h0, h1, h2, h3⟩ := h
  obtain ⟨E, c, g0, g1, g2, g3⟩ := g
  refine ⟨D * E, a * c, Int.mul_pos h0 g0, ?_, bd_mul h2 g2, bd_mul h3 g3⟩
  simp only [Rat.intCast_mul]; rw [← h1, ← g1]; grind
theorem Hq.add (h : Hq k z) (g : Hq l s) : Hq (k + l + 1) (z + s) := by
  obtain ⟨D, a, h0, h1, h2, h3⟩ := h
  obtain ⟨E, c, g0, g1, g2, g3⟩ := g
  refine ⟨D * E, a * E + c * D, Int.mul_pos h0 g0, ?_, bd_mono (bd_mul h2 g2) (by omega), bd_add (bd_mul h3 g2) (by have := bd_mul g3 h2; rwa [Nat.add_comm] at this)⟩
  simp only [Rat.intCast_mul, Rat.intCast_add]; rw [← h1, ← g1]; grind
theorem Hq.sub (h : Hq k z) (g : Hq l s) : Hq (k + l + 1) (z - s) := by
  obtain ⟨D, a, h0, h1, h2, h3⟩ := h
  obtain ⟨E, c, g0, g1, g2, g3⟩ := g
  refine ⟨D * E, a * E - c * D, Int.mul_pos h0 g0, ?_, bd_mono (bd_mul h2 g2) (by omega), bd_sub (bd_mul h3 g2) (by have := bd_mul g3 h2; rwa [Nat.add_comm] at this)⟩
  simp only [Rat.intCast_mul, Rat.intCast_sub]; rw [← h1, ← g1]; grind
theorem Hq.one : Hq 0 1 := ⟨1, 1, by decide, by decide +kernel, by decide, by decide⟩
theorem Hq.quo (h : Hq k z) (g : Hq l s) (hs : s ≠ 0) : Hq (k + l) (z / s) := by
  obtain ⟨D, a, h0, h1, h2, h3⟩ := h
  obtain ⟨E, c, g0, g1, g2, g3⟩ := g
  have hE : (E : Rat) ≠ 0 := fun e => by
    have e2 : (E : Rat) = ((0 : Int) : Rat) := e
    have := Rat.intCast_inj.1 e2; omega
  have hc : c ≠ 0 := fun e => by
    rw [e] at g1
    have : s * (E : Rat) = 0 := g1
    grind
  rcases Int.lt_or_lt_of_ne hc with hn | hp
  · refine ⟨D * -c, a * -E, Int.mul_pos h0 (by omega), ?_, bd_mul h2 (by rw [Int.natAbs_neg]; exact g3), bd_mul h3 (by rw [Int.natAbs_neg]; exact g2)⟩
    simp only [Rat.intCast_mul, Rat.intCast_neg]; rw [← h1, ← g1]; grind
  · refine ⟨D * c, a * E, Int.mul_pos h0 hp, ?_, bd_mul h2 g3, bd_mul h3 g2⟩
    simp only [Rat.intCast_mul]; rw [← h1, ← g1]; grind
theorem one_sq (s : Rat) : 1 + s * s ≠ 0 := fun e => by
  have := rat_sq s
  grind
theorem Hq.unit (h : Hq k s) : Hg (k + k + 1) ((1 - s * s) / (1 + s * s)) ((s + s) / (1 + s * s)) := by
  obtain ⟨D, a, h0, h1, h2, h3⟩ := h
  have hp : 0 < D * D + a * a := by
    have := Int.mul_pos h0 h0
    have h5 : 0 ≤ a * a := by
      rcases Int.le_total 0 a with g | g
      · exact Int.mul_nonneg g g
      · exact Int.mul_nonneg_of_nonpos_of_nonpos g g
    omega
  have hs := one_sq s
  have hD : (D : Rat) ≠ 0 := fun e => by
    have e2 : (D : Rat) = ((0 : Int) : Rat) := e
    have := Rat.intCast_inj.1 e2; omega
  refine ⟨D * D + a * a, D * D - a * a, a * D + a * D, hp, ?_, ?_, bd_add (bd_mul h2 h2) (bd_mul h3 h3), bd_sub (bd_mul h2 h2) (bd_mul h3 h3), bd_add (bd_mul h3 h2) (bd_mul h3 h2)⟩
  · simp only [Rat.intCast_mul, Rat.intCast_add, Rat.intCast_sub]; rw [← h1]; grind
  · simp only [Rat.intCast_mul, Rat.intCast_add]; rw [← h1]; grind
theorem Hq.pair (h : Hq k z) (g : Hq l y) : Hg (k + l) z y := by
  obtain ⟨D, a, h0, h1, h2, h3⟩ := h
  obtain ⟨E, c, g0, g1, g2, g3⟩ := g
  refine ⟨D * E, a * E, c * D, Int.mul_pos h0 g0, ?_, ?_, bd_mul h2 g2, bd_mul h3 g2, by have := bd_mul g3 h2; rwa [Nat.add_comm] at this⟩
  · simp only [Rat.intCast_mul]; rw [← h1]; grind
  · simp only [Rat.intCast_mul]; rw [← g1]; grind
theorem Hg.mono (h : Hg k z y) (hk : k ≤ l) : Hg l z y := by
  obtain ⟨D, a, b, h0, h1, h2, h3, h4, h5⟩ := h
  exact ⟨D, a, b, h0, h1, h2, bd_mono h3 hk, bd_mono h4 hk, bd_mono h5 hk⟩
theorem Hq.mono (h : Hq k z) (hk : k ≤ l) : Hq l z := by
  obtain ⟨D, a, h0, h1, h3, h4⟩ := h
  exact ⟨D, a, h0, h1, bd_mono h3 hk, bd_mono h4 hk⟩
theorem Ff.hq {w : World} {q : Rat} {f : Fv} (h : Ff w q f) : Hq (32 * (f.xs.length + f.ds.length)) q := by
  have h1 := val_lt h.2.num.lm.dig
  have h2 := val_lt h.2.den.lm.dig
  rw [h.2.num_val, pow_32] at h1
  rw [h.2.den_val, pow_32] at h2
  refine ⟨(q.den : Int), q.num, by have := q.den_pos; omega, rat_whole q, ?_, bd_mono (Nat.le_of_lt h1) (by omega)⟩
  rw [Int.natAbs_natCast]
  exact Nat.le_trans (Nat.le_of_lt h2) (Nat.pow_le_pow_right (by decide) (by omega))
theorem Ff.hg {w : World} {q p : Rat} {f g : Fv} (h : Ff w q f) (k : Ff w p g) (hs : gsz f g ≤ 300) : Hg 9472 q p :=
  (h.hq.pair k.hq).mono (by unfold gsz at hs; omega)
end
end Go.Proofs.YtplgheabhekedaaGreatDoor
