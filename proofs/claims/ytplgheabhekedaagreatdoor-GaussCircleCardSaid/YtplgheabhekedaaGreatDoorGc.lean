/-
  Numbers of four parts that are handed in: what gauss.Check, check, the costs, reckon, Add, Sub, Mul, Quo, Norm, Conj, SameGauss return. Conditions: that they are fractions, and no longer than memory.
-/
import Derived.Test.YtplgheabhekedaaGreatDoorGa
import Derived.Deep.RegionHeld3
import Derived.Deep.DeepCutAuto
import Derived.BigRegion
namespace Go.Proofs.YtplgheabhekedaaGreatDoor
open Go.RowKit Nb
/-- May a number be? -/
noncomputable def chkg (a b : Fv) : Int := if chkv a = 0 then chkv b else 1
theorem chkv_two (a : Fv) : chkv a = 0 ∨ chkv a = 1 := chkF_two _ _ _ _
theorem chkg_two (a b : Fv) : chkg a b = 0 ∨ chkg a b = 1 := by
 unfold chkg
 rcases chkv_two a with h | h
 ·rw [if_pos h]; exact chkv_two b
 ·rw [if_neg (by omega)]; exact .inr rfl
theorem chkg_zero {a b : Fv} (h : chkg a b = 0) : okv a ∧ okv b := by
 unfold chkg at h
 rcases chkv_two a with k | k
 ·rw [if_pos k] at h; exact ⟨chkv_zero k, chkv_zero h⟩
 ·rw [if_neg (by omega)] at h; omega
theorem chkg_ok {a b : Fv} (h : okv a) (k : okv b) : chkg a b = 0 := by
 unfold chkg; rw [chkv_ok h, if_pos rfl, chkv_ok k]
theorem wrap_small {x : Int} (h0 : -9223372036854775808 ≤ x) (h1 : x ≤ 9223372036854775807) : IntKind.i64.wrap x = x := by
 rw [IntKind.wrap_i64]; omega
set_option maxHeartbeats 1000000 in
theorem isize_val (n : Bool) (A : Option Addr) (l c : Nat) (w : World) (hl : (l : Int) ≤ 140737488351232) :
  Calls Tryz.prog 41 #[big n A l c] w (fun e w' => e = .returned (.int .i64 (1 + (l : Int))) ∧ Below w.heap.size w w') := by
 go_enter Tryz.func41, Tryz.ntmps41
 go_wp2
 go_ret
 exact ⟨rfl, by go_grown⟩
set_option maxHeartbeats 8000000 in
set_option maxRecDepth 20000 in
theorem f_size {f : Fv} {w : World} (h : Fx w f) :
  Calls Tryz.prog 9 #[fv f] w (fun e w' => e = .returned (.int .i64 (2 + (f.xs.length : Int) + (f.ds.length : Int))) ∧ Below w.heap.size w w') := by
 have l1 : (f.xs.length : Int) ≤ 35184372087808 := by have := h.x.sz; omega
 have l2 : (f.ds.length : Int) ≤ 35184372087808 := by have := h.y.sz; omega
 have HL := Lib.hid (And.intro l1 l2)
 clear h l1 l2
 have BW : Below w.heap.size w w := Below.refl _ _
 obtain ⟨V1, e2, hb3, K4, -, -⟩ := alloc_new w [.bool f.n, .slice f.A f.xs.length f.c, .bool f.m, .slice f.B f.ds.length f.d] 26
 replace BW := BW.trans (hb3.mono BW.size)
 clear hb3
 go_enter Tryz.func9, Tryz.ntmps9
 go_wp2_with fail
 rw [← e2]
 clear e2
 refine wp_region_noPanic ?_
 have hb : Below V1.heap.size V1 V1.drew := (Below.refl _ _).drew
 replace K4 := K4.on hb
 replace BW := BW.trans (hb.mono BW.size)
 clear hb
 refine wp_region_held_drew (S := (fun wx => Cs wx (w.heap.size) 0 [.bool f.n, .slice f.A f.xs.length f.c, .bool f.m, .slice f.B f.ds.length f.d])) (by kernel_rfl) (by exact K4.cs) (fun hHeld => ?_)
 generalize V1.drew = Vd5 at *
 refine pT 0 ?_
 (try simp only [p0, p1, p2, p3])
 refine pT 1 ?_
 (try simp only [p0, p1, p2, p3])
 refine pT 3 ?_
 (try simp only [p0, p1, p2, p3])
 refine pT 4 ?_
 (try simp only [p0, p1, p2, p3])
 refine pR1 2 (fun K hK => ?_)
 go_simp
 (go_at_call 41; with_reducible refine (isize_val _ _ _ _ _ (by have := HL.out; omega)).mono ?_)
 rintro _ w6 ⟨rfl, hb⟩
 (try go_wp2_with fail)
 replace K4 := K4.on hb
 replace BW := BW.trans (hb.mono BW.size)
 clear hb
 refine hK.out _ _ (by exact K4.cs) (fun hHeld => ?_)
 clear hK
 (try simp only [p0, p1, p2, p3])
 refine pR1 5 (fun K hK => ?_)
 go_simp
 (go_at_call 41; with_reducible refine (isize_val _ _ _ _ _ (by have := HL.out; omega)).mono ?_)
 rintro _ w7 ⟨rfl, hb⟩
 (try go_wp2_with fail)
 replace K4 := K4.on hb
 replace BW := BW.trans (hb.mono BW.size)
 clear hb
 refine hK.out _ _ (by exact K4.cs) (fun hHeld => ?_)
 clear hK
 (try simp only [p0, p1, p2, p3])
 refine pT 6 ?_
 (try simp only [p0, p1, p2, p3])
 refine pT 7 ?_
 (try simp only [p0, p1, p2, p3])
 refine wpAnyH_done (by kernel_rfl) (NoPanic.normal ?_) _
 go_wp2
 go_ret
 exact ⟨congrArg (fun z => Ending.returned (.int .i64 z)) ((wrap_small (x := 1 + (f.xs.length : Int) + (1 + (f.ds.length : Int))) (by have := HL.out; omega) (by have := HL.out; omega)).trans (by omega)), BW⟩
set_option maxHeartbeats 8000000 in
set_option maxRecDepth 20000 in
theorem g_chk1 {a : Fv} {w : World} (Fa : Fx w a) :
  Calls Tryz.prog 123 #[fv a] w (fun e w' => e = .returned (.tuple #[fv a, .int .i64 (chkv a)]) ∧ Below w.heap.size w w') := by
 have BW : Below w.heap.size w w := Below.refl _ _
 obtain ⟨V2, e3, hb4, K5, -, z1⟩ := alloc_new w [.bool a.n, .slice a.A a.xs.length a.c, .bool a.m, .slice a.B a.ds.length a.d] 26
 replace Fa := Fa.kp (Kept.of hb4)
 replace BW := BW.trans (hb4.mono BW.size)
 clear hb4
 obtain ⟨V6, e7, hb8, K9, Z10, -⟩ := alloc_new V2 [.bool false, .slice none 0 0, .bool false, .slice none 0 0] 26
 rw [z1] at K9 Z10
 have n11 : w.heap.size ≠ w.heap.size + 1 := Nat.ne_of_lt (z1 ▸ K5.lt)
 have g12 : w.heap.size ≤ w.heap.size + 1 := z1 ▸ BW.size
 replace K5 := K5.on hb8
 replace Fa := Fa.kp (Kept.of hb8)
 replace BW := BW.trans (hb8.mono BW.size)
 clear hb8
 clear z1
 go_enter Tryz.func123, Tryz.ntmps123
 go_wp2_with fail
 rw [← e3, ← e7]
 clear e3 e7
 refine wp_region_noPanic ?_
 have hb : Below V6.heap.size V6 V6.drew := (Below.refl _ _).drew
 replace K5 := K5.on hb
 replace K9 := K9.on hb
 replace Z10 := Z10.on hb
 replace Fa := Fa.kp (Kept.of hb)
 replace BW := BW.trans (hb.mono BW.size)
 clear hb
 refine wp_region_held_drew (S := (fun wx => Cs wx (w.heap.size) 0 [.bool a.n, .slice a.A a.xs.length a.c, .bool a.m, .slice a.B a.ds.length a.d])) (by kernel_rfl) (by exact K5.cs) (fun hHeld => ?_)
 generalize V6.drew = Vd13 at *
 refine pT 0 ?_
 (try simp only [p0, p1, p2, p3])
 refine pT 1 ?_
 (try simp only [p0, p1, p2, p3])
 refine pR1 2 (fun K hK => ?_)
 go_simp
 (go_at_call 10; with_reducible refine (r_check Fa).mono ?_)
 rintro _ w14 ⟨rfl, hb⟩
 (try go_wp2_with fail)
 replace K5 := K5.on hb
 replace K9 := K9.on hb
 replace Z10 := Z10.on hb
 replace BW := BW.trans (hb.mono BW.size)
 clear hb
 refine hK.out _ _ (by exact K5.cs) (fun hHeld => ?_)
 clear hK
 (try simp only [p0, p1, p2, p3])
 refine pR1 3 (fun K hK => ?_)
 obtain ⟨c15, c16, c17, c18⟩ := K9.c4
 obtain ⟨c19, c20, c21, c22⟩ := Z10.f4
 go_simp
 clear c15 c16 c17 c18 c19 c20 c21 c22
 obtain ⟨V23, hk25⟩ : ∃ V23, V23 = w14.setCells (w.heap.size + 1) 0 [.bool a.n, .slice a.A a.xs.length a.c, .bool a.m, .slice a.B a.ds.length a.d] := ⟨_, rfl⟩
 have e24 := hk25
 simp only [World.setCells, Nat.zero_add, Nat.reduceAdd] at e24
 have hk26 := Kept.overE hk25 K9 rfl (by simp)
 replace K5 := K5.awayE hk25 n11
 replace K9 := K9.overE hk25 rfl
 replace BW := Below.putE BW hk25 g12
 clear hk25 hk26
 rw [← e24]
 clear e24
 refine hK.out _ _ (by exact K5.cs) (fun hHeld => ?_)
 clear hK
 (try simp only [p0, p1, p2, p3])
 refine pT 4 ?_
 (try simp only [p0, p1, p2, p3])
 refine wpAnyH_done (by kernel_rfl) (NoPanic.normal ?_) _
 go_wp2
 obtain ⟨c27, c28, c29, c30⟩ := K9.c4
 exact bodyPost_ret (v := .tuple #[fv a, .int .i64 (chkv a)]) (by simp [results, Tryz.results123, go_sem, c27, c28, c29, c30]) rfl ⟨rfl, BW⟩
set_option maxHeartbeats 8000000 in
set_option maxRecDepth 20000 in
theorem g_bothchk {a b : Fv} {w : World} (Fa : Fx w a) (Fb : Fx w b) :
  Calls Tryz.prog 122 #[fv a, fv b, .func (.func 123) #[] #[]] w (fun e w' => ∃ f g : Fv, e = .returned (.tuple #[fv f, fv g, .int .i64 (chkg a b)]) ∧ Below w.heap.size w w') := by
 obtain ⟨G, hG⟩ : ∃ G, chkg a b = G := ⟨_, rfl⟩
 rw [hG]
 have HG := Lib.hid hG
 clear hG
 have BW : Below w.heap.size w w := Below.refl _ _
 obtain ⟨V2, e3, hb4, K5, -, z1⟩ := alloc_new w [.bool a.n, .slice a.A a.xs.length a.c, .bool a.m, .slice a.B a.ds.length a.d] 26
 replace Fa := Fa.kp (Kept.of hb4)
 replace Fb := Fb.kp (Kept.of hb4)
 replace BW := BW.trans (hb4.mono BW.size)
 clear hb4
 obtain ⟨V7, e8, hb9, K10, -, z6⟩ := alloc_new V2 [.bool b.n, .slice b.A b.xs.length b.c, .bool b.m, .slice b.B b.ds.length b.d] 26
 rw [z1] at K10 z6
 replace K5 := K5.on hb9
 replace Fa := Fa.kp (Kept.of hb9)
 replace Fb := Fb.kp (Kept.of hb9)
 replace BW := BW.trans (hb9.mono BW.size)
 clear hb9
 obtain ⟨V12, e13, hb14, K15, Z16, z11⟩ := alloc_new V7 [.bool false, .slice none 0 0, .bool false, .slice none 0 0] 26
 rw [z6] at K15 Z16 z11
 have n17 : w.heap.size ≠ w.heap.size + 1 + 1 := Nat.ne_of_lt (z6 ▸ K5.lt)
 have n18 : w.heap.size + 1 ≠ w.heap.size + 1 + 1 := Nat.ne_of_lt (z6 ▸ K10.lt)
 have g19 : w.heap.size ≤ w.heap.size + 1 + 1 := z6 ▸ BW.size
 replace K5 := K5.on hb14
 replace K10 := K10.on hb14
 replace Fa := Fa.kp (Kept.of hb14)
 replace Fb := Fb.kp (Kept.of hb14)
 replace BW := BW.trans (hb14.mono BW.size)
 clear hb14
 obtain ⟨V20, e21, hb22, K23, Z24, -⟩ := alloc_new V12 [.bool false, .slice none 0 0, .bool false, .slice none 0 0] 26
 rw [z11] at K23 Z24
 have n25 : w.heap.size ≠ w.heap.size + 1 + 1 + 1 := Nat.ne_of_lt (z11 ▸ K5.lt)
 have n26 : w.heap.size + 1 ≠ w.heap.size + 1 + 1 + 1 := Nat.ne_of_lt (z11 ▸ K10.lt)
 have n27 : w.heap.size + 1 + 1 ≠ w.heap.size + 1 + 1 + 1 := Nat.ne_of_lt (z11 ▸ K15.lt)
 have g28 : w.heap.size ≤ w.heap.size + 1 + 1 + 1 := z11 ▸ BW.size
 replace K10 := K10.on hb22
 replace K15 := K15.on hb22
 replace Z16 := Z16.on hb22
 replace Fa := Fa.kp (Kept.of hb22)
 replace Fb := Fb.kp (Kept.of hb22)
 replace BW := BW.trans (hb22.mono BW.size)
 clear hb22
 clear z1 z6 z11
 go_enter Tryz.func122, Tryz.ntmps122
 go_wp2_with fail
 rw [← e3, ← e8, ← e13, ← e21]
 clear e3 e8 e13 e21
 refine (g_chk1 Fa).mono ?_
 rintro _ w29 ⟨rfl, hb⟩
 replace K10 := K10.on hb
 replace K15 := K15.on hb
 replace K23 := K23.on hb
 replace Z16 := Z16.on hb
 replace Z24 := Z24.on hb
 replace Fb := Fb.kp (Kept.of hb)
 replace BW := BW.trans (hb.mono BW.size)
 clear hb
 obtain ⟨c30, c31, c32, c33⟩ := K15.c4
 obtain ⟨c34, c35, c36, c37⟩ := Z16.f4
 obtain ⟨V38, hk40⟩ : ∃ V38, V38 = w29.setCells (w.heap.size + 1 + 1) 0 [.bool a.n, .slice a.A a.xs.length a.c, .bool a.m, .slice a.B a.ds.length a.d] := ⟨_, rfl⟩
 have e39 := hk40
 simp only [World.setCells, Nat.zero_add, Nat.reduceAdd] at e39
 have hk41 := Kept.overE hk40 K15 rfl (by simp)
 replace K10 := K10.awayE hk40 n18
 replace K15 := K15.overE hk40 rfl
 replace K23 := K23.awayE hk40 n27.symm
 replace Z16 := Z16.putE hk40
 replace Z24 := Z24.putE hk40
 replace Fb := Fb.kp hk41
 replace BW := Below.putE BW hk40 g19
 clear hk40 hk41
 obtain ⟨c42, c43, c44, c45⟩ := K10.c4
 rw [e39] at c42 c43 c44 c45
 go_wp2_with fail
 clear c30 c31 c32 c33 c34 c35 c36 c37 c42 c43 c44 c45
 rw [← e39]
 clear e39
 refine (g_chk1 Fb).mono ?_
 rintro _ w46 ⟨rfl, hb⟩
 replace K15 := K15.on hb
 replace K23 := K23.on hb
 replace Z16 := Z16.on hb
 replace Z24 := Z24.on hb
 replace BW := BW.trans (hb.mono BW.size)
 clear hb
 have k1 := chkv_two a
 have k2 := chkv_two b
 have hG := HG.out
 clear HG
 unfold chkg at hG
 generalize chkv a = s at *
 generalize chkv b = t at *
 rcases k1 with rfl | rfl <;> rcases k2 with rfl | rfl
 ·obtain rfl : G = 0 := by simpa using hG.symm
  clear hG
  obtain ⟨c47, c48, c49, c50⟩ := K23.c4
  obtain ⟨c51, c52, c53, c54⟩ := Z24.f4
  obtain ⟨V55, hk57⟩ : ∃ V55, V55 = w46.setCells (w.heap.size + 1 + 1 + 1) 0 [.bool b.n, .slice b.A b.xs.length b.c, .bool b.m, .slice b.B b.ds.length b.d] := ⟨_, rfl⟩
  have e56 := hk57
  simp only [World.setCells, Nat.zero_add, Nat.reduceAdd] at e56
  have hk58 := Kept.overE hk57 K23 rfl (by simp)
  replace K15 := K15.awayE hk57 n27
  replace K23 := K23.overE hk57 rfl
  replace Z16 := Z16.putE hk57
  replace Z24 := Z24.putE hk57
  replace BW := Below.putE BW hk57 g28
  clear hk57 hk58
  go_wp2_with fail
  clear c47 c48 c49 c50 c51 c52 c53 c54
  rw [← e56]
  clear e56
  refine wp_region_noPanic ?_
  have hb : Below V55.heap.size V55 V55.drew := (Below.refl _ _).drew
  replace K15 := K15.on hb
  replace K23 := K23.on hb
  replace Z16 := Z16.on hb
  replace Z24 := Z24.on hb
  replace BW := BW.trans (hb.mono BW.size)
  clear hb
  refine wp_region_held_drew (S := (fun wx => Cs wx (w.heap.size + 1 + 1) 0 [.bool a.n, .slice a.A a.xs.length a.c, .bool a.m, .slice a.B a.ds.length a.d] ∧ Cs wx (w.heap.size + 1 + 1 + 1) 0 [.bool b.n, .slice b.A b.xs.length b.c, .bool b.m, .slice b.B b.ds.length b.d])) (by kernel_rfl) (by exact ⟨K15.cs, K23.cs⟩) (fun hHeld => ?_)
  generalize V55.drew = Vd59 at *
  refine pT 0 ?_
  (try simp only [p0, p1, p2, p3])
  refine pT 1 ?_
  (try simp only [p0, p1, p2, p3])
  refine pR1 2 (fun K hK => ?_)
  obtain ⟨c60, c61, c62, c63⟩ := K15.c4
  obtain ⟨c64, c65, c66, c67⟩ := Z16.f4
  go_simp
  clear c60 c61 c62 c63 c64 c65 c66 c67
  obtain ⟨V68, hk70⟩ : ∃ V68, V68 = Vd59.setCells (w.heap.size + 1 + 1) 0 [.bool a.n, .slice a.A a.xs.length a.c, .bool a.m, .slice a.B a.ds.length a.d] := ⟨_, rfl⟩
  have e69 := hk70
  simp only [World.setCells, Nat.zero_add, Nat.reduceAdd] at e69
  have hk71 := Kept.overE hk70 K15 rfl (by simp)
  replace K15 := K15.overE hk70 rfl
  replace K23 := K23.awayE hk70 n27.symm
  replace Z24 := Z24.putE hk70
  replace BW := Below.putE BW hk70 g19
  clear hk70 hk71
  rw [← e69]
  clear e69
  refine hK.out _ _ (by exact ⟨K15.cs, K23.cs⟩) (fun hHeld => ?_)
  clear hK
  (try simp only [p0, p1, p2, p3])
  refine pR1 3 (fun K hK => ?_)
  obtain ⟨c72, c73, c74, c75⟩ := K23.c4
  obtain ⟨c76, c77, c78, c79⟩ := Z24.f4
  go_simp
  clear c72 c73 c74 c75 c76 c77 c78 c79
  obtain ⟨V80, hk82⟩ : ∃ V80, V80 = V68.setCells (w.heap.size + 1 + 1 + 1) 0 [.bool b.n, .slice b.A b.xs.length b.c, .bool b.m, .slice b.B b.ds.length b.d] := ⟨_, rfl⟩
  have e81 := hk82
  simp only [World.setCells, Nat.zero_add, Nat.reduceAdd] at e81
  have hk83 := Kept.overE hk82 K23 rfl (by simp)
  replace K15 := K15.awayE hk82 n27
  replace K23 := K23.overE hk82 rfl
  replace BW := Below.putE BW hk82 g28
  clear hk82 hk83
  rw [← e81]
  clear e81
  refine hK.out _ _ (by exact ⟨K15.cs, K23.cs⟩) (fun hHeld => ?_)
  clear hK
  (try simp only [p0, p1, p2, p3])
  refine pT 4 ?_
  (try simp only [p0, p1, p2, p3])
  refine wpAnyH_done (by kernel_rfl) (NoPanic.normal ?_) _
  go_wp2
  obtain ⟨c84, c85, c86, c87⟩ := K15.c4
  obtain ⟨c88, c89, c90, c91⟩ := K23.c4
  exact bodyPost_ret (v := .tuple #[fv a, fv b, .int .i64 0]) (by simp [results, Tryz.results122, go_sem, c84, c85, c86, c87, c88, c89, c90, c91]) rfl ⟨a, b, rfl, BW⟩
 ·obtain rfl : G = 1 := by simpa using hG.symm
  clear hG
  obtain ⟨c47, c48, c49, c50⟩ := K23.c4
  obtain ⟨c51, c52, c53, c54⟩ := Z24.f4
  obtain ⟨V55, hk57⟩ : ∃ V55, V55 = w46.setCells (w.heap.size + 1 + 1 + 1) 0 [.bool b.n, .slice b.A b.xs.length b.c, .bool b.m, .slice b.B b.ds.length b.d] := ⟨_, rfl⟩
  have e56 := hk57
  simp only [World.setCells, Nat.zero_add, Nat.reduceAdd] at e56
  have hk58 := Kept.overE hk57 K23 rfl (by simp)
  replace K15 := K15.awayE hk57 n27
  replace K23 := K23.overE hk57 rfl
  replace Z16 := Z16.putE hk57
  replace Z24 := Z24.putE hk57
  replace BW := Below.putE BW hk57 g28
  have z59 : V55.heap.size = w46.heap.size := by rw [hk57, size_setCells]
  clear hk57 hk58
  obtain ⟨V60, e61, hb62, K63, -, -⟩ := alloc_new V55 [.bool false, .slice none 0 0, .bool false, .slice none 0 0] 26
  rw [z59] at K63
  have n64 : w.heap.size + 1 + 1 ≠ w46.heap.size := Nat.ne_of_lt (z59 ▸ K15.lt)
  have n65 : w.heap.size + 1 + 1 + 1 ≠ w46.heap.size := Nat.ne_of_lt (z59 ▸ K23.lt)
  replace K15 := K15.on hb62
  replace K23 := K23.on hb62
  replace Z16 := Z16.on hb62
  replace Z24 := Z24.on hb62
  replace BW := BW.trans (hb62.mono BW.size)
  clear hb62
  clear z59
  go_wp2_with fail
  clear c47 c48 c49 c50 c51 c52 c53 c54
  rw [← e56, ← e61]
  clear e56 e61
  generalize w46.heap.size = b66 at *
  refine wp_region_noPanic ?_
  have hb : Below V60.heap.size V60 V60.drew := (Below.refl _ _).drew
  replace K15 := K15.on hb
  replace K23 := K23.on hb
  replace K63 := K63.on hb
  replace Z16 := Z16.on hb
  replace Z24 := Z24.on hb
  replace BW := BW.trans (hb.mono BW.size)
  clear hb
  refine wp_region_held_drew (S := (fun wx => Cs wx (b66) 0 [.bool false, .slice none 0 0, .bool false, .slice none 0 0])) (by kernel_rfl) (by exact K63.cs) (fun hHeld => ?_)
  generalize V60.drew = Vd67 at *
  refine pT 0 ?_
  (try simp only [p0, p1, p2, p3])
  refine pT 1 ?_
  (try simp only [p0, p1, p2, p3])
  refine pT 2 ?_
  (try simp only [p0, p1, p2, p3])
  refine pR1 3 (fun K hK => ?_)
  obtain ⟨c68, c69, c70, c71⟩ := K15.c4
  obtain ⟨c72, c73, c74, c75⟩ := Z16.f4
  go_simp
  clear c68 c69 c70 c71 c72 c73 c74 c75
  obtain ⟨V76, hk78⟩ : ∃ V76, V76 = Vd67.setCells (w.heap.size + 1 + 1) 0 [.bool false, .slice none 0 0, .bool false, .slice none 0 0] := ⟨_, rfl⟩
  have e77 := hk78
  simp only [World.setCells, Nat.zero_add, Nat.reduceAdd] at e77
  have hk79 := Kept.overE hk78 K15 rfl (by simp)
  replace K15 := K15.overE hk78 rfl
  replace K23 := K23.awayE hk78 n27.symm
  replace K63 := K63.awayE hk78 n64.symm
  replace Z24 := Z24.putE hk78
  replace BW := Below.putE BW hk78 g19
  clear hk78 hk79
  rw [← e77]
  clear e77
  refine hK.out _ _ (by exact K63.cs) (fun hHeld => ?_)
  clear hK
  (try simp only [p0, p1, p2, p3])
  refine pR1 4 (fun K hK => ?_)
  obtain ⟨c80, c81, c82, c83⟩ := K23.c4
  obtain ⟨c84, c85, c86, c87⟩ := Z24.f4
  go_simp
  clear c80 c81 c82 c83 c84 c85 c86 c87
  obtain ⟨V88, hk90⟩ : ∃ V88, V88 = V76.setCells (w.heap.size + 1 + 1 + 1) 0 [.bool false, .slice none 0 0, .bool false, .slice none 0 0] := ⟨_, rfl⟩
  have e89 := hk90
  simp only [World.setCells, Nat.zero_add, Nat.reduceAdd] at e89
  have hk91 := Kept.overE hk90 K23 rfl (by simp)
  replace K15 := K15.awayE hk90 n27
  replace K23 := K23.overE hk90 rfl
  replace K63 := K63.awayE hk90 n65.symm
  replace BW := Below.putE BW hk90 g28
  clear hk90 hk91
  rw [← e89]
  clear e89
  refine hK.out _ _ (by exact K63.cs) (fun hHeld => ?_)
  clear hK
  (try simp only [p0, p1, p2, p3])
  refine pT 5 ?_
  (try simp only [p0, p1, p2, p3])
  refine wpAnyH_done (by kernel_rfl) (NoPanic.normal ?_) _
  go_wp2
  obtain ⟨c92, c93, c94, c95⟩ := K15.c4
  obtain ⟨c96, c97, c98, c99⟩ := K23.c4
  exact bodyPost_ret (v := .tuple #[.agg #[.bool false, .slice none 0 0, .bool false, .slice none 0 0], .agg #[.bool false, .slice none 0 0, .bool false, .slice none 0 0], .int .i64 1]) (by simp [results, Tryz.results122, go_sem, c92, c93, c94, c95, c96, c97, c98, c99]) rfl ⟨fv0, fv0, rfl, BW⟩
 ·obtain rfl : G = 1 := by simpa using hG.symm
  clear hG
  obtain ⟨c47, c48, c49, c50⟩ := K23.c4
  obtain ⟨c51, c52, c53, c54⟩ := Z24.f4
  obtain ⟨V55, hk57⟩ : ∃ V55, V55 = w46.setCells (w.heap.size + 1 + 1 + 1) 0 [.bool b.n, .slice b.A b.xs.length b.c, .bool b.m, .slice b.B b.ds.length b.d] := ⟨_, rfl⟩
  have e56 := hk57
  simp only [World.setCells, Nat.zero_add, Nat.reduceAdd] at e56
  have hk58 := Kept.overE hk57 K23 rfl (by simp)
  replace K15 := K15.awayE hk57 n27
  replace K23 := K23.overE hk57 rfl
  replace Z16 := Z16.putE hk57
  replace Z24 := Z24.putE hk57
  replace BW := Below.putE BW hk57 g28
  have z59 : V55.heap.size = w46.heap.size := by rw [hk57, size_setCells]
  clear hk57 hk58
  obtain ⟨V60, e61, hb62, K63, -, -⟩ := alloc_new V55 [.bool false, .slice none 0 0, .bool false, .slice none 0 0] 26
  rw [z59] at K63
  have n64 : w.heap.size + 1 + 1 ≠ w46.heap.size := Nat.ne_of_lt (z59 ▸ K15.lt)
  have n65 : w.heap.size + 1 + 1 + 1 ≠ w46.heap.size := Nat.ne_of_lt (z59 ▸ K23.lt)
  replace K15 := K15.on hb62
  replace K23 := K23.on hb62
  replace Z16 := Z16.on hb62
  replace Z24 := Z24.on hb62
  replace BW := BW.trans (hb62.mono BW.size)
  clear hb62
  clear z59
  go_wp2_with fail
  clear c47 c48 c49 c50 c51 c52 c53 c54
  rw [← e56, ← e61]
  clear e56 e61
  generalize w46.heap.size = b66 at *
  refine wp_region_noPanic ?_
  have hb : Below V60.heap.size V60 V60.drew := (Below.refl _ _).drew
  replace K15 := K15.on hb
  replace K23 := K23.on hb
  replace K63 := K63.on hb
  replace Z16 := Z16.on hb
  replace Z24 := Z24.on hb
  replace BW := BW.trans (hb.mono BW.size)
  clear hb
  refine wp_region_held_drew (S := (fun wx => Cs wx (b66) 0 [.bool false, .slice none 0 0, .bool false, .slice none 0 0])) (by kernel_rfl) (by exact K63.cs) (fun hHeld => ?_)
  generalize V60.drew = Vd67 at *
  refine pT 0 ?_
  (try simp only [p0, p1, p2, p3])
  refine pT 1 ?_
  (try simp only [p0, p1, p2, p3])
  refine pT 2 ?_
  (try simp only [p0, p1, p2, p3])
  refine pR1 3 (fun K hK => ?_)
  obtain ⟨c68, c69, c70, c71⟩ := K15.c4
  obtain ⟨c72, c73, c74, c75⟩ := Z16.f4
  go_simp
  clear c68 c69 c70 c71 c72 c73 c74 c75
  obtain ⟨V76, hk78⟩ : ∃ V76, V76 = Vd67.setCells (w.heap.size + 1 + 1) 0 [.bool false, .slice none 0 0, .bool false, .slice none 0 0] := ⟨_, rfl⟩
  have e77 := hk78
  simp only [World.setCells, Nat.zero_add, Nat.reduceAdd] at e77
  have hk79 := Kept.overE hk78 K15 rfl (by simp)
  replace K15 := K15.overE hk78 rfl
  replace K23 := K23.awayE hk78 n27.symm
  replace K63 := K63.awayE hk78 n64.symm
  replace Z24 := Z24.putE hk78
  replace BW := Below.putE BW hk78 g19
  clear hk78 hk79
  rw [← e77]
  clear e77
  refine hK.out _ _ (by exact K63.cs) (fun hHeld => ?_)
  clear hK
  (try simp only [p0, p1, p2, p3])
  refine pR1 4 (fun K hK => ?_)
  obtain ⟨c80, c81, c82, c83⟩ := K23.c4
  obtain ⟨c84, c85, c86, c87⟩ := Z24.f4
  go_simp
  clear c80 c81 c82 c83 c84 c85 c86 c87
  obtain ⟨V88, hk90⟩ : ∃ V88, V88 = V76.setCells (w.heap.size + 1 + 1 + 1) 0 [.bool false, .slice none 0 0, .bool false, .slice none 0 0] := ⟨_, rfl⟩
  have e89 := hk90
  simp only [World.setCells, Nat.zero_add, Nat.reduceAdd] at e89
  have hk91 := Kept.overE hk90 K23 rfl (by simp)
  replace K15 := K15.awayE hk90 n27
  replace K23 := K23.overE hk90 rfl
  replace K63 := K63.awayE hk90 n65.symm
  replace BW := Below.putE BW hk90 g28
  clear hk90 hk91
  rw [← e89]
  clear e89
  refine hK.out _ _ (by exact K63.cs) (fun hHeld => ?_)
  clear hK
  (try simp only [p0, p1, p2, p3])
  refine pT 5 ?_
  (try simp only [p0, p1, p2, p3])
  refine wpAnyH_done (by kernel_rfl) (NoPanic.normal ?_) _
  go_wp2
  obtain ⟨c92, c93, c94, c95⟩ := K15.c4
  obtain ⟨c96, c97, c98, c99⟩ := K23.c4
  exact bodyPost_ret (v := .tuple #[.agg #[.bool false, .slice none 0 0, .bool false, .slice none 0 0], .agg #[.bool false, .slice none 0 0, .bool false, .slice none 0 0], .int .i64 1]) (by simp [results, Tryz.results122, go_sem, c92, c93, c94, c95, c96, c97, c98, c99]) rfl ⟨fv0, fv0, rfl, BW⟩
 ·obtain rfl : G = 1 := by simpa using hG.symm
  clear hG
  obtain ⟨c47, c48, c49, c50⟩ := K23.c4
  obtain ⟨c51, c52, c53, c54⟩ := Z24.f4
  obtain ⟨V55, hk57⟩ : ∃ V55, V55 = w46.setCells (w.heap.size + 1 + 1 + 1) 0 [.bool b.n, .slice b.A b.xs.length b.c, .bool b.m, .slice b.B b.ds.length b.d] := ⟨_, rfl⟩
  have e56 := hk57
  simp only [World.setCells, Nat.zero_add, Nat.reduceAdd] at e56
  have hk58 := Kept.overE hk57 K23 rfl (by simp)
  replace K15 := K15.awayE hk57 n27
  replace K23 := K23.overE hk57 rfl
  replace Z16 := Z16.putE hk57
  replace Z24 := Z24.putE hk57
  replace BW := Below.putE BW hk57 g28
  have z59 : V55.heap.size = w46.heap.size := by rw [hk57, size_setCells]
  clear hk57 hk58
  obtain ⟨V60, e61, hb62, K63, -, -⟩ := alloc_new V55 [.bool false, .slice none 0 0, .bool false, .slice none 0 0] 26
  rw [z59] at K63
  have n64 : w.heap.size + 1 + 1 ≠ w46.heap.size := Nat.ne_of_lt (z59 ▸ K15.lt)
  have n65 : w.heap.size + 1 + 1 + 1 ≠ w46.heap.size := Nat.ne_of_lt (z59 ▸ K23.lt)
  replace K15 := K15.on hb62
  replace K23 := K23.on hb62
  replace Z16 := Z16.on hb62
  replace Z24 := Z24.on hb62
  replace BW := BW.trans (hb62.mono BW.size)
  clear hb62
  clear z59
  go_wp2_with fail
  clear c47 c48 c49 c50 c51 c52 c53 c54
  rw [← e56, ← e61]
  clear e56 e61
  generalize w46.heap.size = b66 at *
  refine wp_region_noPanic ?_
  have hb : Below V60.heap.size V60 V60.drew := (Below.refl _ _).drew
  replace K15 := K15.on hb
  replace K23 := K23.on hb
  replace K63 := K63.on hb
  replace Z16 := Z16.on hb
  replace Z24 := Z24.on hb
  replace BW := BW.trans (hb.mono BW.size)
  clear hb
  refine wp_region_held_drew (S := (fun wx => Cs wx (b66) 0 [.bool false, .slice none 0 0, .bool false, .slice none 0 0])) (by kernel_rfl) (by exact K63.cs) (fun hHeld => ?_)
  generalize V60.drew = Vd67 at *
  refine pT 0 ?_
  (try simp only [p0, p1, p2, p3])
  refine pT 1 ?_
  (try simp only [p0, p1, p2, p3])
  refine pT 2 ?_
  (try simp only [p0, p1, p2, p3])
  refine pR1 3 (fun K hK => ?_)
  obtain ⟨c68, c69, c70, c71⟩ := K15.c4
  obtain ⟨c72, c73, c74, c75⟩ := Z16.f4
  go_simp
  clear c68 c69 c70 c71 c72 c73 c74 c75
  obtain ⟨V76, hk78⟩ : ∃ V76, V76 = Vd67.setCells (w.heap.size + 1 + 1) 0 [.bool false, .slice none 0 0, .bool false, .slice none 0 0] := ⟨_, rfl⟩
  have e77 := hk78
  simp only [World.setCells, Nat.zero_add, Nat.reduceAdd] at e77
  have hk79 := Kept.overE hk78 K15 rfl (by simp)
  replace K15 := K15.overE hk78 rfl
  replace K23 := K23.awayE hk78 n27.symm
  replace K63 := K63.awayE hk78 n64.symm
  replace Z24 := Z24.putE hk78
  replace BW := Below.putE BW hk78 g19
  clear hk78 hk79
  rw [← e77]
  clear e77
  refine hK.out _ _ (by exact K63.cs) (fun hHeld => ?_)
  clear hK
  (try simp only [p0, p1, p2, p3])
  refine pR1 4 (fun K hK => ?_)
  obtain ⟨c80, c81, c82, c83⟩ := K23.c4
  obtain ⟨c84, c85, c86, c87⟩ := Z24.f4
  go_simp
  clear c80 c81 c82 c83 c84 c85 c86 c87
  obtain ⟨V88, hk90⟩ : ∃ V88, V88 = V76.setCells (w.heap.size + 1 + 1 + 1) 0 [.bool false, .slice none 0 0, .bool false, .slice none 0 0] := ⟨_, rfl⟩
  have e89 := hk90
  simp only [World.setCells, Nat.zero_add, Nat.reduceAdd] at e89
  have hk91 := Kept.overE hk90 K23 rfl (by simp)
  replace K15 := K15.awayE hk90 n27
  replace K23 := K23.overE hk90 rfl
  replace K63 := K63.awayE hk90 n65.symm
  replace BW := Below.putE BW hk90 g28
  clear hk90 hk91
  rw [← e89]
  clear e89
  refine hK.out _ _ (by exact K63.cs) (fun hHeld => ?_)
  clear hK
  (try simp only [p0, p1, p2, p3])
  refine pT 5 ?_
  (try simp only [p0, p1, p2, p3])
  refine wpAnyH_done (by kernel_rfl) (NoPanic.normal ?_) _
  go_wp2
  obtain ⟨c92, c93, c94, c95⟩ := K15.c4
  obtain ⟨c96, c97, c98, c99⟩ := K23.c4
  exact bodyPost_ret (v := .tuple #[.agg #[.bool false, .slice none 0 0, .bool false, .slice none 0 0], .agg #[.bool false, .slice none 0 0, .bool false, .slice none 0 0], .int .i64 1]) (by simp [results, Tryz.results122, go_sem, c92, c93, c94, c95, c96, c97, c98, c99]) rfl ⟨fv0, fv0, rfl, BW⟩
set_option maxHeartbeats 8000000 in
set_option maxRecDepth 20000 in
theorem g_check {a b : Fv} {w : World} (Fa : Fx w a) (Fb : Fx w b) :
  Calls Tryz.prog 54 #[gv a b] w (fun e w' => e = .returned (.int .i64 (chkg a b)) ∧ Below w.heap.size w w') := by
 have BW : Below w.heap.size w w := Below.refl _ _
 obtain ⟨V1, e2, hb3, K4, -, -⟩ := alloc_new w [.bool a.n, .slice a.A a.xs.length a.c, .bool a.m, .slice a.B a.ds.length a.d, .bool b.n, .slice b.A b.xs.length b.c, .bool b.m, .slice b.B b.ds.length b.d] 33
 replace Fa := Fa.kp (Kept.of hb3)
 replace Fb := Fb.kp (Kept.of hb3)
 replace BW := BW.trans (hb3.mono BW.size)
 clear hb3
 go_enter Tryz.func54, Tryz.ntmps54
 go_wp2_with fail
 rw [← e2]
 clear e2
 refine (g_bothchk Fa Fb).mono ?_
 rintro _ w5 ⟨f, g, rfl, hb⟩
 replace BW := BW.trans (hb.mono BW.size)
 clear hb
 obtain ⟨V7, e8, hb9, K10, -, z6⟩ := alloc_new w5 [.bool f.n, .slice f.A f.xs.length f.c, .bool f.m, .slice f.B f.ds.length f.d] 26
 replace BW := BW.trans (hb9.mono BW.size)
 clear hb9
 obtain ⟨V11, e12, hb13, K14, -, -⟩ := alloc_new V7 [.bool g.n, .slice g.A g.xs.length g.c, .bool g.m, .slice g.B g.ds.length g.d] 26
 rw [z6] at K14
 replace BW := BW.trans (hb13.mono BW.size)
 clear hb13
 clear z6
 go_wp2_with fail
 rw [← e8, ← e12]
 clear e8 e12
 generalize w5.heap.size + 1 = b15 at *
 generalize w5.heap.size = b16 at *
 exact bodyPost_ret (v := .int .i64 (chkg a b)) (by simp [results, Tryz.results54, go_sem]) rfl ⟨rfl, BW⟩
set_option maxHeartbeats 8000000 in
set_option maxRecDepth 20000 in
theorem g_checks {a b c d : Fv} {g l : Nat} {w : World} (Fa : Fx w a) (Fb : Fx w b) (Fc : Fx w c) (Fd : Fx w d) (K : Box w g [.bool a.n, .slice a.A a.xs.length a.c, .bool a.m, .slice a.B a.ds.length a.d, .bool b.n, .slice b.A b.xs.length b.c, .bool b.m, .slice b.B b.ds.length b.d, .bool c.n, .slice c.A c.xs.length c.c, .bool c.m, .slice c.B c.ds.length c.d, .bool d.n, .slice d.A d.xs.length d.c, .bool d.m, .slice d.B d.ds.length d.d]) :
  Calls Tryz.prog 118 #[.slice (some ⟨g, 0, none⟩) 2 l] w fun e w' => e = .returned (.int .i64 (if chkg a b = 0 then chkg c d else 1)) ∧ Below w.heap.size w w' := by
 have k1 := chkg_two a b
 have k2 := chkg_two c d
 have C1 := Lib.hid (fun (W : World) (h : Fx W a) (k : Fx W b) => g_check h k)
 have C2 := Lib.hid (fun (W : World) (h : Fx W c) (k : Fx W d) => g_check h k)
 have HK := Lib.hid K
 generalize chkg a b = s at *
 generalize chkg c d = t at *
 have c0 := K.c 0 _ rfl
 have c1 := K.c 1 _ rfl
 have c2 := K.c 2 _ rfl
 have c3 := K.c 3 _ rfl
 have c4 := K.c 4 _ rfl
 have c5 := K.c 5 _ rfl
 have c6 := K.c 6 _ rfl
 have c7 := K.c 7 _ rfl
 have c8 := K.c 8 _ rfl
 have c9 := K.c 9 _ rfl
 have c10 := K.c 10 _ rfl
 have c11 := K.c 11 _ rfl
 have c12 := K.c 12 _ rfl
 have c13 := K.c 13 _ rfl
 have c14 := K.c 14 _ rfl
 have c15 := K.c 15 _ rfl
 clear K
 go_enter Tryz.func118, Tryz.ntmps118
 go_wp2
 refine wp_loop_rounds 3 ?_
 rw [rounds_succ]
 go_wp2_with fail
 refine (C1.out _ (Fa.kp (Kept.of ((Below.refl _ _).alloc (Nat.le_refl _) _))) (Fb.kp (Kept.of ((Below.refl _ _).alloc (Nat.le_refl _) _)))).mono ?_
 rintro e w1 ⟨rfl, hb1⟩
 have hbw : Below w.heap.size w w1 := by refine Below.trans ?_ (hb1.mono (by go_size)); go_grown
 have hz1 : w.heap.size < w1.heap.size := by have := hb1.size; simp at this; omega
 have K1 := HK.out.on hbw
 have d8 := K1.c 8 _ rfl
 have d9 := K1.c 9 _ rfl
 have d10 := K1.c 10 _ rfl
 have d11 := K1.c 11 _ rfl
 have d12 := K1.c 12 _ rfl
 have d13 := K1.c 13 _ rfl
 have d14 := K1.c 14 _ rfl
 have d15 := K1.c 15 _ rfl
 rcases k1 with rfl | rfl
 ·go_wp2
  rw [rounds_succ]
  go_wp2_with fail
  refine (C2.out _ ((Fc.kp (Kept.of hbw)).kp (Kept.of ((Below.refl _ _).alloc (Nat.le_refl _) _))) ((Fd.kp (Kept.of hbw)).kp (Kept.of ((Below.refl _ _).alloc (Nat.le_refl _) _)))).mono ?_
  rintro e w2 ⟨rfl, hb2⟩
  have hbw2 : Below w1.heap.size w1 w2 := by refine Below.trans ?_ (hb2.mono (by go_size)); go_grown
  rcases k2 with rfl | rfl
  ·go_wp2
   rw [rounds_succ]
   go_wp2
   go_ret
   exact ⟨rfl, hbw.trans (hbw2.mono hbw.size)⟩
  ·go_wp2
   go_ret
   exact ⟨rfl, hbw.trans (hbw2.mono hbw.size)⟩
 ·go_wp2
  go_ret
  exact ⟨rfl, hbw⟩
end Go.Proofs.YtplgheabhekedaaGreatDoor
namespace Go.Proofs.YtplgheabhekedaaGreatDoor
open Go.RowKit Nb
theorem g_check0 {a b : Fv} {q p : Rat} {w : World} (Fa : Ff w q a) (Fb : Ff w p b) : Calls Tryz.prog 54 #[gv a b] w (fun e w' => e = .returned (.int .i64 0) ∧ Below w.heap.size w w') := by
 have := g_check Fa.fx Fb.fx
 rwa [chkg_ok Fa.okv Fb.okv] at this
theorem g_checks0 {a b c d : Fv} {q p s t : Rat} {g l : Nat} {w : World} (Fa : Ff w q a) (Fb : Ff w p b) (Fc : Ff w s c) (Fd : Ff w t d) (K : Box w g [.bool a.n, .slice a.A a.xs.length a.c, .bool a.m, .slice a.B a.ds.length a.d, .bool b.n, .slice b.A b.xs.length b.c, .bool b.m, .slice b.B b.ds.length b.d, .bool c.n, .slice c.A c.xs.length c.c, .bool c.m, .slice c.B c.ds.length c.d, .bool d.n, .slice d.A d.xs.length d.c, .bool d.m, .slice d.B d.ds.length d.d]) :
  Calls Tryz.prog 118 #[.slice (some ⟨g, 0, none⟩) 2 l] w fun e w' => e = .returned (.int .i64 0) ∧ Below w.heap.size w w' := by
 have := g_checks (l := l) Fa.fx Fb.fx Fc.fx Fd.fx K
 rwa [chkg_ok Fa.okv Fb.okv, chkg_ok Fc.okv Fd.okv, if_pos rfl] at this
theorem rat_sq (s : Rat) : 0 ≤ s * s := by
 rcases Rat.le_total (a := 0) (b := s) with h | h
 ·exact Rat.mul_nonneg h h
 ·have h1 : 0 ≤ -s := by grind
  have := Rat.mul_nonneg h1 h1
  grind
theorem norm_pos {s t : Rat} (h : ¬ (s.num = 0 ∧ t.num = 0)) : (s * s + t * t).num ≠ 0 := by
 intro e
 have e1 : s * s + t * t = 0 := Rat.num_eq_zero.1 e
 have h1 := rat_sq s
 have h2 := rat_sq t
 have h3 : s * s = 0 := by grind
 have h4 : t * t = 0 := by grind
 have h5 : s = 0 := by grind
 have h6 : t = 0 := by grind
 exact h ⟨by rw [h5]; rfl, by rw [h6]; rfl⟩
/-- What is answered: the number, or the refusal. -/
def Gk (W : World) (bad : Prop) (z y : Rat) (f g : Fv) (er : Int) : Prop := (¬ bad ∧ FitsQ z ∧ FitsQ y ∧ er = 0 ∧ Ff W z f ∧ Ff W y g) ∨ ((bad ∧ er = 3 ∨ ¬ bad ∧ ¬ (FitsQ z ∧ FitsQ y) ∧ er = 4) ∧ f = fv0 ∧ g = fv0)
def GGk (w : World) (bad : Prop) (z y : Rat) (e : Ending) (w' : World) : Prop := ∃ (f g : Fv) (er : Int), e = .returned (.tuple #[gv f g, .int .i64 er]) ∧ Gk w' bad z y f g er ∧ Below w.heap.size w w'
theorem Gr.kp {W W' : World} {z y : Rat} {f g : Fv} {er : Int} (h : Gr W z y f g er) (k : Kept W W') : Gr W' z y f g er := by
 rcases h with ⟨h1, h2, h3, h4, h5⟩ | h
 ·exact .inl ⟨h1, h2, h3, h4.kp k, h5.kp k⟩
 ·exact .inr h
theorem Gr.gk {W : World} {z y : Rat} {f g : Fv} {er : Int} {bad : Prop} (h : Gr W z y f g er) (hb : ¬ bad) : Gk W bad z y f g er := by
 rcases h with ⟨h1, h2, h3, h4, h5⟩ | ⟨h1, h2, h3⟩
 ·exact .inl ⟨hb, h1, h2, h3, h4, h5⟩
 ·exact .inr ⟨.inr ⟨hb, h1, h2⟩, h3⟩
theorem Gk.kp {W W' : World} {z y : Rat} {f g : Fv} {er : Int} {bad : Prop} (h : Gk W bad z y f g er) (k : Kept W W') : Gk W' bad z y f g er := by
 rcases h with ⟨h0, h1, h2, h3, h4, h5⟩ | h
 ·exact .inl ⟨h0, h1, h2, h3, h4.kp k, h5.kp k⟩
 ·exact .inr h
theorem Gk.yes {W : World} {z y : Rat} {f g : Fv} {er : Int} {bad : Prop} (h : Gk W bad z y f g er) (hb : ¬ bad) (h1 : FitsQ z) (h2 : FitsQ y) : er = 0 ∧ Ff W z f ∧ Ff W y g := by
 rcases h with ⟨_, _, _, h3, h4, h5⟩ | ⟨⟨h, _⟩ | ⟨_, h, _⟩, _⟩
 ·exact ⟨h3, h4, h5⟩
 ·exact absurd h hb
 ·exact absurd ⟨h1, h2⟩ h
theorem Gk.bad3 {W : World} {z y : Rat} {f g : Fv} {er : Int} {bad : Prop} (h : Gk W bad z y f g er) (hb : bad) : er = 3 ∧ f = fv0 ∧ g = fv0 := by
 rcases h with ⟨h, _⟩ | ⟨⟨_, h1⟩ | ⟨h, _⟩, h2⟩
 ·exact absurd hb h
 ·exact ⟨h1, h2⟩
 ·exact absurd hb h
theorem GG.mono {w W : World} {q p : Rat} {C C' : Nat} {e : Ending} (h : GG w q p C e W) (hC : C ≤ C') : GG w q p C' e W := by
  obtain ⟨f, g, e, h1, h2, h3⟩ := h
  exact ⟨f, g, e, h1.mono hC, h2.mono hC, h3⟩
set_option maxHeartbeats 8000000 in
set_option maxRecDepth 20000 in
theorem g_reckon_any (N : Nat) (hN : ∀ (av : Array Value) (v : World), (callFunc N av).run Tryz.prog v = .ok (.enter N av) v) {q p s t z y : Rat}
  (hdo : ∀ (a b c d : Fv) (w : World), Fq w q a 1024 → Fq w p b 1024 → Fq w s c 1024 → Fq w t d 1024 → Calls Tryz.prog N #[gv a b, gv c d] w (GG w z y 8210))
   {a b c d : Fv} {w : World} (Fa : Ff w q a) (Fb : Ff w p b) (Fc : Ff w s c) (Fd : Ff w t d) :
  Calls Tryz.prog 113 #[gv a b, gv c d, .func (.func N) #[] #[]] w (GGr w z y) := by
 have HN := Lib.hid hN
 have HD := Lib.hid hdo
 clear hN hdo
 have BW : Below w.heap.size w w := Below.refl _ _
 obtain ⟨V2, e3, hb4, K5, -, z1⟩ := alloc_new w [.bool a.n, .slice a.A a.xs.length a.c, .bool a.m, .slice a.B a.ds.length a.d, .bool b.n, .slice b.A b.xs.length b.c, .bool b.m, .slice b.B b.ds.length b.d] 33
 replace Fa := Fa.kp (Kept.of hb4)
 replace Fb := Fb.kp (Kept.of hb4)
 replace Fc := Fc.kp (Kept.of hb4)
 replace Fd := Fd.kp (Kept.of hb4)
 replace BW := BW.trans (hb4.mono BW.size)
 clear hb4
 obtain ⟨V7, e8, hb9, K10, -, z6⟩ := alloc_new V2 [.bool c.n, .slice c.A c.xs.length c.c, .bool c.m, .slice c.B c.ds.length c.d, .bool d.n, .slice d.A d.xs.length d.c, .bool d.m, .slice d.B d.ds.length d.d] 33
 rw [z1] at K10 z6
 replace K5 := K5.on hb9
 replace Fa := Fa.kp (Kept.of hb9)
 replace Fb := Fb.kp (Kept.of hb9)
 replace Fc := Fc.kp (Kept.of hb9)
 replace Fd := Fd.kp (Kept.of hb9)
 replace BW := BW.trans (hb9.mono BW.size)
 clear hb9
 obtain ⟨V12, e13, hb14, K15, Z16, z11⟩ := alloc_new V7 [.bool false, .slice none 0 0, .bool false, .slice none 0 0, .bool false, .slice none 0 0, .bool false, .slice none 0 0] 33
 rw [z6] at K15 Z16 z11
 have n17 : w.heap.size ≠ w.heap.size + 1 + 1 := Nat.ne_of_lt (z6 ▸ K5.lt)
 have n18 : w.heap.size + 1 ≠ w.heap.size + 1 + 1 := Nat.ne_of_lt (z6 ▸ K10.lt)
 have g19 : w.heap.size ≤ w.heap.size + 1 + 1 := z6 ▸ BW.size
 replace K5 := K5.on hb14
 replace K10 := K10.on hb14
 replace Fa := Fa.kp (Kept.of hb14)
 replace Fb := Fb.kp (Kept.of hb14)
 replace Fc := Fc.kp (Kept.of hb14)
 replace Fd := Fd.kp (Kept.of hb14)
 replace BW := BW.trans (hb14.mono BW.size)
 clear hb14
 obtain ⟨V20, e21, hb22, K23, -, -⟩ := alloc_new V12 [.bool a.n, .slice a.A a.xs.length a.c, .bool a.m, .slice a.B a.ds.length a.d, .bool b.n, .slice b.A b.xs.length b.c, .bool b.m, .slice b.B b.ds.length b.d, .bool c.n, .slice c.A c.xs.length c.c, .bool c.m, .slice c.B c.ds.length c.d, .bool d.n, .slice d.A d.xs.length d.c, .bool d.m, .slice d.B d.ds.length d.d] 33
 rw [z11] at K23
 have n24 : w.heap.size + 1 + 1 ≠ w.heap.size + 1 + 1 + 1 := Nat.ne_of_lt (z11 ▸ K15.lt)
 replace K5 := K5.on hb22
 replace K10 := K10.on hb22
 replace K15 := K15.on hb22
 replace Z16 := Z16.on hb22
 replace Fa := Fa.kp (Kept.of hb22)
 replace Fb := Fb.kp (Kept.of hb22)
 replace Fc := Fc.kp (Kept.of hb22)
 replace Fd := Fd.kp (Kept.of hb22)
 replace BW := BW.trans (hb22.mono BW.size)
 clear hb22
 clear z1 z6 z11
 go_enter Tryz.func113, Tryz.ntmps113
 go_wp2_with fail
 rw [← e3, ← e8, ← e13, ← e21]
 clear e3 e8 e13 e21
 refine (g_checks0 Fa Fb Fc Fd K23).mono ?_
 rintro _ w25 ⟨rfl, hb⟩
 replace K5 := K5.on hb
 replace K10 := K10.on hb
 replace K15 := K15.on hb
 replace Z16 := Z16.on hb
 replace Fa := Fa.kp (Kept.of hb)
 replace Fb := Fb.kp (Kept.of hb)
 replace Fc := Fc.kp (Kept.of hb)
 replace Fd := Fd.kp (Kept.of hb)
 replace BW := BW.trans (hb.mono BW.size)
 clear hb
 go_wp2_with fail
 refine wp_region_noPanic ?_
 have hb : Below w25.heap.size w25 w25.drew := (Below.refl _ _).drew
 replace K5 := K5.on hb
 replace K10 := K10.on hb
 replace K15 := K15.on hb
 replace Z16 := Z16.on hb
 replace Fa := Fa.kp (Kept.of hb)
 replace Fb := Fb.kp (Kept.of hb)
 replace Fc := Fc.kp (Kept.of hb)
 replace Fd := Fd.kp (Kept.of hb)
 replace BW := BW.trans (hb.mono BW.size)
 clear hb
 refine wp_region_held_drew (S := (fun wx => Cs wx (w.heap.size) 0 [.bool a.n, .slice a.A a.xs.length a.c, .bool a.m, .slice a.B a.ds.length a.d, .bool b.n, .slice b.A b.xs.length b.c, .bool b.m, .slice b.B b.ds.length b.d] ∧ Cs wx (w.heap.size + 1) 0 [.bool c.n, .slice c.A c.xs.length c.c, .bool c.m, .slice c.B c.ds.length c.d, .bool d.n, .slice d.A d.xs.length d.c, .bool d.m, .slice d.B d.ds.length d.d])) (by kernel_rfl) (by exact ⟨K5.cs, K10.cs⟩) (fun hHeld => ?_)
 generalize w25.drew = Vd26 at *
 refine pT 0 ?_
 (try simp only [p0, p1, p2, p3])
 refine pT 1 ?_
 (try simp only [p0, p1, p2, p3])
 refine pT 3 ?_
 (try simp only [p0, p1, p2, p3])
 refine pR1 2 (fun K hK => ?_)
 go_simp
 (go_at_call 55; with_reducible refine (g_from Fa Fb).mono ?_)
 rintro _ w27 ⟨f1, f2, rfl, h1, h2, hb⟩
 (try go_wp2_with fail)
 replace K5 := K5.on hb
 replace K10 := K10.on hb
 replace K15 := K15.on hb
 replace Z16 := Z16.on hb
 replace Fc := Fc.kp (Kept.of hb)
 replace Fd := Fd.kp (Kept.of hb)
 replace BW := BW.trans (hb.mono BW.size)
 clear hb
 refine hK.out _ _ (by exact ⟨K5.cs, K10.cs⟩) (fun hHeld => ?_)
 clear hK
 (try simp only [p0, p1, p2, p3])
 refine pR1 4 (fun K hK => ?_)
 go_simp
 (go_at_call 55; with_reducible refine (g_from Fc Fd).mono ?_)
 rintro _ w28 ⟨f3, f4, rfl, h3, h4, hb⟩
 (try go_wp2_with fail)
 replace K5 := K5.on hb
 replace K10 := K10.on hb
 replace K15 := K15.on hb
 replace Z16 := Z16.on hb
 replace h1 := h1.kp (Kept.of hb)
 replace h2 := h2.kp (Kept.of hb)
 replace BW := BW.trans (hb.mono BW.size)
 clear hb
 refine hK.out _ _ (by exact ⟨K5.cs, K10.cs⟩) (fun hHeld => ?_)
 clear hK
 (try simp only [p0, p1, p2, p3])
 refine pR1 5 (fun K hK => ?_)
 go_simp
 rw [HN.out, Oper.upon_enter]
 with_reducible refine (HD.out _ _ _ _ _ h1 h2 h3 h4).mono ?_
 rintro _ w29 ⟨f5, f6, rfl, h5, h6, hb⟩
 (try go_wp2_with fail)
 replace K5 := K5.on hb
 replace K10 := K10.on hb
 replace K15 := K15.on hb
 replace Z16 := Z16.on hb
 replace BW := BW.trans (hb.mono BW.size)
 clear hb
 refine hK.out _ _ (by exact ⟨K5.cs, K10.cs⟩) (fun hHeld => ?_)
 clear hK
 (try simp only [p0, p1, p2, p3])
 refine pR1 6 (fun K hK => ?_)
 go_simp
 (go_at_call 53; with_reducible refine (g_fit h5 h6 (by decide)).mono ?_)
 rintro _ w30 ⟨f7, f8, er, rfl, h7, hb⟩
 (try go_wp2_with fail)
 replace K5 := K5.on hb
 replace K10 := K10.on hb
 replace K15 := K15.on hb
 replace Z16 := Z16.on hb
 replace BW := BW.trans (hb.mono BW.size)
 clear hb
 refine hK.out _ _ (by exact ⟨K5.cs, K10.cs⟩) (fun hHeld => ?_)
 clear hK
 (try simp only [p0, p1, p2, p3])
 refine pT 7 ?_
 (try simp only [p0, p1, p2, p3])
 refine pT 8 ?_
 (try simp only [p0, p1, p2, p3])
 refine pR1 9 (fun K hK => ?_)
 obtain ⟨c31, c32, c33, c34, c35, c36, c37, c38⟩ := K15.c8
 obtain ⟨c39, c40, c41, c42, c43, c44, c45, c46⟩ := Z16.f8
 go_simp
 clear c31 c32 c33 c34 c35 c36 c37 c38 c39 c40 c41 c42 c43 c44 c45 c46
 obtain ⟨V47, hk49⟩ : ∃ V47, V47 = w30.setCells (w.heap.size + 1 + 1) 0 [.bool f7.n, .slice f7.A f7.xs.length f7.c, .bool f7.m, .slice f7.B f7.ds.length f7.d, .bool f8.n, .slice f8.A f8.xs.length f8.c, .bool f8.m, .slice f8.B f8.ds.length f8.d] := ⟨_, rfl⟩
 have e48 := hk49
 simp only [World.setCells, Nat.zero_add, Nat.reduceAdd] at e48
 have hk50 := Kept.overE hk49 K15 rfl (by simp)
 replace K5 := K5.awayE hk49 n17
 replace K10 := K10.awayE hk49 n18
 replace K15 := K15.overE hk49 rfl
 replace h7 := h7.kp hk50
 replace BW := Below.putE BW hk49 g19
 clear hk49 hk50
 rw [← e48]
 clear e48
 refine hK.out _ _ (by exact ⟨K5.cs, K10.cs⟩) (fun hHeld => ?_)
 clear hK
 (try simp only [p0, p1, p2, p3])
 refine pT 10 ?_
 (try simp only [p0, p1, p2, p3])
 refine wpAnyH_done (by kernel_rfl) (NoPanic.normal ?_) _
 go_wp2
 obtain ⟨c51, c52, c53, c54, c55, c56, c57, c58⟩ := K15.c8
 exact bodyPost_ret (v := .tuple #[gv f7 f8, .int .i64 er]) (by simp [results, Tryz.results113, go_sem, c51, c52, c53, c54, c55, c56, c57, c58]) rfl ⟨f7, f8, er, rfl, h7, BW⟩
theorem g_reckon_Mul {q p s t : Rat} {a b c d : Fv} {w : World} (Fa : Ff w q a) (Fb : Ff w p b) (Fc : Ff w s c) (Fd : Ff w t d) :
    Calls Tryz.prog 113 #[gv a b, gv c d, .func (.func 114) #[] #[]] w (GGr w (q * s - p * t) (q * t + p * s)) :=
  g_reckon_any _ (fun _ _ => by simp [go_sem]) (fun _ _ _ _ _ h1 h2 h3 h4 => (g_mul h1 h2 h3 h4 (by decide)).mono fun _ _ h => h.mono (by decide)) Fa Fb Fc Fd
theorem g_reckon_Quo {q p s t : Rat} {a b c d : Fv} {w : World} (Fa : Ff w q a) (Fb : Ff w p b) (Fc : Ff w s c) (Fd : Ff w t d) (hN : (s * s + t * t).num ≠ 0) :
    Calls Tryz.prog 113 #[gv a b, gv c d, .func (.func 51) #[] #[]] w (GGr w ((q * s + p * t) / (s * s + t * t)) ((p * s - q * t) / (s * s + t * t))) :=
  g_reckon_any _ (fun _ _ => by simp [go_sem]) (fun _ _ _ _ _ h1 h2 h3 h4 => (g_quo h1 h2 h3 h4 hN (by decide)).mono fun _ _ h => h.mono (by decide)) Fa Fb Fc Fd
set_option maxHeartbeats 8000000 in
set_option maxRecDepth 20000 in
theorem g_Mul {q p s t : Rat} {a b c d : Fv} {w : World} (Fa : Ff w q a) (Fb : Ff w p b) (Fc : Ff w s c) (Fd : Ff w t d) :
  Calls Tryz.prog 46 #[gv a b, gv c d] w (GGk w False (q * s - p * t) (q * t + p * s)) := by
 have BW : Below w.heap.size w w := Below.refl _ _
 obtain ⟨V2, e3, hb4, K5, -, z1⟩ := alloc_new w [.bool a.n, .slice a.A a.xs.length a.c, .bool a.m, .slice a.B a.ds.length a.d, .bool b.n, .slice b.A b.xs.length b.c, .bool b.m, .slice b.B b.ds.length b.d] 33
 replace Fa := Fa.kp (Kept.of hb4)
 replace Fb := Fb.kp (Kept.of hb4)
 replace Fc := Fc.kp (Kept.of hb4)
 replace Fd := Fd.kp (Kept.of hb4)
 replace BW := BW.trans (hb4.mono BW.size)
 clear hb4
 obtain ⟨V7, e8, hb9, K10, -, z6⟩ := alloc_new V2 [.bool c.n, .slice c.A c.xs.length c.c, .bool c.m, .slice c.B c.ds.length c.d, .bool d.n, .slice d.A d.xs.length d.c, .bool d.m, .slice d.B d.ds.length d.d] 33
 rw [z1] at K10 z6
 replace K5 := K5.on hb9
 replace Fa := Fa.kp (Kept.of hb9)
 replace Fb := Fb.kp (Kept.of hb9)
 replace Fc := Fc.kp (Kept.of hb9)
 replace Fd := Fd.kp (Kept.of hb9)
 replace BW := BW.trans (hb9.mono BW.size)
 clear hb9
 obtain ⟨V11, e12, hb13, K14, Z15, -⟩ := alloc_new V7 [.bool false, .slice none 0 0, .bool false, .slice none 0 0, .bool false, .slice none 0 0, .bool false, .slice none 0 0] 33
 rw [z6] at K14 Z15
 have n16 : w.heap.size ≠ w.heap.size + 1 + 1 := Nat.ne_of_lt (z6 ▸ K5.lt)
 have n17 : w.heap.size + 1 ≠ w.heap.size + 1 + 1 := Nat.ne_of_lt (z6 ▸ K10.lt)
 have g18 : w.heap.size ≤ w.heap.size + 1 + 1 := z6 ▸ BW.size
 replace Fa := Fa.kp (Kept.of hb13)
 replace Fb := Fb.kp (Kept.of hb13)
 replace Fc := Fc.kp (Kept.of hb13)
 replace Fd := Fd.kp (Kept.of hb13)
 replace BW := BW.trans (hb13.mono BW.size)
 clear hb13
 clear z1 z6
 go_enter Tryz.func46, Tryz.ntmps46
 go_wp2_with fail
 rw [← e3, ← e8, ← e12]
 clear e3 e8 e12
 refine (g_reckon_Mul Fa Fb Fc Fd).mono ?_
 rintro _ w19 ⟨f7, f8, er, rfl, h7, hb⟩
 replace K14 := K14.on hb
 replace Z15 := Z15.on hb
 replace BW := BW.trans (hb.mono BW.size)
 clear hb
 obtain ⟨c20, c21, c22, c23, c24, c25, c26, c27⟩ := K14.c8
 obtain ⟨c28, c29, c30, c31, c32, c33, c34, c35⟩ := Z15.f8
 obtain ⟨V36, hk38⟩ : ∃ V36, V36 = w19.setCells (w.heap.size + 1 + 1) 0 [.bool f7.n, .slice f7.A f7.xs.length f7.c, .bool f7.m, .slice f7.B f7.ds.length f7.d, .bool f8.n, .slice f8.A f8.xs.length f8.c, .bool f8.m, .slice f8.B f8.ds.length f8.d] := ⟨_, rfl⟩
 have e37 := hk38
 simp only [World.setCells, Nat.zero_add, Nat.reduceAdd] at e37
 have hk39 := Kept.overE hk38 K14 rfl (by simp)
 replace K14 := K14.overE hk38 rfl
 replace h7 := h7.kp hk39
 replace BW := Below.putE BW hk38 g18
 clear hk38 hk39
 go_wp2_with fail
 clear c20 c21 c22 c23 c24 c25 c26 c27 c28 c29 c30 c31 c32 c33 c34 c35
 rw [← e37]
 clear e37
 obtain ⟨c40, c41, c42, c43, c44, c45, c46, c47⟩ := K14.c8
 exact bodyPost_ret (v := .tuple #[gv f7 f8, .int .i64 er]) (by simp [results, Tryz.results46, go_sem, c40, c41, c42, c43, c44, c45, c46, c47]) rfl ⟨f7, f8, er, rfl, h7.gk not_false, BW⟩
set_option maxHeartbeats 8000000 in
set_option maxRecDepth 20000 in
theorem g_Quo {q p s t : Rat} {a b c d : Fv} {w : World} (Fa : Ff w q a) (Fb : Ff w p b) (Fc : Ff w s c) (Fd : Ff w t d) :
  Calls Tryz.prog 48 #[gv a b, gv c d] w (GGk w (s.num = 0 ∧ t.num = 0) ((q * s + p * t) / (s * s + t * t)) ((p * s - q * t) / (s * s + t * t))) := by
 have BW : Below w.heap.size w w := Below.refl _ _
 obtain ⟨V2, e3, hb4, K5, -, z1⟩ := alloc_new w [.bool a.n, .slice a.A a.xs.length a.c, .bool a.m, .slice a.B a.ds.length a.d, .bool b.n, .slice b.A b.xs.length b.c, .bool b.m, .slice b.B b.ds.length b.d] 33
 replace Fa := Fa.kp (Kept.of hb4)
 replace Fb := Fb.kp (Kept.of hb4)
 replace Fc := Fc.kp (Kept.of hb4)
 replace Fd := Fd.kp (Kept.of hb4)
 replace BW := BW.trans (hb4.mono BW.size)
 clear hb4
 obtain ⟨V7, e8, hb9, K10, -, z6⟩ := alloc_new V2 [.bool c.n, .slice c.A c.xs.length c.c, .bool c.m, .slice c.B c.ds.length c.d, .bool d.n, .slice d.A d.xs.length d.c, .bool d.m, .slice d.B d.ds.length d.d] 33
 rw [z1] at K10 z6
 replace K5 := K5.on hb9
 replace Fa := Fa.kp (Kept.of hb9)
 replace Fb := Fb.kp (Kept.of hb9)
 replace Fc := Fc.kp (Kept.of hb9)
 replace Fd := Fd.kp (Kept.of hb9)
 replace BW := BW.trans (hb9.mono BW.size)
 clear hb9
 obtain ⟨V11, e12, hb13, K14, Z15, -⟩ := alloc_new V7 [.bool false, .slice none 0 0, .bool false, .slice none 0 0, .bool false, .slice none 0 0, .bool false, .slice none 0 0] 33
 rw [z6] at K14 Z15
 have n16 : w.heap.size ≠ w.heap.size + 1 + 1 := Nat.ne_of_lt (z6 ▸ K5.lt)
 have n17 : w.heap.size + 1 ≠ w.heap.size + 1 + 1 := Nat.ne_of_lt (z6 ▸ K10.lt)
 have g18 : w.heap.size ≤ w.heap.size + 1 + 1 := z6 ▸ BW.size
 replace K5 := K5.on hb13
 replace K10 := K10.on hb13
 replace Fa := Fa.kp (Kept.of hb13)
 replace Fb := Fb.kp (Kept.of hb13)
 replace Fc := Fc.kp (Kept.of hb13)
 replace Fd := Fd.kp (Kept.of hb13)
 replace BW := BW.trans (hb13.mono BW.size)
 clear hb13
 clear z1 z6
 go_enter Tryz.func48, Tryz.ntmps48
 go_wp2_with fail
 rw [← e3, ← e8, ← e12]
 clear e3 e8 e12
 refine (r_sign Fc).mono ?_
 rintro _ w19 ⟨rfl, hb⟩
 replace K5 := K5.on hb
 replace K10 := K10.on hb
 replace K14 := K14.on hb
 replace Z15 := Z15.on hb
 replace Fa := Fa.kp (Kept.of hb)
 replace Fb := Fb.kp (Kept.of hb)
 replace Fc := Fc.kp (Kept.of hb)
 replace Fd := Fd.kp (Kept.of hb)
 replace BW := BW.trans (hb.mono BW.size)
 clear hb
 by_cases hs : s.num = 0
 ·rw [show sgnQ s = 0 by unfold sgnQ; rw [hs]; rfl]
  obtain ⟨c20, c21, c22, c23, c24, c25, c26, c27⟩ := K10.c8
  go_wp2_with fail
  clear c20 c21 c22 c23 c24 c25 c26 c27
  refine (r_sign Fd).mono ?_
  rintro _ w28 ⟨rfl, hb⟩
  replace K5 := K5.on hb
  replace K10 := K10.on hb
  replace K14 := K14.on hb
  replace Z15 := Z15.on hb
  replace Fa := Fa.kp (Kept.of hb)
  replace Fb := Fb.kp (Kept.of hb)
  replace Fc := Fc.kp (Kept.of hb)
  replace Fd := Fd.kp (Kept.of hb)
  replace BW := BW.trans (hb.mono BW.size)
  clear hb
  by_cases ht : t.num = 0
  ·rw [show sgnQ t = 0 by unfold sgnQ; rw [ht]; rfl]
   obtain ⟨c29, c30, c31, c32, c33, c34, c35, c36⟩ := K5.c8
   obtain ⟨c37, c38, c39, c40, c41, c42, c43, c44⟩ := K10.c8
   obtain ⟨V45, e46, hb47, K48, -, -⟩ := alloc_new w28 [.bool a.n, .slice a.A a.xs.length a.c, .bool a.m, .slice a.B a.ds.length a.d, .bool b.n, .slice b.A b.xs.length b.c, .bool b.m, .slice b.B b.ds.length b.d, .bool c.n, .slice c.A c.xs.length c.c, .bool c.m, .slice c.B c.ds.length c.d, .bool d.n, .slice d.A d.xs.length d.c, .bool d.m, .slice d.B d.ds.length d.d] 33
   have n49 : w.heap.size + 1 + 1 ≠ w28.heap.size := Nat.ne_of_lt (K14.lt)
   replace K14 := K14.on hb47
   replace Z15 := Z15.on hb47
   replace Fa := Fa.kp (Kept.of hb47)
   replace Fb := Fb.kp (Kept.of hb47)
   replace Fc := Fc.kp (Kept.of hb47)
   replace Fd := Fd.kp (Kept.of hb47)
   replace BW := BW.trans (hb47.mono BW.size)
   clear hb47
   go_wp2_with fail
   clear c29 c30 c31 c32 c33 c34 c35 c36 c37 c38 c39 c40 c41 c42 c43 c44
   rw [← e46]
   clear e46
   generalize w28.heap.size = b50 at *
   refine (g_checks0 Fa Fb Fc Fd K48).mono ?_
   rintro _ w51 ⟨rfl, hb⟩
   replace K14 := K14.on hb
   replace Z15 := Z15.on hb
   replace BW := BW.trans (hb.mono BW.size)
   clear hb
   obtain ⟨c52, c53, c54, c55, c56, c57, c58, c59⟩ := K14.c8
   obtain ⟨c60, c61, c62, c63, c64, c65, c66, c67⟩ := Z15.f8
   obtain ⟨V68, hk70⟩ : ∃ V68, V68 = w51.setCells (w.heap.size + 1 + 1) 0 [.bool false, .slice none 0 0, .bool false, .slice none 0 0, .bool false, .slice none 0 0, .bool false, .slice none 0 0] := ⟨_, rfl⟩
   have e69 := hk70
   simp only [World.setCells, Nat.zero_add, Nat.reduceAdd] at e69
   have hk71 := Kept.overE hk70 K14 rfl (by simp)
   replace K14 := K14.overE hk70 rfl
   replace BW := Below.putE BW hk70 g18
   clear hk70 hk71
   go_wp2_with fail
   clear c52 c53 c54 c55 c56 c57 c58 c59 c60 c61 c62 c63 c64 c65 c66 c67
   rw [← e69]
   clear e69
   obtain ⟨c72, c73, c74, c75, c76, c77, c78, c79⟩ := K14.c8
   exact bodyPost_ret (v := .tuple #[.agg #[.bool false, .slice none 0 0, .bool false, .slice none 0 0, .bool false, .slice none 0 0, .bool false, .slice none 0 0], .int .i64 3]) (by simp [results, Tryz.results48, go_sem, c72, c73, c74, c75, c76, c77, c78, c79]) rfl ⟨fv0, fv0, 3, rfl, .inr ⟨.inl ⟨⟨hs, ht⟩, rfl⟩, rfl, rfl⟩, BW⟩
  ·obtain ⟨gt, hgt⟩ : ∃ g, sgnQ t = g := ⟨_, rfl⟩
   have nt : gt ≠ 0 := by rw [← hgt]; exact fun e => ht (Int.sign_eq_zero_iff_zero.1 e)
   rw [hgt]
   clear hgt
   have HN := Lib.hid (norm_pos (s := s) (t := t) (fun hh => ht hh.2))
   obtain ⟨c29, c30, c31, c32, c33, c34, c35, c36⟩ := K5.c8
   obtain ⟨c37, c38, c39, c40, c41, c42, c43, c44⟩ := K10.c8
   go_wp2_with fail
   clear c29 c30 c31 c32 c33 c34 c35 c36 c37 c38 c39 c40 c41 c42 c43 c44
   refine (g_reckon_Quo Fa Fb Fc Fd HN.out).mono ?_
   rintro _ w45 ⟨f7, f8, er, rfl, h7, hb⟩
   replace K14 := K14.on hb
   replace Z15 := Z15.on hb
   replace BW := BW.trans (hb.mono BW.size)
   clear hb
   obtain ⟨c46, c47, c48, c49, c50, c51, c52, c53⟩ := K14.c8
   obtain ⟨c54, c55, c56, c57, c58, c59, c60, c61⟩ := Z15.f8
   obtain ⟨V62, hk64⟩ : ∃ V62, V62 = w45.setCells (w.heap.size + 1 + 1) 0 [.bool f7.n, .slice f7.A f7.xs.length f7.c, .bool f7.m, .slice f7.B f7.ds.length f7.d, .bool f8.n, .slice f8.A f8.xs.length f8.c, .bool f8.m, .slice f8.B f8.ds.length f8.d] := ⟨_, rfl⟩
   have e63 := hk64
   simp only [World.setCells, Nat.zero_add, Nat.reduceAdd] at e63
   have hk65 := Kept.overE hk64 K14 rfl (by simp)
   replace K14 := K14.overE hk64 rfl
   replace h7 := h7.kp hk65
   replace BW := Below.putE BW hk64 g18
   clear hk64 hk65
   go_wp2_with fail
   clear c46 c47 c48 c49 c50 c51 c52 c53 c54 c55 c56 c57 c58 c59 c60 c61
   rw [← e63]
   clear e63
   obtain ⟨c66, c67, c68, c69, c70, c71, c72, c73⟩ := K14.c8
   exact bodyPost_ret (v := .tuple #[gv f7 f8, .int .i64 er]) (by simp [results, Tryz.results48, go_sem, c66, c67, c68, c69, c70, c71, c72, c73]) rfl ⟨f7, f8, er, rfl, h7.gk (fun hh => ht hh.2), BW⟩
 ·obtain ⟨gs, hgs⟩ : ∃ g, sgnQ s = g := ⟨_, rfl⟩
  have ns : gs ≠ 0 := by rw [← hgs]; exact fun e => hs (Int.sign_eq_zero_iff_zero.1 e)
  rw [hgs]
  clear hgs
  have HN := Lib.hid (norm_pos (s := s) (t := t) (fun hh => hs hh.1))
  obtain ⟨c20, c21, c22, c23, c24, c25, c26, c27⟩ := K5.c8
  obtain ⟨c28, c29, c30, c31, c32, c33, c34, c35⟩ := K10.c8
  go_wp2_with fail
  clear c20 c21 c22 c23 c24 c25 c26 c27 c28 c29 c30 c31 c32 c33 c34 c35
  refine (g_reckon_Quo Fa Fb Fc Fd HN.out).mono ?_
  rintro _ w36 ⟨f7, f8, er, rfl, h7, hb⟩
  replace K14 := K14.on hb
  replace Z15 := Z15.on hb
  replace BW := BW.trans (hb.mono BW.size)
  clear hb
  obtain ⟨c37, c38, c39, c40, c41, c42, c43, c44⟩ := K14.c8
  obtain ⟨c45, c46, c47, c48, c49, c50, c51, c52⟩ := Z15.f8
  obtain ⟨V53, hk55⟩ : ∃ V53, V53 = w36.setCells (w.heap.size + 1 + 1) 0 [.bool f7.n, .slice f7.A f7.xs.length f7.c, .bool f7.m, .slice f7.B f7.ds.length f7.d, .bool f8.n, .slice f8.A f8.xs.length f8.c, .bool f8.m, .slice f8.B f8.ds.length f8.d] := ⟨_, rfl⟩
  have e54 := hk55
  simp only [World.setCells, Nat.zero_add, Nat.reduceAdd] at e54
  have hk56 := Kept.overE hk55 K14 rfl (by simp)
  replace K14 := K14.overE hk55 rfl
  replace h7 := h7.kp hk56
  replace BW := Below.putE BW hk55 g18
  clear hk55 hk56
  go_wp2_with fail
  clear c37 c38 c39 c40 c41 c42 c43 c44 c45 c46 c47 c48 c49 c50 c51 c52
  rw [← e54]
  clear e54
  obtain ⟨c57, c58, c59, c60, c61, c62, c63, c64⟩ := K14.c8
  exact bodyPost_ret (v := .tuple #[gv f7 f8, .int .i64 er]) (by simp [results, Tryz.results48, go_sem, c57, c58, c59, c60, c61, c62, c63, c64]) rfl ⟨f7, f8, er, rfl, h7.gk (fun hh => hs hh.1), BW⟩
set_option maxHeartbeats 8000000 in
set_option maxRecDepth 20000 in
theorem g_Norm {q p : Rat} {a b : Fv} {w : World} (Fa : Ff w q a) (Fb : Ff w p b) :
  Calls Tryz.prog 13 #[gv a b] w (GR w False (q * q + p * p)) := by
 have BW : Below w.heap.size w w := Below.refl _ _
 obtain ⟨V2, e3, hb4, K5, -, z1⟩ := alloc_new w [.bool a.n, .slice a.A a.xs.length a.c, .bool a.m, .slice a.B a.ds.length a.d, .bool b.n, .slice b.A b.xs.length b.c, .bool b.m, .slice b.B b.ds.length b.d] 33
 replace Fa := Fa.kp (Kept.of hb4)
 replace Fb := Fb.kp (Kept.of hb4)
 replace BW := BW.trans (hb4.mono BW.size)
 clear hb4
 obtain ⟨V6, e7, hb8, K9, Z10, -⟩ := alloc_new V2 [.bool false, .slice none 0 0, .bool false, .slice none 0 0] 26
 rw [z1] at K9 Z10
 have n11 : w.heap.size ≠ w.heap.size + 1 := Nat.ne_of_lt (z1 ▸ K5.lt)
 have g12 : w.heap.size ≤ w.heap.size + 1 := z1 ▸ BW.size
 replace K5 := K5.on hb8
 replace Fa := Fa.kp (Kept.of hb8)
 replace Fb := Fb.kp (Kept.of hb8)
 replace BW := BW.trans (hb8.mono BW.size)
 clear hb8
 clear z1
 go_enter Tryz.func13, Tryz.ntmps13
 go_wp2_with fail
 rw [← e3, ← e7]
 clear e3 e7
 refine (g_check0 Fa Fb).mono ?_
 rintro _ w13 ⟨rfl, hb⟩
 replace K5 := K5.on hb
 replace K9 := K9.on hb
 replace Z10 := Z10.on hb
 replace Fa := Fa.kp (Kept.of hb)
 replace Fb := Fb.kp (Kept.of hb)
 replace BW := BW.trans (hb.mono BW.size)
 clear hb
 obtain ⟨c14, c15, c16, c17, c18, c19, c20, c21⟩ := K5.c8
 go_wp2_with fail
 clear c14 c15 c16 c17 c18 c19 c20 c21
 refine (g_from Fa Fb).mono ?_
 rintro _ w22 ⟨f1, f2, rfl, h1, h2, hb⟩
 replace K9 := K9.on hb
 replace Z10 := Z10.on hb
 replace BW := BW.trans (hb.mono BW.size)
 clear hb
 go_wp2_with fail
 refine (g_norm h1 h2 (by decide)).mono ?_
 rintro _ w23 ⟨f3, rfl, h3, hb⟩
 replace K9 := K9.on hb
 replace Z10 := Z10.on hb
 replace BW := BW.trans (hb.mono BW.size)
 clear hb
 go_wp2_with fail
 refine (q_fit h3 (by decide)).mono ?_
 rintro _ w24 ⟨f4, er, rfl, h4, hb⟩
 replace K9 := K9.on hb
 replace Z10 := Z10.on hb
 replace BW := BW.trans (hb.mono BW.size)
 clear hb
 obtain ⟨c25, c26, c27, c28⟩ := K9.c4
 obtain ⟨c29, c30, c31, c32⟩ := Z10.f4
 obtain ⟨V33, hk35⟩ : ∃ V33, V33 = w24.setCells (w.heap.size + 1) 0 [.bool f4.n, .slice f4.A f4.xs.length f4.c, .bool f4.m, .slice f4.B f4.ds.length f4.d] := ⟨_, rfl⟩
 have e34 := hk35
 simp only [World.setCells, Nat.zero_add, Nat.reduceAdd] at e34
 have hk36 := Kept.overE hk35 K9 rfl (by simp)
 replace K9 := K9.overE hk35 rfl
 replace h4 := h4.kp hk36
 replace BW := Below.putE BW hk35 g12
 clear hk35 hk36
 go_wp2_with fail
 clear c25 c26 c27 c28 c29 c30 c31 c32
 rw [← e34]
 clear e34
 obtain ⟨c37, c38, c39, c40⟩ := K9.c4
 exact bodyPost_ret (v := .tuple #[fv f4, .int .i64 er]) (by simp [results, Tryz.results13, go_sem, c37, c38, c39, c40]) rfl ⟨f4, er, rfl, h4, BW⟩
set_option maxHeartbeats 8000000 in
set_option maxRecDepth 20000 in
theorem g_same {q p s t : Rat} {a b c d : Fv} {w : World} (Fa : Ff w q a) (Fb : Ff w p b) (Fc : Ff w s c) (Fd : Ff w t d) :
  Calls Tryz.prog 21 #[gv a b, gv c d] w (fun e w' => e = .returned (.bool (decide (q = s ∧ p = t))) ∧ Below w.heap.size w w') := by
 obtain ⟨G, hG⟩ : ∃ G, decide (q = s ∧ p = t) = G := ⟨_, rfl⟩
 rw [hG]
 have HG := Lib.hid hG
 clear hG
 have BW : Below w.heap.size w w := Below.refl _ _
 obtain ⟨V2, e3, hb4, K5, -, z1⟩ := alloc_new w [.bool a.n, .slice a.A a.xs.length a.c, .bool a.m, .slice a.B a.ds.length a.d, .bool b.n, .slice b.A b.xs.length b.c, .bool b.m, .slice b.B b.ds.length b.d] 33
 replace Fa := Fa.kp (Kept.of hb4)
 replace Fb := Fb.kp (Kept.of hb4)
 replace Fc := Fc.kp (Kept.of hb4)
 replace Fd := Fd.kp (Kept.of hb4)
 replace BW := BW.trans (hb4.mono BW.size)
 clear hb4
 obtain ⟨V6, e7, hb8, K9, -, -⟩ := alloc_new V2 [.bool c.n, .slice c.A c.xs.length c.c, .bool c.m, .slice c.B c.ds.length c.d, .bool d.n, .slice d.A d.xs.length d.c, .bool d.m, .slice d.B d.ds.length d.d] 33
 rw [z1] at K9
 replace K5 := K5.on hb8
 replace Fa := Fa.kp (Kept.of hb8)
 replace Fb := Fb.kp (Kept.of hb8)
 replace Fc := Fc.kp (Kept.of hb8)
 replace Fd := Fd.kp (Kept.of hb8)
 replace BW := BW.trans (hb8.mono BW.size)
 clear hb8
 clear z1
 go_enter Tryz.func21, Tryz.ntmps21
 go_wp2_with fail
 rw [← e3, ← e7]
 clear e3 e7
 refine (r_same Fa Fc).mono ?_
 rintro _ w10 ⟨rfl, hb⟩
 replace K5 := K5.on hb
 replace K9 := K9.on hb
 replace Fb := Fb.kp (Kept.of hb)
 replace Fd := Fd.kp (Kept.of hb)
 replace BW := BW.trans (hb.mono BW.size)
 clear hb
 by_cases hq : q = s
 ·rw [show decide (q = s) = true from decide_eq_true hq]
  obtain ⟨c11, c12, c13, c14, c15, c16, c17, c18⟩ := K5.c8
  obtain ⟨c19, c20, c21, c22, c23, c24, c25, c26⟩ := K9.c8
  go_wp2_with fail
  clear c11 c12 c13 c14 c15 c16 c17 c18 c19 c20 c21 c22 c23 c24 c25 c26
  refine (r_same Fb Fd).mono ?_
  rintro _ w27 ⟨rfl, hb⟩
  replace BW := BW.trans (hb.mono BW.size)
  clear hb
  have hG := HG.out
  clear HG
  rw [decide_eq_decide.2 (show (q = s ∧ p = t) ↔ p = t from ⟨fun h => h.2, fun h => ⟨hq, h⟩⟩)] at hG
  rw [hG]
  have HG := Lib.hid hG
  clear hG
  go_wp2_with fail
  exact bodyPost_ret (v := .bool G) (by simp [results, Tryz.results21, go_sem]) rfl ⟨rfl, BW⟩
 ·rw [show decide (q = s) = false from decide_eq_false hq]
  obtain rfl : G = false := by rw [← HG.out]; exact decide_eq_false (fun h => hq h.1)
  go_wp2_with fail
  exact bodyPost_ret (v := .bool false) (by simp [results, Tryz.results21, go_sem]) rfl ⟨rfl, BW⟩
end Go.Proofs.YtplgheabhekedaaGreatDoor
