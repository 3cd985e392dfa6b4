/-
  What image's own small functions answer. Conditions: as each theorem states.
-/
import Derived.Test.YtplgheabhekedaaGreatIm0
import Derived.Deep.RegionHeld3
import Derived.Deep.DeepCutAuto
import Derived.BigRegion
namespace Go.Proofs.YtplgheabhekedaaGreat
open Go.RowKit Nb

set_option maxHeartbeats 8000000 in
set_option maxRecDepth 20000 in
theorem zero_flimbs {w : World} :
    Calls Tryz.prog 132 #[.agg #[.bool false, .slice none 0 0, .bool false, .slice none 0 0]] w (fun e w' => e = .returned (.int .i64 0) ∧ Below w.heap.size w w') := by
 have BW : Below w.heap.size w w := Below.refl _ _
 obtain ⟨V1, e2, hb3, K4, -, -⟩ := alloc_new w [.bool false, .slice none 0 0, .bool false, .slice none 0 0] 88
 replace BW := BW.trans (hb3.mono BW.size)
 clear hb3
 go_enter Tryz.func132, Tryz.ntmps132
 go_wp2_with fail
 rw [← e2]
 clear e2
 refine wp_region_noPanic ?_
 have hb : Below V1.heap.size V1 V1.drew := (Below.refl _ _).drew
 replace K4 := K4.on hb
 replace BW := BW.trans (hb.mono BW.size)
 clear hb
 refine wp_region_held_drew (S := (fun wx => Cs wx (w.heap.size) 0 [.bool false, .slice none 0 0, .bool false, .slice none 0 0])) (by kernel_rfl) (by exact K4.cs) (fun hHeld => ?_)
 generalize V1.drew = Vd5 at *
 refine pT 0 ?_
 (try simp only [p0, p1, p2, p3])
 refine pT 1 ?_
 (try simp only [p0, p1, p2, p3])
 refine pT 3 ?_
 (try simp only [p0, p1, p2, p3])
 refine pT 4 ?_
 (try simp only [p0, p1, p2, p3])
 refine pR1 2 (fun K hK => ?_)
 go_simp
 (go_at_call 146; with_reducible refine (zero_limbs).mono ?_)
 rintro _ w6 ⟨rfl, hb⟩
 (try go_wp2_with fail)
 replace K4 := K4.on hb
 replace BW := BW.trans (hb.mono BW.size)
 clear hb
 clear hHeld
 refine hK.out _ _ (by exact K4.cs) (fun hHeld => ?_)
 clear hK
 (try simp only [p0, p1, p2, p3])
 refine pR1 5 (fun K hK => ?_)
 go_simp
 (go_at_call 146; with_reducible refine (zero_limbs).mono ?_)
 rintro _ w7 ⟨rfl, hb⟩
 (try go_wp2_with fail)
 replace K4 := K4.on hb
 replace BW := BW.trans (hb.mono BW.size)
 clear hb
 clear hHeld
 refine hK.out _ _ (by exact K4.cs) (fun hHeld => ?_)
 clear hK
 (try simp only [p0, p1, p2, p3])
 refine pR1 6 (fun K hK => ?_)
 go_simp
 clear hHeld
 refine hK.out _ _ (by exact K4.cs) (fun hHeld => ?_)
 clear hK
 (try simp only [p0, p1, p2, p3])
 refine pT 7 ?_
 (try simp only [p0, p1, p2, p3])
 refine wpAnyH_done (by kernel_rfl) (NoPanic.normal ?_) _
 go_wp2
 exact bodyPost_ret (v := .int .i64 0) (by simp [results, Tryz.results132, go_sem]) rfl ⟨rfl, BW⟩
set_option maxHeartbeats 8000000 in
set_option maxRecDepth 20000 in
theorem zero_frac {w : World} :
    Calls Tryz.prog 117 #[.agg #[.bool false, .slice none 0 0, .bool false, .slice none 0 0]] w (fun e w' => ∃ f : Fv, e = .returned (fv f) ∧ Below w.heap.size w w') := by
 have BW : Below w.heap.size w w := Below.refl _ _
 obtain ⟨V2, e3, hb4, K5, -, z1⟩ := alloc_new w [.bool false, .slice none 0 0, .bool false, .slice none 0 0] 88
 replace BW := BW.trans (hb4.mono BW.size)
 clear hb4
 obtain ⟨V6, e7, hb8, K9, Z10, -⟩ := alloc_new V2 [.bool false, .slice none 0 0, .bool false, .slice none 0 0] 29
 rw [z1] at K9 Z10
 have n11 : w.heap.size ≠ w.heap.size + 1 := Nat.ne_of_lt (z1 ▸ K5.lt)
 have g12 : w.heap.size ≤ w.heap.size + 1 := z1 ▸ BW.size
 replace K5 := K5.on hb8
 replace BW := BW.trans (hb8.mono BW.size)
 clear hb8
 clear z1
 go_enter Tryz.func117, Tryz.ntmps117
 go_wp2_with fail
 rw [← e3, ← e7]
 clear e3 e7
 refine wp_region_noPanic ?_
 have hb : Below V6.heap.size V6 V6.drew := (Below.refl _ _).drew
 replace K5 := K5.on hb
 replace K9 := K9.on hb
 replace Z10 := Z10.on hb
 replace BW := BW.trans (hb.mono BW.size)
 clear hb
 refine wp_region_held_drew (S := (fun wx => Cs wx (w.heap.size) 0 [.bool false, .slice none 0 0, .bool false, .slice none 0 0])) (by kernel_rfl) (by exact K5.cs) (fun hHeld => ?_)
 generalize V6.drew = Vd13 at *
 refine pT 0 ?_
 (try simp only [p0, p1, p2, p3])
 refine pT 1 ?_
 (try simp only [p0, p1, p2, p3])
 refine pT 3 ?_
 (try simp only [p0, p1, p2, p3])
 refine pT 4 ?_
 (try simp only [p0, p1, p2, p3])
 refine pR1 2 (fun K hK => ?_)
 go_simp
 (go_at_call 136; with_reducible refine (zero_int).mono ?_)
 rintro _ w14 ⟨g1, rfl, hb⟩
 (try go_wp2_with fail)
 replace K5 := K5.on hb
 replace K9 := K9.on hb
 replace Z10 := Z10.on hb
 replace BW := BW.trans (hb.mono BW.size)
 clear hb
 clear hHeld
 refine hK.out _ _ (by exact K5.cs) (fun hHeld => ?_)
 clear hK
 (try simp only [p0, p1, p2, p3])
 refine pR1 5 (fun K hK => ?_)
 go_simp
 (go_at_call 136; with_reducible refine (zero_int).mono ?_)
 rintro _ w15 ⟨g2, rfl, hb⟩
 (try go_wp2_with fail)
 replace K5 := K5.on hb
 replace K9 := K9.on hb
 replace Z10 := Z10.on hb
 replace BW := BW.trans (hb.mono BW.size)
 clear hb
 clear hHeld
 refine hK.out _ _ (by exact K5.cs) (fun hHeld => ?_)
 clear hK
 (try simp only [p0, p1, p2, p3])
 refine pT 6 ?_
 (try simp only [p0, p1, p2, p3])
 refine pR1 7 (fun K hK => ?_)
 obtain ⟨c16, c17, c18, c19⟩ := K9.c4
 obtain ⟨c20, c21, c22, c23⟩ := Z10.f4
 go_simp
 clear c16 c17 c18 c19 c20 c21 c22 c23
 obtain ⟨V24, hk26⟩ : ∃ V24, V24 = w15.setCells (w.heap.size + 1) 0 [.bool false, .slice (some ⟨g1, 0, none⟩) 0 0, .bool false, .slice (some ⟨g2, 0, none⟩) 0 0] := ⟨_, rfl⟩
 have e25 := hk26
 simp only [World.setCells, Nat.zero_add, Nat.reduceAdd] at e25
 have hk27 := Kept.overE hk26 K9 rfl (Nat.le_of_ble_eq_true rfl)
 replace K5 := K5.awayE hk26 n11
 replace K9 := K9.overE hk26 rfl
 replace BW := Below.putE BW hk26 g12
 clear hk26 hk27
 rw [← e25]
 clear e25
 clear hHeld
 refine hK.out _ _ (by exact K5.cs) (fun hHeld => ?_)
 clear hK
 (try simp only [p0, p1, p2, p3])
 refine wpAnyH_done (by kernel_rfl) (NoPanic.normal ?_) _
 go_wp2
 obtain ⟨c28, c29, c30, c31⟩ := K9.c4
 exact bodyPost_ret (v := .agg #[.bool false, .slice (some ⟨g1, 0, none⟩) 0 0, .bool false, .slice (some ⟨g2, 0, none⟩) 0 0]) (by simp [results, Tryz.results117, go_sem, c28, c29, c30, c31]) rfl ⟨⟨false, some ⟨g1, 0, none⟩, [], 0, false, some ⟨g2, 0, none⟩, [], 0⟩, rfl, BW⟩
set_option maxHeartbeats 8000000 in
set_option maxRecDepth 20000 in
theorem zero_fit {w : World} :
    Calls Tryz.prog 100 #[.agg #[.bool false, .slice none 0 0, .bool false, .slice none 0 0]] w (fun e w' => ∃ f : Fv, e = .returned (.tuple #[fv f, .int .i64 0]) ∧ Below w.heap.size w w') := by
 have BW : Below w.heap.size w w := Below.refl _ _
 obtain ⟨V2, e3, hb4, K5, -, z1⟩ := alloc_new w [.bool false, .slice none 0 0, .bool false, .slice none 0 0] 88
 replace BW := BW.trans (hb4.mono BW.size)
 clear hb4
 obtain ⟨V6, e7, hb8, K9, Z10, -⟩ := alloc_new V2 [.bool false, .slice none 0 0, .bool false, .slice none 0 0] 29
 rw [z1] at K9 Z10
 have n11 : w.heap.size ≠ w.heap.size + 1 := Nat.ne_of_lt (z1 ▸ K5.lt)
 have g12 : w.heap.size ≤ w.heap.size + 1 := z1 ▸ BW.size
 replace K5 := K5.on hb8
 replace BW := BW.trans (hb8.mono BW.size)
 clear hb8
 clear z1
 go_enter Tryz.func100, Tryz.ntmps100
 go_wp2_with fail
 rw [← e3, ← e7]
 clear e3 e7
 refine (zero_flimbs).mono ?_
 rintro _ w13 ⟨rfl, hb⟩
 replace K5 := K5.on hb
 replace K9 := K9.on hb
 replace Z10 := Z10.on hb
 replace BW := BW.trans (hb.mono BW.size)
 clear hb
 obtain ⟨c14, c15, c16, c17⟩ := K5.c4
 go_wp2_with fail
 clear c14 c15 c16 c17
 refine (zero_frac).mono ?_
 rintro _ w18 ⟨f, rfl, hb⟩
 replace K9 := K9.on hb
 replace Z10 := Z10.on hb
 replace BW := BW.trans (hb.mono BW.size)
 clear hb
 obtain ⟨c19, c20, c21, c22⟩ := K9.c4
 obtain ⟨c23, c24, c25, c26⟩ := Z10.f4
 obtain ⟨V27, hk29⟩ : ∃ V27, V27 = w18.setCells (w.heap.size + 1) 0 [.bool f.n, .slice f.A f.xs.length f.c, .bool f.m, .slice f.B f.ds.length f.d] := ⟨_, rfl⟩
 have e28 := hk29
 simp only [World.setCells, Nat.zero_add, Nat.reduceAdd] at e28
 have hk30 := Kept.overE hk29 K9 rfl (Nat.le_of_ble_eq_true rfl)
 replace K9 := K9.overE hk29 rfl
 replace BW := Below.putE BW hk29 g12
 clear hk29 hk30
 go_wp2_with fail
 clear c19 c20 c21 c22 c23 c24 c25 c26
 rw [← e28]
 clear e28
 obtain ⟨c31, c32, c33, c34⟩ := K9.c4
 exact bodyPost_ret (v := .tuple #[fv f, .int .i64 0]) (by simp [results, Tryz.results100, go_sem, c31, c32, c33, c34]) rfl ⟨f, rfl, BW⟩
set_option maxHeartbeats 8000000 in
set_option maxRecDepth 20000 in
theorem i_over0 {q p : Rat} {f g : Fv} {C : Nat} {w : World} (_L : Fq w q f C) (M : Fq w p g C) (hp : p = 0) (hC2 : C ≤ 17592186043904) :
    Calls Tryz.prog 94 #[fv f, fv g] w (fun e w' => e = .returned (.tuple #[.agg #[.bool false, .slice none 0 0, .bool false, .slice none 0 0], .int .i64 3]) ∧ Below w.heap.size w w') := by
 have HP := Lib.hid hp
 clear hp
 have BW : Below w.heap.size w w := Below.refl _ _
 obtain ⟨V2, e3, hb4, K5, -, z1⟩ := alloc_new w [.bool f.n, .slice f.A f.xs.length f.c, .bool f.m, .slice f.B f.ds.length f.d] 88
 replace M := M.kp (Kept.of hb4)
 replace BW := BW.trans (hb4.mono BW.size)
 clear hb4
 obtain ⟨V7, e8, hb9, K10, -, z6⟩ := alloc_new V2 [.bool g.n, .slice g.A g.xs.length g.c, .bool g.m, .slice g.B g.ds.length g.d] 88
 rw [z1] at K10 z6
 replace K5 := K5.on hb9
 replace M := M.kp (Kept.of hb9)
 replace BW := BW.trans (hb9.mono BW.size)
 clear hb9
 obtain ⟨V11, e12, hb13, K14, Z15, -⟩ := alloc_new V7 [.bool false, .slice none 0 0, .bool false, .slice none 0 0] 88
 rw [z6] at K14 Z15
 have n16 : w.heap.size ≠ w.heap.size + 1 + 1 := Nat.ne_of_lt (z6 ▸ K5.lt)
 have n17 : w.heap.size + 1 ≠ w.heap.size + 1 + 1 := Nat.ne_of_lt (z6 ▸ K10.lt)
 have g18 : w.heap.size ≤ w.heap.size + 1 + 1 := z6 ▸ BW.size
 replace M := M.kp (Kept.of hb13)
 replace BW := BW.trans (hb13.mono BW.size)
 clear hb13
 clear z1 z6
 go_enter Tryz.func94, Tryz.ntmps94
 go_wp2_with fail
 rw [← e3, ← e8, ← e12]
 clear e3 e8 e12
 refine (b_sign M hC2).mono ?_
 rintro _ w19 ⟨rfl, hb⟩
 replace K14 := K14.on hb
 replace Z15 := Z15.on hb
 replace BW := BW.trans (hb.mono BW.size)
 clear hb
 generalize hs : sgnQ p = s at *
 have HS := Lib.hid hs
 clear hs
 obtain rfl : s = 0 := by rw [← HS.out]; exact sgn_zero.2 HP.out
 obtain ⟨c20, c21, c22, c23⟩ := K14.c4
 obtain ⟨c24, c25, c26, c27⟩ := Z15.f4
 obtain ⟨V28, hk30⟩ : ∃ V28, V28 = w19.setCells (w.heap.size + 1 + 1) 0 [.bool false, .slice none 0 0, .bool false, .slice none 0 0] := ⟨_, rfl⟩
 have e29 := hk30
 simp only [World.setCells, Nat.zero_add, Nat.reduceAdd] at e29
 have hk31 := Kept.overE hk30 K14 rfl (Nat.le_of_ble_eq_true rfl)
 replace K14 := K14.overE hk30 rfl
 replace BW := Below.putE BW hk30 g18
 clear hk30 hk31
 go_wp2_with fail
 clear c20 c21 c22 c23 c24 c25 c26 c27
 rw [← e29]
 clear e29
 obtain ⟨c32, c33, c34, c35⟩ := K14.c4
 exact bodyPost_ret (v := .tuple #[.agg #[.bool false, .slice none 0 0, .bool false, .slice none 0 0], .int .i64 3]) (by simp [results, Tryz.results94, go_sem, c32, c33, c34, c35]) rfl ⟨rfl, BW⟩
set_option maxHeartbeats 8000000 in
set_option maxRecDepth 20000 in
theorem i_over {q p : Rat} {f g : Fv} {C : Nat} {w : World} (L : Fq w q f C) (M : Fq w p g C) (hp : p ≠ 0) (hC : C ≤ 1759218604390) (hC2 : C ≤ 17592186043904) :
    Calls Tryz.prog 94 #[fv f, fv g] w (fun e w' => ∃ h : Fv, e = .returned (.tuple #[fv h, .int .i64 0]) ∧ Fq w' (q / p) h (2 * C + 2) ∧ Below w.heap.size w w') := by
 have HP := Lib.hid hp
 clear hp
 have BW : Below w.heap.size w w := Below.refl _ _
 obtain ⟨V2, e3, hb4, K5, -, z1⟩ := alloc_new w [.bool f.n, .slice f.A f.xs.length f.c, .bool f.m, .slice f.B f.ds.length f.d] 88
 replace L := L.kp (Kept.of hb4)
 replace M := M.kp (Kept.of hb4)
 replace BW := BW.trans (hb4.mono BW.size)
 clear hb4
 obtain ⟨V7, e8, hb9, K10, -, z6⟩ := alloc_new V2 [.bool g.n, .slice g.A g.xs.length g.c, .bool g.m, .slice g.B g.ds.length g.d] 88
 rw [z1] at K10 z6
 replace K5 := K5.on hb9
 replace L := L.kp (Kept.of hb9)
 replace M := M.kp (Kept.of hb9)
 replace BW := BW.trans (hb9.mono BW.size)
 clear hb9
 obtain ⟨V11, e12, hb13, K14, Z15, -⟩ := alloc_new V7 [.bool false, .slice none 0 0, .bool false, .slice none 0 0] 88
 rw [z6] at K14 Z15
 have n16 : w.heap.size ≠ w.heap.size + 1 + 1 := Nat.ne_of_lt (z6 ▸ K5.lt)
 have n17 : w.heap.size + 1 ≠ w.heap.size + 1 + 1 := Nat.ne_of_lt (z6 ▸ K10.lt)
 have g18 : w.heap.size ≤ w.heap.size + 1 + 1 := z6 ▸ BW.size
 replace K5 := K5.on hb13
 replace K10 := K10.on hb13
 replace L := L.kp (Kept.of hb13)
 replace M := M.kp (Kept.of hb13)
 replace BW := BW.trans (hb13.mono BW.size)
 clear hb13
 clear z1 z6
 go_enter Tryz.func94, Tryz.ntmps94
 go_wp2_with fail
 rw [← e3, ← e8, ← e12]
 clear e3 e8 e12
 refine (b_sign M hC2).mono ?_
 rintro _ w19 ⟨rfl, hb⟩
 replace K5 := K5.on hb
 replace K10 := K10.on hb
 replace K14 := K14.on hb
 replace Z15 := Z15.on hb
 replace L := L.kp (Kept.of hb)
 replace M := M.kp (Kept.of hb)
 replace BW := BW.trans (hb.mono BW.size)
 clear hb
 generalize hs : sgnQ p = s at *
 have HS := Lib.hid hs
 clear hs
 have hs0 : (s == 0) = false := by simpa using (fun h => HP.out (sgn_zero.1 (HS.out.trans h)))
 obtain ⟨c20, c21, c22, c23⟩ := K5.c4
 obtain ⟨c24, c25, c26, c27⟩ := K10.c4
 go_wp2_with fail
 clear c20 c21 c22 c23 c24 c25 c26 c27
 clear hs0
 refine (q_quo L M (fun h => HP.out (Rat.num_eq_zero.1 h)) hC).mono ?_
 rintro _ w28 ⟨h, rfl, N, hb⟩
 replace K14 := K14.on hb
 replace Z15 := Z15.on hb
 replace BW := BW.trans (hb.mono BW.size)
 clear hb
 obtain ⟨c29, c30, c31, c32⟩ := K14.c4
 obtain ⟨c33, c34, c35, c36⟩ := Z15.f4
 obtain ⟨V37, hk39⟩ : ∃ V37, V37 = w28.setCells (w.heap.size + 1 + 1) 0 [.bool h.n, .slice h.A h.xs.length h.c, .bool h.m, .slice h.B h.ds.length h.d] := ⟨_, rfl⟩
 have e38 := hk39
 simp only [World.setCells, Nat.zero_add, Nat.reduceAdd] at e38
 have hk40 := Kept.overE hk39 K14 rfl (Nat.le_of_ble_eq_true rfl)
 replace K14 := K14.overE hk39 rfl
 replace N := N.kp hk40
 replace BW := Below.putE BW hk39 g18
 clear hk39 hk40
 go_wp2_with fail
 clear c29 c30 c31 c32 c33 c34 c35 c36
 rw [← e38]
 clear e38
 obtain ⟨c41, c42, c43, c44⟩ := K14.c4
 exact bodyPost_ret (v := .tuple #[fv h, .int .i64 0]) (by simp [results, Tryz.results94, go_sem, c41, c42, c43, c44]) rfl ⟨h, rfl, N, BW⟩
def OvIs (W : World) (q p : Rat) (h : Fv) (e : Int) (C : Nat) : Prop := (p = 0 ∧ e = 3 ∧ h = fv0) ∨ (p ≠ 0 ∧ e = 0 ∧ Fq W (q / p) h C)
theorem OvIs.kp {W W' : World} {q p : Rat} {h : Fv} {e : Int} {C : Nat} (o : OvIs W q p h e C) (k : Kept W W') : OvIs W' q p h e C := by
 rcases o with h1 | ⟨h1, h2, h3⟩
 ·exact .inl h1
 ·exact .inr ⟨h1, h2, h3.kp k⟩
theorem i_ov {q p : Rat} {f g : Fv} {C D : Nat} {w : World} (L : Fq w q f C) (M : Fq w p g C) (hC : C ≤ 1759218604390) (hD : 2 * C + 2 ≤ D) : Calls Tryz.prog 94 #[fv f, fv g] w (fun e w' => ∃ (h : Fv) (er : Int), e = .returned (.tuple #[fv h, .int .i64 er]) ∧ OvIs w' q p h er D ∧ Below w.heap.size w w') := by
 by_cases hp : p = 0
 ·exact (i_over0 L M hp (by omega)).mono fun _ _ ⟨h, hb⟩ => ⟨fv0, 3, h, .inl ⟨hp, rfl, rfl⟩, hb⟩
 ·exact (i_over L M hp hC (by omega)).mono fun _ _ ⟨h, h1, h2, hb⟩ => ⟨h, 0, h1, .inr ⟨hp, rfl, h2.mono hD⟩, hb⟩
theorem ov_both {W : World} {x y p : Rat} {g h : Fv} {e1 e2 : Int} {C : Nat} (o : OvIs W x p g e1 C) (k : OvIs W y p h e2 C) : (p = 0 ∧ orE e1 e2 = 3 ∧ g = fv0 ∧ h = fv0) ∨ (p ≠ 0 ∧ orE e1 e2 = 0 ∧ Fq W (x / p) g C ∧ Fq W (y / p) h C) := by
 rcases o with ⟨h1, rfl, h2⟩ | ⟨h1, rfl, h2⟩ <;> rcases k with ⟨k1, rfl, k2⟩ | ⟨k1, rfl, k2⟩
 ·exact .inl ⟨h1, rfl, h2, k2⟩
 ·exact absurd h1 k1
 ·exact absurd k1 h1
 ·exact .inr ⟨h1, rfl, h2, k2⟩
end Go.Proofs.YtplgheabhekedaaGreat
