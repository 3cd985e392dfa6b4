/-
  Fractions, rays copied; a ray turned. Conditions: as each theorem states.
-/
import Derived.Test.YtjamfkafgfpobaaGreatDoorBm4
import Derived.Test.YtjamfkafgfpobaaGreatDoorXtra
import Derived.Test.YtjamfkafgfpobaaGreatDoorFre
import Derived.Test.YtjamfkafgfpobaaGreatDoorWh
import Derived.Test.YtjamfkafgfpobaaGreatDoorRf
import Derived.Deep.Upon
import Derived.Test.YtjamfkafgfpobaaGreatDoorTw0
import Derived.Test.YtjamfkafgfpobaaGreatDoorTp2
import Derived.Test.YtjamfkafgfpobaaGreatDoorTpr
import Derived.Test.YtjamfkafgfpobaaGreatDoorTr2
import Derived.Deep.RegionHeld3
import Derived.Deep.DeepCutAuto
import Derived.BigRegion
namespace Go.Proofs.YtjamfkafgfpobaaGreatDoor
open Go.ChangeShapes Go.WideShapes Go.RowKit Nb
set_option maxHeartbeats 8000000 in
set_option maxRecDepth 20000 in
theorem frac_sign (q : Rat) (n : Bool) (A B : Option Addr) (xs ds : List Nat) (c d : Nat) (w : World) (h : Lf w q n A xs c B ds d) :
  Calls Tryz.prog 54 #[frq n A xs.length c false B ds.length d] w (fun e w' => e = .returned (.int .i64 (sgnQ q)) ∧ Below w.heap.size w w') := by
 obtain ⟨V, hV⟩ : ∃ V, V = (w.alloc (.cells #[.bool n, .slice A xs.length c, .bool false, .slice B ds.length d] 27)) := ⟨_, rfl⟩
 have BW : Below w.heap.size w V := by rw [hV]; go_grown
 have KX : Box V w.heap.size [.bool n, .slice A xs.length c, .bool false, .slice B ds.length d] := by rw [hV]; exact Box.new w _ _
 have LX := h.on BW
 clear h
 have KX_0 := KX.c 0 _ rfl
 have KX_1 := KX.c 1 _ rfl
 have KX_2 := KX.c 2 _ rfl
 have KX_3 := KX.c 3 _ rfl
 go_enter Tryz.func54, Tryz.ntmps54
 go_wp2_with fail
 clear KX_0 KX_1 KX_2 KX_3
 rw [← hV]
 clear hV
 refine (fcheck_any n false A B xs ds c d V LX.rq).mono ?_
 rw [chkF_ok LX.okf]
 rintro _ w1 ⟨rfl, hb⟩
 replace KX := KX.on hb
 replace LX := LX.on hb
 replace BW := BW.trans (hb.mono BW.size)
 clear hb
 have KX_0 := KX.c 0 _ rfl
 have KX_1 := KX.c 1 _ rfl
 have KX_2 := KX.c 2 _ rfl
 have KX_3 := KX.c 3 _ rfl
 go_wp2_with fail
 clear KX_0 KX_1 KX_2 KX_3
 refine (wsign_u n A xs c w1 LX.rq.x.sl LX.rq.x.dig LX.rq.x.sz).mono ?_
 rw [sgnV_nl LX.num]
 rintro _ w2 ⟨rfl, hb⟩
 replace KX := KX.on hb
 replace LX := LX.on hb
 replace BW := BW.trans (hb.mono BW.size)
 clear hb
 clear LX KX
 go_wp2
 go_ret
 exact ⟨rfl, BW⟩
end Go.Proofs.YtjamfkafgfpobaaGreatDoor
namespace Go.Proofs.YtjamfkafgfpobaaGreatDoor
open Go.ChangeShapes Go.WideShapes Go.RowKit Nb
section
variable {W : World} {q : Rat} {f : Fv}
theorem r_sign (h : Ff W q f) : Calls Tryz.prog 54 #[fv f] W (fun e w' => e = .returned (.int .i64 (sgnQ q)) ∧ Below W.heap.size W w') := by
 obtain ⟨n, A, xs, c, m, B, ds, d⟩ := f
 obtain ⟨rfl, h⟩ := h
 exact frac_sign q n A B xs ds c d W h
end
end Go.Proofs.YtjamfkafgfpobaaGreatDoor
namespace Go.Proofs.YtjamfkafgfpobaaGreatDoor
open Go.RowKit Nb
theorem Row.slU {W : World} {g n : Nat} {ls : List Nat} (h : Row .u32 W g 130 (ls ++ [n])) : Sl .u32 W W.heap.size (some ⟨g, 0, none⟩) ls := fun _ => by
 refine ⟨⟨g, 0, none⟩, rfl, h.lt, fun j hj => ?_⟩
 have h1 := h.cell (i := j) (by rw [List.length_append]; omega)
 rw [List.getElem_append_left hj] at h1
 rw [addr_addo, Nat.zero_add]; exact h1
theorem t_int {X : Int} {n : Bool} {A : Option Addr} {ls : List Nat} {c : Nat} {w : World} (h : Nl w X n A ls c) (hc : ls.length * 4 ≤ 140737488351232) :
  Calls Tryz.prog 110 #[big n A ls.length c] w (fun e w' => ∃ (B : Option Addr) (d : Nat), e = .returned (big n B ls.length d) ∧ Nl w' X n B ls d ∧ Below w.heap.size w w') := by
 refine (twin_sl n A ls c w h.lm.sl hc).mono ?_
 rintro _ w1 ⟨g, rfl, hr, _, hb⟩
 exact ⟨some ⟨g, 0, none⟩, ls.length + 1, rfl, ⟨⟨hr.slU, h.lm.dig, h.lm.ok⟩, h.v⟩, hb⟩
theorem nl_size {W : World} {X : Int} {n : Bool} {A : Option Addr} {ls : List Nat} {c : Nat} (h : Nl W X n A ls c) : ls.length * 4 ≤ 140737488351232 := by have := h.lm.ok.len; omega
theorem t_den {X : Int} {m : Bool} {A : Option Addr} {ls : List Nat} {c : Nat} {w : World} (hm : m = false) (h : Nl w X false A ls c) :
  Calls Tryz.prog 110 #[.agg #[.bool m, .slice A ls.length c]] w (fun e w' => ∃ (B : Option Addr) (d : Nat), e = .returned (big false B ls.length d) ∧ Nl w' X false B ls d ∧ Below w.heap.size w w') := by subst hm; exact t_int h (nl_size h)
set_option maxHeartbeats 16000000 in
set_option maxRecDepth 100000 in
theorem t_frac {q : Rat} {f : Fv} {w : World} (La : Ff w q f) :
    Calls Tryz.prog 90 #[fv f] w (fun e w' => ∃ g : Fv, e = .returned (fv g) ∧ Ff w' q g ∧ Below w.heap.size w w') := by
 obtain ⟨hm, L0⟩ := La
 have HM := Lib.hid hm
 clear hm
 have BW : Below w.heap.size w w := Below.refl _ _
 obtain ⟨V2, e3, hb4, K5, Z6, z1⟩ := alloc_new w [.bool f.n, .slice f.A f.xs.length f.c, .bool f.m, .slice f.B f.ds.length f.d] 27
 have g7 : w.heap.size ≤ w.heap.size := BW.size
 replace L0 := L0.kp (Kept.of hb4)
 replace BW := BW.trans (hb4.mono BW.size)
 clear hb4
 obtain ⟨V8, e9, hb10, K11, Z12, -⟩ := alloc_new V2 [.bool false, .slice none 0 0, .bool false, .slice none 0 0] 27
 rw [z1] at K11 Z12
 have n13 : w.heap.size ≠ w.heap.size + 1 := Nat.ne_of_lt (z1 ▸ K5.lt)
 have g14 : w.heap.size ≤ w.heap.size + 1 := z1 ▸ BW.size
 replace K5 := K5.on hb10
 replace L0 := L0.kp (Kept.of hb10)
 replace BW := BW.trans (hb10.mono BW.size)
 clear hb10
 clear z1
 go_enter Tryz.func90, Tryz.ntmps90
 go_wp2_with fail
 rw [← e3, ← e9]
 clear e3 e9
 refine wp_region_noPanic ?_
 have hb : Below V8.heap.size V8 V8.drew := (Below.refl _ _).drew
 replace K5 := K5.on hb
 replace K11 := K11.on hb
 replace Z12 := Z12.on hb
 replace L0 := L0.kp (Kept.of hb)
 replace BW := BW.trans (hb.mono BW.size)
 clear hb
 refine wp_region_held_drew (S := (fun wx => Cs wx (w.heap.size) 0 [.bool f.n, .slice f.A f.xs.length f.c, .bool f.m, .slice f.B f.ds.length f.d])) (by kernel_rfl) (by exact K5.cs) (fun hHeld => ?_)
 generalize V8.drew = Vd15 at *
 refine pT 0 ?_
 (try simp only [p0, p1, p2, p3])
 refine pT 1 ?_
 (try simp only [p0, p1, p2, p3])
 refine pT 3 ?_
 (try simp only [p0, p1, p2, p3])
 refine pT 4 ?_
 (try simp only [p0, p1, p2, p3])
 refine pR1 2 (fun K hK => ?_)
 go_simp
 (go_at_call 110; with_reducible refine (t_int L0.num (nl_size L0.num)).mono ?_)
 rintro _ w16 ⟨B1, d1, rfl, N1, hb⟩
 (try go_wp2_with fail)
 replace K5 := K5.on hb
 replace K11 := K11.on hb
 replace Z12 := Z12.on hb
 replace L0 := L0.kp (Kept.of hb)
 replace BW := BW.trans (hb.mono BW.size)
 clear hb
 clear hHeld
 refine hK.out _ _ (by exact K5.cs) (fun hHeld => ?_)
 clear hK
 (try simp only [p0, p1, p2, p3])
 refine pR1 5 (fun K hK => ?_)
 go_simp
 (go_at_call 110; with_reducible refine (t_den HM.out L0.den).mono ?_)
 rintro _ w17 ⟨B2, d2, rfl, N2, hb⟩
 (try go_wp2_with fail)
 replace K5 := K5.on hb
 replace K11 := K11.on hb
 replace Z12 := Z12.on hb
 replace N1 := N1.kp (Kept.of hb)
 replace BW := BW.trans (hb.mono BW.size)
 clear hb
 clear hHeld
 refine hK.out _ _ (by exact K5.cs) (fun hHeld => ?_)
 clear hK
 (try simp only [p0, p1, p2, p3])
 refine pT 6 ?_
 (try simp only [p0, p1, p2, p3])
 refine pR1 7 (fun K hK => ?_)
 obtain ⟨c18, c19, c20, c21⟩ := K11.c4
 obtain ⟨c22, c23, c24, c25⟩ := Z12.f4
 go_simp
 clear c18 c19 c20 c21 c22 c23 c24 c25
 obtain ⟨V26, hk28⟩ : ∃ V26, V26 = w17.setCells (w.heap.size + 1) 0 [.bool f.n, .slice B1 f.xs.length d1, .bool false, .slice B2 f.ds.length d2] := ⟨_, rfl⟩
 have e27 := hk28
 simp only [World.setCells, Nat.zero_add, Nat.reduceAdd] at e27
 have hk29 := Kept.overE hk28 K11 rfl (Nat.le_of_ble_eq_true rfl)
 replace K5 := K5.awayE hk28 n13
 replace K11 := K11.overE hk28 rfl
 replace N1 := N1.kp hk29
 replace N2 := N2.kp hk29
 replace BW := Below.putE BW hk28 g14
 clear hk28 hk29
 rw [← e27]
 clear e27
 clear hHeld
 refine hK.out _ _ (by exact K5.cs) (fun hHeld => ?_)
 clear hK
 (try simp only [p0, p1, p2, p3])
 refine wpAnyH_done (by kernel_rfl) (NoPanic.normal ?_) _
 go_wp2
 obtain ⟨c30, c31, c32, c33⟩ := K11.c4
 exact bodyPost_ret (v := .agg #[.bool f.n, .slice B1 f.xs.length d1, .bool false, .slice B2 f.ds.length d2]) (by simp [results, Tryz.results90, go_sem, c30, c31, c32, c33]) rfl ⟨⟨f.n, B1, f.xs, d1, false, B2, f.ds, d2⟩, rfl, ⟨rfl, N1, N2⟩, BW⟩
set_option maxHeartbeats 16000000 in
set_option maxRecDepth 100000 in
theorem t_ray {r : Yq} {y : Yv} {w : World} (Fa : Fy w r y) :
    Calls Tryz.prog 53 #[yv y] w (fun e w' => ∃ g : Yv, e = .returned (yv g) ∧ Fy w' r g ∧ Below w.heap.size w w') := by
 have BW : Below w.heap.size w w := Below.refl _ _
 obtain ⟨V2, e3, hb4, K5, Z6, z1⟩ := alloc_new w [.bool y.Y.n, .slice y.Y.A y.Y.xs.length y.Y.c, .bool y.Y.m, .slice y.Y.B y.Y.ds.length y.Y.d, .bool y.U.n, .slice y.U.A y.U.xs.length y.U.c, .bool y.U.m, .slice y.U.B y.U.ds.length y.U.d] 29
 replace K5 : Box V2 (w.heap.size) (ycs y) := K5
 have g7 : w.heap.size ≤ w.heap.size := BW.size
 replace Fa := Fa.kp (Kept.of hb4)
 replace BW := BW.trans (hb4.mono BW.size)
 clear hb4
 obtain ⟨V8, e9, hb10, K11, Z12, -⟩ := alloc_new V2 [.bool false, .slice none 0 0, .bool false, .slice none 0 0, .bool false, .slice none 0 0, .bool false, .slice none 0 0] 29
 rw [z1] at K11 Z12
 replace K11 : Box V8 (w.heap.size + 1) (zcs8) := K11
 have n13 : w.heap.size ≠ w.heap.size + 1 := Nat.ne_of_lt (z1 ▸ K5.lt)
 have g14 : w.heap.size ≤ w.heap.size + 1 := z1 ▸ BW.size
 replace K5 := K5.on hb10
 replace Fa := Fa.kp (Kept.of hb10)
 replace BW := BW.trans (hb10.mono BW.size)
 clear hb10
 clear z1
 go_enter Tryz.func53, Tryz.ntmps53
 go_wp2_with fail
 rw [← e3, ← e9]
 clear e3 e9
 refine wp_region_noPanic ?_
 have hb : Below V8.heap.size V8 V8.drew := (Below.refl _ _).drew
 replace K5 := K5.on hb
 replace K11 := K11.on hb
 replace Z12 := Z12.on hb
 replace Fa := Fa.kp (Kept.of hb)
 replace BW := BW.trans (hb.mono BW.size)
 clear hb
 refine wp_region_held_drew (S := (fun wx => Cs wx (w.heap.size) 0 [.bool y.Y.n, .slice y.Y.A y.Y.xs.length y.Y.c, .bool y.Y.m, .slice y.Y.B y.Y.ds.length y.Y.d, .bool y.U.n, .slice y.U.A y.U.xs.length y.U.c, .bool y.U.m, .slice y.U.B y.U.ds.length y.U.d])) (by kernel_rfl) (by exact K5.cs) (fun hHeld => ?_)
 generalize V8.drew = Vd15 at *
 refine pT 0 ?_
 (try simp only [p0, p1, p2, p3])
 refine pT 1 ?_
 (try simp only [p0, p1, p2, p3])
 refine pT 3 ?_
 (try simp only [p0, p1, p2, p3])
 refine pT 4 ?_
 (try simp only [p0, p1, p2, p3])
 refine pR1 2 (fun K hK => ?_)
 go_simp
 (go_at_call 90; with_reducible refine (t_frac Fa.fY).mono ?_)
 rintro _ w16 ⟨g1, rfl, L1, hb⟩
 (try go_wp2_with fail)
 replace K5 := K5.on hb
 replace K11 := K11.on hb
 replace Z12 := Z12.on hb
 replace Fa := Fa.kp (Kept.of hb)
 replace BW := BW.trans (hb.mono BW.size)
 clear hb
 clear hHeld
 refine hK.out _ _ (by exact K5.cs) (fun hHeld => ?_)
 clear hK
 (try simp only [p0, p1, p2, p3])
 refine pR1 5 (fun K hK => ?_)
 go_simp
 (go_at_call 90; with_reducible refine (t_frac Fa.fU).mono ?_)
 rintro _ w17 ⟨g2, rfl, L2, hb⟩
 (try go_wp2_with fail)
 replace K5 := K5.on hb
 replace K11 := K11.on hb
 replace Z12 := Z12.on hb
 replace L1 := L1.kp (Kept.of hb)
 replace BW := BW.trans (hb.mono BW.size)
 clear hb
 clear hHeld
 refine hK.out _ _ (by exact K5.cs) (fun hHeld => ?_)
 clear hK
 (try simp only [p0, p1, p2, p3])
 refine pT 6 ?_
 (try simp only [p0, p1, p2, p3])
 refine pR1 7 (fun K hK => ?_)
 obtain ⟨c18, c19, c20, c21, c22, c23, c24, c25⟩ := K11.c8
 obtain ⟨c26, c27, c28, c29, c30, c31, c32, c33⟩ := Z12.f8
 go_simp
 clear c18 c19 c20 c21 c22 c23 c24 c25 c26 c27 c28 c29 c30 c31 c32 c33
 obtain ⟨V34, hk36⟩ : ∃ V34, V34 = w17.setCells (w.heap.size + 1) 0 [.bool g1.n, .slice g1.A g1.xs.length g1.c, .bool g1.m, .slice g1.B g1.ds.length g1.d, .bool g2.n, .slice g2.A g2.xs.length g2.c, .bool g2.m, .slice g2.B g2.ds.length g2.d] := ⟨_, rfl⟩
 have e35 := hk36
 simp only [World.setCells, Nat.zero_add, Nat.reduceAdd] at e35
 have hk37 := Kept.overE hk36 K11 rfl (Nat.le_of_ble_eq_true rfl)
 replace K5 := K5.awayE hk36 n13
 replace K11 := K11.overE hk36 rfl
 replace L1 := L1.kp hk37
 replace L2 := L2.kp hk37
 replace BW := Below.putE BW hk36 g14
 clear hk36 hk37
 rw [← e35]
 clear e35
 clear hHeld
 refine hK.out _ _ (by exact K5.cs) (fun hHeld => ?_)
 clear hK
 (try simp only [p0, p1, p2, p3])
 refine wpAnyH_done (by kernel_rfl) (NoPanic.normal ?_) _
 go_wp2
 obtain ⟨c38, c39, c40, c41, c42, c43, c44, c45⟩ := K11.c8
 exact bodyPost_ret (v := .agg #[.bool g1.n, .slice g1.A g1.xs.length g1.c, .bool g1.m, .slice g1.B g1.ds.length g1.d, .bool g2.n, .slice g2.A g2.xs.length g2.c, .bool g2.m, .slice g2.B g2.ds.length g2.d]) (by simp [results, Tryz.results53, go_sem, c38, c39, c40, c41, c42, c43, c44, c45]) rfl ⟨⟨g1, g2⟩, rfl, ⟨L1, L2⟩, BW⟩
theorem ff_neg {W : World} {q : Rat} {g : Fv} (hq : q ≠ 0) (h : Ff W q g) : Ff W (-q) ⟨!g.n, g.A, g.xs, g.c, g.m, g.B, g.ds, g.d⟩ := by
 obtain ⟨hm, h1⟩ := h
 have hv := h1.num.v
 have hx : g.xs ≠ [] := fun e => by
  rw [e] at hv
  have h2 : q.num = 0 := by rw [← hv]; unfold sv; cases g.n <;> rfl
  exact hq (Rat.num_eq_zero.1 h2)
 refine ⟨hm, ⟨⟨⟨h1.num.lm.sl, h1.num.lm.dig, ?_⟩, ?_⟩, ?_⟩⟩
 ·have o := h1.num.lm.ok
  exact ⟨o.len, o.norm, fun e => absurd e hx⟩
 ·rw [Rat.neg_num, ← hv]; unfold sv; cases g.n <;> simp
 ·rw [Rat.neg_den]; exact h1.den
set_option maxHeartbeats 16000000 in
set_option maxRecDepth 100000 in
theorem t_turned {r : Yq} {y : Yv} {w : World} (Fa : Fy w r y) :
    Calls Tryz.prog 20 #[yv y] w (fun e w' => ∃ g : Yv, e = .returned (yv g) ∧ Fy w' r.turn g ∧ Below w.heap.size w w') := by
 have BW : Below w.heap.size w w := Below.refl _ _
 obtain ⟨V2, e3, hb4, K5, Z6, z1⟩ := alloc_new w [.bool y.Y.n, .slice y.Y.A y.Y.xs.length y.Y.c, .bool y.Y.m, .slice y.Y.B y.Y.ds.length y.Y.d, .bool y.U.n, .slice y.U.A y.U.xs.length y.U.c, .bool y.U.m, .slice y.U.B y.U.ds.length y.U.d] 29
 replace K5 : Box V2 (w.heap.size) (ycs y) := K5
 have g7 : w.heap.size ≤ w.heap.size := BW.size
 replace Fa := Fa.kp (Kept.of hb4)
 replace BW := BW.trans (hb4.mono BW.size)
 clear hb4
 obtain ⟨V8, e9, hb10, K11, Z12, -⟩ := alloc_new V2 [.bool false, .slice none 0 0, .bool false, .slice none 0 0, .bool false, .slice none 0 0, .bool false, .slice none 0 0] 29
 rw [z1] at K11 Z12
 replace K11 : Box V8 (w.heap.size + 1) (zcs8) := K11
 have n13 : w.heap.size ≠ w.heap.size + 1 := Nat.ne_of_lt (z1 ▸ K5.lt)
 have g14 : w.heap.size ≤ w.heap.size + 1 := z1 ▸ BW.size
 replace K5 := K5.on hb10
 replace Fa := Fa.kp (Kept.of hb10)
 replace BW := BW.trans (hb10.mono BW.size)
 clear hb10
 clear z1
 go_enter Tryz.func20, Tryz.ntmps20
 go_wp2_with fail
 rw [← e3, ← e9]
 clear e3 e9
 refine (t_ray Fa).mono ?_
 rintro _ w15 ⟨g, rfl, L, hb⟩
 replace K5 := K5.on hb
 replace K11 := K11.on hb
 replace Z12 := Z12.on hb
 replace Fa := Fa.kp (Kept.of hb)
 replace BW := BW.trans (hb.mono BW.size)
 clear hb
 obtain ⟨V16, e17, hb18, K19, Z20, -⟩ := alloc_new w15 [.bool g.Y.n, .slice g.Y.A g.Y.xs.length g.Y.c, .bool g.Y.m, .slice g.Y.B g.Y.ds.length g.Y.d, .bool g.U.n, .slice g.U.A g.U.xs.length g.U.c, .bool g.U.m, .slice g.U.B g.U.ds.length g.U.d] 29
 replace K19 : Box V16 (w15.heap.size) (ycs g) := K19
 have n21 : w.heap.size ≠ w15.heap.size := Nat.ne_of_lt (K5.lt)
 have n22 : w.heap.size + 1 ≠ w15.heap.size := Nat.ne_of_lt (K11.lt)
 have g23 : w.heap.size ≤ w15.heap.size := BW.size
 replace K5 := K5.on hb18
 replace K11 := K11.on hb18
 replace Z12 := Z12.on hb18
 replace Fa := Fa.kp (Kept.of hb18)
 replace L := L.kp (Kept.of hb18)
 replace BW := BW.trans (hb18.mono BW.size)
 clear hb18
 obtain ⟨c24, c25, c26, c27, c28, c29, c30, c31⟩ := K5.c8
 rw [e17] at c24 c25 c26 c27 c28 c29 c30 c31
 go_wp2_with fail
 clear c24 c25 c26 c27 c28 c29 c30 c31
 rw [← e17]
 clear e17
 generalize w15.heap.size = b32 at *
 refine (r_sign Fa.fU).mono ?_
 rintro _ w33 ⟨rfl, hb⟩
 replace K11 := K11.on hb
 replace K19 := K19.on hb
 replace Z12 := Z12.on hb
 replace Z20 := Z20.on hb
 replace L := L.kp (Kept.of hb)
 replace BW := BW.trans (hb.mono BW.size)
 clear hb
 by_cases hz : r.u = 0
 · have hs : sgnQ r.u = 0 := sgn_zero.2 hz
   rw [hs]
   obtain ⟨c34, c35, c36, c37, c38, c39, c40, c41⟩ := K11.c8
   obtain ⟨c42, c43, c44, c45, c46, c47, c48, c49⟩ := Z12.f8
   obtain ⟨c50, c51, c52, c53, c54, c55, c56, c57⟩ := K19.c8
   obtain ⟨V58, hk60⟩ : ∃ V58, V58 = w33.setCells (w.heap.size + 1) 0 [.bool g.Y.n, .slice g.Y.A g.Y.xs.length g.Y.c, .bool g.Y.m, .slice g.Y.B g.Y.ds.length g.Y.d, .bool g.U.n, .slice g.U.A g.U.xs.length g.U.c, .bool g.U.m, .slice g.U.B g.U.ds.length g.U.d] := ⟨_, rfl⟩
   have e59 := hk60
   simp only [World.setCells, Nat.zero_add, Nat.reduceAdd] at e59
   have hk61 := Kept.overE hk60 K11 rfl (Nat.le_of_ble_eq_true rfl)
   replace K11 := K11.overE hk60 rfl
   replace L := L.kp hk61
   replace BW := Below.putE BW hk60 g14
   clear hk60 hk61
   replace K11 : Box V58 (w.heap.size + 1) (ycs g) := K11
   go_wp2_with fail
   clear c34 c35 c36 c37 c38 c39 c40 c41 c42 c43 c44 c45 c46 c47 c48 c49 c50 c51 c52 c53 c54 c55 c56 c57
   rw [← e59]
   clear e59
   obtain ⟨c62, c63, c64, c65, c66, c67, c68, c69⟩ := K11.c8
   exact bodyPost_ret (v := yv g) (by simp [results, Tryz.results20, go_sem, c62, c63, c64, c65, c66, c67, c68, c69]) rfl ⟨g, rfl, ⟨L.1, (by rw [show r.turn.u = r.u by unfold Yq.turn; rw [hz]; exact Rat.neg_zero]; exact L.2)⟩, BW⟩
 · obtain ⟨sg, hsg⟩ : ∃ sg, sgnQ r.u = sg := ⟨_, rfl⟩
   have hsb : (sg == 0) = false := beq_eq_false_iff_ne.2 (fun h => hz (sgn_zero.1 (hsg.trans h)))
   rw [hsg]
   clear hsg
   go_upto_region 3 with fail
   obtain ⟨c34, c35, c36, c37, c38, c39, c40, c41⟩ := K19.c8
   obtain ⟨c42, c43, c44, c45, c46, c47, c48, c49⟩ := Z20.f8
   obtain ⟨V50, hk52⟩ : ∃ V50, V50 = w33.setCells (b32) 4 [.bool (!g.U.n)] := ⟨_, rfl⟩
   have e51 := hk52
   simp only [World.setCells] at e51
   have hk53 := Kept.overE hk52 K19 rfl (Nat.le_of_ble_eq_true rfl)
   replace K11 := K11.awayE hk52 n22
   replace K19 := K19.part (us' := [.bool g.Y.n, .slice g.Y.A g.Y.xs.length g.Y.c, .bool g.Y.m, .slice g.Y.B g.Y.ds.length g.Y.d, .bool (!g.U.n), .slice g.U.A g.U.xs.length g.U.c, .bool g.U.m, .slice g.U.B g.U.ds.length g.U.d]) hk52 rfl (Nat.le_of_ble_eq_true rfl)
   replace Z12 := Z12.putE hk52
   replace L := L.kp hk53
   replace BW := Below.putE BW hk52 g23
   clear hk52 hk53
   go_upto_region 4 with fail
   clear c34 c35 c36 c37 c38 c39 c40 c41 c42 c43 c44 c45 c46 c47 c48 c49
   rw [← e51]
   clear e51
   obtain ⟨c54, c55, c56, c57, c58, c59, c60, c61⟩ := K11.c8
   obtain ⟨c62, c63, c64, c65, c66, c67, c68, c69⟩ := Z12.f8
   obtain ⟨c70, c71, c72, c73, c74, c75, c76, c77⟩ := K19.c8
   obtain ⟨V78, hk80⟩ : ∃ V78, V78 = V50.setCells (w.heap.size + 1) 0 [.bool g.Y.n, .slice g.Y.A g.Y.xs.length g.Y.c, .bool g.Y.m, .slice g.Y.B g.Y.ds.length g.Y.d, .bool (!g.U.n), .slice g.U.A g.U.xs.length g.U.c, .bool g.U.m, .slice g.U.B g.U.ds.length g.U.d] := ⟨_, rfl⟩
   have e79 := hk80
   simp only [World.setCells, Nat.zero_add, Nat.reduceAdd] at e79
   have hk81 := Kept.overE hk80 K11 rfl (Nat.le_of_ble_eq_true rfl)
   replace K11 := K11.overE hk80 rfl
   replace L := L.kp hk81
   replace BW := Below.putE BW hk80 g14
   clear hk80 hk81
   go_wp2_with fail
   clear c54 c55 c56 c57 c58 c59 c60 c61 c62 c63 c64 c65 c66 c67 c68 c69 c70 c71 c72 c73 c74 c75 c76 c77
   rw [← e79]
   clear e79
   obtain ⟨c82, c83, c84, c85, c86, c87, c88, c89⟩ := K11.c8
   exact bodyPost_ret (v := yv ⟨g.Y, ⟨!g.U.n, g.U.A, g.U.xs, g.U.c, g.U.m, g.U.B, g.U.ds, g.U.d⟩⟩) (by simp [results, Tryz.results20, go_sem, c82, c83, c84, c85, c86, c87, c88, c89]) rfl ⟨⟨g.Y, ⟨!g.U.n, g.U.A, g.U.xs, g.U.c, g.U.m, g.U.B, g.U.ds, g.U.d⟩⟩, rfl, ⟨L.1, ff_neg hz L.2⟩, BW⟩
def Bel (w W : World) : Prop := Below w.heap.size w W
def Lew (w : World) (g : Nat) : Prop := w.heap.size ≤ g
section
variable {w W V : World} {g o : Nat} {vs : List Value}
theorem Bel.b (h : Bel w W) : Below w.heap.size w W := h
theorem Bel.size (h : Bel w W) : w.heap.size ≤ W.heap.size := Below.size h
theorem Bel.lew (h : Bel w W) : Lew w W.heap.size := Below.size h
theorem Bel.trans (h : Bel w W) (k : Below w.heap.size W V) : Bel w V := Below.trans h k
theorem Bel.putE (h : Bel w W) (e : V = W.setCells g o vs) (hw : Lew w g) : Bel w V := Below.putE h e hw
end
theorem b_reverseL {a : Option Addr} {c : Nat} {es : List Ev} {zs : List Eq} {w : World} (S : Sle w a c es) (hF : Fes w zs es) (hn : es.length ≤ 4096) :
  Calls Tryz.prog 18 #[.slice a es.length c] w (fun e w' => ∃ (a2 : Option Addr) (c2 : Nat) (xs : List Ev), e = .returned (.tuple #[.slice a2 es.length c2, .int .i64 0]) ∧ Hid (xs.length = es.length) ∧ Fes w' zs.reverse xs ∧ Sle w' a2 c2 xs ∧ Below w.heap.size w w') :=
 (b_reverse S hF hn).mono fun e w' ⟨a2, c2, xs, he, hl, hf, hs, hb⟩ => ⟨a2, c2, xs, by rw [he, hl], Lib.hid hl, hf, hs, hb⟩
theorem b_TraceL {a : Option Addr} {c n : Nat} {es : List Ev} {zs : List Eq} {r : Yq} {y : Yv} {w : World} (S : Sle w a c es) (hF : Fes w zs es) (hn : n ≤ 4096) (Y : Fy w r y) (hx : es.length = n) :
  Calls Tryz.prog 19 #[.slice a n c, yv y] w (fun e w' => ∃ (v : Value) (er : Int), e = .returned (.tuple #[v, .int .i64 er]) ∧ TrIs w' zs r n v er ∧ Below w.heap.size w w') := by subst hx; exact b_Trace S hF hn Y
theorem ray_rev {zs : List Eq} {r : Yq} {j : Nat} (_hj : j ≤ zs.length) : rayAt zs.reverse (rayAt zs r zs.length).turn j = (rayAt zs r (zs.length - j)).turn := by
 have h1 : zs.reverse.take j = (zs.drop (zs.length - j)).reverse := by rw [List.take_reverse]
 have h2 : rayAt zs r zs.length = (benchM (zs.drop (zs.length - j))).thr (rayAt zs r (zs.length - j)) := by
  rw [rayAt_all]
  unfold rayAt
  rw [← Mq.thr_two, ← benchM_app, List.take_append_drop]
 rw [h2]
 unfold rayAt
 rw [h1, rev_mir]
 exact Mq.thr_mir (benchM_det _)
theorem rev_at {W : World} {zs : List Eq} {r : Yq} {n k : Nat} {x : Yv} (hz : zs.length = n) (hk : k < n) (h : Fy W (rayAt zs.reverse (rayAt zs r n).turn (k + 1)) x) : Fy W ((rayAt zs r (n - 1 - k)).turn) x := by
 subst hz
 rw [ray_rev (by omega)] at h
 rwa [show zs.length - 1 - k = zs.length - (k + 1) from by omega]
end Go.Proofs.YtjamfkafgfpobaaGreatDoor
