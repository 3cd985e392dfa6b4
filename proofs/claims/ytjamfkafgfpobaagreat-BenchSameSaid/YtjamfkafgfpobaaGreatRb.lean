/-
  Laws on sixteen cells; ray's small functions; the closure that puts fractions together. Conditions: as each theorem states.
-/
import Derived.Test.YtjamfkafgfpobaaGreatRm0
import Derived.Deep.RegionHeld3
import Derived.Deep.DeepCutAuto
import Derived.BigRegion
namespace Go.Proofs.YtjamfkafgfpobaaGreat
open Go.RowKit Nb
/-- All blocks but one are as they were; words stay. -/
structure But (g : Nat) (w w' : World) : Prop where
 b : Below g w w'
 blk : ∀ k, k < w.heap.size → k ≠ g → w'.heap[k]? = w.heap[k]?
 kept : Kept w w'
section
variable {w W W' V : World} {g p o : Nat} {us us' vs : List Value}
theorem But.size (h : But g w W) : w.heap.size ≤ W.heap.size := h.b.size
theorem But.refl (g : Nat) (w : World) : But g w w := ⟨Below.refl _ _, fun _ _ _ => rfl, Kept.of (Below.refl _ _)⟩
theorem But.of (hg : g < w.heap.size) (h : Below w.heap.size w W) : But g w W :=
 ⟨h.mono (Nat.le_of_lt hg), fun i hi _ => h.block i hi, Kept.of h⟩
theorem But.put (h : But g w W) (e : V = W.setCells p o vs) (k : Kept W V) (hp : w.heap.size ≤ p) (hg : g < w.heap.size) : But g w V := by
 refine ⟨Below.putE h.b e (by omega), fun i hi hn => ?_, h.kept.trans k⟩
 have h1 : Below p W V := Below.putE (Below.refl _ _) e (Nat.le_refl _)
 exact (h1.block i (by omega)).trans (h.blk i hi hn)
theorem heap_setCells (g i : Nat) (hn : i ≠ g) : ∀ (vs : List Value) (o : Nat) (W : World), (W.setCells g o vs).heap[i]? = W.heap[i]?
 | [], _, _ => rfl
 | v :: r, o, W => by rw [World.setCells, heap_setCells g i hn r]; exact Below.heap_setCell _ _ _ _ hn
theorem But.own (h : But g w W) (e : V = W.setCells g o vs) (k : Kept W V) : But g w V :=
 ⟨Below.putE h.b e (Nat.le_refl _), fun i hi hn => (e ▸ heap_setCells g i hn vs o W).trans (h.blk i hi hn), h.kept.trans k⟩
theorem Box.part (K : Box W p us) (e : V = W.setCells p o vs) (hu : us' = us.take o ++ (vs ++ us.drop (o + vs.length))) (hl : o + vs.length ≤ us.length) : Box V p us' := by
 subst e hu
 refine ⟨by rw [size_setCells]; exact K.lt, fun i v e => ?_⟩
 have ht : (us.take o).length = o := by rw [List.length_take]; omega
 rcases Nat.lt_or_ge i o with h1 | h1
 ·rw [List.getElem?_append_left (by omega), List.getElem?_take, if_pos h1] at e
  rw [World.cell?_setCells_out _ _ _ _ _ (fun _ _ => .inl h1)]
  exact K.c i v e
 ·rw [List.getElem?_append_right (by omega), ht] at e
  rcases Nat.lt_or_ge (i - o) vs.length with h2 | h2
  ·rw [List.getElem?_append_left h2] at e
   obtain ⟨hi, rfl⟩ := List.getElem?_eq_some_iff.1 e
   have := World.cell?_setCells_in p vs o W (fun j hj => by rw [K.c (o + j) _ (List.getElem?_eq_getElem (by omega))]; rfl) (i - o) hi
   rwa [show o + (i - o) = i by omega] at this
  ·rw [List.getElem?_append_right h2, List.getElem?_drop] at e
   rw [World.cell?_setCells_out _ _ _ _ _ (fun _ _ => .inr (by show o + vs.length ≤ i; omega))]
   exact K.c i v (by rwa [show o + vs.length + (i - o - vs.length) = i by omega] at e)
end
theorem rat_cross {q p : Rat} (h : q.num * (p.den : Int) = p.num * (q.den : Int)) : q = p := by
 have h1 := rat_whole q
 have h2 := rat_whole p
 have h3 : (q.num : Rat) * ((p.den : Int) : Rat) = (p.num : Rat) * ((q.den : Int) : Rat) := by rw [← Rat.intCast_mul, ← Rat.intCast_mul, h]
 have hq : ((q.den : Int) : Rat) ≠ 0 := fun e => q.den_nz (by
  have e2 : ((q.den : Int) : Rat) = ((0 : Int) : Rat) := e
  have := Rat.intCast_inj.1 e2
  omega)
 have hp : ((p.den : Int) : Rat) ≠ 0 := fun e => p.den_nz (by
  have e2 : ((p.den : Int) : Rat) = ((0 : Int) : Rat) := e
  have := Rat.intCast_inj.1 e2
  omega)
 generalize ((q.den : Int) : Rat) = a at *
 generalize ((p.den : Int) : Rat) = b at *
 grind
theorem q_cmp {W : World} {q p : Rat} {f g : Fv} {C : Nat} (h : Fq W q f C) (k : Fq W p g C) (hC : C ≤ 1759218604390) : Calls Tryz.prog 44 #[fv f, fv g] W (fun e w' => (∃ s : Int, e = .returned (.int .i64 s) ∧ (s = 0 ↔ q = p)) ∧ Below W.heap.size W w') := by
 obtain ⟨n, A, xs, c, m, B, ds, d⟩ := f
 obtain ⟨n', A', ys, c', m', B', es, d'⟩ := g
 obtain ⟨rfl, h⟩ := h
 obtain ⟨rfl, k⟩ := k
 refine (fcmp_any q p n n' A B A' B' xs ds ys es c d c' d' C W h k hC).mono ?_
 rintro _ w1 ⟨rfl, hb⟩
 refine ⟨⟨_, rfl, fun e => ?_, fun e => cmpI_eq (by rw [e])⟩, hb⟩
 refine rat_cross ?_
 unfold cmpI at e
 split at e
 ·cases e
 ·split at e
  ·cases e
  ·omega
theorem q_frac {W : World} {q : Rat} {f : Fv} {C : Nat} (h : Fq W q f C) (hF : FitsQ q) (hC : C ≤ 1759218604390) : Calls Tryz.prog 87 #[fv f] W (GF W q) := by
 obtain ⟨n, A, xs, c, m, B, ds, d⟩ := f
 obtain ⟨rfl, h⟩ := h
 refine (ffrac_any q n A B xs ds c d C W h hF hC).mono ?_
 rintro _ _ ⟨n, A, xs, c, B, ds, d, rfl, hL, hb⟩
 exact ⟨⟨n, A, xs, c, false, B, ds, d⟩, rfl, ⟨rfl, hL⟩, hb⟩
theorem fits_neg {q : Rat} (h : FitsQ q) : FitsQ (-q) := by
 obtain ⟨h1, h2⟩ := h
 unfold FitsQ Fits at *
 rw [Rat.neg_num, Int.natAbs_neg, Rat.neg_den]
 exact ⟨h1, h2⟩
/-- The first of two that is not nought. -/
def orE (a b : Int) : Int := if a = 0 then b else a
set_option maxHeartbeats 8000000 in
set_option maxRecDepth 20000 in
theorem y_of {n : Int} {w : World} (h0 : -9223372036854775808 ≤ n) (h1 : n ≤ 9223372036854775807) :
    Calls Tryz.prog 46 #[.int .i64 n] w (GF w (n : Rat)) := by
 have HB := Lib.hid (And.intro h0 h1)
 clear h0 h1
 have BW : Below w.heap.size w w := Below.refl _ _
 obtain ⟨V1, e2, hb3, K4, Z5, -⟩ := alloc_new w [.bool false, .slice none 0 0, .bool false, .slice none 0 0] 29
 have g6 : w.heap.size ≤ w.heap.size := BW.size
 replace BW := BW.trans (hb3.mono BW.size)
 clear hb3
 go_enter Tryz.func46, Tryz.ntmps46
 go_wp2_with fail
 rw [← e2]
 clear e2
 refine (f_int HB.out.1 HB.out.2).mono ?_
 rintro _ w7 ⟨f, rfl, h, hb⟩
 replace K4 := K4.on hb
 replace Z5 := Z5.on hb
 replace BW := BW.trans (hb.mono BW.size)
 clear hb
 obtain ⟨V8, e9, hb10, K11, -, -⟩ := alloc_new w7 [.bool f.n, .slice f.A f.xs.length f.c, .bool f.m, .slice f.B f.ds.length f.d] 29
 have n12 : w.heap.size ≠ w7.heap.size := Nat.ne_of_lt (K4.lt)
 replace K4 := K4.on hb10
 replace Z5 := Z5.on hb10
 replace h := h.kp (Kept.of hb10)
 replace BW := BW.trans (hb10.mono BW.size)
 clear hb10
 obtain ⟨c13, c14, c15, c16⟩ := K4.c4
 obtain ⟨c17, c18, c19, c20⟩ := Z5.f4
 rw [e9] at c13 c14 c15 c16 c17 c18 c19 c20
 obtain ⟨V21, hk23⟩ : ∃ V21, V21 = V8.setCells (w.heap.size) 0 [.bool f.n, .slice f.A f.xs.length f.c, .bool f.m, .slice f.B f.ds.length f.d] := ⟨_, rfl⟩
 have e22 := hk23
 simp only [World.setCells, Nat.zero_add, Nat.reduceAdd] at e22
 have hk24 := Kept.overE hk23 K4 rfl (by simp)
 replace K4 := K4.overE hk23 rfl
 replace h := h.kp hk24
 replace BW := Below.putE BW hk23 g6
 clear hk23 hk24
 go_wp2_with fail
 clear c13 c14 c15 c16 c17 c18 c19 c20
 rw [← e9, ← e22]
 clear e9 e22
 generalize w7.heap.size = b25 at *
 obtain ⟨c26, c27, c28, c29⟩ := K4.c4
 exact bodyPost_ret (v := fv f) (by simp [results, Tryz.results46, go_sem, c26, c27, c28, c29]) rfl ⟨f, rfl, h, BW⟩
set_option maxHeartbeats 8000000 in
set_option maxRecDepth 20000 in
theorem y_minus {q : Rat} {a : Fv} {w : World} (La : Ff w q a) :
    Calls Tryz.prog 43 #[fv a] w (GF w (-q)) := by
 have HF := Lib.hid La.fits
 have BW : Below w.heap.size w w := Below.refl _ _
 obtain ⟨V2, e3, hb4, K5, -, z1⟩ := alloc_new w [.bool a.n, .slice a.A a.xs.length a.c, .bool a.m, .slice a.B a.ds.length a.d] 29
 replace La := La.kp (Kept.of hb4)
 replace BW := BW.trans (hb4.mono BW.size)
 clear hb4
 obtain ⟨V6, e7, hb8, K9, Z10, -⟩ := alloc_new V2 [.bool false, .slice none 0 0, .bool false, .slice none 0 0] 29
 rw [z1] at K9 Z10
 have n11 : w.heap.size ≠ w.heap.size + 1 := Nat.ne_of_lt (z1 ▸ K5.lt)
 have g12 : w.heap.size ≤ w.heap.size + 1 := z1 ▸ BW.size
 replace La := La.kp (Kept.of hb8)
 replace BW := BW.trans (hb8.mono BW.size)
 clear hb8
 clear z1
 go_enter Tryz.func43, Tryz.ntmps43
 go_wp2_with fail
 rw [← e3, ← e7]
 clear e3 e7
 refine (q_from La).mono ?_
 rintro _ w13 ⟨f1, rfl, h1, hb⟩
 replace K9 := K9.on hb
 replace Z10 := Z10.on hb
 replace BW := BW.trans (hb.mono BW.size)
 clear hb
 go_wp2_with fail
 refine (q_neg h1 (by decide)).mono ?_
 rintro _ w14 ⟨f2, rfl, h2, hb⟩
 replace K9 := K9.on hb
 replace Z10 := Z10.on hb
 replace BW := BW.trans (hb.mono BW.size)
 clear hb
 go_wp2_with fail
 refine (q_frac h2 (fits_neg HF.out) (by decide)).mono ?_
 rintro _ w15 ⟨f3, rfl, h3, hb⟩
 replace K9 := K9.on hb
 replace Z10 := Z10.on hb
 replace BW := BW.trans (hb.mono BW.size)
 clear hb
 obtain ⟨c16, c17, c18, c19⟩ := K9.c4
 obtain ⟨c20, c21, c22, c23⟩ := Z10.f4
 obtain ⟨V24, hk26⟩ : ∃ V24, V24 = w15.setCells (w.heap.size + 1) 0 [.bool f3.n, .slice f3.A f3.xs.length f3.c, .bool f3.m, .slice f3.B f3.ds.length f3.d] := ⟨_, rfl⟩
 have e25 := hk26
 simp only [World.setCells, Nat.zero_add, Nat.reduceAdd] at e25
 have hk27 := Kept.overE hk26 K9 rfl (by simp)
 replace K9 := K9.overE hk26 rfl
 replace h3 := h3.kp hk27
 replace BW := Below.putE BW hk26 g12
 clear hk26 hk27
 go_wp2_with fail
 clear c16 c17 c18 c19 c20 c21 c22 c23
 rw [← e25]
 clear e25
 obtain ⟨c28, c29, c30, c31⟩ := K9.c4
 exact bodyPost_ret (v := fv f3) (by simp [results, Tryz.results43, go_sem, c28, c29, c30, c31]) rfl ⟨f3, rfl, h3, BW⟩
set_option maxHeartbeats 8000000 in
set_option maxRecDepth 20000 in
theorem y_apart {m : Mv} {w : World} :
    Calls Tryz.prog 40 #[mv m] w (fun e w' => e = .returned (mv m) ∧ Below w.heap.size w w') := by
 have BW : Below w.heap.size w w := Below.refl _ _
 obtain ⟨V2, e3, hb4, K5, -, z1⟩ := alloc_new w [.bool m.A.n, .slice m.A.A m.A.xs.length m.A.c, .bool m.A.m, .slice m.A.B m.A.ds.length m.A.d, .bool m.B.n, .slice m.B.A m.B.xs.length m.B.c, .bool m.B.m, .slice m.B.B m.B.ds.length m.B.d, .bool m.C.n, .slice m.C.A m.C.xs.length m.C.c, .bool m.C.m, .slice m.C.B m.C.ds.length m.C.d, .bool m.D.n, .slice m.D.A m.D.xs.length m.D.c, .bool m.D.m, .slice m.D.B m.D.ds.length m.D.d] 31
 replace BW := BW.trans (hb4.mono BW.size)
 clear hb4
 obtain ⟨V6, e7, hb8, K9, -, -⟩ := alloc_new V2 [.bool m.A.n, .slice m.A.A m.A.xs.length m.A.c, .bool m.A.m, .slice m.A.B m.A.ds.length m.A.d, .bool m.B.n, .slice m.B.A m.B.xs.length m.B.c, .bool m.B.m, .slice m.B.B m.B.ds.length m.B.d, .bool m.C.n, .slice m.C.A m.C.xs.length m.C.c, .bool m.C.m, .slice m.C.B m.C.ds.length m.C.d, .bool m.D.n, .slice m.D.A m.D.xs.length m.D.c, .bool m.D.m, .slice m.D.B m.D.ds.length m.D.d] 84
 rw [z1] at K9
 replace BW := BW.trans (hb8.mono BW.size)
 clear hb8
 clear z1
 go_enter Tryz.func40, Tryz.ntmps40
 go_wp2_with fail
 rw [← e3, ← e7]
 clear e3 e7
 obtain ⟨c10, c11, c12, c13, c14, c15, c16, c17, c18, c19, c20, c21, c22, c23, c24, c25⟩ := K9.c16
 exact bodyPost_ret (v := mv m) (by simp [results, Tryz.results40, go_sem, c10, c11, c12, c13, c14, c15, c16, c17, c18, c19, c20, c21, c22, c23, c24, c25]) rfl ⟨rfl, BW⟩
set_option maxHeartbeats 8000000 in
set_option maxRecDepth 20000 in
theorem y_sum {q p s t : Rat} {a b c d : Fv} {w : World} (La : Ff w q a) (Lb : Ff w p b) (Lc : Ff w s c) (Ld : Ff w t d) :
    Calls Tryz.prog 42 #[fv a, fv b, fv c, fv d] w (GQ w (q * p + s * t) 4104) := by
 have BW : Below w.heap.size w w := Below.refl _ _
 obtain ⟨V2, e3, hb4, K5, -, z1⟩ := alloc_new w [.bool a.n, .slice a.A a.xs.length a.c, .bool a.m, .slice a.B a.ds.length a.d] 29
 replace La := La.kp (Kept.of hb4)
 replace Lb := Lb.kp (Kept.of hb4)
 replace Lc := Lc.kp (Kept.of hb4)
 replace Ld := Ld.kp (Kept.of hb4)
 replace BW := BW.trans (hb4.mono BW.size)
 clear hb4
 obtain ⟨V7, e8, hb9, K10, -, z6⟩ := alloc_new V2 [.bool b.n, .slice b.A b.xs.length b.c, .bool b.m, .slice b.B b.ds.length b.d] 29
 rw [z1] at K10 z6
 replace K5 := K5.on hb9
 replace La := La.kp (Kept.of hb9)
 replace Lb := Lb.kp (Kept.of hb9)
 replace Lc := Lc.kp (Kept.of hb9)
 replace Ld := Ld.kp (Kept.of hb9)
 replace BW := BW.trans (hb9.mono BW.size)
 clear hb9
 obtain ⟨V12, e13, hb14, K15, -, z11⟩ := alloc_new V7 [.bool c.n, .slice c.A c.xs.length c.c, .bool c.m, .slice c.B c.ds.length c.d] 29
 rw [z6] at K15 z11
 replace K5 := K5.on hb14
 replace K10 := K10.on hb14
 replace La := La.kp (Kept.of hb14)
 replace Lb := Lb.kp (Kept.of hb14)
 replace Lc := Lc.kp (Kept.of hb14)
 replace Ld := Ld.kp (Kept.of hb14)
 replace BW := BW.trans (hb14.mono BW.size)
 clear hb14
 obtain ⟨V17, e18, hb19, K20, -, z16⟩ := alloc_new V12 [.bool d.n, .slice d.A d.xs.length d.c, .bool d.m, .slice d.B d.ds.length d.d] 29
 rw [z11] at K20 z16
 replace K5 := K5.on hb19
 replace K10 := K10.on hb19
 replace K15 := K15.on hb19
 replace La := La.kp (Kept.of hb19)
 replace Lb := Lb.kp (Kept.of hb19)
 replace Lc := Lc.kp (Kept.of hb19)
 replace Ld := Ld.kp (Kept.of hb19)
 replace BW := BW.trans (hb19.mono BW.size)
 clear hb19
 obtain ⟨V21, e22, hb23, K24, Z25, -⟩ := alloc_new V17 [.bool false, .slice none 0 0, .bool false, .slice none 0 0] 74
 rw [z16] at K24 Z25
 have n26 : w.heap.size ≠ w.heap.size + 1 + 1 + 1 + 1 := Nat.ne_of_lt (z16 ▸ K5.lt)
 have n27 : w.heap.size + 1 ≠ w.heap.size + 1 + 1 + 1 + 1 := Nat.ne_of_lt (z16 ▸ K10.lt)
 have n28 : w.heap.size + 1 + 1 ≠ w.heap.size + 1 + 1 + 1 + 1 := Nat.ne_of_lt (z16 ▸ K15.lt)
 have n29 : w.heap.size + 1 + 1 + 1 ≠ w.heap.size + 1 + 1 + 1 + 1 := Nat.ne_of_lt (z16 ▸ K20.lt)
 have g30 : w.heap.size ≤ w.heap.size + 1 + 1 + 1 + 1 := z16 ▸ BW.size
 replace K5 := K5.on hb23
 replace K10 := K10.on hb23
 replace K15 := K15.on hb23
 replace K20 := K20.on hb23
 replace La := La.kp (Kept.of hb23)
 replace Lb := Lb.kp (Kept.of hb23)
 replace Lc := Lc.kp (Kept.of hb23)
 replace Ld := Ld.kp (Kept.of hb23)
 replace BW := BW.trans (hb23.mono BW.size)
 clear hb23
 clear z1 z6 z11 z16
 go_enter Tryz.func42, Tryz.ntmps42
 go_wp2_with fail
 rw [← e3, ← e8, ← e13, ← e18, ← e22]
 clear e3 e8 e13 e18 e22
 refine wp_region_noPanic ?_
 have hb : Below V21.heap.size V21 V21.drew := (Below.refl _ _).drew
 replace K5 := K5.on hb
 replace K10 := K10.on hb
 replace K15 := K15.on hb
 replace K20 := K20.on hb
 replace K24 := K24.on hb
 replace Z25 := Z25.on hb
 replace La := La.kp (Kept.of hb)
 replace Lb := Lb.kp (Kept.of hb)
 replace Lc := Lc.kp (Kept.of hb)
 replace Ld := Ld.kp (Kept.of hb)
 replace BW := BW.trans (hb.mono BW.size)
 clear hb
 refine wp_region_held_drew (S := (fun wx => Cs wx (w.heap.size) 0 [.bool a.n, .slice a.A a.xs.length a.c, .bool a.m, .slice a.B a.ds.length a.d] ∧ Cs wx (w.heap.size + 1) 0 [.bool b.n, .slice b.A b.xs.length b.c, .bool b.m, .slice b.B b.ds.length b.d] ∧ Cs wx (w.heap.size + 1 + 1) 0 [.bool c.n, .slice c.A c.xs.length c.c, .bool c.m, .slice c.B c.ds.length c.d] ∧ Cs wx (w.heap.size + 1 + 1 + 1) 0 [.bool d.n, .slice d.A d.xs.length d.c, .bool d.m, .slice d.B d.ds.length d.d])) (by kernel_rfl) (by exact ⟨K5.cs, K10.cs, K15.cs, K20.cs⟩) (fun hHeld => ?_)
 generalize V21.drew = Vd31 at *
 refine pT 0 ?_
 (try simp only [p0, p1, p2, p3])
 refine pT 2 ?_
 (try simp only [p0, p1, p2, p3])
 refine pT 5 ?_
 (try simp only [p0, p1, p2, p3])
 refine pT 7 ?_
 (try simp only [p0, p1, p2, p3])
 refine pR1 1 (fun K hK => ?_)
 go_simp
 (go_at_call 45; with_reducible refine (q_from La).mono ?_)
 rintro _ w32 ⟨f1, rfl, h1, hb⟩
 (try go_wp2_with fail)
 replace K5 := K5.on hb
 replace K10 := K10.on hb
 replace K15 := K15.on hb
 replace K20 := K20.on hb
 replace K24 := K24.on hb
 replace Z25 := Z25.on hb
 replace Lb := Lb.kp (Kept.of hb)
 replace Lc := Lc.kp (Kept.of hb)
 replace Ld := Ld.kp (Kept.of hb)
 replace BW := BW.trans (hb.mono BW.size)
 clear hb
 refine hK.out _ _ (by exact ⟨K5.cs, K10.cs, K15.cs, K20.cs⟩) (fun hHeld => ?_)
 clear hK
 (try simp only [p0, p1, p2, p3])
 refine pR1 3 (fun K hK => ?_)
 go_simp
 (go_at_call 45; with_reducible refine (q_from Lb).mono ?_)
 rintro _ w33 ⟨f2, rfl, h2, hb⟩
 (try go_wp2_with fail)
 replace K5 := K5.on hb
 replace K10 := K10.on hb
 replace K15 := K15.on hb
 replace K20 := K20.on hb
 replace K24 := K24.on hb
 replace Z25 := Z25.on hb
 replace Lc := Lc.kp (Kept.of hb)
 replace Ld := Ld.kp (Kept.of hb)
 replace h1 := h1.kp (Kept.of hb)
 replace BW := BW.trans (hb.mono BW.size)
 clear hb
 refine hK.out _ _ (by exact ⟨K5.cs, K10.cs, K15.cs, K20.cs⟩) (fun hHeld => ?_)
 clear hK
 (try simp only [p0, p1, p2, p3])
 refine pR1 4 (fun K hK => ?_)
 go_simp
 (go_at_call 85; with_reducible refine (q_mul h1 h2 (by decide)).mono ?_)
 rintro _ w34 ⟨f3, rfl, h3, hb⟩
 (try go_wp2_with fail)
 replace K5 := K5.on hb
 replace K10 := K10.on hb
 replace K15 := K15.on hb
 replace K20 := K20.on hb
 replace K24 := K24.on hb
 replace Z25 := Z25.on hb
 replace Lc := Lc.kp (Kept.of hb)
 replace Ld := Ld.kp (Kept.of hb)
 replace BW := BW.trans (hb.mono BW.size)
 clear hb
 refine hK.out _ _ (by exact ⟨K5.cs, K10.cs, K15.cs, K20.cs⟩) (fun hHeld => ?_)
 clear hK
 (try simp only [p0, p1, p2, p3])
 refine pR1 6 (fun K hK => ?_)
 go_simp
 (go_at_call 45; with_reducible refine (q_from Lc).mono ?_)
 rintro _ w35 ⟨f4, rfl, h4, hb⟩
 (try go_wp2_with fail)
 replace K5 := K5.on hb
 replace K10 := K10.on hb
 replace K15 := K15.on hb
 replace K20 := K20.on hb
 replace K24 := K24.on hb
 replace Z25 := Z25.on hb
 replace Ld := Ld.kp (Kept.of hb)
 replace h3 := h3.kp (Kept.of hb)
 replace BW := BW.trans (hb.mono BW.size)
 clear hb
 refine hK.out _ _ (by exact ⟨K5.cs, K10.cs, K15.cs, K20.cs⟩) (fun hHeld => ?_)
 clear hK
 (try simp only [p0, p1, p2, p3])
 refine pR1 8 (fun K hK => ?_)
 go_simp
 (go_at_call 45; with_reducible refine (q_from Ld).mono ?_)
 rintro _ w36 ⟨f5, rfl, h5, hb⟩
 (try go_wp2_with fail)
 replace K5 := K5.on hb
 replace K10 := K10.on hb
 replace K15 := K15.on hb
 replace K20 := K20.on hb
 replace K24 := K24.on hb
 replace Z25 := Z25.on hb
 replace h3 := h3.kp (Kept.of hb)
 replace h4 := h4.kp (Kept.of hb)
 replace BW := BW.trans (hb.mono BW.size)
 clear hb
 refine hK.out _ _ (by exact ⟨K5.cs, K10.cs, K15.cs, K20.cs⟩) (fun hHeld => ?_)
 clear hK
 (try simp only [p0, p1, p2, p3])
 refine pR1 9 (fun K hK => ?_)
 go_simp
 (go_at_call 85; with_reducible refine (q_mul h4 h5 (by decide)).mono ?_)
 rintro _ w37 ⟨f6, rfl, h6, hb⟩
 (try go_wp2_with fail)
 replace K5 := K5.on hb
 replace K10 := K10.on hb
 replace K15 := K15.on hb
 replace K20 := K20.on hb
 replace K24 := K24.on hb
 replace Z25 := Z25.on hb
 replace h3 := h3.kp (Kept.of hb)
 replace BW := BW.trans (hb.mono BW.size)
 clear hb
 refine hK.out _ _ (by exact ⟨K5.cs, K10.cs, K15.cs, K20.cs⟩) (fun hHeld => ?_)
 clear hK
 (try simp only [p0, p1, p2, p3])
 refine pR1 10 (fun K hK => ?_)
 go_simp
 (go_at_call 66; with_reducible refine (q_add h3 h6 (by decide)).mono ?_)
 rintro _ w38 ⟨f7, rfl, h7, hb⟩
 (try go_wp2_with fail)
 replace K5 := K5.on hb
 replace K10 := K10.on hb
 replace K15 := K15.on hb
 replace K20 := K20.on hb
 replace K24 := K24.on hb
 replace Z25 := Z25.on hb
 replace BW := BW.trans (hb.mono BW.size)
 clear hb
 refine hK.out _ _ (by exact ⟨K5.cs, K10.cs, K15.cs, K20.cs⟩) (fun hHeld => ?_)
 clear hK
 (try simp only [p0, p1, p2, p3])
 refine pR1 11 (fun K hK => ?_)
 obtain ⟨c39, c40, c41, c42⟩ := K24.c4
 obtain ⟨c43, c44, c45, c46⟩ := Z25.f4
 go_simp
 clear c39 c40 c41 c42 c43 c44 c45 c46
 obtain ⟨V47, hk49⟩ : ∃ V47, V47 = w38.setCells (w.heap.size + 1 + 1 + 1 + 1) 0 [.bool f7.n, .slice f7.A f7.xs.length f7.c, .bool f7.m, .slice f7.B f7.ds.length f7.d] := ⟨_, rfl⟩
 have e48 := hk49
 simp only [World.setCells, Nat.zero_add, Nat.reduceAdd] at e48
 have hk50 := Kept.overE hk49 K24 rfl (by simp)
 replace K5 := K5.awayE hk49 n26
 replace K10 := K10.awayE hk49 n27
 replace K15 := K15.awayE hk49 n28
 replace K20 := K20.awayE hk49 n29
 replace K24 := K24.overE hk49 rfl
 replace h7 := h7.kp hk50
 replace BW := Below.putE BW hk49 g30
 clear hk49 hk50
 rw [← e48]
 clear e48
 refine hK.out _ _ (by exact ⟨K5.cs, K10.cs, K15.cs, K20.cs⟩) (fun hHeld => ?_)
 clear hK
 (try simp only [p0, p1, p2, p3])
 refine wpAnyH_done (by kernel_rfl) (NoPanic.normal ?_) _
 go_wp2
 obtain ⟨c51, c52, c53, c54⟩ := K24.c4
 exact bodyPost_ret (v := fv f7) (by simp [results, Tryz.results42, go_sem, c51, c52, c53, c54]) rfl ⟨f7, rfl, h7, BW⟩
end Go.Proofs.YtjamfkafgfpobaaGreat
namespace Go.Proofs.YtjamfkafgfpobaaGreat
open Go.RowKit Nb
section
variable {W : World} {q : Mq} {m : Mv} {r : Yq} {y : Yv}
theorem Fm.fA (h : Fm W q m) : Ff W q.a m.A := h.1
theorem Fm.fB (h : Fm W q m) : Ff W q.b m.B := h.2.1
theorem Fm.fC (h : Fm W q m) : Ff W q.c m.C := h.2.2.1
theorem Fm.fD (h : Fm W q m) : Ff W q.d m.D := h.2.2.2
end
/-- What put answers: the sum, if it fits; else the first cell says so. -/
def PutIs (W : World) (z : Rat) (f : Fv) (e0 e1 : Int) : Prop := (FitsQ z ∧ e1 = e0 ∧ Ff W z f) ∨ (¬ FitsQ z ∧ e1 = orE e0 4 ∧ f = fv0)
theorem PutIs.kp {W W' : World} {z : Rat} {f : Fv} {e0 e1 : Int} (h : PutIs W z f e0 e1) (k : Kept W W') : PutIs W' z f e0 e1 := by
 rcases h with ⟨h1, h2, h3⟩ | h
 ·exact .inl ⟨h1, h2, h3.kp k⟩
 ·exact .inr h
theorem PutIs.zero {W : World} {z : Rat} {f : Fv} {e0 e1 : Int} (h : PutIs W z f e0 e1) (he : e1 = 0) : e0 = 0 ∧ FitsQ z ∧ Ff W z f := by
 rcases h with ⟨h1, h2, h3⟩ | ⟨h1, h2, h3⟩
 ·exact ⟨by omega, h1, h3⟩
 ·exfalso
  unfold orE at h2
  split at h2 <;> omega
theorem PutIs.four {W : World} {z : Rat} {f : Fv} {e0 e1 : Int} (h : PutIs W z f e0 e1) (he : e1 ≠ 0) (h0 : e0 = 0 ∨ e0 = 4) : e1 = 4 ∧ (e0 = 4 ∨ ¬ FitsQ z) := by
 rcases h with ⟨h1, h2, h3⟩ | ⟨h1, h2, h3⟩
 ·rcases h0 with h0 | h0
  ·omega
  ·exact ⟨by omega, .inl h0⟩
 ·refine ⟨?_, .inr h1⟩
  unfold orE at h2
  split at h2 <;> omega
/-- What is answered of matrices, rays, fractions: by the first cell. -/
def MIs (W : World) (z : Mq) (f : Mv) (e : Int) : Prop := (e = 0 ∧ FitsM z ∧ Fm W z f) ∨ (e = 4 ∧ ¬ FitsM z)
def YIs (W : World) (z : Yq) (f : Yv) (e : Int) : Prop := (e = 0 ∧ FitsY z ∧ Fy W z f) ∨ (e = 4 ∧ ¬ FitsY z)
def FIs (W : World) (z : Rat) (f : Fv) (e : Int) : Prop := (e = 0 ∧ FitsQ z ∧ Ff W z f) ∨ (e = 4 ∧ ¬ FitsQ z)
section
variable {W W' : World} {e : Int}
theorem MIs.kp {z : Mq} {f : Mv} (h : MIs W z f e) (k : Kept W W') : MIs W' z f e := by
 rcases h with ⟨h1, h2, h3⟩ | h
 ·exact .inl ⟨h1, h2, h3.kp k⟩
 ·exact .inr h
theorem YIs.kp {z : Yq} {f : Yv} (h : YIs W z f e) (k : Kept W W') : YIs W' z f e := by
 rcases h with ⟨h1, h2, h3⟩ | h
 ·exact .inl ⟨h1, h2, h3.kp k⟩
 ·exact .inr h
theorem FIs.kp {z : Rat} {f : Fv} (h : FIs W z f e) (k : Kept W W') : FIs W' z f e := by
 rcases h with ⟨h1, h2, h3⟩ | h
 ·exact .inl ⟨h1, h2, h3.kp k⟩
 ·exact .inr h
theorem MIs.no {z : Mq} {f : Mv} (h : MIs W z f e) (he : e ≠ 0) : MIs W z mv0 e := by
 rcases h with ⟨h1, _⟩ | h
 ·exact absurd h1 he
 ·exact .inr h
theorem YIs.no {z : Yq} {f : Yv} (h : YIs W z f e) (he : e ≠ 0) : YIs W z yv0 e := by
 rcases h with ⟨h1, _⟩ | h
 ·exact absurd h1 he
 ·exact .inr h
theorem FIs.no {z : Rat} {f : Fv} (h : FIs W z f e) (he : e ≠ 0) : FIs W z fv0 e := by
 rcases h with ⟨h1, _⟩ | h
 ·exact absurd h1 he
 ·exact .inr h
theorem MIs.yes {z : Mq} {f : Mv} (h : MIs W z f e) (hf : FitsM z) : e = 0 ∧ Fm W z f := by
 rcases h with ⟨h1, _, h3⟩ | ⟨_, h⟩
 ·exact ⟨h1, h3⟩
 ·exact absurd hf h
theorem YIs.yes {z : Yq} {f : Yv} (h : YIs W z f e) (hf : FitsY z) : e = 0 ∧ Fy W z f := by
 rcases h with ⟨h1, _, h3⟩ | ⟨_, h⟩
 ·exact ⟨h1, h3⟩
 ·exact absurd hf h
theorem FIs.yes {z : Rat} {f : Fv} (h : FIs W z f e) (hf : FitsQ z) : e = 0 ∧ Ff W z f := by
 rcases h with ⟨h1, _, h3⟩ | ⟨_, h⟩
 ·exact ⟨h1, h3⟩
 ·exact absurd hf h
end
end Go.Proofs.YtjamfkafgfpobaaGreat
