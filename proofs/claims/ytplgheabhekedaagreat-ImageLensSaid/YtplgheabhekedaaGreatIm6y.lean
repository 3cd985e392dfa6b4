/-
  What the statements' own helpers answer. Conditions: as each theorem states.
-/
import Derived.Test.YtplgheabhekedaaGreatIm3y
import Derived.Test.YtplgheabhekedaaGreatRlc
import Derived.Deep.RegionHeld3
import Derived.Deep.DeepCutAuto
import Derived.BigRegion
namespace Go.Proofs.YtplgheabhekedaaGreat
open Go.RowKit Nb

theorem res_M {W : World} {p : Nat} {us : List Value} {fn : Func} {tmps : Array Value} {s : Nat} (hr : fn.results = #[.cell s 31]) (ht : tmps.getD s undef = .pointer (some ⟨p, 0, none⟩)) (K : Box W p us) (hl : us.length = 16) :
  (results fn tmps).run Tryz.prog W = .ok (.agg us.toArray) W := by
 have h := run_load_box (P := Tryz.prog) K 31 _ Tryz.underlying31 rfl (by rw [infoM, hl])
 unfold results
 rw [hr]
 have ht2 : tmps[s]?.getD undef = .pointer (some ⟨p, 0, none⟩) := by rw [← Array.getD_eq_getD_getElem?]; exact ht
 simp [ht2, asAddr, h]
def Mq.low (y : Rat) : Mq := ⟨1, 0, y, 1⟩
theorem Mq.det_low {y : Rat} : (Mq.low y).det = 1 := by simp only [Mq.low, Mq.det]; grind
theorem ImIs.kp {W W' : World} {q : Mq} {x : Rat} {f g : Fv} {e : Int} (h : ImIs W q x f g e) (k : Kept W W') : ImIs W' q x f g e := by
 rcases h with ⟨h1, h2, h3, h4⟩ | h | h
 ·exact .inl ⟨h1, h2, h3.kp k, h4.kp k⟩
 ·exact .inr (.inl h)
 ·exact .inr (.inr h)
def imL : Mq := Mq.low ((-1 : Int) : Rat)
theorem imL_two {W : World} {f g : Fv} {e : Int} (h : ImIs W imL ((2 : Int) : Rat) f g e) : e = 0 ∧ Ff W ((2 : Int) : Rat) f ∧ Ff W ((-1 : Int) : Rat) g := by
 have e1 : imD imL ((2 : Int) : Rat) = ((-1 : Int) : Rat) := by decide +kernel
 have e2 : imT imL ((2 : Int) : Rat) = ((2 : Int) : Rat) := by decide +kernel
 have e3 : 1 / ((-1 : Int) : Rat) = ((-1 : Int) : Rat) := by decide +kernel
 unfold ImIs at h
 rw [e1, e2, e3] at h
 rcases h with ⟨_, h2, h3, h4⟩ | ⟨h1, _⟩ | ⟨_, _, _, _, h5⟩
 ·exact ⟨h2, h3, h4⟩
 ·exact absurd h1 (by decide +kernel)
 ·exact absurd ⟨⟨fits_low (by decide +kernel), fits_low (by decide +kernel)⟩, ⟨fits_low (by decide +kernel), fits_low (by decide +kernel)⟩⟩ h5
theorem imL_one {W : World} {f g : Fv} {e : Int} (h : ImIs W imL ((1 : Int) : Rat) f g e) : e = 3 ∧ f = fv0 ∧ g = fv0 := by
 have e1 : imD imL ((1 : Int) : Rat) = 0 := by decide +kernel
 rcases h with ⟨h1, _⟩ | ⟨_, h2, h3, h4⟩ | ⟨h1, _⟩
 ·exact absurd e1 h1
 ·exact ⟨h2, h3, h4⟩
 ·exact absurd e1 h1
set_option maxHeartbeats 8000000 in
set_option maxRecDepth 20000 in
theorem w_int {n : Int} {w : World} (h0 : -9223372036854775808 ≤ n) (h1 : n ≤ 9223372036854775807) :
    Calls Tryz.prog 43 #[.int .i64 n, .int .i64 1] w (GF w (n : Rat)) := by
 have BW : Below w.heap.size w w := Below.refl _ _
 obtain ⟨V1, e2, hb3, K4, Z5, -⟩ := alloc_new w [.bool false, .slice none 0 0, .bool false, .slice none 0 0] 29
 have g6 : w.heap.size ≤ w.heap.size := BW.size
 replace BW := BW.trans (hb3.mono BW.size)
 clear hb3
 go_enter Tryz.func43, Tryz.ntmps43
 go_wp2_with fail
 rw [← e2]
 clear e2
 refine (f_int h0 h1).mono ?_
 rintro _ w7 ⟨f, rfl, L, hb⟩
 replace K4 := K4.on hb
 replace Z5 := Z5.on hb
 replace BW := BW.trans (hb.mono BW.size)
 clear hb
 obtain ⟨V8, e9, hb10, K11, Z12, -⟩ := alloc_new w7 [.bool f.n, .slice f.A f.xs.length f.c, .bool f.m, .slice f.B f.ds.length f.d] 29
 have n13 : w.heap.size ≠ w7.heap.size := Nat.ne_of_lt (K4.lt)
 have g14 : w.heap.size ≤ w7.heap.size := BW.size
 replace K4 := K4.on hb10
 replace Z5 := Z5.on hb10
 replace L := L.kp (Kept.of hb10)
 replace BW := BW.trans (hb10.mono BW.size)
 clear hb10
 obtain ⟨c15, c16, c17, c18⟩ := K4.c4
 obtain ⟨c19, c20, c21, c22⟩ := Z5.f4
 rw [e9] at c15 c16 c17 c18 c19 c20 c21 c22
 obtain ⟨V23, hk25⟩ : ∃ V23, V23 = V8.setCells (w.heap.size) 0 [.bool f.n, .slice f.A f.xs.length f.c, .bool f.m, .slice f.B f.ds.length f.d] := ⟨_, rfl⟩
 have e24 := hk25
 simp only [World.setCells, Nat.zero_add, Nat.reduceAdd] at e24
 have hk26 := Kept.overE hk25 K4 rfl (Nat.le_of_ble_eq_true rfl)
 replace K4 := K4.overE hk25 rfl
 replace L := L.kp hk26
 replace BW := Below.putE BW hk25 g6
 clear hk25 hk26
 go_wp2_with fail
 clear c15 c16 c17 c18 c19 c20 c21 c22
 rw [← e9, ← e24]
 clear e9 e24
 generalize w7.heap.size = b27 at *
 obtain ⟨c28, c29, c30, c31⟩ := K4.c4
 exact bodyPost_ret (v := fv f) (by simp [results, Tryz.results43, go_sem, c28, c29, c30, c31]) rfl ⟨f, rfl, L, BW⟩
set_option maxHeartbeats 8000000 in
set_option maxRecDepth 20000 in
theorem w_space {x : Rat} {a : Fv} {w : World} (A : Ff w x a) :
    Calls Tryz.prog 49 #[fv a] w (fun e w' => ∃ f : Mv, e = .returned (mv f) ∧ Fm w' (Mq.space x) f ∧ Below w.heap.size w w') := by
 have BW : Below w.heap.size w w := Below.refl _ _
 obtain ⟨V2, e3, hb4, K5, Z6, z1⟩ := alloc_new w [.bool a.n, .slice a.A a.xs.length a.c, .bool a.m, .slice a.B a.ds.length a.d] 29
 have g7 : w.heap.size ≤ w.heap.size := BW.size
 replace A := A.kp (Kept.of hb4)
 replace BW := BW.trans (hb4.mono BW.size)
 clear hb4
 obtain ⟨V8, e9, hb10, K11, Z12, -⟩ := alloc_new V2 [.bool false, .slice none 0 0, .bool false, .slice none 0 0, .bool false, .slice none 0 0, .bool false, .slice none 0 0, .bool false, .slice none 0 0, .bool false, .slice none 0 0, .bool false, .slice none 0 0, .bool false, .slice none 0 0] 31
 rw [z1] at K11 Z12
 replace K11 : Box V8 (w.heap.size + 1) (zcs16) := K11
 have n13 : w.heap.size ≠ w.heap.size + 1 := Nat.ne_of_lt (z1 ▸ K5.lt)
 have g14 : w.heap.size ≤ w.heap.size + 1 := z1 ▸ BW.size
 replace K5 := K5.on hb10
 replace A := A.kp (Kept.of hb10)
 replace BW := BW.trans (hb10.mono BW.size)
 clear hb10
 clear z1
 go_enter Tryz.func49, Tryz.ntmps49
 go_wp2_with fail
 rw [← e3, ← e9]
 clear e3 e9
 refine wp_region_noPanic ?_
 have hb : Below V8.heap.size V8 V8.drew := (Below.refl _ _).drew
 replace K5 := K5.on hb
 replace K11 := K11.on hb
 replace Z12 := Z12.on hb
 replace A := A.kp (Kept.of hb)
 replace BW := BW.trans (hb.mono BW.size)
 clear hb
 refine wp_region_held_drew (S := (fun wx => Cs wx (w.heap.size) 0 [.bool a.n, .slice a.A a.xs.length a.c, .bool a.m, .slice a.B a.ds.length a.d])) (by kernel_rfl) (by exact K5.cs) (fun hHeld => ?_)
 generalize V8.drew = Vd15 at *
 refine pT 1 ?_
 (try simp only [p0, p1, p2, p3])
 refine pR1 0 (fun K hK => ?_)
 go_simp
 (go_at_call 43; with_reducible refine (w_int (n := 1) (by decide) (by decide)).mono ?_)
 rintro _ w16 ⟨f1, rfl, L1, hb⟩
 (try go_wp2_with fail)
 replace K5 := K5.on hb
 replace K11 := K11.on hb
 replace Z12 := Z12.on hb
 replace A := A.kp (Kept.of hb)
 replace BW := BW.trans (hb.mono BW.size)
 clear hb
 clear hHeld
 refine hK.out _ _ (by exact K5.cs) (fun hHeld => ?_)
 clear hK
 (try simp only [p0, p1, p2, p3])
 refine pR1 2 (fun K hK => ?_)
 go_simp
 (go_at_call 43; with_reducible refine (w_int (n := 0) (by decide) (by decide)).mono ?_)
 rintro _ w17 ⟨f2, rfl, L2, hb⟩
 (try go_wp2_with fail)
 replace K5 := K5.on hb
 replace K11 := K11.on hb
 replace Z12 := Z12.on hb
 replace A := A.kp (Kept.of hb)
 replace L1 := L1.kp (Kept.of hb)
 replace BW := BW.trans (hb.mono BW.size)
 clear hb
 clear hHeld
 refine hK.out _ _ (by exact K5.cs) (fun hHeld => ?_)
 clear hK
 (try simp only [p0, p1, p2, p3])
 refine pR1 3 (fun K hK => ?_)
 go_simp
 (go_at_call 43; with_reducible refine (w_int (n := 1) (by decide) (by decide)).mono ?_)
 rintro _ w18 ⟨f3, rfl, L3, hb⟩
 (try go_wp2_with fail)
 replace K5 := K5.on hb
 replace K11 := K11.on hb
 replace Z12 := Z12.on hb
 replace A := A.kp (Kept.of hb)
 replace L1 := L1.kp (Kept.of hb)
 replace L2 := L2.kp (Kept.of hb)
 replace BW := BW.trans (hb.mono BW.size)
 clear hb
 clear hHeld
 refine hK.out _ _ (by exact K5.cs) (fun hHeld => ?_)
 clear hK
 (try simp only [p0, p1, p2, p3])
 refine pT 4 ?_
 (try simp only [p0, p1, p2, p3])
 refine pR1 5 (fun K hK => ?_)
 refine ite_yes (by rfl) (wp_stM rfl rfl rfl K11 Z12 rfl rfl rfl ?_)
 obtain ⟨V19, hk21⟩ : ∃ V19, V19 = w18.setCells (w.heap.size + 1) 0 [.bool f1.n, .slice f1.A f1.xs.length f1.c, .bool f1.m, .slice f1.B f1.ds.length f1.d, .bool a.n, .slice a.A a.xs.length a.c, .bool a.m, .slice a.B a.ds.length a.d, .bool f2.n, .slice f2.A f2.xs.length f2.c, .bool f2.m, .slice f2.B f2.ds.length f2.d, .bool f3.n, .slice f3.A f3.xs.length f3.c, .bool f3.m, .slice f3.B f3.ds.length f3.d] := ⟨_, rfl⟩
 have e20 := hk21
 have hk22 := Kept.overE hk21 K11 rfl (Nat.le_of_ble_eq_true rfl)
 replace K5 := K5.awayE hk21 n13
 replace K11 := K11.overE hk21 rfl
 replace A := A.kp hk22
 replace L1 := L1.kp hk22
 replace L2 := L2.kp hk22
 replace L3 := L3.kp hk22
 replace BW := Below.putE BW hk21 g14
 clear hk21 hk22
 rw [← e20]
 clear e20
 clear hHeld
 refine hK.out _ _ (by exact K5.cs) (fun hHeld => ?_)
 clear hK
 (try simp only [p0])
 refine wpAnyH_done (by kernel_rfl) (NoPanic.normal ?_) _
 go_wp2
 exact bodyPost_ret (v := .agg #[.bool f1.n, .slice f1.A f1.xs.length f1.c, .bool f1.m, .slice f1.B f1.ds.length f1.d, .bool a.n, .slice a.A a.xs.length a.c, .bool a.m, .slice a.B a.ds.length a.d, .bool f2.n, .slice f2.A f2.xs.length f2.c, .bool f2.m, .slice f2.B f2.ds.length f2.d, .bool f3.n, .slice f3.A f3.xs.length f3.c, .bool f3.m, .slice f3.B f3.ds.length f3.d]) (res_M Tryz.results49 (by rfl) K11 rfl) rfl ⟨⟨f1, a, f2, f3⟩, rfl, ⟨L1, A, L2, L3⟩, BW⟩
set_option maxHeartbeats 8000000 in
set_option maxRecDepth 20000 in
theorem w_lens {y : Rat} {a b : Fv} {w : World} (B : Ff w y b) :
    Calls Tryz.prog 47 #[fv a, fv b] w (fun e w' => ∃ f : Mv, e = .returned (mv f) ∧ Fm w' (Mq.low y) f ∧ Below w.heap.size w w') := by
 have BW : Below w.heap.size w w := Below.refl _ _
 obtain ⟨V2, e3, hb4, K5, Z6, z1⟩ := alloc_new w [.bool a.n, .slice a.A a.xs.length a.c, .bool a.m, .slice a.B a.ds.length a.d] 29
 have g7 : w.heap.size ≤ w.heap.size := BW.size
 replace B := B.kp (Kept.of hb4)
 replace BW := BW.trans (hb4.mono BW.size)
 clear hb4
 obtain ⟨V9, e10, hb11, K12, Z13, z8⟩ := alloc_new V2 [.bool b.n, .slice b.A b.xs.length b.c, .bool b.m, .slice b.B b.ds.length b.d] 29
 rw [z1] at K12 Z13 z8
 have n14 : w.heap.size ≠ w.heap.size + 1 := Nat.ne_of_lt (z1 ▸ K5.lt)
 have g15 : w.heap.size ≤ w.heap.size + 1 := z1 ▸ BW.size
 replace K5 := K5.on hb11
 replace B := B.kp (Kept.of hb11)
 replace BW := BW.trans (hb11.mono BW.size)
 clear hb11
 obtain ⟨V16, e17, hb18, K19, Z20, -⟩ := alloc_new V9 [.bool false, .slice none 0 0, .bool false, .slice none 0 0, .bool false, .slice none 0 0, .bool false, .slice none 0 0, .bool false, .slice none 0 0, .bool false, .slice none 0 0, .bool false, .slice none 0 0, .bool false, .slice none 0 0] 31
 rw [z8] at K19 Z20
 replace K19 : Box V16 (w.heap.size + 1 + 1) (zcs16) := K19
 have n21 : w.heap.size ≠ w.heap.size + 1 + 1 := Nat.ne_of_lt (z8 ▸ K5.lt)
 have n22 : w.heap.size + 1 ≠ w.heap.size + 1 + 1 := Nat.ne_of_lt (z8 ▸ K12.lt)
 have g23 : w.heap.size ≤ w.heap.size + 1 + 1 := z8 ▸ BW.size
 replace K12 := K12.on hb18
 replace B := B.kp (Kept.of hb18)
 replace BW := BW.trans (hb18.mono BW.size)
 clear hb18
 clear z1 z8
 go_enter Tryz.func47, Tryz.ntmps47
 go_wp2_with fail
 rw [← e3, ← e10, ← e17]
 clear e3 e10 e17
 refine wp_region_noPanic ?_
 have hb : Below V16.heap.size V16 V16.drew := (Below.refl _ _).drew
 replace K12 := K12.on hb
 replace K19 := K19.on hb
 replace Z20 := Z20.on hb
 replace B := B.kp (Kept.of hb)
 replace BW := BW.trans (hb.mono BW.size)
 clear hb
 refine wp_region_held_drew (S := (fun wx => Cs wx (w.heap.size + 1) 0 [.bool b.n, .slice b.A b.xs.length b.c, .bool b.m, .slice b.B b.ds.length b.d])) (by kernel_rfl) (by exact K12.cs) (fun hHeld => ?_)
 generalize V16.drew = Vd24 at *
 refine pT 2 ?_
 (try simp only [p0, p1, p2, p3])
 refine pR1 0 (fun K hK => ?_)
 go_simp
 (go_at_call 43; with_reducible refine (w_int (n := 1) (by decide) (by decide)).mono ?_)
 rintro _ w25 ⟨f1, rfl, L1, hb⟩
 (try go_wp2_with fail)
 replace K12 := K12.on hb
 replace K19 := K19.on hb
 replace Z20 := Z20.on hb
 replace B := B.kp (Kept.of hb)
 replace BW := BW.trans (hb.mono BW.size)
 clear hb
 clear hHeld
 refine hK.out _ _ (by exact K12.cs) (fun hHeld => ?_)
 clear hK
 (try simp only [p0, p1, p2, p3])
 refine pR1 1 (fun K hK => ?_)
 go_simp
 (go_at_call 43; with_reducible refine (w_int (n := 0) (by decide) (by decide)).mono ?_)
 rintro _ w26 ⟨f2, rfl, L2, hb⟩
 (try go_wp2_with fail)
 replace K12 := K12.on hb
 replace K19 := K19.on hb
 replace Z20 := Z20.on hb
 replace B := B.kp (Kept.of hb)
 replace L1 := L1.kp (Kept.of hb)
 replace BW := BW.trans (hb.mono BW.size)
 clear hb
 clear hHeld
 refine hK.out _ _ (by exact K12.cs) (fun hHeld => ?_)
 clear hK
 (try simp only [p0, p1, p2, p3])
 refine pR1 3 (fun K hK => ?_)
 go_simp
 (go_at_call 43; with_reducible refine (w_int (n := 1) (by decide) (by decide)).mono ?_)
 rintro _ w27 ⟨f3, rfl, L3, hb⟩
 (try go_wp2_with fail)
 replace K12 := K12.on hb
 replace K19 := K19.on hb
 replace Z20 := Z20.on hb
 replace B := B.kp (Kept.of hb)
 replace L1 := L1.kp (Kept.of hb)
 replace L2 := L2.kp (Kept.of hb)
 replace BW := BW.trans (hb.mono BW.size)
 clear hb
 clear hHeld
 refine hK.out _ _ (by exact K12.cs) (fun hHeld => ?_)
 clear hK
 (try simp only [p0, p1, p2, p3])
 refine pT 4 ?_
 (try simp only [p0, p1, p2, p3])
 refine pR1 5 (fun K hK => ?_)
 refine ite_yes (by rfl) (wp_stM rfl rfl rfl K19 Z20 rfl rfl rfl ?_)
 obtain ⟨V28, hk30⟩ : ∃ V28, V28 = w27.setCells (w.heap.size + 1 + 1) 0 [.bool f1.n, .slice f1.A f1.xs.length f1.c, .bool f1.m, .slice f1.B f1.ds.length f1.d, .bool f2.n, .slice f2.A f2.xs.length f2.c, .bool f2.m, .slice f2.B f2.ds.length f2.d, .bool b.n, .slice b.A b.xs.length b.c, .bool b.m, .slice b.B b.ds.length b.d, .bool f3.n, .slice f3.A f3.xs.length f3.c, .bool f3.m, .slice f3.B f3.ds.length f3.d] := ⟨_, rfl⟩
 have e29 := hk30
 have hk31 := Kept.overE hk30 K19 rfl (Nat.le_of_ble_eq_true rfl)
 replace K12 := K12.awayE hk30 n22
 replace K19 := K19.overE hk30 rfl
 replace B := B.kp hk31
 replace L1 := L1.kp hk31
 replace L2 := L2.kp hk31
 replace L3 := L3.kp hk31
 replace BW := Below.putE BW hk30 g23
 clear hk30 hk31
 rw [← e29]
 clear e29
 clear hHeld
 refine hK.out _ _ (by exact K12.cs) (fun hHeld => ?_)
 clear hK
 (try simp only [p0])
 refine wpAnyH_done (by kernel_rfl) (NoPanic.normal ?_) _
 go_wp2
 exact bodyPost_ret (v := .agg #[.bool f1.n, .slice f1.A f1.xs.length f1.c, .bool f1.m, .slice f1.B f1.ds.length f1.d, .bool f2.n, .slice f2.A f2.xs.length f2.c, .bool f2.m, .slice f2.B f2.ds.length f2.d, .bool b.n, .slice b.A b.xs.length b.c, .bool b.m, .slice b.B b.ds.length b.d, .bool f3.n, .slice f3.A f3.xs.length f3.c, .bool f3.m, .slice f3.B f3.ds.length f3.d]) (res_M Tryz.results47 (by rfl) K19 rfl) rfl ⟨⟨f1, f2, b, f3⟩, rfl, ⟨L1, L2, B, L3⟩, BW⟩
set_option maxHeartbeats 16000000 in
set_option maxRecDepth 100000 in
theorem w_lives {w : World} :
    Calls Tryz.prog 39 #[] w (fun e w' => e = .returned (.bool true) ∧ Below w.heap.size w w') := by
 have HL := Lib.hid (show imL.det = 1 from Mq.det_low)
 have BW : Below w.heap.size w w := Below.refl _ _
 go_enter Tryz.func39, Tryz.ntmps39
 go_wp2_with fail
 refine (w_int (n := 1) (by decide) (by decide)).mono ?_
 rintro _ w1 ⟨a1, rfl, A1, hb⟩
 replace BW := BW.trans (hb.mono BW.size)
 clear hb
 go_wp2_with fail
 refine (w_int (n := -1) (by decide) (by decide)).mono ?_
 rintro _ w2 ⟨a2, rfl, A2, hb⟩
 replace BW := BW.trans (hb.mono BW.size)
 clear hb
 go_wp2_with fail
 refine (w_lens A2).mono ?_
 rintro _ w3 ⟨m, rfl, G, hb⟩
 replace A2 := A2.kp (Kept.of hb)
 replace BW := BW.trans (hb.mono BW.size)
 clear hb
 replace G : Fm w3 imL m := G
 clear A2
 obtain ⟨V4, e5, hb6, K7, Z8, -⟩ := alloc_new w3 [.bool m.A.n, .slice m.A.A m.A.xs.length m.A.c, .bool m.A.m, .slice m.A.B m.A.ds.length m.A.d, .bool m.B.n, .slice m.B.A m.B.xs.length m.B.c, .bool m.B.m, .slice m.B.B m.B.ds.length m.B.d, .bool m.C.n, .slice m.C.A m.C.xs.length m.C.c, .bool m.C.m, .slice m.C.B m.C.ds.length m.C.d, .bool m.D.n, .slice m.D.A m.D.xs.length m.D.c, .bool m.D.m, .slice m.D.B m.D.ds.length m.D.d] 31
 replace K7 : Box V4 (w3.heap.size) (mcs m) := K7
 have g9 : w.heap.size ≤ w3.heap.size := BW.size
 replace G := G.kp (Kept.of hb6)
 replace BW := BW.trans (hb6.mono BW.size)
 clear hb6
 go_wp2_with (first | (refine wpList_stNew (by rfl) (by rfl) (by rfl) (by rfl) (by rfl) (by rfl) (by rfl) ?_))
 (try simp only [p0])
 rw [← e5]
 clear e5
 generalize w3.heap.size = b10 at *
 go_cut [2, 3, 4] (fun sv0 sv1 sw0 wx => ∃ (pka_0 pka_1 : Nat) (f : Fv) (g : Fv), sv0 = .pointer (some ⟨pka_0, 0, none⟩) ∧ sv1 = .pointer (some ⟨pka_1, 0, none⟩) ∧ sw0 = .int .i64 0 ∧ Below w.heap.size w wx ∧ Box wx (b10) (mcs m) ∧ Fz wx (b10) ∧ Fm wx (imL) m ∧ Box wx pka_0 [.bool f.n, .slice f.A f.xs.length f.c, .bool f.m, .slice f.B f.ds.length f.d] ∧ Box wx pka_1 [.bool g.n, .slice g.A g.xs.length g.c, .bool g.m, .slice g.B g.ds.length g.d] ∧ pka_0 ≠ b10 ∧ pka_1 ≠ b10 ∧ Ff wx (((2 : Int) : Rat)) f ∧ Ff wx (((-1 : Int) : Rat)) g)
 case first =>
  refine wp_region_noPanic ?_
  have hb : Below V4.heap.size V4 V4.drew := (Below.refl _ _).drew
  replace K7 := K7.on hb
  replace Z8 := Z8.on hb
  replace G := G.kp (Kept.of hb)
  replace BW := BW.trans (hb.mono BW.size)
  clear hb
  refine wp_region_held_drew (S := (fun wx => Box wx (b10) [.bool m.A.n, .slice m.A.A m.A.xs.length m.A.c, .bool m.A.m, .slice m.A.B m.A.ds.length m.A.d, .bool m.B.n, .slice m.B.A m.B.xs.length m.B.c, .bool m.B.m, .slice m.B.B m.B.ds.length m.B.d, .bool m.C.n, .slice m.C.A m.C.xs.length m.C.c, .bool m.C.m, .slice m.C.B m.C.ds.length m.C.d, .bool m.D.n, .slice m.D.A m.D.xs.length m.D.c, .bool m.D.m, .slice m.D.B m.D.ds.length m.D.d])) (by kernel_rfl) (by exact K7) (fun hHeld => ?_)
  generalize V4.drew = Vd11 at *
  refine pT 0 ?_ (hy := fun wt hSw => ldM rfl rfl hSw)
  (try simp only [p0, p1, p2, p3])
  clear hHeld
  refine nameH (fun OP QQ AA hOP hQQ hAA => ?_)
  have kya_2_3 : ∀ (v1 : Fv) (f : Fv) (g : Fv) (kq0 : Nat) (kq1 : Nat) (W : World) (hw : Below Vd11.heap.size Vd11 W) (B1 : Ff W (((2 : Int) : Rat)) v1) (F1 : Ff W (((2 : Int) : Rat)) f) (F2 : Ff W (((-1 : Int) : Rat)) g) (kb0 : Box W kq0 [.bool false, .slice none 0 0, .bool false, .slice none 0 0]) (kz0 : Fz W kq0) (kg0 : Vd11.heap.size ≤ kq0) (kb1 : Box W kq1 [.bool false, .slice none 0 0, .bool false, .slice none 0 0]) (kz1 : Fz W kq1) (kg1 : Vd11.heap.size ≤ kq1) (kn01 : kq0 ≠ kq1), wpAnyH Tryz.prog .any OP QQ (fun wx => Box wx (b10) [.bool m.A.n, .slice m.A.A m.A.xs.length m.A.c, .bool m.A.m, .slice m.A.B m.A.ds.length m.A.d, .bool m.B.n, .slice m.B.A m.B.xs.length m.B.c, .bool m.B.m, .slice m.B.B m.B.ds.length m.B.d, .bool m.C.n, .slice m.C.A m.C.xs.length m.C.c, .bool m.C.m, .slice m.C.B m.C.ds.length m.C.d, .bool m.D.n, .slice m.D.A m.D.xs.length m.D.c, .bool m.D.m, .slice m.D.B m.D.ds.length m.D.d]) 3 #[true, true, true, true, true, true, true, true, true, false, false, false] ((((((((AA.put (some 13) (.agg #[.bool v1.n, .slice v1.A v1.xs.length v1.c, .bool v1.m, .slice v1.B v1.ds.length v1.d])).put (some 14) (.tuple #[.agg #[.bool f.n, .slice f.A f.xs.length f.c, .bool f.m, .slice f.B f.ds.length f.d], .agg #[.bool g.n, .slice g.A g.xs.length g.c, .bool g.m, .slice g.B g.ds.length g.d], .int .i64 0])).put (some 2) (.pointer (some ⟨kq0, 0, none⟩))).put (some 3) (.pointer (some ⟨kq1, 0, none⟩))).put (some 11) (.tuple #[.agg #[.bool f.n, .slice f.A f.xs.length f.c, .bool f.m, .slice f.B f.ds.length f.d], .agg #[.bool g.n, .slice g.A g.xs.length g.c, .bool g.m, .slice g.B g.ds.length g.d], .int .i64 0])).put (some 15) (.agg #[.bool f.n, .slice f.A f.xs.length f.c, .bool f.m, .slice f.B f.ds.length f.d])).put (some 16) (.agg #[.bool g.n, .slice g.A g.xs.length g.c, .bool g.m, .slice g.B g.ds.length g.d])).put (some 17) (.int .i64 0)) W := by
   intro v1 f g kq0 kq1 W hw B1 F1 F2 kb0 kz0 kg0 kb1 kz1 kg1 kn01
   subst hOP
   subst hQQ
   subst hAA
   (try simp only [p0, p1, p2, p3])
   have gw0 : w.heap.size ≤ kq0 := Nat.le_trans BW.size kg0
   have xK70 : b10 ≠ kq0 := Nat.ne_of_lt (Nat.lt_of_lt_of_le K7.lt kg0)
   have gw1 : w.heap.size ≤ kq1 := Nat.le_trans BW.size kg1
   have xK71 : b10 ≠ kq1 := Nat.ne_of_lt (Nat.lt_of_lt_of_le K7.lt kg1)
   replace K7 := K7.on hw
   replace Z8 := Z8.on hw
   replace G := G.kp (Kept.of hw)
   replace BW := BW.trans (hw.mono BW.size)
   refine pR1 9 (fun K hK => ?_)
   obtain ⟨c12, c13, c14, c15⟩ := kb0.c4
   obtain ⟨c16, c17, c18, c19⟩ := kz0.f4
   go_simp
   clear c12 c13 c14 c15 c16 c17 c18 c19
   obtain ⟨V20, hk22⟩ : ∃ V20, V20 = W.setCells (kq0) 0 [.bool f.n, .slice f.A f.xs.length f.c, .bool f.m, .slice f.B f.ds.length f.d] := ⟨_, rfl⟩
   have e21 := hk22
   simp only [World.setCells, Nat.zero_add, Nat.reduceAdd] at e21
   have hk23 := Kept.overE hk22 kb0 rfl (Nat.le_of_ble_eq_true rfl)
   replace K7 := K7.awayE hk22 xK70
   replace kb0 := kb0.overE hk22 rfl
   replace kb1 := kb1.awayE hk22 kn01.symm
   replace Z8 := Z8.putE hk22
   replace kz0 := kz0.putE hk22
   replace kz1 := kz1.putE hk22
   replace G := G.kp hk23
   replace B1 := B1.kp hk23
   replace F1 := F1.kp hk23
   replace F2 := F2.kp hk23
   replace BW := Below.putE BW hk22 gw0
   clear hk22 hk23
   rw [← e21]
   clear e21
   refine hK.out _ _ (by exact K7) (fun hHeld => ?_)
   clear hK
   (try simp only [p1, p2, p3])
   clear hHeld
   refine pR1 10 (fun K hK => ?_)
   obtain ⟨c24, c25, c26, c27⟩ := kb1.c4
   obtain ⟨c28, c29, c30, c31⟩ := kz1.f4
   go_simp
   clear c24 c25 c26 c27 c28 c29 c30 c31
   obtain ⟨V32, hk34⟩ : ∃ V32, V32 = V20.setCells (kq1) 0 [.bool g.n, .slice g.A g.xs.length g.c, .bool g.m, .slice g.B g.ds.length g.d] := ⟨_, rfl⟩
   have e33 := hk34
   simp only [World.setCells, Nat.zero_add, Nat.reduceAdd] at e33
   have hk35 := Kept.overE hk34 kb1 rfl (Nat.le_of_ble_eq_true rfl)
   replace K7 := K7.awayE hk34 xK71
   replace kb0 := kb0.awayE hk34 kn01
   replace kb1 := kb1.overE hk34 rfl
   replace Z8 := Z8.putE hk34
   replace kz0 := kz0.putE hk34
   replace kz1 := kz1.putE hk34
   replace G := G.kp hk35
   replace B1 := B1.kp hk35
   replace F1 := F1.kp hk35
   replace F2 := F2.kp hk35
   replace BW := Below.putE BW hk34 gw1
   clear hk34 hk35
   rw [← e33]
   clear e33
   refine hK.out _ _ (by exact K7) (fun hHeld => ?_)
   clear hK
   (try simp only [p1, p2, p3])
   clear hHeld
   have hHeld : (fun wx => Box wx (b10) [.bool m.A.n, .slice m.A.A m.A.xs.length m.A.c, .bool m.A.m, .slice m.A.B m.A.ds.length m.A.d, .bool m.B.n, .slice m.B.A m.B.xs.length m.B.c, .bool m.B.m, .slice m.B.B m.B.ds.length m.B.d, .bool m.C.n, .slice m.C.A m.C.xs.length m.C.c, .bool m.C.m, .slice m.C.B m.C.ds.length m.C.d, .bool m.D.n, .slice m.D.A m.D.xs.length m.D.c, .bool m.D.m, .slice m.D.B m.D.ds.length m.D.d]) V32 := (by exact K7)
   refine pT 11 ?_
   (try simp only [p0, p1, p2, p3])
   clear hHeld
   refine wpAnyH_done (by kernel_rfl) (NoPanic.normal ?_) _
   go_wp2
   go_meet
   exact ⟨kq0, kq1, f, g, rfl, rfl, rfl, BW, K7, Z8, G, kb0, kb1, xK70.symm, xK71.symm, F1, F2⟩
  have kya_1_3 : ∀ (v1 : Fv) (kq0 : Nat) (kq1 : Nat) (W : World) (hw : Below Vd11.heap.size Vd11 W) (B1 : Ff W (((2 : Int) : Rat)) v1) (kb0 : Box W kq0 [.bool false, .slice none 0 0, .bool false, .slice none 0 0]) (kz0 : Fz W kq0) (kg0 : Vd11.heap.size ≤ kq0) (kb1 : Box W kq1 [.bool false, .slice none 0 0, .bool false, .slice none 0 0]) (kz1 : Fz W kq1) (kg1 : Vd11.heap.size ≤ kq1) (kn01 : kq0 ≠ kq1), wpAnyH Tryz.prog .any OP QQ (fun wx => Box wx (b10) [.bool m.A.n, .slice m.A.A m.A.xs.length m.A.c, .bool m.A.m, .slice m.A.B m.A.ds.length m.A.d, .bool m.B.n, .slice m.B.A m.B.xs.length m.B.c, .bool m.B.m, .slice m.B.B m.B.ds.length m.B.d, .bool m.C.n, .slice m.C.A m.C.xs.length m.C.c, .bool m.C.m, .slice m.C.B m.C.ds.length m.C.d, .bool m.D.n, .slice m.D.A m.D.xs.length m.D.c, .bool m.D.m, .slice m.D.B m.D.ds.length m.D.d]) 8 #[true, true, false, false, false, false, false, true, true, false, false, false] (((AA.put (some 13) (.agg #[.bool v1.n, .slice v1.A v1.xs.length v1.c, .bool v1.m, .slice v1.B v1.ds.length v1.d])).put (some 2) (.pointer (some ⟨kq0, 0, none⟩))).put (some 3) (.pointer (some ⟨kq1, 0, none⟩))) W := by
   intro v1 kq0 kq1 W hw B1 kb0 kz0 kg0 kb1 kz1 kg1 kn01
   subst hOP
   subst hQQ
   subst hAA
   (try simp only [p0, p1, p2, p3])
   refine pR1 2 (fun K hK => ?_)
   replace G := G.kp (Kept.of hw)
   replace K7 := K7.on hw
   go_simp
   (go_at_call 38; with_reducible refine (i_Image G B1 HL.out).mono ?_)
   rintro _ W2 ⟨f, g, er, rfl, R, hb⟩
   (try go_wp2_with fail)
   obtain ⟨rfl, F1, F2⟩ := imL_two R
   clear R
   have hw2 := hw.trans (hb.mono hw.size)
   refine hK.out _ _ (by exact K7.on hb) (fun hHeld => ?_)
   clear hK
   (try simp only [p1, p2, p3])
   refine pT 3 ?_
   (try simp only [p0, p1, p2, p3])
   refine pT 4 ?_
   (try simp only [p0, p1, p2, p3])
   refine pT 5 ?_
   (try simp only [p0, p1, p2, p3])
   refine pT 6 ?_
   (try simp only [p0, p1, p2, p3])
   have ky := kya_2_3 v1 f g kq0 kq1 W2 hw2 (B1.kp (Kept.of hb)) F1 F2 (kb0.on hb) (kz0.on hb) kg0 (kb1.on hb) (kz1.on hb) kg1 kn01
   (try simp only [p0, p1, p2, p3] at ky)
   exact castL (by kernel_rfl) ky
  have kya_2_1 : ∀ (v1 : Fv) (f : Fv) (g : Fv) (kq0 : Nat) (W : World) (hw : Below Vd11.heap.size Vd11 W) (B1 : Ff W (((2 : Int) : Rat)) v1) (F1 : Ff W (((2 : Int) : Rat)) f) (F2 : Ff W (((-1 : Int) : Rat)) g) (kb0 : Box W kq0 [.bool false, .slice none 0 0, .bool false, .slice none 0 0]) (kz0 : Fz W kq0) (kg0 : Vd11.heap.size ≤ kq0) , wpAnyH Tryz.prog .any OP QQ (fun wx => Box wx (b10) [.bool m.A.n, .slice m.A.A m.A.xs.length m.A.c, .bool m.A.m, .slice m.A.B m.A.ds.length m.A.d, .bool m.B.n, .slice m.B.A m.B.xs.length m.B.c, .bool m.B.m, .slice m.B.B m.B.ds.length m.B.d, .bool m.C.n, .slice m.C.A m.C.xs.length m.C.c, .bool m.C.m, .slice m.C.B m.C.ds.length m.C.d, .bool m.D.n, .slice m.D.A m.D.xs.length m.D.c, .bool m.D.m, .slice m.D.B m.D.ds.length m.D.d]) 4 #[true, true, true, true, true, true, true, true, false, false, false, false] (((((((AA.put (some 13) (.agg #[.bool v1.n, .slice v1.A v1.xs.length v1.c, .bool v1.m, .slice v1.B v1.ds.length v1.d])).put (some 14) (.tuple #[.agg #[.bool f.n, .slice f.A f.xs.length f.c, .bool f.m, .slice f.B f.ds.length f.d], .agg #[.bool g.n, .slice g.A g.xs.length g.c, .bool g.m, .slice g.B g.ds.length g.d], .int .i64 0])).put (some 2) (.pointer (some ⟨kq0, 0, none⟩))).put (some 11) (.tuple #[.agg #[.bool f.n, .slice f.A f.xs.length f.c, .bool f.m, .slice f.B f.ds.length f.d], .agg #[.bool g.n, .slice g.A g.xs.length g.c, .bool g.m, .slice g.B g.ds.length g.d], .int .i64 0])).put (some 15) (.agg #[.bool f.n, .slice f.A f.xs.length f.c, .bool f.m, .slice f.B f.ds.length f.d])).put (some 16) (.agg #[.bool g.n, .slice g.A g.xs.length g.c, .bool g.m, .slice g.B g.ds.length g.d])).put (some 17) (.int .i64 0)) W := by
   intro v1 f g kq0 W hw B1 F1 F2 kb0 kz0 kg0
   subst hOP
   subst hQQ
   subst hAA
   (try simp only [p0, p1, p2, p3])
   refine pR1 8 (fun K hK => ?_)
   replace K7 := K7.on hw
   go_simp
   obtain ⟨V2, e2, hb, K2, Z2, -⟩ := alloc_new W [.bool false, .slice none 0 0, .bool false, .slice none 0 0] 29
   rw [← e2]
   clear e2
   have hw2 := hw.trans (hb.mono hw.size)
   refine hK.out _ _ (by exact K7.on hb) (fun hHeld => ?_)
   clear hK
   (try simp only [p1, p2, p3])
   have ky := kya_2_3 v1 f g kq0 W.heap.size V2 hw2 (B1.kp (Kept.of hb)) (F1.kp (Kept.of hb)) (F2.kp (Kept.of hb)) (kb0.on hb) (kz0.on hb) kg0 K2 Z2 hw.size (Nat.ne_of_lt kb0.lt)
   (try simp only [p0, p1, p2, p3] at ky)
   exact castL (by kernel_rfl) ky
  have kya_2_2 : ∀ (v1 : Fv) (f : Fv) (g : Fv) (kq1 : Nat) (W : World) (hw : Below Vd11.heap.size Vd11 W) (B1 : Ff W (((2 : Int) : Rat)) v1) (F1 : Ff W (((2 : Int) : Rat)) f) (F2 : Ff W (((-1 : Int) : Rat)) g) (kb1 : Box W kq1 [.bool false, .slice none 0 0, .bool false, .slice none 0 0]) (kz1 : Fz W kq1) (kg1 : Vd11.heap.size ≤ kq1) , wpAnyH Tryz.prog .any OP QQ (fun wx => Box wx (b10) [.bool m.A.n, .slice m.A.A m.A.xs.length m.A.c, .bool m.A.m, .slice m.A.B m.A.ds.length m.A.d, .bool m.B.n, .slice m.B.A m.B.xs.length m.B.c, .bool m.B.m, .slice m.B.B m.B.ds.length m.B.d, .bool m.C.n, .slice m.C.A m.C.xs.length m.C.c, .bool m.C.m, .slice m.C.B m.C.ds.length m.C.d, .bool m.D.n, .slice m.D.A m.D.xs.length m.D.c, .bool m.D.m, .slice m.D.B m.D.ds.length m.D.d]) 4 #[true, true, true, true, true, true, true, false, true, false, false, false] (((((((AA.put (some 13) (.agg #[.bool v1.n, .slice v1.A v1.xs.length v1.c, .bool v1.m, .slice v1.B v1.ds.length v1.d])).put (some 14) (.tuple #[.agg #[.bool f.n, .slice f.A f.xs.length f.c, .bool f.m, .slice f.B f.ds.length f.d], .agg #[.bool g.n, .slice g.A g.xs.length g.c, .bool g.m, .slice g.B g.ds.length g.d], .int .i64 0])).put (some 3) (.pointer (some ⟨kq1, 0, none⟩))).put (some 11) (.tuple #[.agg #[.bool f.n, .slice f.A f.xs.length f.c, .bool f.m, .slice f.B f.ds.length f.d], .agg #[.bool g.n, .slice g.A g.xs.length g.c, .bool g.m, .slice g.B g.ds.length g.d], .int .i64 0])).put (some 15) (.agg #[.bool f.n, .slice f.A f.xs.length f.c, .bool f.m, .slice f.B f.ds.length f.d])).put (some 16) (.agg #[.bool g.n, .slice g.A g.xs.length g.c, .bool g.m, .slice g.B g.ds.length g.d])).put (some 17) (.int .i64 0)) W := by
   intro v1 f g kq1 W hw B1 F1 F2 kb1 kz1 kg1
   subst hOP
   subst hQQ
   subst hAA
   (try simp only [p0, p1, p2, p3])
   refine pR1 7 (fun K hK => ?_)
   replace K7 := K7.on hw
   go_simp
   obtain ⟨V2, e2, hb, K2, Z2, -⟩ := alloc_new W [.bool false, .slice none 0 0, .bool false, .slice none 0 0] 29
   rw [← e2]
   clear e2
   have hw2 := hw.trans (hb.mono hw.size)
   refine hK.out _ _ (by exact K7.on hb) (fun hHeld => ?_)
   clear hK
   (try simp only [p1, p2, p3])
   have ky := kya_2_3 v1 f g W.heap.size kq1 V2 hw2 (B1.kp (Kept.of hb)) (F1.kp (Kept.of hb)) (F2.kp (Kept.of hb)) K2 Z2 hw.size (kb1.on hb) (kz1.on hb) kg1 (Nat.ne_of_lt kb1.lt).symm
   (try simp only [p0, p1, p2, p3] at ky)
   exact castL (by kernel_rfl) ky
  have kya_0_3 : ∀  (kq0 : Nat) (kq1 : Nat) (W : World) (hw : Below Vd11.heap.size Vd11 W)  (kb0 : Box W kq0 [.bool false, .slice none 0 0, .bool false, .slice none 0 0]) (kz0 : Fz W kq0) (kg0 : Vd11.heap.size ≤ kq0) (kb1 : Box W kq1 [.bool false, .slice none 0 0, .bool false, .slice none 0 0]) (kz1 : Fz W kq1) (kg1 : Vd11.heap.size ≤ kq1) (kn01 : kq0 ≠ kq1), wpAnyH Tryz.prog .any OP QQ (fun wx => Box wx (b10) [.bool m.A.n, .slice m.A.A m.A.xs.length m.A.c, .bool m.A.m, .slice m.A.B m.A.ds.length m.A.d, .bool m.B.n, .slice m.B.A m.B.xs.length m.B.c, .bool m.B.m, .slice m.B.B m.B.ds.length m.B.d, .bool m.C.n, .slice m.C.A m.C.xs.length m.C.c, .bool m.C.m, .slice m.C.B m.C.ds.length m.C.d, .bool m.D.n, .slice m.D.A m.D.xs.length m.D.c, .bool m.D.m, .slice m.D.B m.D.ds.length m.D.d]) 9 #[true, false, false, false, false, false, false, true, true, false, false, false] ((AA.put (some 2) (.pointer (some ⟨kq0, 0, none⟩))).put (some 3) (.pointer (some ⟨kq1, 0, none⟩))) W := by
   intro kq0 kq1 W hw kb0 kz0 kg0 kb1 kz1 kg1 kn01
   subst hOP
   subst hQQ
   subst hAA
   (try simp only [p0, p1, p2, p3])
   refine pR1 1 (fun K hK => ?_)
   replace K7 := K7.on hw
   go_simp
   (go_at_call 43; with_reducible refine (w_int (n := 2) (by decide) (by decide)).mono ?_)
   rintro _ W2 ⟨v1, rfl, B1, hb⟩
   (try go_wp2_with fail)
   have hw2 := hw.trans (hb.mono hw.size)
   refine hK.out _ _ (by exact K7.on hb) (fun hHeld => ?_)
   clear hK
   (try simp only [p1, p2, p3])
   have ky := kya_1_3 v1 kq0 kq1 W2 hw2 B1 (kb0.on hb) (kz0.on hb) kg0 (kb1.on hb) (kz1.on hb) kg1 kn01
   (try simp only [p0, p1, p2, p3] at ky)
   exact castL (by kernel_rfl) ky
  have kya_1_1 : ∀ (v1 : Fv) (kq0 : Nat) (W : World) (hw : Below Vd11.heap.size Vd11 W) (B1 : Ff W (((2 : Int) : Rat)) v1) (kb0 : Box W kq0 [.bool false, .slice none 0 0, .bool false, .slice none 0 0]) (kz0 : Fz W kq0) (kg0 : Vd11.heap.size ≤ kq0) , wpAnyH Tryz.prog .any OP QQ (fun wx => Box wx (b10) [.bool m.A.n, .slice m.A.A m.A.xs.length m.A.c, .bool m.A.m, .slice m.A.B m.A.ds.length m.A.d, .bool m.B.n, .slice m.B.A m.B.xs.length m.B.c, .bool m.B.m, .slice m.B.B m.B.ds.length m.B.d, .bool m.C.n, .slice m.C.A m.C.xs.length m.C.c, .bool m.C.m, .slice m.C.B m.C.ds.length m.C.d, .bool m.D.n, .slice m.D.A m.D.xs.length m.D.c, .bool m.D.m, .slice m.D.B m.D.ds.length m.D.d]) 9 #[true, true, false, false, false, false, false, true, false, false, false, false] ((AA.put (some 13) (.agg #[.bool v1.n, .slice v1.A v1.xs.length v1.c, .bool v1.m, .slice v1.B v1.ds.length v1.d])).put (some 2) (.pointer (some ⟨kq0, 0, none⟩))) W := by
   intro v1 kq0 W hw B1 kb0 kz0 kg0
   subst hOP
   subst hQQ
   subst hAA
   (try simp only [p0, p1, p2, p3])
   refine pR2 2 8 (fun K hK => ?_) (fun K hK => ?_)
   ·replace G := G.kp (Kept.of hw)
    replace K7 := K7.on hw
    go_simp
    (go_at_call 38; with_reducible refine (i_Image G B1 HL.out).mono ?_)
    rintro _ W2 ⟨f, g, er, rfl, R, hb⟩
    (try go_wp2_with fail)
    obtain ⟨rfl, F1, F2⟩ := imL_two R
    clear R
    have hw2 := hw.trans (hb.mono hw.size)
    refine hK.out _ _ (by exact K7.on hb) (fun hHeld => ?_)
    clear hK
    (try simp only [p1, p2, p3])
    refine pT 3 ?_
    (try simp only [p0, p1, p2, p3])
    refine pT 4 ?_
    (try simp only [p0, p1, p2, p3])
    refine pT 5 ?_
    (try simp only [p0, p1, p2, p3])
    refine pT 6 ?_
    (try simp only [p0, p1, p2, p3])
    have ky := kya_2_1 v1 f g kq0 W2 hw2 (B1.kp (Kept.of hb)) F1 F2 (kb0.on hb) (kz0.on hb) kg0 
    (try simp only [p0, p1, p2, p3] at ky)
    exact castL (by kernel_rfl) ky
   ·replace K7 := K7.on hw
    go_simp
    obtain ⟨V2, e2, hb, K2, Z2, -⟩ := alloc_new W [.bool false, .slice none 0 0, .bool false, .slice none 0 0] 29
    rw [← e2]
    clear e2
    have hw2 := hw.trans (hb.mono hw.size)
    refine hK.out _ _ (by exact K7.on hb) (fun hHeld => ?_)
    clear hK
    (try simp only [p1, p2, p3])
    have ky := kya_1_3 v1 kq0 W.heap.size V2 hw2 (B1.kp (Kept.of hb)) (kb0.on hb) (kz0.on hb) kg0 K2 Z2 hw.size (Nat.ne_of_lt kb0.lt)
    (try simp only [p0, p1, p2, p3] at ky)
    exact castL (by kernel_rfl) ky
  have kya_1_2 : ∀ (v1 : Fv) (kq1 : Nat) (W : World) (hw : Below Vd11.heap.size Vd11 W) (B1 : Ff W (((2 : Int) : Rat)) v1) (kb1 : Box W kq1 [.bool false, .slice none 0 0, .bool false, .slice none 0 0]) (kz1 : Fz W kq1) (kg1 : Vd11.heap.size ≤ kq1) , wpAnyH Tryz.prog .any OP QQ (fun wx => Box wx (b10) [.bool m.A.n, .slice m.A.A m.A.xs.length m.A.c, .bool m.A.m, .slice m.A.B m.A.ds.length m.A.d, .bool m.B.n, .slice m.B.A m.B.xs.length m.B.c, .bool m.B.m, .slice m.B.B m.B.ds.length m.B.d, .bool m.C.n, .slice m.C.A m.C.xs.length m.C.c, .bool m.C.m, .slice m.C.B m.C.ds.length m.C.d, .bool m.D.n, .slice m.D.A m.D.xs.length m.D.c, .bool m.D.m, .slice m.D.B m.D.ds.length m.D.d]) 9 #[true, true, false, false, false, false, false, false, true, false, false, false] ((AA.put (some 13) (.agg #[.bool v1.n, .slice v1.A v1.xs.length v1.c, .bool v1.m, .slice v1.B v1.ds.length v1.d])).put (some 3) (.pointer (some ⟨kq1, 0, none⟩))) W := by
   intro v1 kq1 W hw B1 kb1 kz1 kg1
   subst hOP
   subst hQQ
   subst hAA
   (try simp only [p0, p1, p2, p3])
   refine pR2 2 7 (fun K hK => ?_) (fun K hK => ?_)
   ·replace G := G.kp (Kept.of hw)
    replace K7 := K7.on hw
    go_simp
    (go_at_call 38; with_reducible refine (i_Image G B1 HL.out).mono ?_)
    rintro _ W2 ⟨f, g, er, rfl, R, hb⟩
    (try go_wp2_with fail)
    obtain ⟨rfl, F1, F2⟩ := imL_two R
    clear R
    have hw2 := hw.trans (hb.mono hw.size)
    refine hK.out _ _ (by exact K7.on hb) (fun hHeld => ?_)
    clear hK
    (try simp only [p1, p2, p3])
    refine pT 3 ?_
    (try simp only [p0, p1, p2, p3])
    refine pT 4 ?_
    (try simp only [p0, p1, p2, p3])
    refine pT 5 ?_
    (try simp only [p0, p1, p2, p3])
    refine pT 6 ?_
    (try simp only [p0, p1, p2, p3])
    have ky := kya_2_2 v1 f g kq1 W2 hw2 (B1.kp (Kept.of hb)) F1 F2 (kb1.on hb) (kz1.on hb) kg1 
    (try simp only [p0, p1, p2, p3] at ky)
    exact castL (by kernel_rfl) ky
   ·replace K7 := K7.on hw
    go_simp
    obtain ⟨V2, e2, hb, K2, Z2, -⟩ := alloc_new W [.bool false, .slice none 0 0, .bool false, .slice none 0 0] 29
    rw [← e2]
    clear e2
    have hw2 := hw.trans (hb.mono hw.size)
    refine hK.out _ _ (by exact K7.on hb) (fun hHeld => ?_)
    clear hK
    (try simp only [p1, p2, p3])
    have ky := kya_1_3 v1 W.heap.size kq1 V2 hw2 (B1.kp (Kept.of hb)) K2 Z2 hw.size (kb1.on hb) (kz1.on hb) kg1 (Nat.ne_of_lt kb1.lt).symm
    (try simp only [p0, p1, p2, p3] at ky)
    exact castL (by kernel_rfl) ky
  have kya_2_0 : ∀ (v1 : Fv) (f : Fv) (g : Fv)  (W : World) (hw : Below Vd11.heap.size Vd11 W) (B1 : Ff W (((2 : Int) : Rat)) v1) (F1 : Ff W (((2 : Int) : Rat)) f) (F2 : Ff W (((-1 : Int) : Rat)) g)  , wpAnyH Tryz.prog .any OP QQ (fun wx => Box wx (b10) [.bool m.A.n, .slice m.A.A m.A.xs.length m.A.c, .bool m.A.m, .slice m.A.B m.A.ds.length m.A.d, .bool m.B.n, .slice m.B.A m.B.xs.length m.B.c, .bool m.B.m, .slice m.B.B m.B.ds.length m.B.d, .bool m.C.n, .slice m.C.A m.C.xs.length m.C.c, .bool m.C.m, .slice m.C.B m.C.ds.length m.C.d, .bool m.D.n, .slice m.D.A m.D.xs.length m.D.c, .bool m.D.m, .slice m.D.B m.D.ds.length m.D.d]) 5 #[true, true, true, true, true, true, true, false, false, false, false, false] ((((((AA.put (some 13) (.agg #[.bool v1.n, .slice v1.A v1.xs.length v1.c, .bool v1.m, .slice v1.B v1.ds.length v1.d])).put (some 14) (.tuple #[.agg #[.bool f.n, .slice f.A f.xs.length f.c, .bool f.m, .slice f.B f.ds.length f.d], .agg #[.bool g.n, .slice g.A g.xs.length g.c, .bool g.m, .slice g.B g.ds.length g.d], .int .i64 0])).put (some 11) (.tuple #[.agg #[.bool f.n, .slice f.A f.xs.length f.c, .bool f.m, .slice f.B f.ds.length f.d], .agg #[.bool g.n, .slice g.A g.xs.length g.c, .bool g.m, .slice g.B g.ds.length g.d], .int .i64 0])).put (some 15) (.agg #[.bool f.n, .slice f.A f.xs.length f.c, .bool f.m, .slice f.B f.ds.length f.d])).put (some 16) (.agg #[.bool g.n, .slice g.A g.xs.length g.c, .bool g.m, .slice g.B g.ds.length g.d])).put (some 17) (.int .i64 0)) W := by
   intro v1 f g W hw B1 F1 F2
   subst hOP
   subst hQQ
   subst hAA
   (try simp only [p0, p1, p2, p3])
   refine pR2 7 8 (fun K hK => ?_) (fun K hK => ?_)
   ·replace K7 := K7.on hw
    go_simp
    obtain ⟨V2, e2, hb, K2, Z2, -⟩ := alloc_new W [.bool false, .slice none 0 0, .bool false, .slice none 0 0] 29
    rw [← e2]
    clear e2
    have hw2 := hw.trans (hb.mono hw.size)
    refine hK.out _ _ (by exact K7.on hb) (fun hHeld => ?_)
    clear hK
    (try simp only [p1, p2, p3])
    have ky := kya_2_1 v1 f g W.heap.size V2 hw2 (B1.kp (Kept.of hb)) (F1.kp (Kept.of hb)) (F2.kp (Kept.of hb)) K2 Z2 hw.size 
    (try simp only [p0, p1, p2, p3] at ky)
    exact castL (by kernel_rfl) ky
   ·replace K7 := K7.on hw
    go_simp
    obtain ⟨V2, e2, hb, K2, Z2, -⟩ := alloc_new W [.bool false, .slice none 0 0, .bool false, .slice none 0 0] 29
    rw [← e2]
    clear e2
    have hw2 := hw.trans (hb.mono hw.size)
    refine hK.out _ _ (by exact K7.on hb) (fun hHeld => ?_)
    clear hK
    (try simp only [p1, p2, p3])
    have ky := kya_2_2 v1 f g W.heap.size V2 hw2 (B1.kp (Kept.of hb)) (F1.kp (Kept.of hb)) (F2.kp (Kept.of hb)) K2 Z2 hw.size 
    (try simp only [p0, p1, p2, p3] at ky)
    exact castL (by kernel_rfl) ky
  have kya_0_1 : ∀  (kq0 : Nat) (W : World) (hw : Below Vd11.heap.size Vd11 W)  (kb0 : Box W kq0 [.bool false, .slice none 0 0, .bool false, .slice none 0 0]) (kz0 : Fz W kq0) (kg0 : Vd11.heap.size ≤ kq0) , wpAnyH Tryz.prog .any OP QQ (fun wx => Box wx (b10) [.bool m.A.n, .slice m.A.A m.A.xs.length m.A.c, .bool m.A.m, .slice m.A.B m.A.ds.length m.A.d, .bool m.B.n, .slice m.B.A m.B.xs.length m.B.c, .bool m.B.m, .slice m.B.B m.B.ds.length m.B.d, .bool m.C.n, .slice m.C.A m.C.xs.length m.C.c, .bool m.C.m, .slice m.C.B m.C.ds.length m.C.d, .bool m.D.n, .slice m.D.A m.D.xs.length m.D.c, .bool m.D.m, .slice m.D.B m.D.ds.length m.D.d]) 10 #[true, false, false, false, false, false, false, true, false, false, false, false] (AA.put (some 2) (.pointer (some ⟨kq0, 0, none⟩))) W := by
   intro kq0 W hw kb0 kz0 kg0
   subst hOP
   subst hQQ
   subst hAA
   (try simp only [p0, p1, p2, p3])
   refine pR2 1 8 (fun K hK => ?_) (fun K hK => ?_)
   ·replace K7 := K7.on hw
    go_simp
    (go_at_call 43; with_reducible refine (w_int (n := 2) (by decide) (by decide)).mono ?_)
    rintro _ W2 ⟨v1, rfl, B1, hb⟩
    (try go_wp2_with fail)
    have hw2 := hw.trans (hb.mono hw.size)
    refine hK.out _ _ (by exact K7.on hb) (fun hHeld => ?_)
    clear hK
    (try simp only [p1, p2, p3])
    have ky := kya_1_1 v1 kq0 W2 hw2 B1 (kb0.on hb) (kz0.on hb) kg0 
    (try simp only [p0, p1, p2, p3] at ky)
    exact castL (by kernel_rfl) ky
   ·replace K7 := K7.on hw
    go_simp
    obtain ⟨V2, e2, hb, K2, Z2, -⟩ := alloc_new W [.bool false, .slice none 0 0, .bool false, .slice none 0 0] 29
    rw [← e2]
    clear e2
    have hw2 := hw.trans (hb.mono hw.size)
    refine hK.out _ _ (by exact K7.on hb) (fun hHeld => ?_)
    clear hK
    (try simp only [p1, p2, p3])
    have ky := kya_0_3  kq0 W.heap.size V2 hw2  (kb0.on hb) (kz0.on hb) kg0 K2 Z2 hw.size (Nat.ne_of_lt kb0.lt)
    (try simp only [p0, p1, p2, p3] at ky)
    exact castL (by kernel_rfl) ky
  have kya_0_2 : ∀  (kq1 : Nat) (W : World) (hw : Below Vd11.heap.size Vd11 W)  (kb1 : Box W kq1 [.bool false, .slice none 0 0, .bool false, .slice none 0 0]) (kz1 : Fz W kq1) (kg1 : Vd11.heap.size ≤ kq1) , wpAnyH Tryz.prog .any OP QQ (fun wx => Box wx (b10) [.bool m.A.n, .slice m.A.A m.A.xs.length m.A.c, .bool m.A.m, .slice m.A.B m.A.ds.length m.A.d, .bool m.B.n, .slice m.B.A m.B.xs.length m.B.c, .bool m.B.m, .slice m.B.B m.B.ds.length m.B.d, .bool m.C.n, .slice m.C.A m.C.xs.length m.C.c, .bool m.C.m, .slice m.C.B m.C.ds.length m.C.d, .bool m.D.n, .slice m.D.A m.D.xs.length m.D.c, .bool m.D.m, .slice m.D.B m.D.ds.length m.D.d]) 10 #[true, false, false, false, false, false, false, false, true, false, false, false] (AA.put (some 3) (.pointer (some ⟨kq1, 0, none⟩))) W := by
   intro kq1 W hw kb1 kz1 kg1
   subst hOP
   subst hQQ
   subst hAA
   (try simp only [p0, p1, p2, p3])
   refine pR2 1 7 (fun K hK => ?_) (fun K hK => ?_)
   ·replace K7 := K7.on hw
    go_simp
    (go_at_call 43; with_reducible refine (w_int (n := 2) (by decide) (by decide)).mono ?_)
    rintro _ W2 ⟨v1, rfl, B1, hb⟩
    (try go_wp2_with fail)
    have hw2 := hw.trans (hb.mono hw.size)
    refine hK.out _ _ (by exact K7.on hb) (fun hHeld => ?_)
    clear hK
    (try simp only [p1, p2, p3])
    have ky := kya_1_2 v1 kq1 W2 hw2 B1 (kb1.on hb) (kz1.on hb) kg1 
    (try simp only [p0, p1, p2, p3] at ky)
    exact castL (by kernel_rfl) ky
   ·replace K7 := K7.on hw
    go_simp
    obtain ⟨V2, e2, hb, K2, Z2, -⟩ := alloc_new W [.bool false, .slice none 0 0, .bool false, .slice none 0 0] 29
    rw [← e2]
    clear e2
    have hw2 := hw.trans (hb.mono hw.size)
    refine hK.out _ _ (by exact K7.on hb) (fun hHeld => ?_)
    clear hK
    (try simp only [p1, p2, p3])
    have ky := kya_0_3  W.heap.size kq1 V2 hw2  K2 Z2 hw.size (kb1.on hb) (kz1.on hb) kg1 (Nat.ne_of_lt kb1.lt).symm
    (try simp only [p0, p1, p2, p3] at ky)
    exact castL (by kernel_rfl) ky
  have kya_1_0 : ∀ (v1 : Fv)  (W : World) (hw : Below Vd11.heap.size Vd11 W) (B1 : Ff W (((2 : Int) : Rat)) v1)  , wpAnyH Tryz.prog .any OP QQ (fun wx => Box wx (b10) [.bool m.A.n, .slice m.A.A m.A.xs.length m.A.c, .bool m.A.m, .slice m.A.B m.A.ds.length m.A.d, .bool m.B.n, .slice m.B.A m.B.xs.length m.B.c, .bool m.B.m, .slice m.B.B m.B.ds.length m.B.d, .bool m.C.n, .slice m.C.A m.C.xs.length m.C.c, .bool m.C.m, .slice m.C.B m.C.ds.length m.C.d, .bool m.D.n, .slice m.D.A m.D.xs.length m.D.c, .bool m.D.m, .slice m.D.B m.D.ds.length m.D.d]) 10 #[true, true, false, false, false, false, false, false, false, false, false, false] (AA.put (some 13) (.agg #[.bool v1.n, .slice v1.A v1.xs.length v1.c, .bool v1.m, .slice v1.B v1.ds.length v1.d])) W := by
   intro v1 W hw B1
   subst hOP
   subst hQQ
   subst hAA
   (try simp only [p0, p1, p2, p3])
   refine pR3 2 7 8 (fun K hK => ?_) (fun K hK => ?_) (fun K hK => ?_)
   ·replace G := G.kp (Kept.of hw)
    replace K7 := K7.on hw
    go_simp
    (go_at_call 38; with_reducible refine (i_Image G B1 HL.out).mono ?_)
    rintro _ W2 ⟨f, g, er, rfl, R, hb⟩
    (try go_wp2_with fail)
    obtain ⟨rfl, F1, F2⟩ := imL_two R
    clear R
    have hw2 := hw.trans (hb.mono hw.size)
    refine hK.out _ _ (by exact K7.on hb) (fun hHeld => ?_)
    clear hK
    (try simp only [p1, p2, p3])
    refine pT 3 ?_
    (try simp only [p0, p1, p2, p3])
    refine pT 4 ?_
    (try simp only [p0, p1, p2, p3])
    refine pT 5 ?_
    (try simp only [p0, p1, p2, p3])
    refine pT 6 ?_
    (try simp only [p0, p1, p2, p3])
    have ky := kya_2_0 v1 f g  W2 hw2 (B1.kp (Kept.of hb)) F1 F2  
    (try simp only [p0, p1, p2, p3] at ky)
    exact castL (by kernel_rfl) ky
   ·replace K7 := K7.on hw
    go_simp
    obtain ⟨V2, e2, hb, K2, Z2, -⟩ := alloc_new W [.bool false, .slice none 0 0, .bool false, .slice none 0 0] 29
    rw [← e2]
    clear e2
    have hw2 := hw.trans (hb.mono hw.size)
    refine hK.out _ _ (by exact K7.on hb) (fun hHeld => ?_)
    clear hK
    (try simp only [p1, p2, p3])
    have ky := kya_1_1 v1 W.heap.size V2 hw2 (B1.kp (Kept.of hb)) K2 Z2 hw.size 
    (try simp only [p0, p1, p2, p3] at ky)
    exact castL (by kernel_rfl) ky
   ·replace K7 := K7.on hw
    go_simp
    obtain ⟨V2, e2, hb, K2, Z2, -⟩ := alloc_new W [.bool false, .slice none 0 0, .bool false, .slice none 0 0] 29
    rw [← e2]
    clear e2
    have hw2 := hw.trans (hb.mono hw.size)
    refine hK.out _ _ (by exact K7.on hb) (fun hHeld => ?_)
    clear hK
    (try simp only [p1, p2, p3])
    have ky := kya_1_2 v1 W.heap.size V2 hw2 (B1.kp (Kept.of hb)) K2 Z2 hw.size 
    (try simp only [p0, p1, p2, p3] at ky)
    exact castL (by kernel_rfl) ky
  have kya_0_0 : ∀   (W : World) (hw : Below Vd11.heap.size Vd11 W)   , wpAnyH Tryz.prog .any OP QQ (fun wx => Box wx (b10) [.bool m.A.n, .slice m.A.A m.A.xs.length m.A.c, .bool m.A.m, .slice m.A.B m.A.ds.length m.A.d, .bool m.B.n, .slice m.B.A m.B.xs.length m.B.c, .bool m.B.m, .slice m.B.B m.B.ds.length m.B.d, .bool m.C.n, .slice m.C.A m.C.xs.length m.C.c, .bool m.C.m, .slice m.C.B m.C.ds.length m.C.d, .bool m.D.n, .slice m.D.A m.D.xs.length m.D.c, .bool m.D.m, .slice m.D.B m.D.ds.length m.D.d]) 11 #[true, false, false, false, false, false, false, false, false, false, false, false] AA W := by
   intro W hw
   subst hOP
   subst hQQ
   subst hAA
   (try simp only [p0, p1, p2, p3])
   refine pR3 1 7 8 (fun K hK => ?_) (fun K hK => ?_) (fun K hK => ?_)
   ·replace K7 := K7.on hw
    go_simp
    (go_at_call 43; with_reducible refine (w_int (n := 2) (by decide) (by decide)).mono ?_)
    rintro _ W2 ⟨v1, rfl, B1, hb⟩
    (try go_wp2_with fail)
    have hw2 := hw.trans (hb.mono hw.size)
    refine hK.out _ _ (by exact K7.on hb) (fun hHeld => ?_)
    clear hK
    (try simp only [p1, p2, p3])
    have ky := kya_1_0 v1  W2 hw2 B1  
    (try simp only [p0, p1, p2, p3] at ky)
    exact castL (by kernel_rfl) ky
   ·replace K7 := K7.on hw
    go_simp
    obtain ⟨V2, e2, hb, K2, Z2, -⟩ := alloc_new W [.bool false, .slice none 0 0, .bool false, .slice none 0 0] 29
    rw [← e2]
    clear e2
    have hw2 := hw.trans (hb.mono hw.size)
    refine hK.out _ _ (by exact K7.on hb) (fun hHeld => ?_)
    clear hK
    (try simp only [p1, p2, p3])
    have ky := kya_0_1  W.heap.size V2 hw2  K2 Z2 hw.size 
    (try simp only [p0, p1, p2, p3] at ky)
    exact castL (by kernel_rfl) ky
   ·replace K7 := K7.on hw
    go_simp
    obtain ⟨V2, e2, hb, K2, Z2, -⟩ := alloc_new W [.bool false, .slice none 0 0, .bool false, .slice none 0 0] 29
    rw [← e2]
    clear e2
    have hw2 := hw.trans (hb.mono hw.size)
    refine hK.out _ _ (by exact K7.on hb) (fun hHeld => ?_)
    clear hK
    (try simp only [p1, p2, p3])
    have ky := kya_0_2  W.heap.size V2 hw2  K2 Z2 hw.size 
    (try simp only [p0, p1, p2, p3] at ky)
    exact castL (by kernel_rfl) ky
  exact castL (by kernel_rfl) (kya_0_0 Vd11 (Below.refl _ _))
 case rest =>
  obtain ⟨pka_0, pka_1, f, g, rfl, rfl, rfl, BW, K7, Z8, G, KNa_0, KNa_1, nn11, nn12, F1, F2⟩ := hcut
  go_wp2_with fail
  go_cut [5, 6, 7] (fun sv0 sv1 sw0 wx => ∃ (pkb_0 pkb_1 : Nat), sv0 = .pointer (some ⟨pkb_0, 0, none⟩) ∧ sv1 = .pointer (some ⟨pkb_1, 0, none⟩) ∧ sw0 = .int .i64 3 ∧ Below w.heap.size w wx ∧ Box wx (pka_0) [.bool f.n, .slice f.A f.xs.length f.c, .bool f.m, .slice f.B f.ds.length f.d] ∧ Box wx (pka_1) [.bool g.n, .slice g.A g.xs.length g.c, .bool g.m, .slice g.B g.ds.length g.d] ∧ Ff wx (((2 : Int) : Rat)) f ∧ Ff wx (((-1 : Int) : Rat)) g ∧ Box wx pkb_0 [.bool false, .slice none 0 0, .bool false, .slice none 0 0] ∧ Box wx pkb_1 [.bool false, .slice none 0 0, .bool false, .slice none 0 0])
  case first =>
   refine wp_region_noPanic ?_
   have hb : Below wc.heap.size wc wc.drew := (Below.refl _ _).drew
   replace K7 := K7.on hb
   replace KNa_0 := KNa_0.on hb
   replace KNa_1 := KNa_1.on hb
   replace G := G.kp (Kept.of hb)
   replace F1 := F1.kp (Kept.of hb)
   replace F2 := F2.kp (Kept.of hb)
   replace BW := BW.trans (hb.mono BW.size)
   clear hb
   refine wp_region_held_drew (S := (fun wx => Box wx (b10) [.bool m.A.n, .slice m.A.A m.A.xs.length m.A.c, .bool m.A.m, .slice m.A.B m.A.ds.length m.A.d, .bool m.B.n, .slice m.B.A m.B.xs.length m.B.c, .bool m.B.m, .slice m.B.B m.B.ds.length m.B.d, .bool m.C.n, .slice m.C.A m.C.xs.length m.C.c, .bool m.C.m, .slice m.C.B m.C.ds.length m.C.d, .bool m.D.n, .slice m.D.A m.D.xs.length m.D.c, .bool m.D.m, .slice m.D.B m.D.ds.length m.D.d])) (by kernel_rfl) (by exact K7) (fun hHeld => ?_)
   generalize wc.drew = Vd13 at *
   refine pT 0 ?_ (hy := fun wt hSw => ldM rfl rfl hSw)
   (try simp only [p0, p1, p2, p3])
   clear hHeld
   refine nameH (fun OP QQ AA hOP hQQ hAA => ?_)
   have kyb_2_3 : ∀ (v1 : Fv) (kq0 : Nat) (kq1 : Nat) (W : World) (hw : Below Vd13.heap.size Vd13 W) (B1 : Ff W (((1 : Int) : Rat)) v1) (kb0 : Box W kq0 [.bool false, .slice none 0 0, .bool false, .slice none 0 0]) (kz0 : Fz W kq0) (kg0 : Vd13.heap.size ≤ kq0) (kb1 : Box W kq1 [.bool false, .slice none 0 0, .bool false, .slice none 0 0]) (kz1 : Fz W kq1) (kg1 : Vd13.heap.size ≤ kq1) (kn01 : kq0 ≠ kq1), wpAnyH Tryz.prog .any OP QQ (fun wx => Box wx (b10) [.bool m.A.n, .slice m.A.A m.A.xs.length m.A.c, .bool m.A.m, .slice m.A.B m.A.ds.length m.A.d, .bool m.B.n, .slice m.B.A m.B.xs.length m.B.c, .bool m.B.m, .slice m.B.B m.B.ds.length m.B.d, .bool m.C.n, .slice m.C.A m.C.xs.length m.C.c, .bool m.C.m, .slice m.C.B m.C.ds.length m.C.d, .bool m.D.n, .slice m.D.A m.D.xs.length m.D.c, .bool m.D.m, .slice m.D.B m.D.ds.length m.D.d]) 3 #[true, true, true, true, true, true, true, true, true, false, false, false] ((((((((AA.put (some 20) (.agg #[.bool v1.n, .slice v1.A v1.xs.length v1.c, .bool v1.m, .slice v1.B v1.ds.length v1.d])).put (some 21) (.tuple #[.agg #[.bool false, .slice none 0 0, .bool false, .slice none 0 0], .agg #[.bool false, .slice none 0 0, .bool false, .slice none 0 0], .int .i64 3])).put (some 5) (.pointer (some ⟨kq0, 0, none⟩))).put (some 6) (.pointer (some ⟨kq1, 0, none⟩))).put (some 18) (.tuple #[.agg #[.bool false, .slice none 0 0, .bool false, .slice none 0 0], .agg #[.bool false, .slice none 0 0, .bool false, .slice none 0 0], .int .i64 3])).put (some 22) (.agg #[.bool false, .slice none 0 0, .bool false, .slice none 0 0])).put (some 23) (.agg #[.bool false, .slice none 0 0, .bool false, .slice none 0 0])).put (some 24) (.int .i64 3)) W := by
    intro v1 kq0 kq1 W hw B1 kb0 kz0 kg0 kb1 kz1 kg1 kn01
    subst hOP
    subst hQQ
    subst hAA
    (try simp only [p0, p1, p2, p3])
    have gw0 : w.heap.size ≤ kq0 := Nat.le_trans BW.size kg0
    have xK70 : b10 ≠ kq0 := Nat.ne_of_lt (Nat.lt_of_lt_of_le K7.lt kg0)
    have xKNa_00 : pka_0 ≠ kq0 := Nat.ne_of_lt (Nat.lt_of_lt_of_le KNa_0.lt kg0)
    have xKNa_10 : pka_1 ≠ kq0 := Nat.ne_of_lt (Nat.lt_of_lt_of_le KNa_1.lt kg0)
    have gw1 : w.heap.size ≤ kq1 := Nat.le_trans BW.size kg1
    have xK71 : b10 ≠ kq1 := Nat.ne_of_lt (Nat.lt_of_lt_of_le K7.lt kg1)
    have xKNa_01 : pka_0 ≠ kq1 := Nat.ne_of_lt (Nat.lt_of_lt_of_le KNa_0.lt kg1)
    have xKNa_11 : pka_1 ≠ kq1 := Nat.ne_of_lt (Nat.lt_of_lt_of_le KNa_1.lt kg1)
    replace K7 := K7.on hw
    replace KNa_0 := KNa_0.on hw
    replace KNa_1 := KNa_1.on hw
    replace G := G.kp (Kept.of hw)
    replace F1 := F1.kp (Kept.of hw)
    replace F2 := F2.kp (Kept.of hw)
    replace BW := BW.trans (hw.mono BW.size)
    refine pR1 9 (fun K hK => ?_)
    obtain ⟨c14, c15, c16, c17⟩ := kb0.c4
    obtain ⟨c18, c19, c20, c21⟩ := kz0.f4
    go_simp
    clear c14 c15 c16 c17 c18 c19 c20 c21
    obtain ⟨V22, hk24⟩ : ∃ V22, V22 = W.setCells (kq0) 0 [.bool false, .slice none 0 0, .bool false, .slice none 0 0] := ⟨_, rfl⟩
    have e23 := hk24
    simp only [World.setCells, Nat.zero_add, Nat.reduceAdd] at e23
    have hk25 := Kept.overE hk24 kb0 rfl (Nat.le_of_ble_eq_true rfl)
    replace K7 := K7.awayE hk24 xK70
    replace KNa_0 := KNa_0.awayE hk24 xKNa_00
    replace KNa_1 := KNa_1.awayE hk24 xKNa_10
    replace kb0 := kb0.overE hk24 rfl
    replace kb1 := kb1.awayE hk24 kn01.symm
    replace kz0 := kz0.putE hk24
    replace kz1 := kz1.putE hk24
    replace G := G.kp hk25
    replace F1 := F1.kp hk25
    replace F2 := F2.kp hk25
    replace B1 := B1.kp hk25
    replace BW := Below.putE BW hk24 gw0
    clear hk24 hk25
    rw [← e23]
    clear e23
    refine hK.out _ _ (by exact K7) (fun hHeld => ?_)
    clear hK
    (try simp only [p1, p2, p3])
    clear hHeld
    refine pR1 10 (fun K hK => ?_)
    obtain ⟨c26, c27, c28, c29⟩ := kb1.c4
    obtain ⟨c30, c31, c32, c33⟩ := kz1.f4
    go_simp
    clear c26 c27 c28 c29 c30 c31 c32 c33
    obtain ⟨V34, hk36⟩ : ∃ V34, V34 = V22.setCells (kq1) 0 [.bool false, .slice none 0 0, .bool false, .slice none 0 0] := ⟨_, rfl⟩
    have e35 := hk36
    simp only [World.setCells, Nat.zero_add, Nat.reduceAdd] at e35
    have hk37 := Kept.overE hk36 kb1 rfl (Nat.le_of_ble_eq_true rfl)
    replace K7 := K7.awayE hk36 xK71
    replace KNa_0 := KNa_0.awayE hk36 xKNa_01
    replace KNa_1 := KNa_1.awayE hk36 xKNa_11
    replace kb0 := kb0.awayE hk36 kn01
    replace kb1 := kb1.overE hk36 rfl
    replace kz0 := kz0.putE hk36
    replace kz1 := kz1.putE hk36
    replace G := G.kp hk37
    replace F1 := F1.kp hk37
    replace F2 := F2.kp hk37
    replace B1 := B1.kp hk37
    replace BW := Below.putE BW hk36 gw1
    clear hk36 hk37
    rw [← e35]
    clear e35
    refine hK.out _ _ (by exact K7) (fun hHeld => ?_)
    clear hK
    (try simp only [p1, p2, p3])
    clear hHeld
    have hHeld : (fun wx => Box wx (b10) [.bool m.A.n, .slice m.A.A m.A.xs.length m.A.c, .bool m.A.m, .slice m.A.B m.A.ds.length m.A.d, .bool m.B.n, .slice m.B.A m.B.xs.length m.B.c, .bool m.B.m, .slice m.B.B m.B.ds.length m.B.d, .bool m.C.n, .slice m.C.A m.C.xs.length m.C.c, .bool m.C.m, .slice m.C.B m.C.ds.length m.C.d, .bool m.D.n, .slice m.D.A m.D.xs.length m.D.c, .bool m.D.m, .slice m.D.B m.D.ds.length m.D.d]) V34 := (by exact K7)
    refine pT 11 ?_
    (try simp only [p0, p1, p2, p3])
    clear hHeld
    refine wpAnyH_done (by kernel_rfl) (NoPanic.normal ?_) _
    go_wp2
    go_meet
    exact ⟨kq0, kq1, rfl, rfl, rfl, BW, KNa_0, KNa_1, F1, F2, kb0, kb1⟩
   have kyb_1_3 : ∀ (v1 : Fv) (kq0 : Nat) (kq1 : Nat) (W : World) (hw : Below Vd13.heap.size Vd13 W) (B1 : Ff W (((1 : Int) : Rat)) v1) (kb0 : Box W kq0 [.bool false, .slice none 0 0, .bool false, .slice none 0 0]) (kz0 : Fz W kq0) (kg0 : Vd13.heap.size ≤ kq0) (kb1 : Box W kq1 [.bool false, .slice none 0 0, .bool false, .slice none 0 0]) (kz1 : Fz W kq1) (kg1 : Vd13.heap.size ≤ kq1) (kn01 : kq0 ≠ kq1), wpAnyH Tryz.prog .any OP QQ (fun wx => Box wx (b10) [.bool m.A.n, .slice m.A.A m.A.xs.length m.A.c, .bool m.A.m, .slice m.A.B m.A.ds.length m.A.d, .bool m.B.n, .slice m.B.A m.B.xs.length m.B.c, .bool m.B.m, .slice m.B.B m.B.ds.length m.B.d, .bool m.C.n, .slice m.C.A m.C.xs.length m.C.c, .bool m.C.m, .slice m.C.B m.C.ds.length m.C.d, .bool m.D.n, .slice m.D.A m.D.xs.length m.D.c, .bool m.D.m, .slice m.D.B m.D.ds.length m.D.d]) 8 #[true, true, false, false, false, false, false, true, true, false, false, false] (((AA.put (some 20) (.agg #[.bool v1.n, .slice v1.A v1.xs.length v1.c, .bool v1.m, .slice v1.B v1.ds.length v1.d])).put (some 5) (.pointer (some ⟨kq0, 0, none⟩))).put (some 6) (.pointer (some ⟨kq1, 0, none⟩))) W := by
    intro v1 kq0 kq1 W hw B1 kb0 kz0 kg0 kb1 kz1 kg1 kn01
    subst hOP
    subst hQQ
    subst hAA
    (try simp only [p0, p1, p2, p3])
    refine pR1 2 (fun K hK => ?_)
    replace G := G.kp (Kept.of hw)
    replace K7 := K7.on hw
    go_simp
    (go_at_call 38; with_reducible refine (i_Image G B1 HL.out).mono ?_)
    rintro _ W2 ⟨f, g, er, rfl, R, hb⟩
    (try go_wp2_with fail)
    obtain ⟨rfl, rfl, rfl⟩ := imL_one R
    clear R
    have hw2 := hw.trans (hb.mono hw.size)
    refine hK.out _ _ (by exact K7.on hb) (fun hHeld => ?_)
    clear hK
    (try simp only [p1, p2, p3])
    refine pT 3 ?_
    (try simp only [p0, p1, p2, p3])
    refine pT 4 ?_
    (try simp only [p0, p1, p2, p3])
    refine pT 5 ?_
    (try simp only [p0, p1, p2, p3])
    refine pT 6 ?_
    (try simp only [p0, p1, p2, p3])
    have ky := kyb_2_3 v1 kq0 kq1 W2 hw2 (B1.kp (Kept.of hb)) (kb0.on hb) (kz0.on hb) kg0 (kb1.on hb) (kz1.on hb) kg1 kn01
    (try simp only [p0, p1, p2, p3] at ky)
    exact castL (by kernel_rfl) ky
   have kyb_2_1 : ∀ (v1 : Fv) (kq0 : Nat) (W : World) (hw : Below Vd13.heap.size Vd13 W) (B1 : Ff W (((1 : Int) : Rat)) v1) (kb0 : Box W kq0 [.bool false, .slice none 0 0, .bool false, .slice none 0 0]) (kz0 : Fz W kq0) (kg0 : Vd13.heap.size ≤ kq0) , wpAnyH Tryz.prog .any OP QQ (fun wx => Box wx (b10) [.bool m.A.n, .slice m.A.A m.A.xs.length m.A.c, .bool m.A.m, .slice m.A.B m.A.ds.length m.A.d, .bool m.B.n, .slice m.B.A m.B.xs.length m.B.c, .bool m.B.m, .slice m.B.B m.B.ds.length m.B.d, .bool m.C.n, .slice m.C.A m.C.xs.length m.C.c, .bool m.C.m, .slice m.C.B m.C.ds.length m.C.d, .bool m.D.n, .slice m.D.A m.D.xs.length m.D.c, .bool m.D.m, .slice m.D.B m.D.ds.length m.D.d]) 4 #[true, true, true, true, true, true, true, true, false, false, false, false] (((((((AA.put (some 20) (.agg #[.bool v1.n, .slice v1.A v1.xs.length v1.c, .bool v1.m, .slice v1.B v1.ds.length v1.d])).put (some 21) (.tuple #[.agg #[.bool false, .slice none 0 0, .bool false, .slice none 0 0], .agg #[.bool false, .slice none 0 0, .bool false, .slice none 0 0], .int .i64 3])).put (some 5) (.pointer (some ⟨kq0, 0, none⟩))).put (some 18) (.tuple #[.agg #[.bool false, .slice none 0 0, .bool false, .slice none 0 0], .agg #[.bool false, .slice none 0 0, .bool false, .slice none 0 0], .int .i64 3])).put (some 22) (.agg #[.bool false, .slice none 0 0, .bool false, .slice none 0 0])).put (some 23) (.agg #[.bool false, .slice none 0 0, .bool false, .slice none 0 0])).put (some 24) (.int .i64 3)) W := by
    intro v1 kq0 W hw B1 kb0 kz0 kg0
    subst hOP
    subst hQQ
    subst hAA
    (try simp only [p0, p1, p2, p3])
    refine pR1 8 (fun K hK => ?_)
    replace K7 := K7.on hw
    go_simp
    obtain ⟨V2, e2, hb, K2, Z2, -⟩ := alloc_new W [.bool false, .slice none 0 0, .bool false, .slice none 0 0] 29
    rw [← e2]
    clear e2
    have hw2 := hw.trans (hb.mono hw.size)
    refine hK.out _ _ (by exact K7.on hb) (fun hHeld => ?_)
    clear hK
    (try simp only [p1, p2, p3])
    have ky := kyb_2_3 v1 kq0 W.heap.size V2 hw2 (B1.kp (Kept.of hb)) (kb0.on hb) (kz0.on hb) kg0 K2 Z2 hw.size (Nat.ne_of_lt kb0.lt)
    (try simp only [p0, p1, p2, p3] at ky)
    exact castL (by kernel_rfl) ky
   have kyb_2_2 : ∀ (v1 : Fv) (kq1 : Nat) (W : World) (hw : Below Vd13.heap.size Vd13 W) (B1 : Ff W (((1 : Int) : Rat)) v1) (kb1 : Box W kq1 [.bool false, .slice none 0 0, .bool false, .slice none 0 0]) (kz1 : Fz W kq1) (kg1 : Vd13.heap.size ≤ kq1) , wpAnyH Tryz.prog .any OP QQ (fun wx => Box wx (b10) [.bool m.A.n, .slice m.A.A m.A.xs.length m.A.c, .bool m.A.m, .slice m.A.B m.A.ds.length m.A.d, .bool m.B.n, .slice m.B.A m.B.xs.length m.B.c, .bool m.B.m, .slice m.B.B m.B.ds.length m.B.d, .bool m.C.n, .slice m.C.A m.C.xs.length m.C.c, .bool m.C.m, .slice m.C.B m.C.ds.length m.C.d, .bool m.D.n, .slice m.D.A m.D.xs.length m.D.c, .bool m.D.m, .slice m.D.B m.D.ds.length m.D.d]) 4 #[true, true, true, true, true, true, true, false, true, false, false, false] (((((((AA.put (some 20) (.agg #[.bool v1.n, .slice v1.A v1.xs.length v1.c, .bool v1.m, .slice v1.B v1.ds.length v1.d])).put (some 21) (.tuple #[.agg #[.bool false, .slice none 0 0, .bool false, .slice none 0 0], .agg #[.bool false, .slice none 0 0, .bool false, .slice none 0 0], .int .i64 3])).put (some 6) (.pointer (some ⟨kq1, 0, none⟩))).put (some 18) (.tuple #[.agg #[.bool false, .slice none 0 0, .bool false, .slice none 0 0], .agg #[.bool false, .slice none 0 0, .bool false, .slice none 0 0], .int .i64 3])).put (some 22) (.agg #[.bool false, .slice none 0 0, .bool false, .slice none 0 0])).put (some 23) (.agg #[.bool false, .slice none 0 0, .bool false, .slice none 0 0])).put (some 24) (.int .i64 3)) W := by
    intro v1 kq1 W hw B1 kb1 kz1 kg1
    subst hOP
    subst hQQ
    subst hAA
    (try simp only [p0, p1, p2, p3])
    refine pR1 7 (fun K hK => ?_)
    replace K7 := K7.on hw
    go_simp
    obtain ⟨V2, e2, hb, K2, Z2, -⟩ := alloc_new W [.bool false, .slice none 0 0, .bool false, .slice none 0 0] 29
    rw [← e2]
    clear e2
    have hw2 := hw.trans (hb.mono hw.size)
    refine hK.out _ _ (by exact K7.on hb) (fun hHeld => ?_)
    clear hK
    (try simp only [p1, p2, p3])
    have ky := kyb_2_3 v1 W.heap.size kq1 V2 hw2 (B1.kp (Kept.of hb)) K2 Z2 hw.size (kb1.on hb) (kz1.on hb) kg1 (Nat.ne_of_lt kb1.lt).symm
    (try simp only [p0, p1, p2, p3] at ky)
    exact castL (by kernel_rfl) ky
   have kyb_0_3 : ∀  (kq0 : Nat) (kq1 : Nat) (W : World) (hw : Below Vd13.heap.size Vd13 W)  (kb0 : Box W kq0 [.bool false, .slice none 0 0, .bool false, .slice none 0 0]) (kz0 : Fz W kq0) (kg0 : Vd13.heap.size ≤ kq0) (kb1 : Box W kq1 [.bool false, .slice none 0 0, .bool false, .slice none 0 0]) (kz1 : Fz W kq1) (kg1 : Vd13.heap.size ≤ kq1) (kn01 : kq0 ≠ kq1), wpAnyH Tryz.prog .any OP QQ (fun wx => Box wx (b10) [.bool m.A.n, .slice m.A.A m.A.xs.length m.A.c, .bool m.A.m, .slice m.A.B m.A.ds.length m.A.d, .bool m.B.n, .slice m.B.A m.B.xs.length m.B.c, .bool m.B.m, .slice m.B.B m.B.ds.length m.B.d, .bool m.C.n, .slice m.C.A m.C.xs.length m.C.c, .bool m.C.m, .slice m.C.B m.C.ds.length m.C.d, .bool m.D.n, .slice m.D.A m.D.xs.length m.D.c, .bool m.D.m, .slice m.D.B m.D.ds.length m.D.d]) 9 #[true, false, false, false, false, false, false, true, true, false, false, false] ((AA.put (some 5) (.pointer (some ⟨kq0, 0, none⟩))).put (some 6) (.pointer (some ⟨kq1, 0, none⟩))) W := by
    intro kq0 kq1 W hw kb0 kz0 kg0 kb1 kz1 kg1 kn01
    subst hOP
    subst hQQ
    subst hAA
    (try simp only [p0, p1, p2, p3])
    refine pR1 1 (fun K hK => ?_)
    replace K7 := K7.on hw
    go_simp
    (go_at_call 43; with_reducible refine (w_int (n := 1) (by decide) (by decide)).mono ?_)
    rintro _ W2 ⟨v1, rfl, B1, hb⟩
    (try go_wp2_with fail)
    have hw2 := hw.trans (hb.mono hw.size)
    refine hK.out _ _ (by exact K7.on hb) (fun hHeld => ?_)
    clear hK
    (try simp only [p1, p2, p3])
    have ky := kyb_1_3 v1 kq0 kq1 W2 hw2 B1 (kb0.on hb) (kz0.on hb) kg0 (kb1.on hb) (kz1.on hb) kg1 kn01
    (try simp only [p0, p1, p2, p3] at ky)
    exact castL (by kernel_rfl) ky
   have kyb_1_1 : ∀ (v1 : Fv) (kq0 : Nat) (W : World) (hw : Below Vd13.heap.size Vd13 W) (B1 : Ff W (((1 : Int) : Rat)) v1) (kb0 : Box W kq0 [.bool false, .slice none 0 0, .bool false, .slice none 0 0]) (kz0 : Fz W kq0) (kg0 : Vd13.heap.size ≤ kq0) , wpAnyH Tryz.prog .any OP QQ (fun wx => Box wx (b10) [.bool m.A.n, .slice m.A.A m.A.xs.length m.A.c, .bool m.A.m, .slice m.A.B m.A.ds.length m.A.d, .bool m.B.n, .slice m.B.A m.B.xs.length m.B.c, .bool m.B.m, .slice m.B.B m.B.ds.length m.B.d, .bool m.C.n, .slice m.C.A m.C.xs.length m.C.c, .bool m.C.m, .slice m.C.B m.C.ds.length m.C.d, .bool m.D.n, .slice m.D.A m.D.xs.length m.D.c, .bool m.D.m, .slice m.D.B m.D.ds.length m.D.d]) 9 #[true, true, false, false, false, false, false, true, false, false, false, false] ((AA.put (some 20) (.agg #[.bool v1.n, .slice v1.A v1.xs.length v1.c, .bool v1.m, .slice v1.B v1.ds.length v1.d])).put (some 5) (.pointer (some ⟨kq0, 0, none⟩))) W := by
    intro v1 kq0 W hw B1 kb0 kz0 kg0
    subst hOP
    subst hQQ
    subst hAA
    (try simp only [p0, p1, p2, p3])
    refine pR2 2 8 (fun K hK => ?_) (fun K hK => ?_)
    ·replace G := G.kp (Kept.of hw)
     replace K7 := K7.on hw
     go_simp
     (go_at_call 38; with_reducible refine (i_Image G B1 HL.out).mono ?_)
     rintro _ W2 ⟨f, g, er, rfl, R, hb⟩
     (try go_wp2_with fail)
     obtain ⟨rfl, rfl, rfl⟩ := imL_one R
     clear R
     have hw2 := hw.trans (hb.mono hw.size)
     refine hK.out _ _ (by exact K7.on hb) (fun hHeld => ?_)
     clear hK
     (try simp only [p1, p2, p3])
     refine pT 3 ?_
     (try simp only [p0, p1, p2, p3])
     refine pT 4 ?_
     (try simp only [p0, p1, p2, p3])
     refine pT 5 ?_
     (try simp only [p0, p1, p2, p3])
     refine pT 6 ?_
     (try simp only [p0, p1, p2, p3])
     have ky := kyb_2_1 v1 kq0 W2 hw2 (B1.kp (Kept.of hb)) (kb0.on hb) (kz0.on hb) kg0 
     (try simp only [p0, p1, p2, p3] at ky)
     exact castL (by kernel_rfl) ky
    ·replace K7 := K7.on hw
     go_simp
     obtain ⟨V2, e2, hb, K2, Z2, -⟩ := alloc_new W [.bool false, .slice none 0 0, .bool false, .slice none 0 0] 29
     rw [← e2]
     clear e2
     have hw2 := hw.trans (hb.mono hw.size)
     refine hK.out _ _ (by exact K7.on hb) (fun hHeld => ?_)
     clear hK
     (try simp only [p1, p2, p3])
     have ky := kyb_1_3 v1 kq0 W.heap.size V2 hw2 (B1.kp (Kept.of hb)) (kb0.on hb) (kz0.on hb) kg0 K2 Z2 hw.size (Nat.ne_of_lt kb0.lt)
     (try simp only [p0, p1, p2, p3] at ky)
     exact castL (by kernel_rfl) ky
   have kyb_1_2 : ∀ (v1 : Fv) (kq1 : Nat) (W : World) (hw : Below Vd13.heap.size Vd13 W) (B1 : Ff W (((1 : Int) : Rat)) v1) (kb1 : Box W kq1 [.bool false, .slice none 0 0, .bool false, .slice none 0 0]) (kz1 : Fz W kq1) (kg1 : Vd13.heap.size ≤ kq1) , wpAnyH Tryz.prog .any OP QQ (fun wx => Box wx (b10) [.bool m.A.n, .slice m.A.A m.A.xs.length m.A.c, .bool m.A.m, .slice m.A.B m.A.ds.length m.A.d, .bool m.B.n, .slice m.B.A m.B.xs.length m.B.c, .bool m.B.m, .slice m.B.B m.B.ds.length m.B.d, .bool m.C.n, .slice m.C.A m.C.xs.length m.C.c, .bool m.C.m, .slice m.C.B m.C.ds.length m.C.d, .bool m.D.n, .slice m.D.A m.D.xs.length m.D.c, .bool m.D.m, .slice m.D.B m.D.ds.length m.D.d]) 9 #[true, true, false, false, false, false, false, false, true, false, false, false] ((AA.put (some 20) (.agg #[.bool v1.n, .slice v1.A v1.xs.length v1.c, .bool v1.m, .slice v1.B v1.ds.length v1.d])).put (some 6) (.pointer (some ⟨kq1, 0, none⟩))) W := by
    intro v1 kq1 W hw B1 kb1 kz1 kg1
    subst hOP
    subst hQQ
    subst hAA
    (try simp only [p0, p1, p2, p3])
    refine pR2 2 7 (fun K hK => ?_) (fun K hK => ?_)
    ·replace G := G.kp (Kept.of hw)
     replace K7 := K7.on hw
     go_simp
     (go_at_call 38; with_reducible refine (i_Image G B1 HL.out).mono ?_)
     rintro _ W2 ⟨f, g, er, rfl, R, hb⟩
     (try go_wp2_with fail)
     obtain ⟨rfl, rfl, rfl⟩ := imL_one R
     clear R
     have hw2 := hw.trans (hb.mono hw.size)
     refine hK.out _ _ (by exact K7.on hb) (fun hHeld => ?_)
     clear hK
     (try simp only [p1, p2, p3])
     refine pT 3 ?_
     (try simp only [p0, p1, p2, p3])
     refine pT 4 ?_
     (try simp only [p0, p1, p2, p3])
     refine pT 5 ?_
     (try simp only [p0, p1, p2, p3])
     refine pT 6 ?_
     (try simp only [p0, p1, p2, p3])
     have ky := kyb_2_2 v1 kq1 W2 hw2 (B1.kp (Kept.of hb)) (kb1.on hb) (kz1.on hb) kg1 
     (try simp only [p0, p1, p2, p3] at ky)
     exact castL (by kernel_rfl) ky
    ·replace K7 := K7.on hw
     go_simp
     obtain ⟨V2, e2, hb, K2, Z2, -⟩ := alloc_new W [.bool false, .slice none 0 0, .bool false, .slice none 0 0] 29
     rw [← e2]
     clear e2
     have hw2 := hw.trans (hb.mono hw.size)
     refine hK.out _ _ (by exact K7.on hb) (fun hHeld => ?_)
     clear hK
     (try simp only [p1, p2, p3])
     have ky := kyb_1_3 v1 W.heap.size kq1 V2 hw2 (B1.kp (Kept.of hb)) K2 Z2 hw.size (kb1.on hb) (kz1.on hb) kg1 (Nat.ne_of_lt kb1.lt).symm
     (try simp only [p0, p1, p2, p3] at ky)
     exact castL (by kernel_rfl) ky
   have kyb_2_0 : ∀ (v1 : Fv)  (W : World) (hw : Below Vd13.heap.size Vd13 W) (B1 : Ff W (((1 : Int) : Rat)) v1)  , wpAnyH Tryz.prog .any OP QQ (fun wx => Box wx (b10) [.bool m.A.n, .slice m.A.A m.A.xs.length m.A.c, .bool m.A.m, .slice m.A.B m.A.ds.length m.A.d, .bool m.B.n, .slice m.B.A m.B.xs.length m.B.c, .bool m.B.m, .slice m.B.B m.B.ds.length m.B.d, .bool m.C.n, .slice m.C.A m.C.xs.length m.C.c, .bool m.C.m, .slice m.C.B m.C.ds.length m.C.d, .bool m.D.n, .slice m.D.A m.D.xs.length m.D.c, .bool m.D.m, .slice m.D.B m.D.ds.length m.D.d]) 5 #[true, true, true, true, true, true, true, false, false, false, false, false] ((((((AA.put (some 20) (.agg #[.bool v1.n, .slice v1.A v1.xs.length v1.c, .bool v1.m, .slice v1.B v1.ds.length v1.d])).put (some 21) (.tuple #[.agg #[.bool false, .slice none 0 0, .bool false, .slice none 0 0], .agg #[.bool false, .slice none 0 0, .bool false, .slice none 0 0], .int .i64 3])).put (some 18) (.tuple #[.agg #[.bool false, .slice none 0 0, .bool false, .slice none 0 0], .agg #[.bool false, .slice none 0 0, .bool false, .slice none 0 0], .int .i64 3])).put (some 22) (.agg #[.bool false, .slice none 0 0, .bool false, .slice none 0 0])).put (some 23) (.agg #[.bool false, .slice none 0 0, .bool false, .slice none 0 0])).put (some 24) (.int .i64 3)) W := by
    intro v1 W hw B1
    subst hOP
    subst hQQ
    subst hAA
    (try simp only [p0, p1, p2, p3])
    refine pR2 7 8 (fun K hK => ?_) (fun K hK => ?_)
    ·replace K7 := K7.on hw
     go_simp
     obtain ⟨V2, e2, hb, K2, Z2, -⟩ := alloc_new W [.bool false, .slice none 0 0, .bool false, .slice none 0 0] 29
     rw [← e2]
     clear e2
     have hw2 := hw.trans (hb.mono hw.size)
     refine hK.out _ _ (by exact K7.on hb) (fun hHeld => ?_)
     clear hK
     (try simp only [p1, p2, p3])
     have ky := kyb_2_1 v1 W.heap.size V2 hw2 (B1.kp (Kept.of hb)) K2 Z2 hw.size 
     (try simp only [p0, p1, p2, p3] at ky)
     exact castL (by kernel_rfl) ky
    ·replace K7 := K7.on hw
     go_simp
     obtain ⟨V2, e2, hb, K2, Z2, -⟩ := alloc_new W [.bool false, .slice none 0 0, .bool false, .slice none 0 0] 29
     rw [← e2]
     clear e2
     have hw2 := hw.trans (hb.mono hw.size)
     refine hK.out _ _ (by exact K7.on hb) (fun hHeld => ?_)
     clear hK
     (try simp only [p1, p2, p3])
     have ky := kyb_2_2 v1 W.heap.size V2 hw2 (B1.kp (Kept.of hb)) K2 Z2 hw.size 
     (try simp only [p0, p1, p2, p3] at ky)
     exact castL (by kernel_rfl) ky
   have kyb_0_1 : ∀  (kq0 : Nat) (W : World) (hw : Below Vd13.heap.size Vd13 W)  (kb0 : Box W kq0 [.bool false, .slice none 0 0, .bool false, .slice none 0 0]) (kz0 : Fz W kq0) (kg0 : Vd13.heap.size ≤ kq0) , wpAnyH Tryz.prog .any OP QQ (fun wx => Box wx (b10) [.bool m.A.n, .slice m.A.A m.A.xs.length m.A.c, .bool m.A.m, .slice m.A.B m.A.ds.length m.A.d, .bool m.B.n, .slice m.B.A m.B.xs.length m.B.c, .bool m.B.m, .slice m.B.B m.B.ds.length m.B.d, .bool m.C.n, .slice m.C.A m.C.xs.length m.C.c, .bool m.C.m, .slice m.C.B m.C.ds.length m.C.d, .bool m.D.n, .slice m.D.A m.D.xs.length m.D.c, .bool m.D.m, .slice m.D.B m.D.ds.length m.D.d]) 10 #[true, false, false, false, false, false, false, true, false, false, false, false] (AA.put (some 5) (.pointer (some ⟨kq0, 0, none⟩))) W := by
    intro kq0 W hw kb0 kz0 kg0
    subst hOP
    subst hQQ
    subst hAA
    (try simp only [p0, p1, p2, p3])
    refine pR2 1 8 (fun K hK => ?_) (fun K hK => ?_)
    ·replace K7 := K7.on hw
     go_simp
     (go_at_call 43; with_reducible refine (w_int (n := 1) (by decide) (by decide)).mono ?_)
     rintro _ W2 ⟨v1, rfl, B1, hb⟩
     (try go_wp2_with fail)
     have hw2 := hw.trans (hb.mono hw.size)
     refine hK.out _ _ (by exact K7.on hb) (fun hHeld => ?_)
     clear hK
     (try simp only [p1, p2, p3])
     have ky := kyb_1_1 v1 kq0 W2 hw2 B1 (kb0.on hb) (kz0.on hb) kg0 
     (try simp only [p0, p1, p2, p3] at ky)
     exact castL (by kernel_rfl) ky
    ·replace K7 := K7.on hw
     go_simp
     obtain ⟨V2, e2, hb, K2, Z2, -⟩ := alloc_new W [.bool false, .slice none 0 0, .bool false, .slice none 0 0] 29
     rw [← e2]
     clear e2
     have hw2 := hw.trans (hb.mono hw.size)
     refine hK.out _ _ (by exact K7.on hb) (fun hHeld => ?_)
     clear hK
     (try simp only [p1, p2, p3])
     have ky := kyb_0_3  kq0 W.heap.size V2 hw2  (kb0.on hb) (kz0.on hb) kg0 K2 Z2 hw.size (Nat.ne_of_lt kb0.lt)
     (try simp only [p0, p1, p2, p3] at ky)
     exact castL (by kernel_rfl) ky
   have kyb_0_2 : ∀  (kq1 : Nat) (W : World) (hw : Below Vd13.heap.size Vd13 W)  (kb1 : Box W kq1 [.bool false, .slice none 0 0, .bool false, .slice none 0 0]) (kz1 : Fz W kq1) (kg1 : Vd13.heap.size ≤ kq1) , wpAnyH Tryz.prog .any OP QQ (fun wx => Box wx (b10) [.bool m.A.n, .slice m.A.A m.A.xs.length m.A.c, .bool m.A.m, .slice m.A.B m.A.ds.length m.A.d, .bool m.B.n, .slice m.B.A m.B.xs.length m.B.c, .bool m.B.m, .slice m.B.B m.B.ds.length m.B.d, .bool m.C.n, .slice m.C.A m.C.xs.length m.C.c, .bool m.C.m, .slice m.C.B m.C.ds.length m.C.d, .bool m.D.n, .slice m.D.A m.D.xs.length m.D.c, .bool m.D.m, .slice m.D.B m.D.ds.length m.D.d]) 10 #[true, false, false, false, false, false, false, false, true, false, false, false] (AA.put (some 6) (.pointer (some ⟨kq1, 0, none⟩))) W := by
    intro kq1 W hw kb1 kz1 kg1
    subst hOP
    subst hQQ
    subst hAA
    (try simp only [p0, p1, p2, p3])
    refine pR2 1 7 (fun K hK => ?_) (fun K hK => ?_)
    ·replace K7 := K7.on hw
     go_simp
     (go_at_call 43; with_reducible refine (w_int (n := 1) (by decide) (by decide)).mono ?_)
     rintro _ W2 ⟨v1, rfl, B1, hb⟩
     (try go_wp2_with fail)
     have hw2 := hw.trans (hb.mono hw.size)
     refine hK.out _ _ (by exact K7.on hb) (fun hHeld => ?_)
     clear hK
     (try simp only [p1, p2, p3])
     have ky := kyb_1_2 v1 kq1 W2 hw2 B1 (kb1.on hb) (kz1.on hb) kg1 
     (try simp only [p0, p1, p2, p3] at ky)
     exact castL (by kernel_rfl) ky
    ·replace K7 := K7.on hw
     go_simp
     obtain ⟨V2, e2, hb, K2, Z2, -⟩ := alloc_new W [.bool false, .slice none 0 0, .bool false, .slice none 0 0] 29
     rw [← e2]
     clear e2
     have hw2 := hw.trans (hb.mono hw.size)
     refine hK.out _ _ (by exact K7.on hb) (fun hHeld => ?_)
     clear hK
     (try simp only [p1, p2, p3])
     have ky := kyb_0_3  W.heap.size kq1 V2 hw2  K2 Z2 hw.size (kb1.on hb) (kz1.on hb) kg1 (Nat.ne_of_lt kb1.lt).symm
     (try simp only [p0, p1, p2, p3] at ky)
     exact castL (by kernel_rfl) ky
   have kyb_1_0 : ∀ (v1 : Fv)  (W : World) (hw : Below Vd13.heap.size Vd13 W) (B1 : Ff W (((1 : Int) : Rat)) v1)  , wpAnyH Tryz.prog .any OP QQ (fun wx => Box wx (b10) [.bool m.A.n, .slice m.A.A m.A.xs.length m.A.c, .bool m.A.m, .slice m.A.B m.A.ds.length m.A.d, .bool m.B.n, .slice m.B.A m.B.xs.length m.B.c, .bool m.B.m, .slice m.B.B m.B.ds.length m.B.d, .bool m.C.n, .slice m.C.A m.C.xs.length m.C.c, .bool m.C.m, .slice m.C.B m.C.ds.length m.C.d, .bool m.D.n, .slice m.D.A m.D.xs.length m.D.c, .bool m.D.m, .slice m.D.B m.D.ds.length m.D.d]) 10 #[true, true, false, false, false, false, false, false, false, false, false, false] (AA.put (some 20) (.agg #[.bool v1.n, .slice v1.A v1.xs.length v1.c, .bool v1.m, .slice v1.B v1.ds.length v1.d])) W := by
    intro v1 W hw B1
    subst hOP
    subst hQQ
    subst hAA
    (try simp only [p0, p1, p2, p3])
    refine pR3 2 7 8 (fun K hK => ?_) (fun K hK => ?_) (fun K hK => ?_)
    ·replace G := G.kp (Kept.of hw)
     replace K7 := K7.on hw
     go_simp
     (go_at_call 38; with_reducible refine (i_Image G B1 HL.out).mono ?_)
     rintro _ W2 ⟨f, g, er, rfl, R, hb⟩
     (try go_wp2_with fail)
     obtain ⟨rfl, rfl, rfl⟩ := imL_one R
     clear R
     have hw2 := hw.trans (hb.mono hw.size)
     refine hK.out _ _ (by exact K7.on hb) (fun hHeld => ?_)
     clear hK
     (try simp only [p1, p2, p3])
     refine pT 3 ?_
     (try simp only [p0, p1, p2, p3])
     refine pT 4 ?_
     (try simp only [p0, p1, p2, p3])
     refine pT 5 ?_
     (try simp only [p0, p1, p2, p3])
     refine pT 6 ?_
     (try simp only [p0, p1, p2, p3])
     have ky := kyb_2_0 v1  W2 hw2 (B1.kp (Kept.of hb))  
     (try simp only [p0, p1, p2, p3] at ky)
     exact castL (by kernel_rfl) ky
    ·replace K7 := K7.on hw
     go_simp
     obtain ⟨V2, e2, hb, K2, Z2, -⟩ := alloc_new W [.bool false, .slice none 0 0, .bool false, .slice none 0 0] 29
     rw [← e2]
     clear e2
     have hw2 := hw.trans (hb.mono hw.size)
     refine hK.out _ _ (by exact K7.on hb) (fun hHeld => ?_)
     clear hK
     (try simp only [p1, p2, p3])
     have ky := kyb_1_1 v1 W.heap.size V2 hw2 (B1.kp (Kept.of hb)) K2 Z2 hw.size 
     (try simp only [p0, p1, p2, p3] at ky)
     exact castL (by kernel_rfl) ky
    ·replace K7 := K7.on hw
     go_simp
     obtain ⟨V2, e2, hb, K2, Z2, -⟩ := alloc_new W [.bool false, .slice none 0 0, .bool false, .slice none 0 0] 29
     rw [← e2]
     clear e2
     have hw2 := hw.trans (hb.mono hw.size)
     refine hK.out _ _ (by exact K7.on hb) (fun hHeld => ?_)
     clear hK
     (try simp only [p1, p2, p3])
     have ky := kyb_1_2 v1 W.heap.size V2 hw2 (B1.kp (Kept.of hb)) K2 Z2 hw.size 
     (try simp only [p0, p1, p2, p3] at ky)
     exact castL (by kernel_rfl) ky
   have kyb_0_0 : ∀   (W : World) (hw : Below Vd13.heap.size Vd13 W)   , wpAnyH Tryz.prog .any OP QQ (fun wx => Box wx (b10) [.bool m.A.n, .slice m.A.A m.A.xs.length m.A.c, .bool m.A.m, .slice m.A.B m.A.ds.length m.A.d, .bool m.B.n, .slice m.B.A m.B.xs.length m.B.c, .bool m.B.m, .slice m.B.B m.B.ds.length m.B.d, .bool m.C.n, .slice m.C.A m.C.xs.length m.C.c, .bool m.C.m, .slice m.C.B m.C.ds.length m.C.d, .bool m.D.n, .slice m.D.A m.D.xs.length m.D.c, .bool m.D.m, .slice m.D.B m.D.ds.length m.D.d]) 11 #[true, false, false, false, false, false, false, false, false, false, false, false] AA W := by
    intro W hw
    subst hOP
    subst hQQ
    subst hAA
    (try simp only [p0, p1, p2, p3])
    refine pR3 1 7 8 (fun K hK => ?_) (fun K hK => ?_) (fun K hK => ?_)
    ·replace K7 := K7.on hw
     go_simp
     (go_at_call 43; with_reducible refine (w_int (n := 1) (by decide) (by decide)).mono ?_)
     rintro _ W2 ⟨v1, rfl, B1, hb⟩
     (try go_wp2_with fail)
     have hw2 := hw.trans (hb.mono hw.size)
     refine hK.out _ _ (by exact K7.on hb) (fun hHeld => ?_)
     clear hK
     (try simp only [p1, p2, p3])
     have ky := kyb_1_0 v1  W2 hw2 B1  
     (try simp only [p0, p1, p2, p3] at ky)
     exact castL (by kernel_rfl) ky
    ·replace K7 := K7.on hw
     go_simp
     obtain ⟨V2, e2, hb, K2, Z2, -⟩ := alloc_new W [.bool false, .slice none 0 0, .bool false, .slice none 0 0] 29
     rw [← e2]
     clear e2
     have hw2 := hw.trans (hb.mono hw.size)
     refine hK.out _ _ (by exact K7.on hb) (fun hHeld => ?_)
     clear hK
     (try simp only [p1, p2, p3])
     have ky := kyb_0_1  W.heap.size V2 hw2  K2 Z2 hw.size 
     (try simp only [p0, p1, p2, p3] at ky)
     exact castL (by kernel_rfl) ky
    ·replace K7 := K7.on hw
     go_simp
     obtain ⟨V2, e2, hb, K2, Z2, -⟩ := alloc_new W [.bool false, .slice none 0 0, .bool false, .slice none 0 0] 29
     rw [← e2]
     clear e2
     have hw2 := hw.trans (hb.mono hw.size)
     refine hK.out _ _ (by exact K7.on hb) (fun hHeld => ?_)
     clear hK
     (try simp only [p1, p2, p3])
     have ky := kyb_0_2  W.heap.size V2 hw2  K2 Z2 hw.size 
     (try simp only [p0, p1, p2, p3] at ky)
     exact castL (by kernel_rfl) ky
   exact castL (by kernel_rfl) (kyb_0_0 Vd13 (Below.refl _ _))
  case rest =>
   obtain ⟨pkb_0, pkb_1, rfl, rfl, rfl, BW, KNa_0, KNa_1, F1, F2, KNb_0, KNb_1⟩ := hcut
   go_wp2_with fail
   refine wp_region_noPanic ?_
   have hb : Below wc.heap.size wc wc.drew := (Below.refl _ _).drew
   replace KNa_0 := KNa_0.on hb
   replace KNa_1 := KNa_1.on hb
   replace F1 := F1.kp (Kept.of hb)
   replace F2 := F2.kp (Kept.of hb)
   replace BW := BW.trans (hb.mono BW.size)
   clear hb
   refine wp_region_held_drew (S := (fun wx => Cs wx (pka_0) 0 [.bool f.n, .slice f.A f.xs.length f.c, .bool f.m, .slice f.B f.ds.length f.d] ∧ Cs wx (pka_1) 0 [.bool g.n, .slice g.A g.xs.length g.c, .bool g.m, .slice g.B g.ds.length g.d])) (by kernel_rfl) (by exact ⟨KNa_0.cs, KNa_1.cs⟩) (fun hHeld => ?_)
   generalize wc.drew = Vd13 at *
   refine pT 0 ?_
   (try simp only [p0, p1, p2, p3])
   refine pT 1 ?_
   (try simp only [p0, p1, p2, p3])
   refine pT 2 ?_
   (try simp only [p0, p1, p2, p3])
   refine pT 3 ?_
   (try simp only [p0, p1, p2, p3])
   refine pT 4 ?_
   (try simp only [p0, p1, p2, p3])
   refine pT 5 ?_
   (try simp only [p0, p1, p2, p3])
   refine pT 6 ?_
   (try simp only [p0, p1, p2, p3])
   refine pT 7 ?_
   (try simp only [p0, p1, p2, p3])
   refine pR1 8 (fun K hK => ?_)
   go_simp
   (go_at_call 43; with_reducible refine (w_int (n := 2) (by decide) (by decide)).mono ?_)
   rintro _ w14 ⟨c1, rfl, D1, hb⟩
   (try go_wp2_with fail)
   replace KNa_0 := KNa_0.on hb
   replace KNa_1 := KNa_1.on hb
   replace F1 := F1.kp (Kept.of hb)
   replace F2 := F2.kp (Kept.of hb)
   replace BW := BW.trans (hb.mono BW.size)
   clear hb
   clear hHeld
   refine hK.out _ _ (by exact ⟨KNa_0.cs, KNa_1.cs⟩) (fun hHeld => ?_)
   clear hK
   (try simp only [p0, p1, p2, p3])
   refine pR1 9 (fun K hK => ?_)
   go_simp
   (go_at_call 27; with_reducible refine (r_same F1 D1).mono ?_)
   rintro _ w15 ⟨rfl, hb⟩
   (try go_wp2_with fail)
   replace KNa_0 := KNa_0.on hb
   replace KNa_1 := KNa_1.on hb
   replace F2 := F2.kp (Kept.of hb)
   replace BW := BW.trans (hb.mono BW.size)
   clear hb
   (try rw [decide_eq_true rfl])
   clear hHeld
   refine hK.out _ _ (by exact ⟨KNa_0.cs, KNa_1.cs⟩) (fun hHeld => ?_)
   clear hK
   (try simp only [p0, p1, p2, p3])
   refine pT 10 ?_
   (try simp only [p0, p1, p2, p3])
   refine pT 11 ?_
   (try simp only [p0, p1, p2, p3])
   refine pT 12 ?_
   (try simp only [p0, p1, p2, p3])
   refine pR1 13 (fun K hK => ?_)
   go_simp
   (go_at_call 43; with_reducible refine (w_int (n := -1) (by decide) (by decide)).mono ?_)
   rintro _ w16 ⟨c2, rfl, D2, hb⟩
   (try go_wp2_with fail)
   replace KNa_0 := KNa_0.on hb
   replace KNa_1 := KNa_1.on hb
   replace F2 := F2.kp (Kept.of hb)
   replace BW := BW.trans (hb.mono BW.size)
   clear hb
   clear hHeld
   refine hK.out _ _ (by exact ⟨KNa_0.cs, KNa_1.cs⟩) (fun hHeld => ?_)
   clear hK
   (try simp only [p0, p1, p2, p3])
   refine pR1 14 (fun K hK => ?_)
   go_simp
   (go_at_call 27; with_reducible refine (r_same F2 D2).mono ?_)
   rintro _ w17 ⟨rfl, hb⟩
   (try go_wp2_with fail)
   replace KNa_0 := KNa_0.on hb
   replace KNa_1 := KNa_1.on hb
   replace BW := BW.trans (hb.mono BW.size)
   clear hb
   (try rw [decide_eq_true rfl])
   clear hHeld
   refine hK.out _ _ (by exact ⟨KNa_0.cs, KNa_1.cs⟩) (fun hHeld => ?_)
   clear hK
   (try simp only [p0, p1, p2, p3])
   refine pT 15 ?_
   (try simp only [p0, p1, p2, p3])
   refine pT 16 ?_
   (try simp only [p0, p1, p2])
   refine wpAnyH_done (by kernel_rfl) (NoPanic.normal ?_) _
   go_wp2
   exact bodyPost_ret (v := .bool true) (by simp [results, Tryz.results39, go_sem]) rfl ⟨rfl, BW⟩
set_option maxHeartbeats 16000000 in
set_option maxRecDepth 100000 in
theorem c_matrix {m : Mv} {w : World} (X : Xm w m) :
    Calls Tryz.prog 35 #[mv m] w (IW w) := by
 have BW : Below w.heap.size w w := Below.refl _ _
 obtain ⟨V1, e2, hb3, K4, Z5, -⟩ := alloc_new w [.bool m.A.n, .slice m.A.A m.A.xs.length m.A.c, .bool m.A.m, .slice m.A.B m.A.ds.length m.A.d, .bool m.B.n, .slice m.B.A m.B.xs.length m.B.c, .bool m.B.m, .slice m.B.B m.B.ds.length m.B.d, .bool m.C.n, .slice m.C.A m.C.xs.length m.C.c, .bool m.C.m, .slice m.C.B m.C.ds.length m.C.d, .bool m.D.n, .slice m.D.A m.D.xs.length m.D.c, .bool m.D.m, .slice m.D.B m.D.ds.length m.D.d] 31
 replace K4 : Box V1 (w.heap.size) (mcs m) := K4
 have g6 : w.heap.size ≤ w.heap.size := BW.size
 replace X := X.kp (Kept.of hb3)
 replace BW := BW.trans (hb3.mono BW.size)
 clear hb3
 go_enter Tryz.func35, Tryz.ntmps35
 go_wp2_with fail
 rw [← e2]
 clear e2
 refine wp_region_noPanic ?_
 have hb : Below V1.heap.size V1 V1.drew := (Below.refl _ _).drew
 replace K4 := K4.on hb
 replace X := X.kp (Kept.of hb)
 replace BW := BW.trans (hb.mono BW.size)
 clear hb
 refine wp_region_held_drew (S := (fun wx => Cs wx (w.heap.size) 0 [.bool m.A.n, .slice m.A.A m.A.xs.length m.A.c, .bool m.A.m, .slice m.A.B m.A.ds.length m.A.d, .bool m.B.n, .slice m.B.A m.B.xs.length m.B.c, .bool m.B.m, .slice m.B.B m.B.ds.length m.B.d, .bool m.C.n, .slice m.C.A m.C.xs.length m.C.c, .bool m.C.m, .slice m.C.B m.C.ds.length m.C.d, .bool m.D.n, .slice m.D.A m.D.xs.length m.D.c, .bool m.D.m, .slice m.D.B m.D.ds.length m.D.d])) (by kernel_rfl) (by exact K4.cs) (fun hHeld => ?_)
 generalize V1.drew = Vd7 at *
 refine pT 0 ?_
 (try simp only [p0, p1, p2, p3])
 refine pT 1 ?_
 (try simp only [p0, p1, p2, p3])
 refine pT 3 ?_
 (try simp only [p0, p1, p2, p3])
 refine pT 4 ?_
 (try simp only [p0, p1, p2, p3])
 refine pT 7 ?_
 (try simp only [p0, p1, p2, p3])
 refine pT 8 ?_
 (try simp only [p0, p1, p2, p3])
 refine pT 11 ?_
 (try simp only [p0, p1, p2, p3])
 refine pT 12 ?_
 (try simp only [p0, p1, p2, p3])
 refine pR1 2 (fun K hK => ?_)
 go_simp
 (go_at_call 37; with_reducible refine (c_frac X.xA).mono ?_)
 rintro _ w8 ⟨n0, rfl, hb⟩
 (try go_wp2_with fail)
 replace K4 := K4.on hb
 replace X := X.kp (Kept.of hb)
 replace BW := BW.trans (hb.mono BW.size)
 clear hb
 clear hHeld
 refine hK.out _ _ (by exact K4.cs) (fun hHeld => ?_)
 clear hK
 (try simp only [p0, p1, p2, p3])
 refine pR1 5 (fun K hK => ?_)
 go_simp
 (go_at_call 37; with_reducible refine (c_frac X.xB).mono ?_)
 rintro _ w9 ⟨n1, rfl, hb⟩
 (try go_wp2_with fail)
 replace K4 := K4.on hb
 replace X := X.kp (Kept.of hb)
 replace BW := BW.trans (hb.mono BW.size)
 clear hb
 clear hHeld
 refine hK.out _ _ (by exact K4.cs) (fun hHeld => ?_)
 clear hK
 (try simp only [p0, p1, p2, p3])
 refine pT 6 ?_
 (try simp only [p0, p1, p2, p3])
 refine pR1 9 (fun K hK => ?_)
 go_simp
 (go_at_call 37; with_reducible refine (c_frac X.xC).mono ?_)
 rintro _ w10 ⟨n2, rfl, hb⟩
 (try go_wp2_with fail)
 replace K4 := K4.on hb
 replace X := X.kp (Kept.of hb)
 replace BW := BW.trans (hb.mono BW.size)
 clear hb
 clear hHeld
 refine hK.out _ _ (by exact K4.cs) (fun hHeld => ?_)
 clear hK
 (try simp only [p0, p1, p2, p3])
 refine pT 10 ?_
 (try simp only [p0, p1, p2, p3])
 refine pR1 13 (fun K hK => ?_)
 go_simp
 (go_at_call 37; with_reducible refine (c_frac X.xD).mono ?_)
 rintro _ w11 ⟨n3, rfl, hb⟩
 (try go_wp2_with fail)
 replace K4 := K4.on hb
 replace BW := BW.trans (hb.mono BW.size)
 clear hb
 clear hHeld
 refine hK.out _ _ (by exact K4.cs) (fun hHeld => ?_)
 clear hK
 (try simp only [p0, p1, p2, p3])
 refine pT 14 ?_
 (try simp only [p0, p1, p2, p3])
 refine pT 15 ?_
 (try simp only [p0, p1, p2, p3])
 refine wpAnyH_done (by kernel_rfl) (NoPanic.normal ?_) _
 go_wp2
 go_ret
 exact ⟨_, rfl, BW⟩
end Go.Proofs.YtplgheabhekedaaGreat
