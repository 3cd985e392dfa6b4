/-
  A bench between two spaces. Conditions: as each theorem states.
-/
import Derived.Test.YtplgheabhekedaaGreatIm6y
import Derived.Test.YtplgheabhekedaaGreatRgm
import Derived.Deep.RegionHeld3
import Derived.Deep.DeepCutAuto
import Derived.BigRegion
namespace Go.Proofs.YtplgheabhekedaaGreat
open Go.RowKit Nb

theorem mis_zero {W : World} {z : Mq} {f : Mv} {e : Int} (h : MIs W z f e) (he : e = 0) : FitsM z ∧ Fm W z f := by
 rcases h with ⟨_, h1, h2⟩ | ⟨h1, _⟩
 ·exact ⟨h1, h2⟩
 ·omega
set_option maxHeartbeats 16000000 in
set_option maxRecDepth 100000 in
theorem w_within {q : Mq} {x t : Rat} {m : Mv} {a b : Fv} {w : World} (G : Fm w q m) (hd : q.det = 1) (A : Ff w x a) (B : Ff w t b) :
    Calls Tryz.prog 40 #[mv m, fv a, fv b] w (fun e w' => ∃ (f : Mv) (r : Bool), e = .returned (.tuple #[mv f, .bool r]) ∧ (r = true → Fm w' (imS q x t) f) ∧ Below w.heap.size w w') := by
 have HD := Lib.hid hd
 clear hd
 have BW : Below w.heap.size w w := Below.refl _ _
 obtain ⟨V2, e3, hb4, K5, Z6, z1⟩ := alloc_new w [.bool m.A.n, .slice m.A.A m.A.xs.length m.A.c, .bool m.A.m, .slice m.A.B m.A.ds.length m.A.d, .bool m.B.n, .slice m.B.A m.B.xs.length m.B.c, .bool m.B.m, .slice m.B.B m.B.ds.length m.B.d, .bool m.C.n, .slice m.C.A m.C.xs.length m.C.c, .bool m.C.m, .slice m.C.B m.C.ds.length m.C.d, .bool m.D.n, .slice m.D.A m.D.xs.length m.D.c, .bool m.D.m, .slice m.D.B m.D.ds.length m.D.d] 31
 replace K5 : Box V2 (w.heap.size) (mcs m) := K5
 have g7 : w.heap.size ≤ w.heap.size := BW.size
 replace G := G.kp (Kept.of hb4)
 replace A := A.kp (Kept.of hb4)
 replace B := B.kp (Kept.of hb4)
 replace BW := BW.trans (hb4.mono BW.size)
 clear hb4
 obtain ⟨V9, e10, hb11, K12, Z13, z8⟩ := alloc_new V2 [.bool a.n, .slice a.A a.xs.length a.c, .bool a.m, .slice a.B a.ds.length a.d] 29
 rw [z1] at K12 Z13 z8
 have n14 : w.heap.size ≠ w.heap.size + 1 := Nat.ne_of_lt (z1 ▸ K5.lt)
 have g15 : w.heap.size ≤ w.heap.size + 1 := z1 ▸ BW.size
 replace K5 := K5.on hb11
 replace G := G.kp (Kept.of hb11)
 replace A := A.kp (Kept.of hb11)
 replace B := B.kp (Kept.of hb11)
 replace BW := BW.trans (hb11.mono BW.size)
 clear hb11
 obtain ⟨V17, e18, hb19, K20, Z21, z16⟩ := alloc_new V9 [.bool b.n, .slice b.A b.xs.length b.c, .bool b.m, .slice b.B b.ds.length b.d] 29
 rw [z8] at K20 Z21 z16
 have n22 : w.heap.size ≠ w.heap.size + 1 + 1 := Nat.ne_of_lt (z8 ▸ K5.lt)
 have n23 : w.heap.size + 1 ≠ w.heap.size + 1 + 1 := Nat.ne_of_lt (z8 ▸ K12.lt)
 have g24 : w.heap.size ≤ w.heap.size + 1 + 1 := z8 ▸ BW.size
 replace K5 := K5.on hb19
 replace K12 := K12.on hb19
 replace G := G.kp (Kept.of hb19)
 replace A := A.kp (Kept.of hb19)
 replace B := B.kp (Kept.of hb19)
 replace BW := BW.trans (hb19.mono BW.size)
 clear hb19
 obtain ⟨V25, e26, hb27, K28, Z29, -⟩ := alloc_new V17 [.bool false, .slice none 0 0, .bool false, .slice none 0 0, .bool false, .slice none 0 0, .bool false, .slice none 0 0, .bool false, .slice none 0 0, .bool false, .slice none 0 0, .bool false, .slice none 0 0, .bool false, .slice none 0 0] 31
 rw [z16] at K28 Z29
 replace K28 : Box V25 (w.heap.size + 1 + 1 + 1) (zcs16) := K28
 have n30 : w.heap.size ≠ w.heap.size + 1 + 1 + 1 := Nat.ne_of_lt (z16 ▸ K5.lt)
 have n31 : w.heap.size + 1 ≠ w.heap.size + 1 + 1 + 1 := Nat.ne_of_lt (z16 ▸ K12.lt)
 have n32 : w.heap.size + 1 + 1 ≠ w.heap.size + 1 + 1 + 1 := Nat.ne_of_lt (z16 ▸ K20.lt)
 have g33 : w.heap.size ≤ w.heap.size + 1 + 1 + 1 := z16 ▸ BW.size
 replace K5 := K5.on hb27
 replace K12 := K12.on hb27
 replace K20 := K20.on hb27
 replace Z21 := Z21.on hb27
 replace G := G.kp (Kept.of hb27)
 replace A := A.kp (Kept.of hb27)
 replace B := B.kp (Kept.of hb27)
 replace BW := BW.trans (hb27.mono BW.size)
 clear hb27
 clear z1 z8 z16
 go_enter Tryz.func40, Tryz.ntmps40
 go_wp2_with fail
 rw [← e3, ← e10, ← e18, ← e26]
 clear e3 e10 e18 e26
 go_cut [8, 9] (fun sv0 sw0 wx => ∃ (pka_0 : Nat) (y1 : Mv) (e1 : Int), sv0 = .pointer (some ⟨pka_0, 0, none⟩) ∧ sw0 = .int .i64 e1 ∧ Below w.heap.size w wx ∧ Box wx (w.heap.size + 1 + 1) [.bool b.n, .slice b.A b.xs.length b.c, .bool b.m, .slice b.B b.ds.length b.d] ∧ Box wx (w.heap.size + 1 + 1 + 1) (zcs16) ∧ Fz wx (w.heap.size + 1 + 1) ∧ Fz wx (w.heap.size + 1 + 1 + 1) ∧ Ff wx (t) b ∧ Box wx pka_0 (mcs y1) ∧ pka_0 ≠ w.heap.size + 1 + 1 ∧ pka_0 ≠ w.heap.size + 1 + 1 + 1 ∧ MIs wx (q.mul (Mq.space x)) y1 e1)
 case first =>
  refine wp_region_noPanic ?_
  have hb : Below V25.heap.size V25 V25.drew := (Below.refl _ _).drew
  replace K5 := K5.on hb
  replace K12 := K12.on hb
  replace K20 := K20.on hb
  replace K28 := K28.on hb
  replace Z21 := Z21.on hb
  replace Z29 := Z29.on hb
  replace G := G.kp (Kept.of hb)
  replace A := A.kp (Kept.of hb)
  replace B := B.kp (Kept.of hb)
  replace BW := BW.trans (hb.mono BW.size)
  clear hb
  refine wp_region_held_drew (S := (fun wx => Box wx (w.heap.size) [.bool m.A.n, .slice m.A.A m.A.xs.length m.A.c, .bool m.A.m, .slice m.A.B m.A.ds.length m.A.d, .bool m.B.n, .slice m.B.A m.B.xs.length m.B.c, .bool m.B.m, .slice m.B.B m.B.ds.length m.B.d, .bool m.C.n, .slice m.C.A m.C.xs.length m.C.c, .bool m.C.m, .slice m.C.B m.C.ds.length m.C.d, .bool m.D.n, .slice m.D.A m.D.xs.length m.D.c, .bool m.D.m, .slice m.D.B m.D.ds.length m.D.d] ∧ Cs wx (w.heap.size + 1) 0 [.bool a.n, .slice a.A a.xs.length a.c, .bool a.m, .slice a.B a.ds.length a.d])) (by kernel_rfl) (by exact ⟨K5, K12.cs⟩) (fun hHeld => ?_)
  generalize V25.drew = Vd34 at *
  refine pT 0 ?_ (hy := fun wt hSw => ldM rfl rfl hSw.1)
  (try simp only [p0, p1, p2, p3])
  refine pT 1 ?_
  (try simp only [p0, p1, p2, p3])
  refine pR2 2 7 (fun K hK => ?_) (fun K hK => ?_)
  ·go_simp
   (go_at_call 49; with_reducible refine (w_space A).mono ?_)
   rintro _ w35 ⟨s1, rfl, S1, hb⟩
   (try go_wp2_with fail)
   replace K5 := K5.on hb
   replace K12 := K12.on hb
   replace K20 := K20.on hb
   replace K28 := K28.on hb
   replace Z21 := Z21.on hb
   replace Z29 := Z29.on hb
   replace G := G.kp (Kept.of hb)
   replace A := A.kp (Kept.of hb)
   replace B := B.kp (Kept.of hb)
   replace BW := BW.trans (hb.mono BW.size)
   clear hb
   clear hHeld
   refine hK.out _ _ (by exact ⟨K5, K12.cs⟩) (fun hHeld => ?_)
   clear hK
   (try simp only [p0, p1, p2, p3])
   refine pR2 3 7 (fun K hK => ?_) (fun K hK => ?_)
   ·go_simp
    (go_at_call 16; with_reducible refine (y_Mul G S1 HD.out Mq.det_space).mono ?_)
    rintro _ w36 ⟨y1, e1, rfl, R1, hb⟩
    (try go_wp2_with fail)
    replace K5 := K5.on hb
    replace K12 := K12.on hb
    replace K20 := K20.on hb
    replace K28 := K28.on hb
    replace Z21 := Z21.on hb
    replace Z29 := Z29.on hb
    replace G := G.kp (Kept.of hb)
    replace A := A.kp (Kept.of hb)
    replace B := B.kp (Kept.of hb)
    replace S1 := S1.kp (Kept.of hb)
    replace BW := BW.trans (hb.mono BW.size)
    clear hb
    clear hHeld
    refine hK.out _ _ (by exact ⟨K5, K12.cs⟩) (fun hHeld => ?_)
    clear hK
    (try simp only [p0, p1, p2, p3])
    refine pT 4 ?_
    (try simp only [p0, p1, p2, p3])
    refine pT 5 ?_
    (try simp only [p0, p1, p2, p3])
    refine pT 6 ?_
    (try simp only [p0, p1, p2, p3])
    refine pR1 7 (fun K hK => ?_)
    go_simp
    obtain ⟨V37, e38, hb39, K40, Z41, -⟩ := alloc_new w36 [.bool false, .slice none 0 0, .bool false, .slice none 0 0, .bool false, .slice none 0 0, .bool false, .slice none 0 0, .bool false, .slice none 0 0, .bool false, .slice none 0 0, .bool false, .slice none 0 0, .bool false, .slice none 0 0] 31
    replace K40 : Box V37 (w36.heap.size) (zcs16) := K40
    have n42 : w.heap.size ≠ w36.heap.size := Nat.ne_of_lt (K5.lt)
    have n43 : w.heap.size + 1 ≠ w36.heap.size := Nat.ne_of_lt (K12.lt)
    have n44 : w.heap.size + 1 + 1 ≠ w36.heap.size := Nat.ne_of_lt (K20.lt)
    have n45 : w.heap.size + 1 + 1 + 1 ≠ w36.heap.size := Nat.ne_of_lt (K28.lt)
    have g46 : w.heap.size ≤ w36.heap.size := BW.size
    replace K5 := K5.on hb39
    replace K12 := K12.on hb39
    replace K20 := K20.on hb39
    replace K28 := K28.on hb39
    replace Z21 := Z21.on hb39
    replace Z29 := Z29.on hb39
    replace G := G.kp (Kept.of hb39)
    replace A := A.kp (Kept.of hb39)
    replace B := B.kp (Kept.of hb39)
    replace S1 := S1.kp (Kept.of hb39)
    replace R1 := R1.kp (Kept.of hb39)
    replace BW := BW.trans (hb39.mono BW.size)
    clear hb39
    rw [← e38]
    clear e38
    generalize w36.heap.size = b47 at *
    clear hHeld
    refine hK.out _ _ (by exact ⟨K5, K12.cs⟩) (fun hHeld => ?_)
    clear hK
    (try simp only [p0, p1, p2, p3])
    refine pR1 8 (fun K hK => ?_)
    refine ite_yes (by rfl) (wp_stM rfl rfl rfl K40 Z41 rfl rfl rfl ?_)
    obtain ⟨V48, hk50⟩ : ∃ V48, V48 = V37.setCells (b47) 0 [.bool y1.A.n, .slice y1.A.A y1.A.xs.length y1.A.c, .bool y1.A.m, .slice y1.A.B y1.A.ds.length y1.A.d, .bool y1.B.n, .slice y1.B.A y1.B.xs.length y1.B.c, .bool y1.B.m, .slice y1.B.B y1.B.ds.length y1.B.d, .bool y1.C.n, .slice y1.C.A y1.C.xs.length y1.C.c, .bool y1.C.m, .slice y1.C.B y1.C.ds.length y1.C.d, .bool y1.D.n, .slice y1.D.A y1.D.xs.length y1.D.c, .bool y1.D.m, .slice y1.D.B y1.D.ds.length y1.D.d] := ⟨_, rfl⟩
    have e49 := hk50
    have hk51 := Kept.overE hk50 K40 rfl (Nat.le_of_ble_eq_true rfl)
    replace K5 := K5.awayE hk50 n42
    replace K12 := K12.awayE hk50 n43
    replace K20 := K20.awayE hk50 n44
    replace K28 := K28.awayE hk50 n45
    replace K40 := K40.overE hk50 rfl
    replace Z21 := Z21.putE hk50
    replace Z29 := Z29.putE hk50
    replace Z41 := Z41.putE hk50
    replace G := G.kp hk51
    replace A := A.kp hk51
    replace B := B.kp hk51
    replace S1 := S1.kp hk51
    replace R1 := R1.kp hk51
    replace BW := Below.putE BW hk50 g46
    clear hk50 hk51
    replace K40 : Box V48 (b47) (mcs y1) := K40
    rw [← e49]
    clear e49
    clear hHeld
    refine hK.out _ _ (by exact ⟨K5, K12.cs⟩) (fun hHeld => ?_)
    clear hK
    (try simp only [p0])
    refine pT 9 ?_
    (try simp only [p0, p1, p2, p3])
    refine wpAnyH_done (by kernel_rfl) (NoPanic.normal ?_) _
    go_wp2
    go_meet
    exact ⟨b47, y1, e1, rfl, rfl, BW, K20, K28, Z21, Z29, B, K40, n44.symm, n45.symm, R1⟩
   ·go_simp
    obtain ⟨V36, e37, hb38, K39, Z40, -⟩ := alloc_new w35 [.bool false, .slice none 0 0, .bool false, .slice none 0 0, .bool false, .slice none 0 0, .bool false, .slice none 0 0, .bool false, .slice none 0 0, .bool false, .slice none 0 0, .bool false, .slice none 0 0, .bool false, .slice none 0 0] 31
    replace K39 : Box V36 (w35.heap.size) (zcs16) := K39
    have n41 : w.heap.size ≠ w35.heap.size := Nat.ne_of_lt (K5.lt)
    have n42 : w.heap.size + 1 ≠ w35.heap.size := Nat.ne_of_lt (K12.lt)
    have n43 : w.heap.size + 1 + 1 ≠ w35.heap.size := Nat.ne_of_lt (K20.lt)
    have n44 : w.heap.size + 1 + 1 + 1 ≠ w35.heap.size := Nat.ne_of_lt (K28.lt)
    have g45 : w.heap.size ≤ w35.heap.size := BW.size
    replace K5 := K5.on hb38
    replace K12 := K12.on hb38
    replace K20 := K20.on hb38
    replace K28 := K28.on hb38
    replace Z21 := Z21.on hb38
    replace Z29 := Z29.on hb38
    replace G := G.kp (Kept.of hb38)
    replace A := A.kp (Kept.of hb38)
    replace B := B.kp (Kept.of hb38)
    replace S1 := S1.kp (Kept.of hb38)
    replace BW := BW.trans (hb38.mono BW.size)
    clear hb38
    rw [← e37]
    clear e37
    generalize w35.heap.size = b46 at *
    clear hHeld
    refine hK.out _ _ (by exact ⟨K5, K12.cs⟩) (fun hHeld => ?_)
    clear hK
    (try simp only [p0, p1, p2, p3])
    refine pR1 3 (fun K hK => ?_)
    go_simp
    (go_at_call 16; with_reducible refine (y_Mul G S1 HD.out Mq.det_space).mono ?_)
    rintro _ w47 ⟨y1, e1, rfl, R1, hb⟩
    (try go_wp2_with fail)
    replace K5 := K5.on hb
    replace K12 := K12.on hb
    replace K20 := K20.on hb
    replace K28 := K28.on hb
    replace K39 := K39.on hb
    replace Z21 := Z21.on hb
    replace Z29 := Z29.on hb
    replace Z40 := Z40.on hb
    replace G := G.kp (Kept.of hb)
    replace A := A.kp (Kept.of hb)
    replace B := B.kp (Kept.of hb)
    replace S1 := S1.kp (Kept.of hb)
    replace BW := BW.trans (hb.mono BW.size)
    clear hb
    clear hHeld
    refine hK.out _ _ (by exact ⟨K5, K12.cs⟩) (fun hHeld => ?_)
    clear hK
    (try simp only [p0, p1, p2, p3])
    refine pT 4 ?_
    (try simp only [p0, p1, p2, p3])
    refine pT 5 ?_
    (try simp only [p0, p1, p2, p3])
    refine pT 6 ?_
    (try simp only [p0, p1, p2, p3])
    refine pR1 8 (fun K hK => ?_)
    refine ite_yes (by rfl) (wp_stM rfl rfl rfl K39 Z40 rfl rfl rfl ?_)
    obtain ⟨V48, hk50⟩ : ∃ V48, V48 = w47.setCells (b46) 0 [.bool y1.A.n, .slice y1.A.A y1.A.xs.length y1.A.c, .bool y1.A.m, .slice y1.A.B y1.A.ds.length y1.A.d, .bool y1.B.n, .slice y1.B.A y1.B.xs.length y1.B.c, .bool y1.B.m, .slice y1.B.B y1.B.ds.length y1.B.d, .bool y1.C.n, .slice y1.C.A y1.C.xs.length y1.C.c, .bool y1.C.m, .slice y1.C.B y1.C.ds.length y1.C.d, .bool y1.D.n, .slice y1.D.A y1.D.xs.length y1.D.c, .bool y1.D.m, .slice y1.D.B y1.D.ds.length y1.D.d] := ⟨_, rfl⟩
    have e49 := hk50
    have hk51 := Kept.overE hk50 K39 rfl (Nat.le_of_ble_eq_true rfl)
    replace K5 := K5.awayE hk50 n41
    replace K12 := K12.awayE hk50 n42
    replace K20 := K20.awayE hk50 n43
    replace K28 := K28.awayE hk50 n44
    replace K39 := K39.overE hk50 rfl
    replace Z21 := Z21.putE hk50
    replace Z29 := Z29.putE hk50
    replace G := G.kp hk51
    replace A := A.kp hk51
    replace B := B.kp hk51
    replace S1 := S1.kp hk51
    replace R1 := R1.kp hk51
    replace BW := Below.putE BW hk50 g45
    clear hk50 hk51
    replace K39 : Box V48 (b46) (mcs y1) := K39
    rw [← e49]
    clear e49
    clear hHeld
    refine hK.out _ _ (by exact ⟨K5, K12.cs⟩) (fun hHeld => ?_)
    clear hK
    (try simp only [p0])
    refine pT 9 ?_
    (try simp only [p0, p1, p2, p3])
    refine wpAnyH_done (by kernel_rfl) (NoPanic.normal ?_) _
    go_wp2
    go_meet
    exact ⟨b46, y1, e1, rfl, rfl, BW, K20, K28, Z21, Z29, B, K39, n43.symm, n44.symm, R1⟩
  ·go_simp
   obtain ⟨V35, e36, hb37, K38, Z39, -⟩ := alloc_new Vd34 [.bool false, .slice none 0 0, .bool false, .slice none 0 0, .bool false, .slice none 0 0, .bool false, .slice none 0 0, .bool false, .slice none 0 0, .bool false, .slice none 0 0, .bool false, .slice none 0 0, .bool false, .slice none 0 0] 31
   replace K38 : Box V35 (Vd34.heap.size) (zcs16) := K38
   have n40 : w.heap.size ≠ Vd34.heap.size := Nat.ne_of_lt (K5.lt)
   have n41 : w.heap.size + 1 ≠ Vd34.heap.size := Nat.ne_of_lt (K12.lt)
   have n42 : w.heap.size + 1 + 1 ≠ Vd34.heap.size := Nat.ne_of_lt (K20.lt)
   have n43 : w.heap.size + 1 + 1 + 1 ≠ Vd34.heap.size := Nat.ne_of_lt (K28.lt)
   have g44 : w.heap.size ≤ Vd34.heap.size := BW.size
   replace K5 := K5.on hb37
   replace K12 := K12.on hb37
   replace K20 := K20.on hb37
   replace K28 := K28.on hb37
   replace Z21 := Z21.on hb37
   replace Z29 := Z29.on hb37
   replace G := G.kp (Kept.of hb37)
   replace A := A.kp (Kept.of hb37)
   replace B := B.kp (Kept.of hb37)
   replace BW := BW.trans (hb37.mono BW.size)
   clear hb37
   rw [← e36]
   clear e36
   generalize Vd34.heap.size = b45 at *
   clear hHeld
   refine hK.out _ _ (by exact ⟨K5, K12.cs⟩) (fun hHeld => ?_)
   clear hK
   (try simp only [p0, p1, p2, p3])
   refine pR1 2 (fun K hK => ?_)
   go_simp
   (go_at_call 49; with_reducible refine (w_space A).mono ?_)
   rintro _ w46 ⟨s1, rfl, S1, hb⟩
   (try go_wp2_with fail)
   replace K5 := K5.on hb
   replace K12 := K12.on hb
   replace K20 := K20.on hb
   replace K28 := K28.on hb
   replace K38 := K38.on hb
   replace Z21 := Z21.on hb
   replace Z29 := Z29.on hb
   replace Z39 := Z39.on hb
   replace G := G.kp (Kept.of hb)
   replace A := A.kp (Kept.of hb)
   replace B := B.kp (Kept.of hb)
   replace BW := BW.trans (hb.mono BW.size)
   clear hb
   clear hHeld
   refine hK.out _ _ (by exact ⟨K5, K12.cs⟩) (fun hHeld => ?_)
   clear hK
   (try simp only [p0, p1, p2, p3])
   refine pR1 3 (fun K hK => ?_)
   go_simp
   (go_at_call 16; with_reducible refine (y_Mul G S1 HD.out Mq.det_space).mono ?_)
   rintro _ w47 ⟨y1, e1, rfl, R1, hb⟩
   (try go_wp2_with fail)
   replace K5 := K5.on hb
   replace K12 := K12.on hb
   replace K20 := K20.on hb
   replace K28 := K28.on hb
   replace K38 := K38.on hb
   replace Z21 := Z21.on hb
   replace Z29 := Z29.on hb
   replace Z39 := Z39.on hb
   replace A := A.kp (Kept.of hb)
   replace B := B.kp (Kept.of hb)
   replace BW := BW.trans (hb.mono BW.size)
   clear hb
   clear hHeld
   refine hK.out _ _ (by exact ⟨K5, K12.cs⟩) (fun hHeld => ?_)
   clear hK
   (try simp only [p0, p1, p2, p3])
   refine pT 4 ?_
   (try simp only [p0, p1, p2, p3])
   refine pT 5 ?_
   (try simp only [p0, p1, p2, p3])
   refine pT 6 ?_
   (try simp only [p0, p1, p2, p3])
   refine pR1 8 (fun K hK => ?_)
   refine ite_yes (by rfl) (wp_stM rfl rfl rfl K38 Z39 rfl rfl rfl ?_)
   obtain ⟨V48, hk50⟩ : ∃ V48, V48 = w47.setCells (b45) 0 [.bool y1.A.n, .slice y1.A.A y1.A.xs.length y1.A.c, .bool y1.A.m, .slice y1.A.B y1.A.ds.length y1.A.d, .bool y1.B.n, .slice y1.B.A y1.B.xs.length y1.B.c, .bool y1.B.m, .slice y1.B.B y1.B.ds.length y1.B.d, .bool y1.C.n, .slice y1.C.A y1.C.xs.length y1.C.c, .bool y1.C.m, .slice y1.C.B y1.C.ds.length y1.C.d, .bool y1.D.n, .slice y1.D.A y1.D.xs.length y1.D.c, .bool y1.D.m, .slice y1.D.B y1.D.ds.length y1.D.d] := ⟨_, rfl⟩
   have e49 := hk50
   have hk51 := Kept.overE hk50 K38 rfl (Nat.le_of_ble_eq_true rfl)
   replace K5 := K5.awayE hk50 n40
   replace K12 := K12.awayE hk50 n41
   replace K20 := K20.awayE hk50 n42
   replace K28 := K28.awayE hk50 n43
   replace K38 := K38.overE hk50 rfl
   replace Z21 := Z21.putE hk50
   replace Z29 := Z29.putE hk50
   replace A := A.kp hk51
   replace B := B.kp hk51
   replace R1 := R1.kp hk51
   replace BW := Below.putE BW hk50 g44
   clear hk50 hk51
   replace K38 : Box V48 (b45) (mcs y1) := K38
   rw [← e49]
   clear e49
   clear hHeld
   refine hK.out _ _ (by exact ⟨K5, K12.cs⟩) (fun hHeld => ?_)
   clear hK
   (try simp only [p0])
   refine pT 9 ?_
   (try simp only [p0, p1, p2, p3])
   refine wpAnyH_done (by kernel_rfl) (NoPanic.normal ?_) _
   go_wp2
   go_meet
   exact ⟨b45, y1, e1, rfl, rfl, BW, K20, K28, Z21, Z29, B, K38, n42.symm, n43.symm, R1⟩
 case rest =>
  obtain ⟨pka_0, y1, e1, rfl, rfl, BW, K20, K28, Z21, Z29, B, KNa_0, nn34, nn35, R1⟩ := hcut
  by_cases he : e1 = 0
  ·obtain rfl : e1 = 0 := he
   have L1 := (mis_zero R1 rfl).2
   clear R1
   go_wp2_with fail
   go_cut [10, 9] (fun sv0 sw0 wx => ∃ (pkb_0 : Nat) (y2 : Mv) (e2 : Int), sv0 = .pointer (some ⟨pkb_0, 0, none⟩) ∧ sw0 = .int .i64 e2 ∧ Below w.heap.size w wx ∧ Box wx (w.heap.size + 1 + 1 + 1) (zcs16) ∧ Fz wx (w.heap.size + 1 + 1 + 1) ∧ Box wx pkb_0 (mcs y2) ∧ pkb_0 ≠ w.heap.size + 1 + 1 + 1 ∧ MIs wx ((Mq.space t).mul (q.mul (Mq.space x))) y2 e2)
   case first =>
    refine wp_region_noPanic ?_
    have hb : Below wc.heap.size wc wc.drew := (Below.refl _ _).drew
    replace K20 := K20.on hb
    replace K28 := K28.on hb
    replace KNa_0 := KNa_0.on hb
    replace Z29 := Z29.on hb
    replace B := B.kp (Kept.of hb)
    replace L1 := L1.kp (Kept.of hb)
    replace BW := BW.trans (hb.mono BW.size)
    clear hb
    refine wp_region_held_drew (S := (fun wx => Cs wx (w.heap.size + 1 + 1) 0 [.bool b.n, .slice b.A b.xs.length b.c, .bool b.m, .slice b.B b.ds.length b.d] ∧ Box wx (pka_0) [.bool y1.A.n, .slice y1.A.A y1.A.xs.length y1.A.c, .bool y1.A.m, .slice y1.A.B y1.A.ds.length y1.A.d, .bool y1.B.n, .slice y1.B.A y1.B.xs.length y1.B.c, .bool y1.B.m, .slice y1.B.B y1.B.ds.length y1.B.d, .bool y1.C.n, .slice y1.C.A y1.C.xs.length y1.C.c, .bool y1.C.m, .slice y1.C.B y1.C.ds.length y1.C.d, .bool y1.D.n, .slice y1.D.A y1.D.xs.length y1.D.c, .bool y1.D.m, .slice y1.D.B y1.D.ds.length y1.D.d])) (by kernel_rfl) (by exact ⟨K20.cs, KNa_0⟩) (fun hHeld => ?_)
    generalize wc.drew = Vd36 at *
    refine pT 0 ?_
    (try simp only [p0, p1, p2, p3])
    refine pT 2 ?_ (hy := fun wt hSw => ldM rfl rfl hSw.2)
    (try simp only [p0, p1, p2, p3])
    refine pR2 1 7 (fun K hK => ?_) (fun K hK => ?_)
    ·go_simp
     (go_at_call 49; with_reducible refine (w_space B).mono ?_)
     rintro _ w37 ⟨s2, rfl, S2, hb⟩
     (try go_wp2_with fail)
     replace K20 := K20.on hb
     replace K28 := K28.on hb
     replace KNa_0 := KNa_0.on hb
     replace Z29 := Z29.on hb
     replace B := B.kp (Kept.of hb)
     replace L1 := L1.kp (Kept.of hb)
     replace BW := BW.trans (hb.mono BW.size)
     clear hb
     clear hHeld
     refine hK.out _ _ (by exact ⟨K20.cs, KNa_0⟩) (fun hHeld => ?_)
     clear hK
     (try simp only [p0, p1, p2, p3])
     refine pR2 3 7 (fun K hK => ?_) (fun K hK => ?_)
     ·go_simp
      (go_at_call 16; with_reducible refine (y_Mul S2 L1 Mq.det_space (Mq.det_mul HD.out Mq.det_space)).mono ?_)
      rintro _ w38 ⟨y2, e2, rfl, R2, hb⟩
      (try go_wp2_with fail)
      replace K20 := K20.on hb
      replace K28 := K28.on hb
      replace KNa_0 := KNa_0.on hb
      replace Z29 := Z29.on hb
      replace B := B.kp (Kept.of hb)
      replace L1 := L1.kp (Kept.of hb)
      replace S2 := S2.kp (Kept.of hb)
      replace BW := BW.trans (hb.mono BW.size)
      clear hb
      clear hHeld
      refine hK.out _ _ (by exact ⟨K20.cs, KNa_0⟩) (fun hHeld => ?_)
      clear hK
      (try simp only [p0, p1, p2, p3])
      refine pT 4 ?_
      (try simp only [p0, p1, p2, p3])
      refine pT 5 ?_
      (try simp only [p0, p1, p2, p3])
      refine pT 6 ?_
      (try simp only [p0, p1, p2, p3])
      refine pR1 7 (fun K hK => ?_)
      go_simp
      obtain ⟨V39, e40, hb41, K42, Z43, -⟩ := alloc_new w38 [.bool false, .slice none 0 0, .bool false, .slice none 0 0, .bool false, .slice none 0 0, .bool false, .slice none 0 0, .bool false, .slice none 0 0, .bool false, .slice none 0 0, .bool false, .slice none 0 0, .bool false, .slice none 0 0] 31
      replace K42 : Box V39 (w38.heap.size) (zcs16) := K42
      have n44 : w.heap.size + 1 + 1 ≠ w38.heap.size := Nat.ne_of_lt (K20.lt)
      have n45 : w.heap.size + 1 + 1 + 1 ≠ w38.heap.size := Nat.ne_of_lt (K28.lt)
      have n46 : pka_0 ≠ w38.heap.size := Nat.ne_of_lt (KNa_0.lt)
      have g47 : w.heap.size ≤ w38.heap.size := BW.size
      replace K20 := K20.on hb41
      replace K28 := K28.on hb41
      replace KNa_0 := KNa_0.on hb41
      replace Z29 := Z29.on hb41
      replace B := B.kp (Kept.of hb41)
      replace L1 := L1.kp (Kept.of hb41)
      replace S2 := S2.kp (Kept.of hb41)
      replace R2 := R2.kp (Kept.of hb41)
      replace BW := BW.trans (hb41.mono BW.size)
      clear hb41
      rw [← e40]
      clear e40
      generalize w38.heap.size = b48 at *
      clear hHeld
      refine hK.out _ _ (by exact ⟨K20.cs, KNa_0⟩) (fun hHeld => ?_)
      clear hK
      (try simp only [p0, p1, p2, p3])
      refine pR1 8 (fun K hK => ?_)
      refine ite_yes (by rfl) (wp_stM rfl rfl rfl K42 Z43 rfl rfl rfl ?_)
      obtain ⟨V49, hk51⟩ : ∃ V49, V49 = V39.setCells (b48) 0 [.bool y2.A.n, .slice y2.A.A y2.A.xs.length y2.A.c, .bool y2.A.m, .slice y2.A.B y2.A.ds.length y2.A.d, .bool y2.B.n, .slice y2.B.A y2.B.xs.length y2.B.c, .bool y2.B.m, .slice y2.B.B y2.B.ds.length y2.B.d, .bool y2.C.n, .slice y2.C.A y2.C.xs.length y2.C.c, .bool y2.C.m, .slice y2.C.B y2.C.ds.length y2.C.d, .bool y2.D.n, .slice y2.D.A y2.D.xs.length y2.D.c, .bool y2.D.m, .slice y2.D.B y2.D.ds.length y2.D.d] := ⟨_, rfl⟩
      have e50 := hk51
      have hk52 := Kept.overE hk51 K42 rfl (Nat.le_of_ble_eq_true rfl)
      replace K20 := K20.awayE hk51 n44
      replace K28 := K28.awayE hk51 n45
      replace KNa_0 := KNa_0.awayE hk51 n46
      replace K42 := K42.overE hk51 rfl
      replace Z29 := Z29.putE hk51
      replace B := B.kp hk52
      replace L1 := L1.kp hk52
      replace S2 := S2.kp hk52
      replace R2 := R2.kp hk52
      replace BW := Below.putE BW hk51 g47
      clear hk51 hk52
      replace K42 : Box V49 (b48) (mcs y2) := K42
      rw [← e50]
      clear e50
      clear hHeld
      refine hK.out _ _ (by exact ⟨K20.cs, KNa_0⟩) (fun hHeld => ?_)
      clear hK
      (try simp only [p0])
      refine pT 9 ?_
      (try simp only [p0, p1, p2, p3])
      refine wpAnyH_done (by kernel_rfl) (NoPanic.normal ?_) _
      go_wp2
      go_meet
      exact ⟨b48, y2, e2, rfl, rfl, BW, K28, Z29, K42, n45.symm, R2⟩
     ·go_simp
      obtain ⟨V38, e39, hb40, K41, Z42, -⟩ := alloc_new w37 [.bool false, .slice none 0 0, .bool false, .slice none 0 0, .bool false, .slice none 0 0, .bool false, .slice none 0 0, .bool false, .slice none 0 0, .bool false, .slice none 0 0, .bool false, .slice none 0 0, .bool false, .slice none 0 0] 31
      replace K41 : Box V38 (w37.heap.size) (zcs16) := K41
      have n43 : w.heap.size + 1 + 1 ≠ w37.heap.size := Nat.ne_of_lt (K20.lt)
      have n44 : w.heap.size + 1 + 1 + 1 ≠ w37.heap.size := Nat.ne_of_lt (K28.lt)
      have n45 : pka_0 ≠ w37.heap.size := Nat.ne_of_lt (KNa_0.lt)
      have g46 : w.heap.size ≤ w37.heap.size := BW.size
      replace K20 := K20.on hb40
      replace K28 := K28.on hb40
      replace KNa_0 := KNa_0.on hb40
      replace Z29 := Z29.on hb40
      replace B := B.kp (Kept.of hb40)
      replace L1 := L1.kp (Kept.of hb40)
      replace S2 := S2.kp (Kept.of hb40)
      replace BW := BW.trans (hb40.mono BW.size)
      clear hb40
      rw [← e39]
      clear e39
      generalize w37.heap.size = b47 at *
      clear hHeld
      refine hK.out _ _ (by exact ⟨K20.cs, KNa_0⟩) (fun hHeld => ?_)
      clear hK
      (try simp only [p0, p1, p2, p3])
      refine pR1 3 (fun K hK => ?_)
      go_simp
      (go_at_call 16; with_reducible refine (y_Mul S2 L1 Mq.det_space (Mq.det_mul HD.out Mq.det_space)).mono ?_)
      rintro _ w48 ⟨y2, e2, rfl, R2, hb⟩
      (try go_wp2_with fail)
      replace K20 := K20.on hb
      replace K28 := K28.on hb
      replace KNa_0 := KNa_0.on hb
      replace K41 := K41.on hb
      replace Z29 := Z29.on hb
      replace Z42 := Z42.on hb
      replace B := B.kp (Kept.of hb)
      replace L1 := L1.kp (Kept.of hb)
      replace S2 := S2.kp (Kept.of hb)
      replace BW := BW.trans (hb.mono BW.size)
      clear hb
      clear hHeld
      refine hK.out _ _ (by exact ⟨K20.cs, KNa_0⟩) (fun hHeld => ?_)
      clear hK
      (try simp only [p0, p1, p2, p3])
      refine pT 4 ?_
      (try simp only [p0, p1, p2, p3])
      refine pT 5 ?_
      (try simp only [p0, p1, p2, p3])
      refine pT 6 ?_
      (try simp only [p0, p1, p2, p3])
      refine pR1 8 (fun K hK => ?_)
      refine ite_yes (by rfl) (wp_stM rfl rfl rfl K41 Z42 rfl rfl rfl ?_)
      obtain ⟨V49, hk51⟩ : ∃ V49, V49 = w48.setCells (b47) 0 [.bool y2.A.n, .slice y2.A.A y2.A.xs.length y2.A.c, .bool y2.A.m, .slice y2.A.B y2.A.ds.length y2.A.d, .bool y2.B.n, .slice y2.B.A y2.B.xs.length y2.B.c, .bool y2.B.m, .slice y2.B.B y2.B.ds.length y2.B.d, .bool y2.C.n, .slice y2.C.A y2.C.xs.length y2.C.c, .bool y2.C.m, .slice y2.C.B y2.C.ds.length y2.C.d, .bool y2.D.n, .slice y2.D.A y2.D.xs.length y2.D.c, .bool y2.D.m, .slice y2.D.B y2.D.ds.length y2.D.d] := ⟨_, rfl⟩
      have e50 := hk51
      have hk52 := Kept.overE hk51 K41 rfl (Nat.le_of_ble_eq_true rfl)
      replace K20 := K20.awayE hk51 n43
      replace K28 := K28.awayE hk51 n44
      replace KNa_0 := KNa_0.awayE hk51 n45
      replace K41 := K41.overE hk51 rfl
      replace Z29 := Z29.putE hk51
      replace B := B.kp hk52
      replace L1 := L1.kp hk52
      replace S2 := S2.kp hk52
      replace R2 := R2.kp hk52
      replace BW := Below.putE BW hk51 g46
      clear hk51 hk52
      replace K41 : Box V49 (b47) (mcs y2) := K41
      rw [← e50]
      clear e50
      clear hHeld
      refine hK.out _ _ (by exact ⟨K20.cs, KNa_0⟩) (fun hHeld => ?_)
      clear hK
      (try simp only [p0])
      refine pT 9 ?_
      (try simp only [p0, p1, p2, p3])
      refine wpAnyH_done (by kernel_rfl) (NoPanic.normal ?_) _
      go_wp2
      go_meet
      exact ⟨b47, y2, e2, rfl, rfl, BW, K28, Z29, K41, n44.symm, R2⟩
    ·go_simp
     obtain ⟨V37, e38, hb39, K40, Z41, -⟩ := alloc_new Vd36 [.bool false, .slice none 0 0, .bool false, .slice none 0 0, .bool false, .slice none 0 0, .bool false, .slice none 0 0, .bool false, .slice none 0 0, .bool false, .slice none 0 0, .bool false, .slice none 0 0, .bool false, .slice none 0 0] 31
     replace K40 : Box V37 (Vd36.heap.size) (zcs16) := K40
     have n42 : w.heap.size + 1 + 1 ≠ Vd36.heap.size := Nat.ne_of_lt (K20.lt)
     have n43 : w.heap.size + 1 + 1 + 1 ≠ Vd36.heap.size := Nat.ne_of_lt (K28.lt)
     have n44 : pka_0 ≠ Vd36.heap.size := Nat.ne_of_lt (KNa_0.lt)
     have g45 : w.heap.size ≤ Vd36.heap.size := BW.size
     replace K20 := K20.on hb39
     replace K28 := K28.on hb39
     replace KNa_0 := KNa_0.on hb39
     replace Z29 := Z29.on hb39
     replace B := B.kp (Kept.of hb39)
     replace L1 := L1.kp (Kept.of hb39)
     replace BW := BW.trans (hb39.mono BW.size)
     clear hb39
     rw [← e38]
     clear e38
     generalize Vd36.heap.size = b46 at *
     clear hHeld
     refine hK.out _ _ (by exact ⟨K20.cs, KNa_0⟩) (fun hHeld => ?_)
     clear hK
     (try simp only [p0, p1, p2, p3])
     refine pR1 1 (fun K hK => ?_)
     go_simp
     (go_at_call 49; with_reducible refine (w_space B).mono ?_)
     rintro _ w47 ⟨s2, rfl, S2, hb⟩
     (try go_wp2_with fail)
     replace K20 := K20.on hb
     replace K28 := K28.on hb
     replace KNa_0 := KNa_0.on hb
     replace K40 := K40.on hb
     replace Z29 := Z29.on hb
     replace Z41 := Z41.on hb
     replace B := B.kp (Kept.of hb)
     replace L1 := L1.kp (Kept.of hb)
     replace BW := BW.trans (hb.mono BW.size)
     clear hb
     clear hHeld
     refine hK.out _ _ (by exact ⟨K20.cs, KNa_0⟩) (fun hHeld => ?_)
     clear hK
     (try simp only [p0, p1, p2, p3])
     refine pR1 3 (fun K hK => ?_)
     go_simp
     (go_at_call 16; with_reducible refine (y_Mul S2 L1 Mq.det_space (Mq.det_mul HD.out Mq.det_space)).mono ?_)
     rintro _ w48 ⟨y2, e2, rfl, R2, hb⟩
     (try go_wp2_with fail)
     replace K20 := K20.on hb
     replace K28 := K28.on hb
     replace KNa_0 := KNa_0.on hb
     replace K40 := K40.on hb
     replace Z29 := Z29.on hb
     replace Z41 := Z41.on hb
     replace B := B.kp (Kept.of hb)
     replace BW := BW.trans (hb.mono BW.size)
     clear hb
     clear hHeld
     refine hK.out _ _ (by exact ⟨K20.cs, KNa_0⟩) (fun hHeld => ?_)
     clear hK
     (try simp only [p0, p1, p2, p3])
     refine pT 4 ?_
     (try simp only [p0, p1, p2, p3])
     refine pT 5 ?_
     (try simp only [p0, p1, p2, p3])
     refine pT 6 ?_
     (try simp only [p0, p1, p2, p3])
     refine pR1 8 (fun K hK => ?_)
     refine ite_yes (by rfl) (wp_stM rfl rfl rfl K40 Z41 rfl rfl rfl ?_)
     obtain ⟨V49, hk51⟩ : ∃ V49, V49 = w48.setCells (b46) 0 [.bool y2.A.n, .slice y2.A.A y2.A.xs.length y2.A.c, .bool y2.A.m, .slice y2.A.B y2.A.ds.length y2.A.d, .bool y2.B.n, .slice y2.B.A y2.B.xs.length y2.B.c, .bool y2.B.m, .slice y2.B.B y2.B.ds.length y2.B.d, .bool y2.C.n, .slice y2.C.A y2.C.xs.length y2.C.c, .bool y2.C.m, .slice y2.C.B y2.C.ds.length y2.C.d, .bool y2.D.n, .slice y2.D.A y2.D.xs.length y2.D.c, .bool y2.D.m, .slice y2.D.B y2.D.ds.length y2.D.d] := ⟨_, rfl⟩
     have e50 := hk51
     have hk52 := Kept.overE hk51 K40 rfl (Nat.le_of_ble_eq_true rfl)
     replace K20 := K20.awayE hk51 n42
     replace K28 := K28.awayE hk51 n43
     replace KNa_0 := KNa_0.awayE hk51 n44
     replace K40 := K40.overE hk51 rfl
     replace Z29 := Z29.putE hk51
     replace R2 := R2.kp hk52
     replace BW := Below.putE BW hk51 g45
     clear hk51 hk52
     replace K40 : Box V49 (b46) (mcs y2) := K40
     rw [← e50]
     clear e50
     clear hHeld
     refine hK.out _ _ (by exact ⟨K20.cs, KNa_0⟩) (fun hHeld => ?_)
     clear hK
     (try simp only [p0])
     refine pT 9 ?_
     (try simp only [p0, p1, p2, p3])
     refine wpAnyH_done (by kernel_rfl) (NoPanic.normal ?_) _
     go_wp2
     go_meet
     exact ⟨b46, y2, e2, rfl, rfl, BW, K28, Z29, K40, n43.symm, R2⟩
   case rest =>
    obtain ⟨pkb_0, y2, e2, rfl, rfl, BW, K28, Z29, KNb_0, nn36, R2⟩ := hcut
    have c37 := KNb_0
    have c38 := Lib.hid (st16 (P := Tryz.prog) (vs := mcs y2) K28 Z29 rfl rfl)
    obtain ⟨V39, hk41⟩ : ∃ V39, V39 = wc.setCells (w.heap.size + 1 + 1 + 1) 0 (mcs y2) := ⟨_, rfl⟩
    have e40 := Lib.hid hk41
    have hk42 := Kept.overE hk41 K28 rfl (Nat.le_of_ble_eq_true rfl)
    replace K28 := K28.overE hk41 rfl
    replace Z29 := Z29.putE hk41
    replace R2 := R2.kp hk42
    replace BW := Below.putE BW hk41 g33
    clear hk41 hk42
    replace K28 : Box V39 (w.heap.size + 1 + 1 + 1) (mcs y2) := K28
    go_wp2_with (first | (refine wpList_ldM (by rfl) (by rfl) (by rfl) c37 (by rfl) ?_))
    rw [c38.out, ← e40.out]
    go_wp2_with fail
    clear c38 e40
    clear c37
    exact bodyPost_ret (v := .tuple #[mv y2, .bool (e2 == 0)]) (res_M2 Tryz.results40 (by rfl) (by rfl) K28 rfl) rfl ⟨y2, e2 == 0, rfl, fun h => (mis_zero R2 (by simpa using h)).2.to (Mq.mul_assoc (m := Mq.space t) (n := q) (o := Mq.space x)).symm, BW⟩
  ·have he2 : (e1 == 0) = false := by simpa using he
   clear he
   obtain ⟨c36, c37, c38, c39, c40, c41, c42, c43, c44, c45, c46, c47, c48, c49, c50, c51⟩ := K28.c16
   obtain ⟨c52, c53, c54, c55, c56, c57, c58, c59, c60, c61, c62, c63, c64, c65, c66, c67⟩ := Z29.f16
   obtain ⟨V68, hk70⟩ : ∃ V68, V68 = wc.setCells (w.heap.size + 1 + 1 + 1) 0 [.bool false, .slice none 0 0, .bool false, .slice none 0 0, .bool false, .slice none 0 0, .bool false, .slice none 0 0, .bool false, .slice none 0 0, .bool false, .slice none 0 0, .bool false, .slice none 0 0, .bool false, .slice none 0 0] := ⟨_, rfl⟩
   have e69 := hk70
   simp only [World.setCells, Nat.zero_add, Nat.reduceAdd] at e69
   have hk71 := Kept.overE hk70 K28 rfl (Nat.le_of_ble_eq_true rfl)
   replace K28 := K28.overE hk70 rfl
   replace BW := Below.putE BW hk70 g33
   clear hk70 hk71
   replace K28 : Box V68 (w.heap.size + 1 + 1 + 1) (zcs16) := K28
   go_wp2_with fail
   clear c36 c37 c38 c39 c40 c41 c42 c43 c44 c45 c46 c47 c48 c49 c50 c51 c52 c53 c54 c55 c56 c57 c58 c59 c60 c61 c62 c63 c64 c65 c66 c67
   rw [← e69]
   clear e69
   exact bodyPost_ret (v := .tuple #[.agg #[.bool false, .slice none 0 0, .bool false, .slice none 0 0, .bool false, .slice none 0 0, .bool false, .slice none 0 0, .bool false, .slice none 0 0, .bool false, .slice none 0 0, .bool false, .slice none 0 0, .bool false, .slice none 0 0], .bool false]) (res_M2 Tryz.results40 (by rfl) (by rfl) K28 rfl) rfl ⟨mv0, false, rfl, fun h => (by cases h), BW⟩
end Go.Proofs.YtplgheabhekedaaGreat
