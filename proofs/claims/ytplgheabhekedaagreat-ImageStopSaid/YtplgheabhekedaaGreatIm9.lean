/-
  What ImageStop answers: yes. Conditions: that what is handed in is no longer than memory.
-/
import Derived.Test.YtplgheabhekedaaGreatIm6
import Derived.Test.YtplgheabhekedaaGreatIm4
import Derived.Test.YtplgheabhekedaaGreatIm5
import Derived.Test.YtplgheabhekedaaGreatRgy
import Derived.Deep.RegionHeld3
import Derived.Deep.DeepCutAuto
import Derived.BigRegion
namespace Go.Proofs.YtplgheabhekedaaGreat
open Go.RowKit Nb

theorem yis_zero {W : World} {z : Yq} {f : Yv} {e : Int} (h : YIs W z f e) (he : e = 0) : FitsY z ∧ Fy W z f := by
 rcases h with ⟨_, h1, h2⟩ | ⟨h1, _⟩
 ·exact ⟨h1, h2⟩
 ·omega
theorem StIs.kp {W W' : World} {q : Mq} {x : Rat} {f : Fv} {e : Int} (h : StIs W q x f e) (k : Kept W W') : StIs W' q x f e := by
 rcases h with ⟨h1, h2, h3, h4⟩ | h | h | h
 ·exact .inl ⟨h1, h2, h3, h4.kp k⟩
 ·exact .inr (.inl h)
 ·exact .inr (.inr (.inl h))
 ·exact .inr (.inr (.inr h))
theorem c_beyond2 {n1 n2 : Int} {g : Nat} {w : World} (K : Box w g [.int .i64 n1, .int .i64 n2]) : Calls Tryz.prog 19 #[.slice (some ⟨g, 0, none⟩) 2 2] w (YN w) := c_beyond (ns := [n1, n2]) (c := 2) K (by simp) (by simp)
theorem fy_mk {W : World} {r s : Rat} {a b : Fv} (h : Ff W r a) (k : Ff W s b) : Fy W ⟨r, s⟩ ⟨a, b⟩ := ⟨h, k⟩
theorem off_b {q : Mq} (hd : q.det = 1) (hz : imD q ((0 : Int) : Rat) = 0) : q.b ≠ 0 := fun h => by
 have e0 : ((0 : Int) : Rat) = 0 := rfl
 simp only [imD, Mq.det, e0] at *
 grind
theorem at_b {q : Mq} (hz : imD q ((0 : Int) : Rat) ≠ 0) : imT q ((0 : Int) : Rat) = 0 ↔ q.b = 0 := by
 have e0 : ((0 : Int) : Rat) = 0 := rfl
 rw [e0] at *
 have e : imT q 0 * imD q 0 = -(q.a * 0 + q.b) := Rat.div_mul_cancel hz
 constructor
 ·intro h; rw [h] at e; grind
 ·intro h
  rw [h] at e
  rcases Rat.mul_eq_zero.1 (show imT q 0 * imD q 0 = 0 by rw [e]; grind) with h | h
  ·exact h
  ·exact absurd h hz
theorem lim_b {q : Mq} (hd : q.det = 1) (ha : FitsQ q.a) (hz : imD q ((0 : Int) : Rat) ≠ 0) (hn : ¬ (FitsQ (imT q ((0 : Int) : Rat)) ∧ FitsQ (1 / imD q ((0 : Int) : Rat)))) : q.b ≠ 0 := fun h => hn (by
 have h1 := (at_b hz).2 h
 have e0 : ((0 : Int) : Rat) = 0 := rfl
 have h2 : imD q ((0 : Int) : Rat) = q.d := by rw [e0]; simp only [imD]; grind
 have h3 : 1 / q.d = q.a := by
  rw [h2] at hz
  have e4 : q.a * q.d = 1 := by simp only [Mq.det] at hd; grind
  have e5 : q.a = q.a * q.d / q.d := (Rat.mul_div_cancel hz).symm
  rw [e5, e4]
 rw [h1, h2, h3]
 exact ⟨⟨fits_low (by decide +kernel), fits_low (by decide +kernel)⟩, ha⟩)
theorem thr_u {q : Mq} {u : Rat} : (q.thr ⟨((0 : Int) : Rat), u⟩).y = q.b * u := by
 have e0 : ((0 : Int) : Rat) = 0 := rfl
 simp only [Mq.thr, e0]; grind
theorem edge_pos {b x : Rat} (hb : b ≠ 0) (h0 : 0 ≤ b * (x / absQ b)) (hx : 0 ≤ x) : b * (x / absQ b) = x := by
 by_cases h : b < 0
 ·have ha : absQ b = -b := by unfold absQ; rw [if_pos h]
  rw [ha] at h0 ⊢
  have e : x / -b * -b = x := Rat.div_mul_cancel (by grind)
  generalize x / -b = u at *
  have e2 : b * u = -x := by grind
  grind
 ·have ha : absQ b = b := by unfold absQ; rw [if_neg h]
  rw [ha]
  have e : x / b * b = x := Rat.div_mul_cancel hb
  rw [Rat.mul_comm]; exact e
theorem edge_neg {b x : Rat} (hb : b ≠ 0) (h0 : b * (x / absQ b) < 0) (hx : 0 ≤ x) : ((0 : Int) : Rat) - b * (x / absQ b) = x := by
 have e0 : ((0 : Int) : Rat) = 0 := rfl
 rw [e0]
 by_cases h : b < 0
 ·have ha : absQ b = -b := by unfold absQ; rw [if_pos h]
  rw [ha] at h0 ⊢
  have e : x / -b * -b = x := Rat.div_mul_cancel (by grind)
  generalize x / -b = u at *
  grind
 ·have ha : absQ b = b := by unfold absQ; rw [if_neg h]
  rw [ha] at h0
  have e : x / b * b = x := Rat.div_mul_cancel hb
  rw [Rat.mul_comm, e] at h0
  exact absurd hx (Rat.not_le.2 h0)
theorem zero_sub' {x : Rat} : ((0 : Int) : Rat) - x = -x := by
 have e0 : ((0 : Int) : Rat) = 0 := rfl
 rw [e0]; grind
set_option maxHeartbeats 16000000 in
set_option maxRecDepth 100000 in
theorem stop_walk {m : Mv} {a : Fv} {w : World} (X : Xm w m) (A : Fx w a) :
    Calls Tryz.prog 10 #[mv m, fv a] w (fun e w' => e = .returned (.bool true) ∧ Below w.heap.size w w') := by
 have HX := Lib.hid X
 have BW : Below w.heap.size w w := Below.refl _ _
 obtain ⟨V2, e3, hb4, K5, Z6, z1⟩ := alloc_new w [.bool m.A.n, .slice m.A.A m.A.xs.length m.A.c, .bool m.A.m, .slice m.A.B m.A.ds.length m.A.d, .bool m.B.n, .slice m.B.A m.B.xs.length m.B.c, .bool m.B.m, .slice m.B.B m.B.ds.length m.B.d, .bool m.C.n, .slice m.C.A m.C.xs.length m.C.c, .bool m.C.m, .slice m.C.B m.C.ds.length m.C.d, .bool m.D.n, .slice m.D.A m.D.xs.length m.D.c, .bool m.D.m, .slice m.D.B m.D.ds.length m.D.d] 31
 replace K5 : Box V2 (w.heap.size) (mcs m) := K5
 have g7 : w.heap.size ≤ w.heap.size := BW.size
 replace X := X.kp (Kept.of hb4)
 replace A := A.kp (Kept.of hb4)
 replace BW := BW.trans (hb4.mono BW.size)
 clear hb4
 obtain ⟨V8, e9, hb10, K11, Z12, -⟩ := alloc_new V2 [.bool a.n, .slice a.A a.xs.length a.c, .bool a.m, .slice a.B a.ds.length a.d] 29
 rw [z1] at K11 Z12
 have n13 : w.heap.size ≠ w.heap.size + 1 := Nat.ne_of_lt (z1 ▸ K5.lt)
 have g14 : w.heap.size ≤ w.heap.size + 1 := z1 ▸ BW.size
 replace K5 := K5.on hb10
 replace Z6 := Z6.on hb10
 replace X := X.kp (Kept.of hb10)
 replace A := A.kp (Kept.of hb10)
 replace BW := BW.trans (hb10.mono BW.size)
 clear hb10
 clear z1
 go_enter Tryz.func10, Tryz.ntmps10
 go_wp2_with fail
 rw [← e3, ← e9]
 clear e3 e9
 go_cut [20] (fun sw0 wx => ∃  (r : Bool), sw0 = .bool r ∧ Below w.heap.size w wx ∧ Box wx (w.heap.size) (mcs m) ∧ Box wx (w.heap.size + 1) [.bool a.n, .slice a.A a.xs.length a.c, .bool a.m, .slice a.B a.ds.length a.d] ∧ Fz wx (w.heap.size) ∧ Fz wx (w.heap.size + 1) ∧ Xm wx m ∧ Fx wx a)
 case first =>
  refine wp_region_noPanic ?_
  have hb : Below V8.heap.size V8 V8.drew := (Below.refl _ _).drew
  replace K5 := K5.on hb
  replace K11 := K11.on hb
  replace Z6 := Z6.on hb
  replace Z12 := Z12.on hb
  replace X := X.kp (Kept.of hb)
  replace A := A.kp (Kept.of hb)
  replace BW := BW.trans (hb.mono BW.size)
  clear hb
  refine wp_region_held_drew (S := (fun wx => Box wx (w.heap.size) [.bool m.A.n, .slice m.A.A m.A.xs.length m.A.c, .bool m.A.m, .slice m.A.B m.A.ds.length m.A.d, .bool m.B.n, .slice m.B.A m.B.xs.length m.B.c, .bool m.B.m, .slice m.B.B m.B.ds.length m.B.d, .bool m.C.n, .slice m.C.A m.C.xs.length m.C.c, .bool m.C.m, .slice m.C.B m.C.ds.length m.C.d, .bool m.D.n, .slice m.D.A m.D.xs.length m.D.c, .bool m.D.m, .slice m.D.B m.D.ds.length m.D.d] ∧ Cs wx (w.heap.size + 1) 0 [.bool a.n, .slice a.A a.xs.length a.c, .bool a.m, .slice a.B a.ds.length a.d])) (by kernel_rfl) (by exact ⟨K5, K11.cs⟩) (fun hHeld => ?_)
  generalize V8.drew = Vd15 at *
  refine pT 0 ?_ (hy := fun wt hSw => ldM rfl rfl hSw.1)
  (try simp only [p0, p1, p2, p3])
  refine pT 2 ?_
  (try simp only [p0, p1, p2, p3])
  refine pR1 1 (fun K hK => ?_)
  go_simp
  (go_at_call 35; with_reducible refine (c_matrix X).mono ?_)
  rintro _ w16 ⟨n1, rfl, hb⟩
  (try go_wp2_with fail)
  replace K5 := K5.on hb
  replace K11 := K11.on hb
  replace Z6 := Z6.on hb
  replace Z12 := Z12.on hb
  replace X := X.kp (Kept.of hb)
  replace A := A.kp (Kept.of hb)
  replace BW := BW.trans (hb.mono BW.size)
  clear hb
  clear hHeld
  refine hK.out _ _ (by exact ⟨K5, K11.cs⟩) (fun hHeld => ?_)
  clear hK
  (try simp only [p0, p1, p2, p3])
  refine pR1 3 (fun K hK => ?_)
  go_simp
  (go_at_call 37; with_reducible refine (c_frac A).mono ?_)
  rintro _ w17 ⟨n2, rfl, hb⟩
  (try go_wp2_with fail)
  replace K5 := K5.on hb
  replace K11 := K11.on hb
  replace Z6 := Z6.on hb
  replace Z12 := Z12.on hb
  replace X := X.kp (Kept.of hb)
  replace A := A.kp (Kept.of hb)
  replace BW := BW.trans (hb.mono BW.size)
  clear hb
  clear hHeld
  refine hK.out _ _ (by exact ⟨K5, K11.cs⟩) (fun hHeld => ?_)
  clear hK
  (try simp only [p0, p1, p2, p3])
  refine pR1 4 (fun K hK => ?_)
  go_simp
  obtain ⟨V18, e19, hb20, K21, -, -⟩ := alloc_new w17 [.int .i64 n1, .int .i64 n2] 3
  have n22 : w.heap.size ≠ w17.heap.size := Nat.ne_of_lt (K5.lt)
  have n23 : w.heap.size + 1 ≠ w17.heap.size := Nat.ne_of_lt (K11.lt)
  replace K5 := K5.on hb20
  replace K11 := K11.on hb20
  replace Z6 := Z6.on hb20
  replace Z12 := Z12.on hb20
  replace X := X.kp (Kept.of hb20)
  replace A := A.kp (Kept.of hb20)
  replace BW := BW.trans (hb20.mono BW.size)
  clear hb20
  rw [← e19]
  clear e19
  generalize w17.heap.size = b24 at *
  clear hHeld
  refine hK.out _ _ (by exact ⟨K5, K11.cs⟩) (fun hHeld => ?_)
  clear hK
  (try simp only [p0, p1, p2, p3])
  refine pR1 5 (fun K hK => ?_)
  go_simp
  (go_at_call 19; with_reducible refine (c_beyond2 K21).mono ?_)
  rintro _ w25 ⟨r, rfl, hb⟩
  (try go_wp2_with fail)
  replace K5 := K5.on hb
  replace K11 := K11.on hb
  replace Z6 := Z6.on hb
  replace Z12 := Z12.on hb
  replace X := X.kp (Kept.of hb)
  replace A := A.kp (Kept.of hb)
  replace BW := BW.trans (hb.mono BW.size)
  clear hb
  clear hHeld
  refine hK.out _ _ (by exact ⟨K5, K11.cs⟩) (fun hHeld => ?_)
  clear hK
  (try simp only [p0, p1, p2, p3])
  refine wpAnyH_done (by kernel_rfl) (NoPanic.normal ?_) _
  go_wp2
  go_meet
  exact ⟨r, rfl, BW, K5, K11, Z6, Z12, X, A⟩
 case rest =>
  obtain ⟨r, rfl, BW, K5, K11, Z6, Z12, X, A⟩ := hcut
  cases r
  ·have c15 : Box wc (w.heap.size) [.bool m.A.n, .slice m.A.A m.A.xs.length m.A.c, .bool m.A.m, .slice m.A.B m.A.ds.length m.A.d, .bool m.B.n, .slice m.B.A m.B.xs.length m.B.c, .bool m.B.m, .slice m.B.B m.B.ds.length m.B.d, .bool m.C.n, .slice m.C.A m.C.xs.length m.C.c, .bool m.C.m, .slice m.C.B m.C.ds.length m.C.d, .bool m.D.n, .slice m.D.A m.D.xs.length m.D.c, .bool m.D.m, .slice m.D.B m.D.ds.length m.D.d] := K5
   go_wp2_with (first | (refine wpList_ldM (by rfl) (by rfl) (by rfl) c15 (by rfl) ?_))
   clear c15
   by_cases hM : MayM w m
   ·obtain ⟨q, G0, hd⟩ := hM
    obtain ⟨q2, G, hd2⟩ := MayM.at X ⟨q, G0, hd⟩
    obtain rfl : q2 = q := G.uniq G0
    have HD := Lib.hid hd2
    clear hd hd2 G0 X
    have HA0 := Lib.hid A
    refine (i_Sharp G HD.out).mono ?_
    rintro _ w16 ⟨s, rfl, hs, hb⟩
    replace K5 := K5.on hb
    replace K11 := K11.on hb
    replace Z6 := Z6.on hb
    replace Z12 := Z12.on hb
    replace A := A.kp (Kept.of hb)
    replace G := G.kp (Kept.of hb)
    replace BW := BW.trans (hb.mono BW.size)
    clear hb
    have HS := Lib.hid hs
    clear hs
    go_wp2_with fail
    go_cut [7, 8, 9] (fun sv0 sv1 sw0 wx => ∃ (pka_0 pka_1 : Nat) (f : Fv) (g : Fv) (er : Int), sv0 = .pointer (some ⟨pka_0, 0, none⟩) ∧ sv1 = .pointer (some ⟨pka_1, 0, none⟩) ∧ sw0 = .int .i64 er ∧ Below w.heap.size w wx ∧ Box wx (w.heap.size) (mcs m) ∧ Box wx (w.heap.size + 1) [.bool a.n, .slice a.A a.xs.length a.c, .bool a.m, .slice a.B a.ds.length a.d] ∧ Fz wx (w.heap.size) ∧ Fz wx (w.heap.size + 1) ∧ Fx wx a ∧ Fm wx (q2) m ∧ Box wx pka_0 [.bool f.n, .slice f.A f.xs.length f.c, .bool f.m, .slice f.B f.ds.length f.d] ∧ Box wx pka_1 [.bool g.n, .slice g.A g.xs.length g.c, .bool g.m, .slice g.B g.ds.length g.d] ∧ pka_0 ≠ w.heap.size ∧ pka_0 ≠ w.heap.size + 1 ∧ pka_1 ≠ w.heap.size ∧ pka_1 ≠ w.heap.size + 1 ∧ ImIs wx q2 ((0 : Int) : Rat) f g er)
    case first =>
     refine wp_region_noPanic ?_
     have hb : Below w16.heap.size w16 w16.drew := (Below.refl _ _).drew
     replace K5 := K5.on hb
     replace K11 := K11.on hb
     replace Z6 := Z6.on hb
     replace Z12 := Z12.on hb
     replace A := A.kp (Kept.of hb)
     replace G := G.kp (Kept.of hb)
     replace BW := BW.trans (hb.mono BW.size)
     clear hb
     refine wp_region_held_drew (S := (fun wx => Box wx (w.heap.size) [.bool m.A.n, .slice m.A.A m.A.xs.length m.A.c, .bool m.A.m, .slice m.A.B m.A.ds.length m.A.d, .bool m.B.n, .slice m.B.A m.B.xs.length m.B.c, .bool m.B.m, .slice m.B.B m.B.ds.length m.B.d, .bool m.C.n, .slice m.C.A m.C.xs.length m.C.c, .bool m.C.m, .slice m.C.B m.C.ds.length m.C.d, .bool m.D.n, .slice m.D.A m.D.xs.length m.D.c, .bool m.D.m, .slice m.D.B m.D.ds.length m.D.d])) (by kernel_rfl) (by exact K5) (fun hHeld => ?_)
     generalize w16.drew = Vd17 at *
     refine pT 0 ?_ (hy := fun wt hSw => ldM rfl rfl hSw)
     (try simp only [p0, p1, p2, p3])
     clear hHeld
     refine nameH (fun OP QQ AA hOP hQQ hAA => ?_)
     have kya_2_3 : ∀ (o : Fv) (f : Fv) (g : Fv) (er : Int) (kq0 : Nat) (kq1 : Nat) (W : World) (hw : Below Vd17.heap.size Vd17 W) (O : Ff W (((0 : Int) : Rat)) o) (R : ImIs W q2 ((0 : Int) : Rat) f g er) (kb0 : Box W kq0 [.bool false, .slice none 0 0, .bool false, .slice none 0 0]) (kz0 : Fz W kq0) (kg0 : Vd17.heap.size ≤ kq0) (kb1 : Box W kq1 [.bool false, .slice none 0 0, .bool false, .slice none 0 0]) (kz1 : Fz W kq1) (kg1 : Vd17.heap.size ≤ kq1) (kn01 : kq0 ≠ kq1), wpAnyH Tryz.prog .any OP QQ (fun wx => Box wx (w.heap.size) [.bool m.A.n, .slice m.A.A m.A.xs.length m.A.c, .bool m.A.m, .slice m.A.B m.A.ds.length m.A.d, .bool m.B.n, .slice m.B.A m.B.xs.length m.B.c, .bool m.B.m, .slice m.B.B m.B.ds.length m.B.d, .bool m.C.n, .slice m.C.A m.C.xs.length m.C.c, .bool m.C.m, .slice m.C.B m.C.ds.length m.C.d, .bool m.D.n, .slice m.D.A m.D.xs.length m.D.c, .bool m.D.m, .slice m.D.B m.D.ds.length m.D.d]) 3 #[true, true, true, true, true, true, true, true, true, false, false, false] ((((((((AA.put (some 39) (.agg #[.bool o.n, .slice o.A o.xs.length o.c, .bool o.m, .slice o.B o.ds.length o.d])).put (some 40) (.tuple #[.agg #[.bool f.n, .slice f.A f.xs.length f.c, .bool f.m, .slice f.B f.ds.length f.d], .agg #[.bool g.n, .slice g.A g.xs.length g.c, .bool g.m, .slice g.B g.ds.length g.d], .int .i64 er])).put (some 7) (.pointer (some ⟨kq0, 0, none⟩))).put (some 8) (.pointer (some ⟨kq1, 0, none⟩))).put (some 37) (.tuple #[.agg #[.bool f.n, .slice f.A f.xs.length f.c, .bool f.m, .slice f.B f.ds.length f.d], .agg #[.bool g.n, .slice g.A g.xs.length g.c, .bool g.m, .slice g.B g.ds.length g.d], .int .i64 er])).put (some 41) (.agg #[.bool f.n, .slice f.A f.xs.length f.c, .bool f.m, .slice f.B f.ds.length f.d])).put (some 42) (.agg #[.bool g.n, .slice g.A g.xs.length g.c, .bool g.m, .slice g.B g.ds.length g.d])).put (some 43) (.int .i64 er)) W := by
      intro o f g er kq0 kq1 W hw O R kb0 kz0 kg0 kb1 kz1 kg1 kn01
      subst hOP
      subst hQQ
      subst hAA
      (try simp only [p0, p1, p2, p3])
      have gw0 : w.heap.size ≤ kq0 := Nat.le_trans BW.size kg0
      have xK50 : w.heap.size ≠ kq0 := Nat.ne_of_lt (Nat.lt_of_lt_of_le K5.lt kg0)
      have xK110 : w.heap.size + 1 ≠ kq0 := Nat.ne_of_lt (Nat.lt_of_lt_of_le K11.lt kg0)
      have gw1 : w.heap.size ≤ kq1 := Nat.le_trans BW.size kg1
      have xK51 : w.heap.size ≠ kq1 := Nat.ne_of_lt (Nat.lt_of_lt_of_le K5.lt kg1)
      have xK111 : w.heap.size + 1 ≠ kq1 := Nat.ne_of_lt (Nat.lt_of_lt_of_le K11.lt kg1)
      replace K5 := K5.on hw
      replace Z6 := Z6.on hw
      replace K11 := K11.on hw
      replace Z12 := Z12.on hw
      replace A := A.kp (Kept.of hw)
      replace G := G.kp (Kept.of hw)
      replace BW := BW.trans (hw.mono BW.size)
      refine pR1 9 (fun K hK => ?_)
      obtain ⟨c18, c19, c20, c21⟩ := kb0.c4
      obtain ⟨c22, c23, c24, c25⟩ := kz0.f4
      go_simp
      clear c18 c19 c20 c21 c22 c23 c24 c25
      obtain ⟨V26, hk28⟩ : ∃ V26, V26 = W.setCells (kq0) 0 [.bool f.n, .slice f.A f.xs.length f.c, .bool f.m, .slice f.B f.ds.length f.d] := ⟨_, rfl⟩
      have e27 := hk28
      simp only [World.setCells, Nat.zero_add, Nat.reduceAdd] at e27
      have hk29 := Kept.overE hk28 kb0 rfl (Nat.le_of_ble_eq_true rfl)
      replace K5 := K5.awayE hk28 xK50
      replace K11 := K11.awayE hk28 xK110
      replace kb0 := kb0.overE hk28 rfl
      replace kb1 := kb1.awayE hk28 kn01.symm
      replace Z6 := Z6.putE hk28
      replace Z12 := Z12.putE hk28
      replace kz0 := kz0.putE hk28
      replace kz1 := kz1.putE hk28
      replace A := A.kp hk29
      replace G := G.kp hk29
      replace O := O.kp hk29
      replace R := R.kp hk29
      replace BW := Below.putE BW hk28 gw0
      clear hk28 hk29
      rw [← e27]
      clear e27
      refine hK.out _ _ (by exact K5) (fun hHeld => ?_)
      clear hK
      (try simp only [p1, p2, p3])
      clear hHeld
      refine pR1 10 (fun K hK => ?_)
      obtain ⟨c30, c31, c32, c33⟩ := kb1.c4
      obtain ⟨c34, c35, c36, c37⟩ := kz1.f4
      go_simp
      clear c30 c31 c32 c33 c34 c35 c36 c37
      obtain ⟨V38, hk40⟩ : ∃ V38, V38 = V26.setCells (kq1) 0 [.bool g.n, .slice g.A g.xs.length g.c, .bool g.m, .slice g.B g.ds.length g.d] := ⟨_, rfl⟩
      have e39 := hk40
      simp only [World.setCells, Nat.zero_add, Nat.reduceAdd] at e39
      have hk41 := Kept.overE hk40 kb1 rfl (Nat.le_of_ble_eq_true rfl)
      replace K5 := K5.awayE hk40 xK51
      replace K11 := K11.awayE hk40 xK111
      replace kb0 := kb0.awayE hk40 kn01
      replace kb1 := kb1.overE hk40 rfl
      replace Z6 := Z6.putE hk40
      replace Z12 := Z12.putE hk40
      replace kz0 := kz0.putE hk40
      replace kz1 := kz1.putE hk40
      replace A := A.kp hk41
      replace G := G.kp hk41
      replace O := O.kp hk41
      replace R := R.kp hk41
      replace BW := Below.putE BW hk40 gw1
      clear hk40 hk41
      rw [← e39]
      clear e39
      refine hK.out _ _ (by exact K5) (fun hHeld => ?_)
      clear hK
      (try simp only [p1, p2, p3])
      clear hHeld
      have hHeld : (fun wx => Box wx (w.heap.size) [.bool m.A.n, .slice m.A.A m.A.xs.length m.A.c, .bool m.A.m, .slice m.A.B m.A.ds.length m.A.d, .bool m.B.n, .slice m.B.A m.B.xs.length m.B.c, .bool m.B.m, .slice m.B.B m.B.ds.length m.B.d, .bool m.C.n, .slice m.C.A m.C.xs.length m.C.c, .bool m.C.m, .slice m.C.B m.C.ds.length m.C.d, .bool m.D.n, .slice m.D.A m.D.xs.length m.D.c, .bool m.D.m, .slice m.D.B m.D.ds.length m.D.d]) V38 := (by exact K5)
      refine pT 11 ?_
      (try simp only [p0, p1, p2, p3])
      clear hHeld
      refine wpAnyH_done (by kernel_rfl) (NoPanic.normal ?_) _
      go_wp2
      go_meet
      exact ⟨kq0, kq1, f, g, er, rfl, rfl, rfl, BW, K5, K11, Z6, Z12, A, G, kb0, kb1, xK50.symm, xK110.symm, xK51.symm, xK111.symm, R⟩
     have kya_1_3 : ∀ (o : Fv) (kq0 : Nat) (kq1 : Nat) (W : World) (hw : Below Vd17.heap.size Vd17 W) (O : Ff W (((0 : Int) : Rat)) o) (kb0 : Box W kq0 [.bool false, .slice none 0 0, .bool false, .slice none 0 0]) (kz0 : Fz W kq0) (kg0 : Vd17.heap.size ≤ kq0) (kb1 : Box W kq1 [.bool false, .slice none 0 0, .bool false, .slice none 0 0]) (kz1 : Fz W kq1) (kg1 : Vd17.heap.size ≤ kq1) (kn01 : kq0 ≠ kq1), wpAnyH Tryz.prog .any OP QQ (fun wx => Box wx (w.heap.size) [.bool m.A.n, .slice m.A.A m.A.xs.length m.A.c, .bool m.A.m, .slice m.A.B m.A.ds.length m.A.d, .bool m.B.n, .slice m.B.A m.B.xs.length m.B.c, .bool m.B.m, .slice m.B.B m.B.ds.length m.B.d, .bool m.C.n, .slice m.C.A m.C.xs.length m.C.c, .bool m.C.m, .slice m.C.B m.C.ds.length m.C.d, .bool m.D.n, .slice m.D.A m.D.xs.length m.D.c, .bool m.D.m, .slice m.D.B m.D.ds.length m.D.d]) 8 #[true, true, false, false, false, false, false, true, true, false, false, false] (((AA.put (some 39) (.agg #[.bool o.n, .slice o.A o.xs.length o.c, .bool o.m, .slice o.B o.ds.length o.d])).put (some 7) (.pointer (some ⟨kq0, 0, none⟩))).put (some 8) (.pointer (some ⟨kq1, 0, none⟩))) W := by
      intro o kq0 kq1 W hw O kb0 kz0 kg0 kb1 kz1 kg1 kn01
      subst hOP
      subst hQQ
      subst hAA
      (try simp only [p0, p1, p2, p3])
      refine pR1 2 (fun K hK => ?_)
      replace G := G.kp (Kept.of hw)
      replace K5 := K5.on hw
      go_simp
      (go_at_call 38; with_reducible refine (i_Image G O HD.out).mono ?_)
      rintro _ W2 ⟨f, g, er, rfl, R, hb⟩
      (try go_wp2_with fail)
      have hw2 := hw.trans (hb.mono hw.size)
      refine hK.out _ _ (by exact K5.on hb) (fun hHeld => ?_)
      clear hK
      (try simp only [p1, p2, p3])
      refine pT 3 ?_
      (try simp only [p0, p1, p2, p3])
      refine pT 4 ?_
      (try simp only [p0, p1, p2, p3])
      refine pT 5 ?_
      (try simp only [p0, p1, p2, p3])
      refine pT 6 ?_
      (try simp only [p0, p1, p2, p3])
      have ky := kya_2_3 o f g er kq0 kq1 W2 hw2 (O.kp (Kept.of hb)) R (kb0.on hb) (kz0.on hb) kg0 (kb1.on hb) (kz1.on hb) kg1 kn01
      (try simp only [p0, p1, p2, p3] at ky)
      exact castL (by kernel_rfl) ky
     have kya_2_1 : ∀ (o : Fv) (f : Fv) (g : Fv) (er : Int) (kq0 : Nat) (W : World) (hw : Below Vd17.heap.size Vd17 W) (O : Ff W (((0 : Int) : Rat)) o) (R : ImIs W q2 ((0 : Int) : Rat) f g er) (kb0 : Box W kq0 [.bool false, .slice none 0 0, .bool false, .slice none 0 0]) (kz0 : Fz W kq0) (kg0 : Vd17.heap.size ≤ kq0) , wpAnyH Tryz.prog .any OP QQ (fun wx => Box wx (w.heap.size) [.bool m.A.n, .slice m.A.A m.A.xs.length m.A.c, .bool m.A.m, .slice m.A.B m.A.ds.length m.A.d, .bool m.B.n, .slice m.B.A m.B.xs.length m.B.c, .bool m.B.m, .slice m.B.B m.B.ds.length m.B.d, .bool m.C.n, .slice m.C.A m.C.xs.length m.C.c, .bool m.C.m, .slice m.C.B m.C.ds.length m.C.d, .bool m.D.n, .slice m.D.A m.D.xs.length m.D.c, .bool m.D.m, .slice m.D.B m.D.ds.length m.D.d]) 4 #[true, true, true, true, true, true, true, true, false, false, false, false] (((((((AA.put (some 39) (.agg #[.bool o.n, .slice o.A o.xs.length o.c, .bool o.m, .slice o.B o.ds.length o.d])).put (some 40) (.tuple #[.agg #[.bool f.n, .slice f.A f.xs.length f.c, .bool f.m, .slice f.B f.ds.length f.d], .agg #[.bool g.n, .slice g.A g.xs.length g.c, .bool g.m, .slice g.B g.ds.length g.d], .int .i64 er])).put (some 7) (.pointer (some ⟨kq0, 0, none⟩))).put (some 37) (.tuple #[.agg #[.bool f.n, .slice f.A f.xs.length f.c, .bool f.m, .slice f.B f.ds.length f.d], .agg #[.bool g.n, .slice g.A g.xs.length g.c, .bool g.m, .slice g.B g.ds.length g.d], .int .i64 er])).put (some 41) (.agg #[.bool f.n, .slice f.A f.xs.length f.c, .bool f.m, .slice f.B f.ds.length f.d])).put (some 42) (.agg #[.bool g.n, .slice g.A g.xs.length g.c, .bool g.m, .slice g.B g.ds.length g.d])).put (some 43) (.int .i64 er)) W := by
      intro o f g er kq0 W hw O R kb0 kz0 kg0
      subst hOP
      subst hQQ
      subst hAA
      (try simp only [p0, p1, p2, p3])
      refine pR1 8 (fun K hK => ?_)
      replace K5 := K5.on hw
      go_simp
      obtain ⟨V2, e2, hb, K2, Z2, -⟩ := alloc_new W [.bool false, .slice none 0 0, .bool false, .slice none 0 0] 29
      rw [← e2]
      clear e2
      have hw2 := hw.trans (hb.mono hw.size)
      refine hK.out _ _ (by exact K5.on hb) (fun hHeld => ?_)
      clear hK
      (try simp only [p1, p2, p3])
      have ky := kya_2_3 o f g er kq0 W.heap.size V2 hw2 (O.kp (Kept.of hb)) (R.kp (Kept.of hb)) (kb0.on hb) (kz0.on hb) kg0 K2 Z2 hw.size (Nat.ne_of_lt kb0.lt)
      (try simp only [p0, p1, p2, p3] at ky)
      exact castL (by kernel_rfl) ky
     have kya_2_2 : ∀ (o : Fv) (f : Fv) (g : Fv) (er : Int) (kq1 : Nat) (W : World) (hw : Below Vd17.heap.size Vd17 W) (O : Ff W (((0 : Int) : Rat)) o) (R : ImIs W q2 ((0 : Int) : Rat) f g er) (kb1 : Box W kq1 [.bool false, .slice none 0 0, .bool false, .slice none 0 0]) (kz1 : Fz W kq1) (kg1 : Vd17.heap.size ≤ kq1) , wpAnyH Tryz.prog .any OP QQ (fun wx => Box wx (w.heap.size) [.bool m.A.n, .slice m.A.A m.A.xs.length m.A.c, .bool m.A.m, .slice m.A.B m.A.ds.length m.A.d, .bool m.B.n, .slice m.B.A m.B.xs.length m.B.c, .bool m.B.m, .slice m.B.B m.B.ds.length m.B.d, .bool m.C.n, .slice m.C.A m.C.xs.length m.C.c, .bool m.C.m, .slice m.C.B m.C.ds.length m.C.d, .bool m.D.n, .slice m.D.A m.D.xs.length m.D.c, .bool m.D.m, .slice m.D.B m.D.ds.length m.D.d]) 4 #[true, true, true, true, true, true, true, false, true, false, false, false] (((((((AA.put (some 39) (.agg #[.bool o.n, .slice o.A o.xs.length o.c, .bool o.m, .slice o.B o.ds.length o.d])).put (some 40) (.tuple #[.agg #[.bool f.n, .slice f.A f.xs.length f.c, .bool f.m, .slice f.B f.ds.length f.d], .agg #[.bool g.n, .slice g.A g.xs.length g.c, .bool g.m, .slice g.B g.ds.length g.d], .int .i64 er])).put (some 8) (.pointer (some ⟨kq1, 0, none⟩))).put (some 37) (.tuple #[.agg #[.bool f.n, .slice f.A f.xs.length f.c, .bool f.m, .slice f.B f.ds.length f.d], .agg #[.bool g.n, .slice g.A g.xs.length g.c, .bool g.m, .slice g.B g.ds.length g.d], .int .i64 er])).put (some 41) (.agg #[.bool f.n, .slice f.A f.xs.length f.c, .bool f.m, .slice f.B f.ds.length f.d])).put (some 42) (.agg #[.bool g.n, .slice g.A g.xs.length g.c, .bool g.m, .slice g.B g.ds.length g.d])).put (some 43) (.int .i64 er)) W := by
      intro o f g er kq1 W hw O R kb1 kz1 kg1
      subst hOP
      subst hQQ
      subst hAA
      (try simp only [p0, p1, p2, p3])
      refine pR1 7 (fun K hK => ?_)
      replace K5 := K5.on hw
      go_simp
      obtain ⟨V2, e2, hb, K2, Z2, -⟩ := alloc_new W [.bool false, .slice none 0 0, .bool false, .slice none 0 0] 29
      rw [← e2]
      clear e2
      have hw2 := hw.trans (hb.mono hw.size)
      refine hK.out _ _ (by exact K5.on hb) (fun hHeld => ?_)
      clear hK
      (try simp only [p1, p2, p3])
      have ky := kya_2_3 o f g er W.heap.size kq1 V2 hw2 (O.kp (Kept.of hb)) (R.kp (Kept.of hb)) K2 Z2 hw.size (kb1.on hb) (kz1.on hb) kg1 (Nat.ne_of_lt kb1.lt).symm
      (try simp only [p0, p1, p2, p3] at ky)
      exact castL (by kernel_rfl) ky
     have kya_0_3 : ∀  (kq0 : Nat) (kq1 : Nat) (W : World) (hw : Below Vd17.heap.size Vd17 W)  (kb0 : Box W kq0 [.bool false, .slice none 0 0, .bool false, .slice none 0 0]) (kz0 : Fz W kq0) (kg0 : Vd17.heap.size ≤ kq0) (kb1 : Box W kq1 [.bool false, .slice none 0 0, .bool false, .slice none 0 0]) (kz1 : Fz W kq1) (kg1 : Vd17.heap.size ≤ kq1) (kn01 : kq0 ≠ kq1), wpAnyH Tryz.prog .any OP QQ (fun wx => Box wx (w.heap.size) [.bool m.A.n, .slice m.A.A m.A.xs.length m.A.c, .bool m.A.m, .slice m.A.B m.A.ds.length m.A.d, .bool m.B.n, .slice m.B.A m.B.xs.length m.B.c, .bool m.B.m, .slice m.B.B m.B.ds.length m.B.d, .bool m.C.n, .slice m.C.A m.C.xs.length m.C.c, .bool m.C.m, .slice m.C.B m.C.ds.length m.C.d, .bool m.D.n, .slice m.D.A m.D.xs.length m.D.c, .bool m.D.m, .slice m.D.B m.D.ds.length m.D.d]) 9 #[true, false, false, false, false, false, false, true, true, false, false, false] ((AA.put (some 7) (.pointer (some ⟨kq0, 0, none⟩))).put (some 8) (.pointer (some ⟨kq1, 0, none⟩))) W := by
      intro kq0 kq1 W hw kb0 kz0 kg0 kb1 kz1 kg1 kn01
      subst hOP
      subst hQQ
      subst hAA
      (try simp only [p0, p1, p2, p3])
      refine pR1 1 (fun K hK => ?_)
      replace K5 := K5.on hw
      go_simp
      (go_at_call 43; with_reducible refine (w_int (n := 0) (by decide) (by decide)).mono ?_)
      rintro _ W2 ⟨o, rfl, O, hb⟩
      (try go_wp2_with fail)
      have hw2 := hw.trans (hb.mono hw.size)
      refine hK.out _ _ (by exact K5.on hb) (fun hHeld => ?_)
      clear hK
      (try simp only [p1, p2, p3])
      have ky := kya_1_3 o kq0 kq1 W2 hw2 O (kb0.on hb) (kz0.on hb) kg0 (kb1.on hb) (kz1.on hb) kg1 kn01
      (try simp only [p0, p1, p2, p3] at ky)
      exact castL (by kernel_rfl) ky
     have kya_1_1 : ∀ (o : Fv) (kq0 : Nat) (W : World) (hw : Below Vd17.heap.size Vd17 W) (O : Ff W (((0 : Int) : Rat)) o) (kb0 : Box W kq0 [.bool false, .slice none 0 0, .bool false, .slice none 0 0]) (kz0 : Fz W kq0) (kg0 : Vd17.heap.size ≤ kq0) , wpAnyH Tryz.prog .any OP QQ (fun wx => Box wx (w.heap.size) [.bool m.A.n, .slice m.A.A m.A.xs.length m.A.c, .bool m.A.m, .slice m.A.B m.A.ds.length m.A.d, .bool m.B.n, .slice m.B.A m.B.xs.length m.B.c, .bool m.B.m, .slice m.B.B m.B.ds.length m.B.d, .bool m.C.n, .slice m.C.A m.C.xs.length m.C.c, .bool m.C.m, .slice m.C.B m.C.ds.length m.C.d, .bool m.D.n, .slice m.D.A m.D.xs.length m.D.c, .bool m.D.m, .slice m.D.B m.D.ds.length m.D.d]) 9 #[true, true, false, false, false, false, false, true, false, false, false, false] ((AA.put (some 39) (.agg #[.bool o.n, .slice o.A o.xs.length o.c, .bool o.m, .slice o.B o.ds.length o.d])).put (some 7) (.pointer (some ⟨kq0, 0, none⟩))) W := by
      intro o kq0 W hw O kb0 kz0 kg0
      subst hOP
      subst hQQ
      subst hAA
      (try simp only [p0, p1, p2, p3])
      refine pR2 2 8 (fun K hK => ?_) (fun K hK => ?_)
      ·replace G := G.kp (Kept.of hw)
       replace K5 := K5.on hw
       go_simp
       (go_at_call 38; with_reducible refine (i_Image G O HD.out).mono ?_)
       rintro _ W2 ⟨f, g, er, rfl, R, hb⟩
       (try go_wp2_with fail)
       have hw2 := hw.trans (hb.mono hw.size)
       refine hK.out _ _ (by exact K5.on hb) (fun hHeld => ?_)
       clear hK
       (try simp only [p1, p2, p3])
       refine pT 3 ?_
       (try simp only [p0, p1, p2, p3])
       refine pT 4 ?_
       (try simp only [p0, p1, p2, p3])
       refine pT 5 ?_
       (try simp only [p0, p1, p2, p3])
       refine pT 6 ?_
       (try simp only [p0, p1, p2, p3])
       have ky := kya_2_1 o f g er kq0 W2 hw2 (O.kp (Kept.of hb)) R (kb0.on hb) (kz0.on hb) kg0 
       (try simp only [p0, p1, p2, p3] at ky)
       exact castL (by kernel_rfl) ky
      ·replace K5 := K5.on hw
       go_simp
       obtain ⟨V2, e2, hb, K2, Z2, -⟩ := alloc_new W [.bool false, .slice none 0 0, .bool false, .slice none 0 0] 29
       rw [← e2]
       clear e2
       have hw2 := hw.trans (hb.mono hw.size)
       refine hK.out _ _ (by exact K5.on hb) (fun hHeld => ?_)
       clear hK
       (try simp only [p1, p2, p3])
       have ky := kya_1_3 o kq0 W.heap.size V2 hw2 (O.kp (Kept.of hb)) (kb0.on hb) (kz0.on hb) kg0 K2 Z2 hw.size (Nat.ne_of_lt kb0.lt)
       (try simp only [p0, p1, p2, p3] at ky)
       exact castL (by kernel_rfl) ky
     have kya_1_2 : ∀ (o : Fv) (kq1 : Nat) (W : World) (hw : Below Vd17.heap.size Vd17 W) (O : Ff W (((0 : Int) : Rat)) o) (kb1 : Box W kq1 [.bool false, .slice none 0 0, .bool false, .slice none 0 0]) (kz1 : Fz W kq1) (kg1 : Vd17.heap.size ≤ kq1) , wpAnyH Tryz.prog .any OP QQ (fun wx => Box wx (w.heap.size) [.bool m.A.n, .slice m.A.A m.A.xs.length m.A.c, .bool m.A.m, .slice m.A.B m.A.ds.length m.A.d, .bool m.B.n, .slice m.B.A m.B.xs.length m.B.c, .bool m.B.m, .slice m.B.B m.B.ds.length m.B.d, .bool m.C.n, .slice m.C.A m.C.xs.length m.C.c, .bool m.C.m, .slice m.C.B m.C.ds.length m.C.d, .bool m.D.n, .slice m.D.A m.D.xs.length m.D.c, .bool m.D.m, .slice m.D.B m.D.ds.length m.D.d]) 9 #[true, true, false, false, false, false, false, false, true, false, false, false] ((AA.put (some 39) (.agg #[.bool o.n, .slice o.A o.xs.length o.c, .bool o.m, .slice o.B o.ds.length o.d])).put (some 8) (.pointer (some ⟨kq1, 0, none⟩))) W := by
      intro o kq1 W hw O kb1 kz1 kg1
      subst hOP
      subst hQQ
      subst hAA
      (try simp only [p0, p1, p2, p3])
      refine pR2 2 7 (fun K hK => ?_) (fun K hK => ?_)
      ·replace G := G.kp (Kept.of hw)
       replace K5 := K5.on hw
       go_simp
       (go_at_call 38; with_reducible refine (i_Image G O HD.out).mono ?_)
       rintro _ W2 ⟨f, g, er, rfl, R, hb⟩
       (try go_wp2_with fail)
       have hw2 := hw.trans (hb.mono hw.size)
       refine hK.out _ _ (by exact K5.on hb) (fun hHeld => ?_)
       clear hK
       (try simp only [p1, p2, p3])
       refine pT 3 ?_
       (try simp only [p0, p1, p2, p3])
       refine pT 4 ?_
       (try simp only [p0, p1, p2, p3])
       refine pT 5 ?_
       (try simp only [p0, p1, p2, p3])
       refine pT 6 ?_
       (try simp only [p0, p1, p2, p3])
       have ky := kya_2_2 o f g er kq1 W2 hw2 (O.kp (Kept.of hb)) R (kb1.on hb) (kz1.on hb) kg1 
       (try simp only [p0, p1, p2, p3] at ky)
       exact castL (by kernel_rfl) ky
      ·replace K5 := K5.on hw
       go_simp
       obtain ⟨V2, e2, hb, K2, Z2, -⟩ := alloc_new W [.bool false, .slice none 0 0, .bool false, .slice none 0 0] 29
       rw [← e2]
       clear e2
       have hw2 := hw.trans (hb.mono hw.size)
       refine hK.out _ _ (by exact K5.on hb) (fun hHeld => ?_)
       clear hK
       (try simp only [p1, p2, p3])
       have ky := kya_1_3 o W.heap.size kq1 V2 hw2 (O.kp (Kept.of hb)) K2 Z2 hw.size (kb1.on hb) (kz1.on hb) kg1 (Nat.ne_of_lt kb1.lt).symm
       (try simp only [p0, p1, p2, p3] at ky)
       exact castL (by kernel_rfl) ky
     have kya_2_0 : ∀ (o : Fv) (f : Fv) (g : Fv) (er : Int)  (W : World) (hw : Below Vd17.heap.size Vd17 W) (O : Ff W (((0 : Int) : Rat)) o) (R : ImIs W q2 ((0 : Int) : Rat) f g er)  , wpAnyH Tryz.prog .any OP QQ (fun wx => Box wx (w.heap.size) [.bool m.A.n, .slice m.A.A m.A.xs.length m.A.c, .bool m.A.m, .slice m.A.B m.A.ds.length m.A.d, .bool m.B.n, .slice m.B.A m.B.xs.length m.B.c, .bool m.B.m, .slice m.B.B m.B.ds.length m.B.d, .bool m.C.n, .slice m.C.A m.C.xs.length m.C.c, .bool m.C.m, .slice m.C.B m.C.ds.length m.C.d, .bool m.D.n, .slice m.D.A m.D.xs.length m.D.c, .bool m.D.m, .slice m.D.B m.D.ds.length m.D.d]) 5 #[true, true, true, true, true, true, true, false, false, false, false, false] ((((((AA.put (some 39) (.agg #[.bool o.n, .slice o.A o.xs.length o.c, .bool o.m, .slice o.B o.ds.length o.d])).put (some 40) (.tuple #[.agg #[.bool f.n, .slice f.A f.xs.length f.c, .bool f.m, .slice f.B f.ds.length f.d], .agg #[.bool g.n, .slice g.A g.xs.length g.c, .bool g.m, .slice g.B g.ds.length g.d], .int .i64 er])).put (some 37) (.tuple #[.agg #[.bool f.n, .slice f.A f.xs.length f.c, .bool f.m, .slice f.B f.ds.length f.d], .agg #[.bool g.n, .slice g.A g.xs.length g.c, .bool g.m, .slice g.B g.ds.length g.d], .int .i64 er])).put (some 41) (.agg #[.bool f.n, .slice f.A f.xs.length f.c, .bool f.m, .slice f.B f.ds.length f.d])).put (some 42) (.agg #[.bool g.n, .slice g.A g.xs.length g.c, .bool g.m, .slice g.B g.ds.length g.d])).put (some 43) (.int .i64 er)) W := by
      intro o f g er W hw O R
      subst hOP
      subst hQQ
      subst hAA
      (try simp only [p0, p1, p2, p3])
      refine pR2 7 8 (fun K hK => ?_) (fun K hK => ?_)
      ·replace K5 := K5.on hw
       go_simp
       obtain ⟨V2, e2, hb, K2, Z2, -⟩ := alloc_new W [.bool false, .slice none 0 0, .bool false, .slice none 0 0] 29
       rw [← e2]
       clear e2
       have hw2 := hw.trans (hb.mono hw.size)
       refine hK.out _ _ (by exact K5.on hb) (fun hHeld => ?_)
       clear hK
       (try simp only [p1, p2, p3])
       have ky := kya_2_1 o f g er W.heap.size V2 hw2 (O.kp (Kept.of hb)) (R.kp (Kept.of hb)) K2 Z2 hw.size 
       (try simp only [p0, p1, p2, p3] at ky)
       exact castL (by kernel_rfl) ky
      ·replace K5 := K5.on hw
       go_simp
       obtain ⟨V2, e2, hb, K2, Z2, -⟩ := alloc_new W [.bool false, .slice none 0 0, .bool false, .slice none 0 0] 29
       rw [← e2]
       clear e2
       have hw2 := hw.trans (hb.mono hw.size)
       refine hK.out _ _ (by exact K5.on hb) (fun hHeld => ?_)
       clear hK
       (try simp only [p1, p2, p3])
       have ky := kya_2_2 o f g er W.heap.size V2 hw2 (O.kp (Kept.of hb)) (R.kp (Kept.of hb)) K2 Z2 hw.size 
       (try simp only [p0, p1, p2, p3] at ky)
       exact castL (by kernel_rfl) ky
     have kya_0_1 : ∀  (kq0 : Nat) (W : World) (hw : Below Vd17.heap.size Vd17 W)  (kb0 : Box W kq0 [.bool false, .slice none 0 0, .bool false, .slice none 0 0]) (kz0 : Fz W kq0) (kg0 : Vd17.heap.size ≤ kq0) , wpAnyH Tryz.prog .any OP QQ (fun wx => Box wx (w.heap.size) [.bool m.A.n, .slice m.A.A m.A.xs.length m.A.c, .bool m.A.m, .slice m.A.B m.A.ds.length m.A.d, .bool m.B.n, .slice m.B.A m.B.xs.length m.B.c, .bool m.B.m, .slice m.B.B m.B.ds.length m.B.d, .bool m.C.n, .slice m.C.A m.C.xs.length m.C.c, .bool m.C.m, .slice m.C.B m.C.ds.length m.C.d, .bool m.D.n, .slice m.D.A m.D.xs.length m.D.c, .bool m.D.m, .slice m.D.B m.D.ds.length m.D.d]) 10 #[true, false, false, false, false, false, false, true, false, false, false, false] (AA.put (some 7) (.pointer (some ⟨kq0, 0, none⟩))) W := by
      intro kq0 W hw kb0 kz0 kg0
      subst hOP
      subst hQQ
      subst hAA
      (try simp only [p0, p1, p2, p3])
      refine pR2 1 8 (fun K hK => ?_) (fun K hK => ?_)
      ·replace K5 := K5.on hw
       go_simp
       (go_at_call 43; with_reducible refine (w_int (n := 0) (by decide) (by decide)).mono ?_)
       rintro _ W2 ⟨o, rfl, O, hb⟩
       (try go_wp2_with fail)
       have hw2 := hw.trans (hb.mono hw.size)
       refine hK.out _ _ (by exact K5.on hb) (fun hHeld => ?_)
       clear hK
       (try simp only [p1, p2, p3])
       have ky := kya_1_1 o kq0 W2 hw2 O (kb0.on hb) (kz0.on hb) kg0 
       (try simp only [p0, p1, p2, p3] at ky)
       exact castL (by kernel_rfl) ky
      ·replace K5 := K5.on hw
       go_simp
       obtain ⟨V2, e2, hb, K2, Z2, -⟩ := alloc_new W [.bool false, .slice none 0 0, .bool false, .slice none 0 0] 29
       rw [← e2]
       clear e2
       have hw2 := hw.trans (hb.mono hw.size)
       refine hK.out _ _ (by exact K5.on hb) (fun hHeld => ?_)
       clear hK
       (try simp only [p1, p2, p3])
       have ky := kya_0_3  kq0 W.heap.size V2 hw2  (kb0.on hb) (kz0.on hb) kg0 K2 Z2 hw.size (Nat.ne_of_lt kb0.lt)
       (try simp only [p0, p1, p2, p3] at ky)
       exact castL (by kernel_rfl) ky
     have kya_0_2 : ∀  (kq1 : Nat) (W : World) (hw : Below Vd17.heap.size Vd17 W)  (kb1 : Box W kq1 [.bool false, .slice none 0 0, .bool false, .slice none 0 0]) (kz1 : Fz W kq1) (kg1 : Vd17.heap.size ≤ kq1) , wpAnyH Tryz.prog .any OP QQ (fun wx => Box wx (w.heap.size) [.bool m.A.n, .slice m.A.A m.A.xs.length m.A.c, .bool m.A.m, .slice m.A.B m.A.ds.length m.A.d, .bool m.B.n, .slice m.B.A m.B.xs.length m.B.c, .bool m.B.m, .slice m.B.B m.B.ds.length m.B.d, .bool m.C.n, .slice m.C.A m.C.xs.length m.C.c, .bool m.C.m, .slice m.C.B m.C.ds.length m.C.d, .bool m.D.n, .slice m.D.A m.D.xs.length m.D.c, .bool m.D.m, .slice m.D.B m.D.ds.length m.D.d]) 10 #[true, false, false, false, false, false, false, false, true, false, false, false] (AA.put (some 8) (.pointer (some ⟨kq1, 0, none⟩))) W := by
      intro kq1 W hw kb1 kz1 kg1
      subst hOP
      subst hQQ
      subst hAA
      (try simp only [p0, p1, p2, p3])
      refine pR2 1 7 (fun K hK => ?_) (fun K hK => ?_)
      ·replace K5 := K5.on hw
       go_simp
       (go_at_call 43; with_reducible refine (w_int (n := 0) (by decide) (by decide)).mono ?_)
       rintro _ W2 ⟨o, rfl, O, hb⟩
       (try go_wp2_with fail)
       have hw2 := hw.trans (hb.mono hw.size)
       refine hK.out _ _ (by exact K5.on hb) (fun hHeld => ?_)
       clear hK
       (try simp only [p1, p2, p3])
       have ky := kya_1_2 o kq1 W2 hw2 O (kb1.on hb) (kz1.on hb) kg1 
       (try simp only [p0, p1, p2, p3] at ky)
       exact castL (by kernel_rfl) ky
      ·replace K5 := K5.on hw
       go_simp
       obtain ⟨V2, e2, hb, K2, Z2, -⟩ := alloc_new W [.bool false, .slice none 0 0, .bool false, .slice none 0 0] 29
       rw [← e2]
       clear e2
       have hw2 := hw.trans (hb.mono hw.size)
       refine hK.out _ _ (by exact K5.on hb) (fun hHeld => ?_)
       clear hK
       (try simp only [p1, p2, p3])
       have ky := kya_0_3  W.heap.size kq1 V2 hw2  K2 Z2 hw.size (kb1.on hb) (kz1.on hb) kg1 (Nat.ne_of_lt kb1.lt).symm
       (try simp only [p0, p1, p2, p3] at ky)
       exact castL (by kernel_rfl) ky
     have kya_1_0 : ∀ (o : Fv)  (W : World) (hw : Below Vd17.heap.size Vd17 W) (O : Ff W (((0 : Int) : Rat)) o)  , wpAnyH Tryz.prog .any OP QQ (fun wx => Box wx (w.heap.size) [.bool m.A.n, .slice m.A.A m.A.xs.length m.A.c, .bool m.A.m, .slice m.A.B m.A.ds.length m.A.d, .bool m.B.n, .slice m.B.A m.B.xs.length m.B.c, .bool m.B.m, .slice m.B.B m.B.ds.length m.B.d, .bool m.C.n, .slice m.C.A m.C.xs.length m.C.c, .bool m.C.m, .slice m.C.B m.C.ds.length m.C.d, .bool m.D.n, .slice m.D.A m.D.xs.length m.D.c, .bool m.D.m, .slice m.D.B m.D.ds.length m.D.d]) 10 #[true, true, false, false, false, false, false, false, false, false, false, false] (AA.put (some 39) (.agg #[.bool o.n, .slice o.A o.xs.length o.c, .bool o.m, .slice o.B o.ds.length o.d])) W := by
      intro o W hw O
      subst hOP
      subst hQQ
      subst hAA
      (try simp only [p0, p1, p2, p3])
      refine pR3 2 7 8 (fun K hK => ?_) (fun K hK => ?_) (fun K hK => ?_)
      ·replace G := G.kp (Kept.of hw)
       replace K5 := K5.on hw
       go_simp
       (go_at_call 38; with_reducible refine (i_Image G O HD.out).mono ?_)
       rintro _ W2 ⟨f, g, er, rfl, R, hb⟩
       (try go_wp2_with fail)
       have hw2 := hw.trans (hb.mono hw.size)
       refine hK.out _ _ (by exact K5.on hb) (fun hHeld => ?_)
       clear hK
       (try simp only [p1, p2, p3])
       refine pT 3 ?_
       (try simp only [p0, p1, p2, p3])
       refine pT 4 ?_
       (try simp only [p0, p1, p2, p3])
       refine pT 5 ?_
       (try simp only [p0, p1, p2, p3])
       refine pT 6 ?_
       (try simp only [p0, p1, p2, p3])
       have ky := kya_2_0 o f g er  W2 hw2 (O.kp (Kept.of hb)) R  
       (try simp only [p0, p1, p2, p3] at ky)
       exact castL (by kernel_rfl) ky
      ·replace K5 := K5.on hw
       go_simp
       obtain ⟨V2, e2, hb, K2, Z2, -⟩ := alloc_new W [.bool false, .slice none 0 0, .bool false, .slice none 0 0] 29
       rw [← e2]
       clear e2
       have hw2 := hw.trans (hb.mono hw.size)
       refine hK.out _ _ (by exact K5.on hb) (fun hHeld => ?_)
       clear hK
       (try simp only [p1, p2, p3])
       have ky := kya_1_1 o W.heap.size V2 hw2 (O.kp (Kept.of hb)) K2 Z2 hw.size 
       (try simp only [p0, p1, p2, p3] at ky)
       exact castL (by kernel_rfl) ky
      ·replace K5 := K5.on hw
       go_simp
       obtain ⟨V2, e2, hb, K2, Z2, -⟩ := alloc_new W [.bool false, .slice none 0 0, .bool false, .slice none 0 0] 29
       rw [← e2]
       clear e2
       have hw2 := hw.trans (hb.mono hw.size)
       refine hK.out _ _ (by exact K5.on hb) (fun hHeld => ?_)
       clear hK
       (try simp only [p1, p2, p3])
       have ky := kya_1_2 o W.heap.size V2 hw2 (O.kp (Kept.of hb)) K2 Z2 hw.size 
       (try simp only [p0, p1, p2, p3] at ky)
       exact castL (by kernel_rfl) ky
     have kya_0_0 : ∀   (W : World) (hw : Below Vd17.heap.size Vd17 W)   , wpAnyH Tryz.prog .any OP QQ (fun wx => Box wx (w.heap.size) [.bool m.A.n, .slice m.A.A m.A.xs.length m.A.c, .bool m.A.m, .slice m.A.B m.A.ds.length m.A.d, .bool m.B.n, .slice m.B.A m.B.xs.length m.B.c, .bool m.B.m, .slice m.B.B m.B.ds.length m.B.d, .bool m.C.n, .slice m.C.A m.C.xs.length m.C.c, .bool m.C.m, .slice m.C.B m.C.ds.length m.C.d, .bool m.D.n, .slice m.D.A m.D.xs.length m.D.c, .bool m.D.m, .slice m.D.B m.D.ds.length m.D.d]) 11 #[true, false, false, false, false, false, false, false, false, false, false, false] AA W := by
      intro W hw
      subst hOP
      subst hQQ
      subst hAA
      (try simp only [p0, p1, p2, p3])
      refine pR3 1 7 8 (fun K hK => ?_) (fun K hK => ?_) (fun K hK => ?_)
      ·replace K5 := K5.on hw
       go_simp
       (go_at_call 43; with_reducible refine (w_int (n := 0) (by decide) (by decide)).mono ?_)
       rintro _ W2 ⟨o, rfl, O, hb⟩
       (try go_wp2_with fail)
       have hw2 := hw.trans (hb.mono hw.size)
       refine hK.out _ _ (by exact K5.on hb) (fun hHeld => ?_)
       clear hK
       (try simp only [p1, p2, p3])
       have ky := kya_1_0 o  W2 hw2 O  
       (try simp only [p0, p1, p2, p3] at ky)
       exact castL (by kernel_rfl) ky
      ·replace K5 := K5.on hw
       go_simp
       obtain ⟨V2, e2, hb, K2, Z2, -⟩ := alloc_new W [.bool false, .slice none 0 0, .bool false, .slice none 0 0] 29
       rw [← e2]
       clear e2
       have hw2 := hw.trans (hb.mono hw.size)
       refine hK.out _ _ (by exact K5.on hb) (fun hHeld => ?_)
       clear hK
       (try simp only [p1, p2, p3])
       have ky := kya_0_1  W.heap.size V2 hw2  K2 Z2 hw.size 
       (try simp only [p0, p1, p2, p3] at ky)
       exact castL (by kernel_rfl) ky
      ·replace K5 := K5.on hw
       go_simp
       obtain ⟨V2, e2, hb, K2, Z2, -⟩ := alloc_new W [.bool false, .slice none 0 0, .bool false, .slice none 0 0] 29
       rw [← e2]
       clear e2
       have hw2 := hw.trans (hb.mono hw.size)
       refine hK.out _ _ (by exact K5.on hb) (fun hHeld => ?_)
       clear hK
       (try simp only [p1, p2, p3])
       have ky := kya_0_2  W.heap.size V2 hw2  K2 Z2 hw.size 
       (try simp only [p0, p1, p2, p3] at ky)
       exact castL (by kernel_rfl) ky
     exact castL (by kernel_rfl) (kya_0_0 Vd17 (Below.refl _ _))
    case rest =>
     obtain ⟨pka_0, pka_1, f, g, er, rfl, rfl, rfl, BW, K5, K11, Z6, Z12, A, G, KNa_0, KNa_1, nn17, nn18, nn19, nn20, R⟩ := hcut
     go_upto_region 7 with fail
     go_cut [52] (fun sv wx => sv = .bool false ∧ Below w.heap.size w wx ∧ Box wx (w.heap.size) (mcs m) ∧ Box wx (w.heap.size + 1) [.bool a.n, .slice a.A a.xs.length a.c, .bool a.m, .slice a.B a.ds.length a.d] ∧ Fm wx q2 m ∧ Fx wx a)
     case first =>
      rcases R with ⟨hz, rfl, LF, -⟩ | ⟨hz, rfl, -, -⟩ | ⟨hz, rfl, -, -, hn⟩
      ·have HZ := Lib.hid hz
       clear hz
       obtain ⟨c21, c22, c23, c24⟩ := KNa_0.c4
       go_wp2_with fail
       clear c21 c22 c23 c24
       refine (r_sign LF).mono ?_
       rintro _ w25 ⟨rfl, hb⟩
       replace K5 := K5.on hb
       replace K11 := K11.on hb
       replace A := A.kp (Kept.of hb)
       replace G := G.kp (Kept.of hb)
       replace BW := BW.trans (hb.mono BW.size)
       clear hb
       by_cases hb : q2.b = 0
       ·obtain rfl : s = true := HS.out.2 hb
        rw [show sgnQ (imT q2 ((0 : Int) : Rat)) = 0 from sgn_zero.2 ((at_b HZ.out).2 hb)]
        clear hb
        go_wp2
        go_meet
        exact ⟨rfl, BW, K5, K11, G, A⟩
       ·have HB := Lib.hid hb
        clear hb
        obtain rfl : s = false := by cases s with | false => rfl | true => exact absurd (HS.out.1 rfl) HB.out
        generalize ht : sgnQ (imT q2 ((0 : Int) : Rat)) = t at *
        have hs0 : (t == 0) = false := by simpa using (fun h => HB.out ((at_b HZ.out).1 (sgn_zero.1 (ht.trans h))))
        clear ht
        go_wp2
        go_meet
        exact ⟨rfl, BW, K5, K11, G, A⟩
      ·have HB := Lib.hid (off_b HD.out hz)
       clear hz
       obtain rfl : s = false := by cases s with | false => rfl | true => exact absurd (HS.out.1 rfl) HB.out
       go_wp2
       go_meet
       exact ⟨rfl, BW, K5, K11, G, A⟩
      ·have HB := Lib.hid (lim_b HD.out G.fA.fits hz hn)
       clear hz hn
       obtain rfl : s = false := by cases s with | false => rfl | true => exact absurd (HS.out.1 rfl) HB.out
       go_wp2
       go_meet
       exact ⟨rfl, BW, K5, K11, G, A⟩
     case rest =>
      obtain ⟨rfl, BW, KC0, KC1, G, A⟩ := hcut
      obtain ⟨c21, c22, c23, c24⟩ := KC1.c4
      have c25 : Box wc (w.heap.size) [.bool m.A.n, .slice m.A.A m.A.xs.length m.A.c, .bool m.A.m, .slice m.A.B m.A.ds.length m.A.d, .bool m.B.n, .slice m.B.A m.B.xs.length m.B.c, .bool m.B.m, .slice m.B.B m.B.ds.length m.B.d, .bool m.C.n, .slice m.C.A m.C.xs.length m.C.c, .bool m.C.m, .slice m.C.B m.C.ds.length m.C.d, .bool m.D.n, .slice m.D.A m.D.xs.length m.D.c, .bool m.D.m, .slice m.D.B m.D.ds.length m.D.d] := KC0
      go_wp2_with (first | (refine wpList_ldM (by rfl) (by rfl) (by rfl) c25 (by rfl) ?_))
      clear c21 c22 c23 c24 c25
      by_cases ha : okv a
      ·obtain ⟨x, AX⟩ := ha.ff A
       clear A ha
       refine (i_Stop G AX HD.out).mono ?_
       rintro _ w26 ⟨u, e1, rfl, R, hb⟩
       replace KC0 := KC0.on hb
       replace KC1 := KC1.on hb
       replace G := G.kp (Kept.of hb)
       replace AX := AX.kp (Kept.of hb)
       replace BW := BW.trans (hb.mono BW.size)
       clear hb
       rcases R with ⟨hb0, hx0, rfl, LU⟩ | ⟨rfl, -, -⟩ | ⟨hb0, -, rfl, -⟩ | ⟨hb0, -, rfl, -, -⟩
       ·have HB := Lib.hid hb0
        obtain rfl : s = false := by cases s with | false => rfl | true => exact absurd (HS.out.1 rfl) HB.out
        have HX0 := Lib.hid hx0
        clear hx0 hb0
        obtain ⟨V27, e28, hb29, K30, Z31, -⟩ := alloc_new w26 [.bool u.n, .slice u.A u.xs.length u.c, .bool u.m, .slice u.B u.ds.length u.d] 29
        have n32 : w.heap.size ≠ w26.heap.size := Nat.ne_of_lt (KC0.lt)
        have n33 : w.heap.size + 1 ≠ w26.heap.size := Nat.ne_of_lt (KC1.lt)
        have g34 : w.heap.size ≤ w26.heap.size := BW.size
        replace KC0 := KC0.on hb29
        replace KC1 := KC1.on hb29
        replace G := G.kp (Kept.of hb29)
        replace AX := AX.kp (Kept.of hb29)
        replace LU := LU.kp (Kept.of hb29)
        replace BW := BW.trans (hb29.mono BW.size)
        clear hb29
        go_wp2_with fail
        rw [← e28]
        clear e28
        generalize w26.heap.size = b35 at *
        go_cut [12, 13] (fun sv0 sw0 wx => ∃ (pkt_0 : Nat) (y : Yv) (e2 : Int), sv0 = .pointer (some ⟨pkt_0, 0, none⟩) ∧ sw0 = .int .i64 e2 ∧ Below w.heap.size w wx ∧ Box wx (w.heap.size) (mcs m) ∧ Box wx (w.heap.size + 1) [.bool a.n, .slice a.A a.xs.length a.c, .bool a.m, .slice a.B a.ds.length a.d] ∧ Box wx (b35) [.bool u.n, .slice u.A u.xs.length u.c, .bool u.m, .slice u.B u.ds.length u.d] ∧ Fz wx (b35) ∧ Ff wx (x) a ∧ Box wx pkt_0 (ycs y) ∧ pkt_0 ≠ b35 ∧ YIs wx (q2.thr ⟨((0 : Int) : Rat), x / absQ q2.b⟩) y e2)
        case first =>
         refine wp_region_noPanic ?_
         have hb : Below V27.heap.size V27 V27.drew := (Below.refl _ _).drew
         replace KC0 := KC0.on hb
         replace KC1 := KC1.on hb
         replace K30 := K30.on hb
         replace Z31 := Z31.on hb
         replace G := G.kp (Kept.of hb)
         replace AX := AX.kp (Kept.of hb)
         replace LU := LU.kp (Kept.of hb)
         replace BW := BW.trans (hb.mono BW.size)
         clear hb
         refine wp_region_held_drew (S := (fun wx => Box wx (w.heap.size) [.bool m.A.n, .slice m.A.A m.A.xs.length m.A.c, .bool m.A.m, .slice m.A.B m.A.ds.length m.A.d, .bool m.B.n, .slice m.B.A m.B.xs.length m.B.c, .bool m.B.m, .slice m.B.B m.B.ds.length m.B.d, .bool m.C.n, .slice m.C.A m.C.xs.length m.C.c, .bool m.C.m, .slice m.C.B m.C.ds.length m.C.d, .bool m.D.n, .slice m.D.A m.D.xs.length m.D.c, .bool m.D.m, .slice m.D.B m.D.ds.length m.D.d] ∧ Cs wx (b35) 0 [.bool u.n, .slice u.A u.xs.length u.c, .bool u.m, .slice u.B u.ds.length u.d])) (by kernel_rfl) (by exact ⟨KC0, K30.cs⟩) (fun hHeld => ?_)
         generalize V27.drew = Vd36 at *
         refine pT 0 ?_ (hy := fun wt hSw => ldM rfl rfl hSw.1)
         (try simp only [p0, p1, p2, p3])
         refine pT 2 ?_
         (try simp only [p0, p1, p2, p3])
         refine pR2 1 8 (fun K hK => ?_) (fun K hK => ?_)
         ·go_simp
          (go_at_call 43; with_reducible refine (w_int (n := 0) (by decide) (by decide)).mono ?_)
          rintro _ w37 ⟨o, rfl, O, hb⟩
          (try go_wp2_with fail)
          replace KC0 := KC0.on hb
          replace KC1 := KC1.on hb
          replace K30 := K30.on hb
          replace Z31 := Z31.on hb
          replace G := G.kp (Kept.of hb)
          replace AX := AX.kp (Kept.of hb)
          replace LU := LU.kp (Kept.of hb)
          replace BW := BW.trans (hb.mono BW.size)
          clear hb
          clear hHeld
          refine hK.out _ _ (by exact ⟨KC0, K30.cs⟩) (fun hHeld => ?_)
          clear hK
          (try simp only [p0, p1, p2, p3])
          refine pT 3 ?_
          (try simp only [p0, p1, p2, p3])
          refine pR2 4 8 (fun K hK => ?_) (fun K hK => ?_)
          ·go_simp
           (go_at_call 24; with_reducible refine (y_Thr (r := ⟨((0 : Int) : Rat), x / absQ q2.b⟩) (y := ⟨o, u⟩) G (fy_mk O LU) HD.out).mono ?_)
           rintro _ w38 ⟨y, e2, rfl, R, hb⟩
           (try go_wp2_with fail)
           replace KC0 := KC0.on hb
           replace KC1 := KC1.on hb
           replace K30 := K30.on hb
           replace Z31 := Z31.on hb
           replace G := G.kp (Kept.of hb)
           replace AX := AX.kp (Kept.of hb)
           replace LU := LU.kp (Kept.of hb)
           replace O := O.kp (Kept.of hb)
           replace BW := BW.trans (hb.mono BW.size)
           clear hb
           clear hHeld
           refine hK.out _ _ (by exact ⟨KC0, K30.cs⟩) (fun hHeld => ?_)
           clear hK
           (try simp only [p0, p1, p2, p3])
           refine pT 5 ?_
           (try simp only [p0, p1, p2, p3])
           refine pT 6 ?_
           (try simp only [p0, p1, p2, p3])
           refine pT 7 ?_
           (try simp only [p0, p1, p2, p3])
           refine pR1 8 (fun K hK => ?_)
           go_simp
           obtain ⟨V39, e40, hb41, K42, Z43, -⟩ := alloc_new w38 [.bool false, .slice none 0 0, .bool false, .slice none 0 0, .bool false, .slice none 0 0, .bool false, .slice none 0 0] 40
           replace K42 : Box V39 (w38.heap.size) (zcs8) := K42
           have n44 : w.heap.size ≠ w38.heap.size := Nat.ne_of_lt (KC0.lt)
           have n45 : w.heap.size + 1 ≠ w38.heap.size := Nat.ne_of_lt (KC1.lt)
           have n46 : b35 ≠ w38.heap.size := Nat.ne_of_lt (K30.lt)
           have g47 : w.heap.size ≤ w38.heap.size := BW.size
           replace KC0 := KC0.on hb41
           replace KC1 := KC1.on hb41
           replace K30 := K30.on hb41
           replace Z31 := Z31.on hb41
           replace G := G.kp (Kept.of hb41)
           replace AX := AX.kp (Kept.of hb41)
           replace LU := LU.kp (Kept.of hb41)
           replace O := O.kp (Kept.of hb41)
           replace R := R.kp (Kept.of hb41)
           replace BW := BW.trans (hb41.mono BW.size)
           clear hb41
           rw [← e40]
           clear e40
           generalize w38.heap.size = b48 at *
           clear hHeld
           refine hK.out _ _ (by exact ⟨KC0, K30.cs⟩) (fun hHeld => ?_)
           clear hK
           (try simp only [p0, p1, p2, p3])
           refine pR1 9 (fun K hK => ?_)
           obtain ⟨c49, c50, c51, c52, c53, c54, c55, c56⟩ := K42.c8
           obtain ⟨c57, c58, c59, c60, c61, c62, c63, c64⟩ := Z43.f8
           go_simp
           clear c49 c50 c51 c52 c53 c54 c55 c56 c57 c58 c59 c60 c61 c62 c63 c64
           obtain ⟨V65, hk67⟩ : ∃ V65, V65 = V39.setCells (b48) 0 [.bool y.Y.n, .slice y.Y.A y.Y.xs.length y.Y.c, .bool y.Y.m, .slice y.Y.B y.Y.ds.length y.Y.d, .bool y.U.n, .slice y.U.A y.U.xs.length y.U.c, .bool y.U.m, .slice y.U.B y.U.ds.length y.U.d] := ⟨_, rfl⟩
           have e66 := hk67
           simp only [World.setCells, Nat.zero_add, Nat.reduceAdd] at e66
           have hk68 := Kept.overE hk67 K42 rfl (Nat.le_of_ble_eq_true rfl)
           replace KC0 := KC0.awayE hk67 n44
           replace KC1 := KC1.awayE hk67 n45
           replace K30 := K30.awayE hk67 n46
           replace K42 := K42.overE hk67 rfl
           replace Z31 := Z31.putE hk67
           replace G := G.kp hk68
           replace AX := AX.kp hk68
           replace LU := LU.kp hk68
           replace O := O.kp hk68
           replace R := R.kp hk68
           replace BW := Below.putE BW hk67 g47
           clear hk67 hk68
           replace K42 : Box V65 (b48) (ycs y) := K42
           rw [← e66]
           clear e66
           clear hHeld
           refine hK.out _ _ (by exact ⟨KC0, K30.cs⟩) (fun hHeld => ?_)
           clear hK
           (try simp only [p0, p1, p2, p3])
           refine pT 10 ?_
           (try simp only [p0, p1, p2, p3])
           refine wpAnyH_done (by kernel_rfl) (NoPanic.normal ?_) _
           go_wp2
           go_meet
           exact ⟨b48, y, e2, rfl, rfl, BW, KC0, KC1, K30, Z31, AX, K42, n46.symm, R⟩
          ·go_simp
           obtain ⟨V38, e39, hb40, K41, Z42, -⟩ := alloc_new w37 [.bool false, .slice none 0 0, .bool false, .slice none 0 0, .bool false, .slice none 0 0, .bool false, .slice none 0 0] 40
           replace K41 : Box V38 (w37.heap.size) (zcs8) := K41
           have n43 : w.heap.size ≠ w37.heap.size := Nat.ne_of_lt (KC0.lt)
           have n44 : w.heap.size + 1 ≠ w37.heap.size := Nat.ne_of_lt (KC1.lt)
           have n45 : b35 ≠ w37.heap.size := Nat.ne_of_lt (K30.lt)
           have g46 : w.heap.size ≤ w37.heap.size := BW.size
           replace KC0 := KC0.on hb40
           replace KC1 := KC1.on hb40
           replace K30 := K30.on hb40
           replace Z31 := Z31.on hb40
           replace G := G.kp (Kept.of hb40)
           replace AX := AX.kp (Kept.of hb40)
           replace LU := LU.kp (Kept.of hb40)
           replace O := O.kp (Kept.of hb40)
           replace BW := BW.trans (hb40.mono BW.size)
           clear hb40
           rw [← e39]
           clear e39
           generalize w37.heap.size = b47 at *
           clear hHeld
           refine hK.out _ _ (by exact ⟨KC0, K30.cs⟩) (fun hHeld => ?_)
           clear hK
           (try simp only [p0, p1, p2, p3])
           refine pR1 4 (fun K hK => ?_)
           go_simp
           (go_at_call 24; with_reducible refine (y_Thr (r := ⟨((0 : Int) : Rat), x / absQ q2.b⟩) (y := ⟨o, u⟩) G (fy_mk O LU) HD.out).mono ?_)
           rintro _ w48 ⟨y, e2, rfl, R, hb⟩
           (try go_wp2_with fail)
           replace KC0 := KC0.on hb
           replace KC1 := KC1.on hb
           replace K30 := K30.on hb
           replace K41 := K41.on hb
           replace Z31 := Z31.on hb
           replace Z42 := Z42.on hb
           replace G := G.kp (Kept.of hb)
           replace AX := AX.kp (Kept.of hb)
           replace LU := LU.kp (Kept.of hb)
           replace O := O.kp (Kept.of hb)
           replace BW := BW.trans (hb.mono BW.size)
           clear hb
           clear hHeld
           refine hK.out _ _ (by exact ⟨KC0, K30.cs⟩) (fun hHeld => ?_)
           clear hK
           (try simp only [p0, p1, p2, p3])
           refine pT 5 ?_
           (try simp only [p0, p1, p2, p3])
           refine pT 6 ?_
           (try simp only [p0, p1, p2, p3])
           refine pT 7 ?_
           (try simp only [p0, p1, p2, p3])
           refine pR1 9 (fun K hK => ?_)
           obtain ⟨c49, c50, c51, c52, c53, c54, c55, c56⟩ := K41.c8
           obtain ⟨c57, c58, c59, c60, c61, c62, c63, c64⟩ := Z42.f8
           go_simp
           clear c49 c50 c51 c52 c53 c54 c55 c56 c57 c58 c59 c60 c61 c62 c63 c64
           obtain ⟨V65, hk67⟩ : ∃ V65, V65 = w48.setCells (b47) 0 [.bool y.Y.n, .slice y.Y.A y.Y.xs.length y.Y.c, .bool y.Y.m, .slice y.Y.B y.Y.ds.length y.Y.d, .bool y.U.n, .slice y.U.A y.U.xs.length y.U.c, .bool y.U.m, .slice y.U.B y.U.ds.length y.U.d] := ⟨_, rfl⟩
           have e66 := hk67
           simp only [World.setCells, Nat.zero_add, Nat.reduceAdd] at e66
           have hk68 := Kept.overE hk67 K41 rfl (Nat.le_of_ble_eq_true rfl)
           replace KC0 := KC0.awayE hk67 n43
           replace KC1 := KC1.awayE hk67 n44
           replace K30 := K30.awayE hk67 n45
           replace K41 := K41.overE hk67 rfl
           replace Z31 := Z31.putE hk67
           replace G := G.kp hk68
           replace AX := AX.kp hk68
           replace LU := LU.kp hk68
           replace O := O.kp hk68
           replace R := R.kp hk68
           replace BW := Below.putE BW hk67 g46
           clear hk67 hk68
           replace K41 : Box V65 (b47) (ycs y) := K41
           rw [← e66]
           clear e66
           clear hHeld
           refine hK.out _ _ (by exact ⟨KC0, K30.cs⟩) (fun hHeld => ?_)
           clear hK
           (try simp only [p0, p1, p2, p3])
           refine pT 10 ?_
           (try simp only [p0, p1, p2, p3])
           refine wpAnyH_done (by kernel_rfl) (NoPanic.normal ?_) _
           go_wp2
           go_meet
           exact ⟨b47, y, e2, rfl, rfl, BW, KC0, KC1, K30, Z31, AX, K41, n45.symm, R⟩
         ·go_simp
          obtain ⟨V37, e38, hb39, K40, Z41, -⟩ := alloc_new Vd36 [.bool false, .slice none 0 0, .bool false, .slice none 0 0, .bool false, .slice none 0 0, .bool false, .slice none 0 0] 40
          replace K40 : Box V37 (Vd36.heap.size) (zcs8) := K40
          have n42 : w.heap.size ≠ Vd36.heap.size := Nat.ne_of_lt (KC0.lt)
          have n43 : w.heap.size + 1 ≠ Vd36.heap.size := Nat.ne_of_lt (KC1.lt)
          have n44 : b35 ≠ Vd36.heap.size := Nat.ne_of_lt (K30.lt)
          have g45 : w.heap.size ≤ Vd36.heap.size := BW.size
          replace KC0 := KC0.on hb39
          replace KC1 := KC1.on hb39
          replace K30 := K30.on hb39
          replace Z31 := Z31.on hb39
          replace G := G.kp (Kept.of hb39)
          replace AX := AX.kp (Kept.of hb39)
          replace LU := LU.kp (Kept.of hb39)
          replace BW := BW.trans (hb39.mono BW.size)
          clear hb39
          rw [← e38]
          clear e38
          generalize Vd36.heap.size = b46 at *
          clear hHeld
          refine hK.out _ _ (by exact ⟨KC0, K30.cs⟩) (fun hHeld => ?_)
          clear hK
          (try simp only [p0, p1, p2, p3])
          refine pR1 1 (fun K hK => ?_)
          go_simp
          (go_at_call 43; with_reducible refine (w_int (n := 0) (by decide) (by decide)).mono ?_)
          rintro _ w47 ⟨o, rfl, O, hb⟩
          (try go_wp2_with fail)
          replace KC0 := KC0.on hb
          replace KC1 := KC1.on hb
          replace K30 := K30.on hb
          replace K40 := K40.on hb
          replace Z31 := Z31.on hb
          replace Z41 := Z41.on hb
          replace G := G.kp (Kept.of hb)
          replace AX := AX.kp (Kept.of hb)
          replace LU := LU.kp (Kept.of hb)
          replace BW := BW.trans (hb.mono BW.size)
          clear hb
          clear hHeld
          refine hK.out _ _ (by exact ⟨KC0, K30.cs⟩) (fun hHeld => ?_)
          clear hK
          (try simp only [p0, p1, p2, p3])
          refine pT 3 ?_
          (try simp only [p0, p1, p2, p3])
          refine pR1 4 (fun K hK => ?_)
          go_simp
          (go_at_call 24; with_reducible refine (y_Thr (r := ⟨((0 : Int) : Rat), x / absQ q2.b⟩) (y := ⟨o, u⟩) G (fy_mk O LU) HD.out).mono ?_)
          rintro _ w48 ⟨y, e2, rfl, R, hb⟩
          (try go_wp2_with fail)
          replace KC0 := KC0.on hb
          replace KC1 := KC1.on hb
          replace K30 := K30.on hb
          replace K40 := K40.on hb
          replace Z31 := Z31.on hb
          replace Z41 := Z41.on hb
          replace G := G.kp (Kept.of hb)
          replace AX := AX.kp (Kept.of hb)
          replace O := O.kp (Kept.of hb)
          replace BW := BW.trans (hb.mono BW.size)
          clear hb
          clear hHeld
          refine hK.out _ _ (by exact ⟨KC0, K30.cs⟩) (fun hHeld => ?_)
          clear hK
          (try simp only [p0, p1, p2, p3])
          refine pT 5 ?_
          (try simp only [p0, p1, p2, p3])
          refine pT 6 ?_
          (try simp only [p0, p1, p2, p3])
          refine pT 7 ?_
          (try simp only [p0, p1, p2, p3])
          refine pR1 9 (fun K hK => ?_)
          obtain ⟨c49, c50, c51, c52, c53, c54, c55, c56⟩ := K40.c8
          obtain ⟨c57, c58, c59, c60, c61, c62, c63, c64⟩ := Z41.f8
          go_simp
          clear c49 c50 c51 c52 c53 c54 c55 c56 c57 c58 c59 c60 c61 c62 c63 c64
          obtain ⟨V65, hk67⟩ : ∃ V65, V65 = w48.setCells (b46) 0 [.bool y.Y.n, .slice y.Y.A y.Y.xs.length y.Y.c, .bool y.Y.m, .slice y.Y.B y.Y.ds.length y.Y.d, .bool y.U.n, .slice y.U.A y.U.xs.length y.U.c, .bool y.U.m, .slice y.U.B y.U.ds.length y.U.d] := ⟨_, rfl⟩
          have e66 := hk67
          simp only [World.setCells, Nat.zero_add, Nat.reduceAdd] at e66
          have hk68 := Kept.overE hk67 K40 rfl (Nat.le_of_ble_eq_true rfl)
          replace KC0 := KC0.awayE hk67 n42
          replace KC1 := KC1.awayE hk67 n43
          replace K30 := K30.awayE hk67 n44
          replace K40 := K40.overE hk67 rfl
          replace Z31 := Z31.putE hk67
          replace G := G.kp hk68
          replace AX := AX.kp hk68
          replace O := O.kp hk68
          replace R := R.kp hk68
          replace BW := Below.putE BW hk67 g45
          clear hk67 hk68
          replace K40 : Box V65 (b46) (ycs y) := K40
          rw [← e66]
          clear e66
          clear hHeld
          refine hK.out _ _ (by exact ⟨KC0, K30.cs⟩) (fun hHeld => ?_)
          clear hK
          (try simp only [p0, p1, p2, p3])
          refine pT 10 ?_
          (try simp only [p0, p1, p2, p3])
          refine wpAnyH_done (by kernel_rfl) (NoPanic.normal ?_) _
          go_wp2
          go_meet
          exact ⟨b46, y, e2, rfl, rfl, BW, KC0, KC1, K30, Z31, AX, K40, n44.symm, R⟩
        case rest =>
         obtain ⟨pkt_0, y, e2, rfl, rfl, BW, KC0, KC1, K30, Z31, AX, KNt_0, nn36, R⟩ := hcut
         by_cases he : e2 = 0
         ·obtain rfl : e2 = 0 := he
          have L1 : Ff wc (q2.b * (x / absQ q2.b)) y.Y := ((yis_zero R rfl).2.fY).to thr_u
          clear R
          obtain ⟨c37, c38, c39, c40, c41, c42, c43, c44⟩ := KNt_0.c8
          obtain ⟨V45, e46, hb47, K48, Z49, -⟩ := alloc_new wc [.bool y.Y.n, .slice y.Y.A y.Y.xs.length y.Y.c, .bool y.Y.m, .slice y.Y.B y.Y.ds.length y.Y.d] 29
          have n50 : w.heap.size ≠ wc.heap.size := Nat.ne_of_lt (KC0.lt)
          have n51 : w.heap.size + 1 ≠ wc.heap.size := Nat.ne_of_lt (KC1.lt)
          have n52 : b35 ≠ wc.heap.size := Nat.ne_of_lt (K30.lt)
          have n53 : pkt_0 ≠ wc.heap.size := Nat.ne_of_lt (KNt_0.lt)
          have g54 : w.heap.size ≤ wc.heap.size := BW.size
          replace KC0 := KC0.on hb47
          replace KC1 := KC1.on hb47
          replace K30 := K30.on hb47
          replace Z31 := Z31.on hb47
          replace AX := AX.kp (Kept.of hb47)
          replace L1 := L1.kp (Kept.of hb47)
          replace BW := BW.trans (hb47.mono BW.size)
          clear hb47
          go_wp2_with fail
          clear c37 c38 c39 c40 c41 c42 c43 c44
          rw [← e46]
          clear e46
          generalize wc.heap.size = b55 at *
          refine (r_sign L1).mono ?_
          rintro _ w56 ⟨rfl, hb⟩
          replace KC0 := KC0.on hb
          replace KC1 := KC1.on hb
          replace K30 := K30.on hb
          replace K48 := K48.on hb
          replace Z31 := Z31.on hb
          replace Z49 := Z49.on hb
          replace AX := AX.kp (Kept.of hb)
          replace L1 := L1.kp (Kept.of hb)
          replace BW := BW.trans (hb.mono BW.size)
          clear hb
          generalize ht : sgnQ (q2.b * (x / absQ q2.b)) = t at *
          have HT := Lib.hid ht
          clear ht
          by_cases ht0 : t < 0
          ·have ht1 : decide (t < 0) = true := by simp; omega
           have HU := Lib.hid (show q2.b * (x / absQ q2.b) < 0 from Rat.not_le.1 (fun h => by have h1 := sgn_ge.2 h; rw [HT.out] at h1; omega))
           clear ht0
           have HF := Lib.hid (show FitsQ (((0 : Int) : Rat) - q2.b * (x / absQ q2.b)) by rw [edge_neg HB.out HU.out HX0.out]; exact AX.fits)
           go_wp2_with fail
           refine wp_region_noPanic ?_
           have hb : Below w56.heap.size w56 w56.drew := (Below.refl _ _).drew
           replace KC0 := KC0.on hb
           replace KC1 := KC1.on hb
           replace K30 := K30.on hb
           replace K48 := K48.on hb
           replace Z31 := Z31.on hb
           replace Z49 := Z49.on hb
           replace AX := AX.kp (Kept.of hb)
           replace L1 := L1.kp (Kept.of hb)
           replace BW := BW.trans (hb.mono BW.size)
           clear hb
           refine wp_region_held_drew (S := (fun wx => True)) (by kernel_rfl) (by exact trivial) (fun hHeld => ?_)
           generalize w56.drew = Vd57 at *
           refine pR2 0 1 (fun K hK => ?_) (fun K hK => ?_)
           ·go_simp
            (go_at_call 43; with_reducible refine (w_int (n := 0) (by decide) (by decide)).mono ?_)
            rintro _ w58 ⟨o, rfl, O, hb⟩
            (try go_wp2_with fail)
            replace KC0 := KC0.on hb
            replace KC1 := KC1.on hb
            replace K30 := K30.on hb
            replace K48 := K48.on hb
            replace Z31 := Z31.on hb
            replace Z49 := Z49.on hb
            replace AX := AX.kp (Kept.of hb)
            replace L1 := L1.kp (Kept.of hb)
            replace BW := BW.trans (hb.mono BW.size)
            clear hb
            clear hHeld
            refine hK.out _ _ (by exact trivial) (fun hHeld => ?_)
            clear hK
            (try simp only [p0, p1, p2, p3])
            refine pR1 1 (fun K hK => ?_)
            obtain ⟨c59, c60, c61, c62⟩ := K48.c4
            go_simp
            clear c59 c60 c61 c62
            clear hHeld
            refine hK.out _ _ (by exact trivial) (fun hHeld => ?_)
            clear hK
            (try simp only [p0, p1, p2, p3])
            refine pR1 2 (fun K hK => ?_)
            go_simp
            (go_at_call 25; with_reducible refine (r_sub O L1).mono ?_)
            rintro _ w63 ⟨v, er, rfl, R, hb⟩
            (try go_wp2_with fail)
            replace KC0 := KC0.on hb
            replace KC1 := KC1.on hb
            replace K30 := K30.on hb
            replace K48 := K48.on hb
            replace Z31 := Z31.on hb
            replace Z49 := Z49.on hb
            replace AX := AX.kp (Kept.of hb)
            replace L1 := L1.kp (Kept.of hb)
            replace O := O.kp (Kept.of hb)
            replace BW := BW.trans (hb.mono BW.size)
            clear hb
            obtain ⟨rfl, L2⟩ := R.yes not_false HF.out
            clear R
            replace L2 := L2.to (edge_neg HB.out HU.out HX0.out)
            clear hHeld
            refine hK.out _ _ (by exact trivial) (fun hHeld => ?_)
            clear hK
            (try simp only [p0, p1, p2, p3])
            refine pT 3 ?_
            (try simp only [p0, p1, p2, p3])
            refine pT 4 ?_
            (try simp only [p0, p1, p2, p3])
            refine pT 5 ?_
            (try simp only [p0, p1, p2, p3])
            refine pR1 6 (fun K hK => ?_)
            obtain ⟨c64, c65, c66, c67⟩ := K48.c4
            obtain ⟨c68, c69, c70, c71⟩ := Z49.f4
            go_simp
            clear c64 c65 c66 c67 c68 c69 c70 c71
            obtain ⟨V72, hk74⟩ : ∃ V72, V72 = w63.setCells (b55) 0 [.bool v.n, .slice v.A v.xs.length v.c, .bool v.m, .slice v.B v.ds.length v.d] := ⟨_, rfl⟩
            have e73 := hk74
            simp only [World.setCells, Nat.zero_add, Nat.reduceAdd] at e73
            have hk75 := Kept.overE hk74 K48 rfl (Nat.le_of_ble_eq_true rfl)
            replace KC0 := KC0.awayE hk74 n50
            replace KC1 := KC1.awayE hk74 n51
            replace K30 := K30.awayE hk74 n52
            replace K48 := K48.overE hk74 rfl
            replace Z31 := Z31.putE hk74
            replace Z49 := Z49.putE hk74
            replace AX := AX.kp hk75
            replace L1 := L1.kp hk75
            replace O := O.kp hk75
            replace L2 := L2.kp hk75
            replace BW := Below.putE BW hk74 g54
            clear hk74 hk75
            rw [← e73]
            clear e73
            clear hHeld
            refine hK.out _ _ (by exact trivial) (fun hHeld => ?_)
            clear hK
            (try simp only [p0, p1, p2, p3])
            refine pT 7 ?_
            (try simp only [p0, p1, p2, p3])
            refine wpAnyH_done (by kernel_rfl) (NoPanic.normal ?_) _
            obtain ⟨c76, c77, c78, c79⟩ := KC1.c4
            obtain ⟨c80, c81, c82, c83⟩ := K48.c4
            go_wp2_with fail
            clear c76 c77 c78 c79 c80 c81 c82 c83
            refine (r_same L2 AX).mono ?_
            rintro _ w84 ⟨rfl, hb⟩
            replace KC0 := KC0.on hb
            replace KC1 := KC1.on hb
            replace K30 := K30.on hb
            replace K48 := K48.on hb
            replace Z31 := Z31.on hb
            replace Z49 := Z49.on hb
            replace AX := AX.kp (Kept.of hb)
            replace L1 := L1.kp (Kept.of hb)
            replace O := O.kp (Kept.of hb)
            replace L2 := L2.kp (Kept.of hb)
            replace BW := BW.trans (hb.mono BW.size)
            clear hb
            (try rw [decide_eq_true rfl])
            go_wp2_with fail
            refine (w_lives).mono ?_
            rintro _ w85 ⟨rfl, hb⟩
            replace KC0 := KC0.on hb
            replace KC1 := KC1.on hb
            replace K30 := K30.on hb
            replace K48 := K48.on hb
            replace Z31 := Z31.on hb
            replace Z49 := Z49.on hb
            replace AX := AX.kp (Kept.of hb)
            replace L1 := L1.kp (Kept.of hb)
            replace O := O.kp (Kept.of hb)
            replace L2 := L2.kp (Kept.of hb)
            replace BW := BW.trans (hb.mono BW.size)
            clear hb
            go_wp2_with fail
            exact bodyPost_ret (v := .bool true) (by simp [results, Tryz.results10, go_sem]) rfl ⟨rfl, BW⟩
           ·obtain ⟨c58, c59, c60, c61⟩ := K48.c4
            go_simp
            clear c58 c59 c60 c61
            clear hHeld
            refine hK.out _ _ (by exact trivial) (fun hHeld => ?_)
            clear hK
            (try simp only [p0, p1, p2, p3])
            refine pR1 0 (fun K hK => ?_)
            go_simp
            (go_at_call 43; with_reducible refine (w_int (n := 0) (by decide) (by decide)).mono ?_)
            rintro _ w62 ⟨o, rfl, O, hb⟩
            (try go_wp2_with fail)
            replace KC0 := KC0.on hb
            replace KC1 := KC1.on hb
            replace K30 := K30.on hb
            replace K48 := K48.on hb
            replace Z31 := Z31.on hb
            replace Z49 := Z49.on hb
            replace AX := AX.kp (Kept.of hb)
            replace L1 := L1.kp (Kept.of hb)
            replace BW := BW.trans (hb.mono BW.size)
            clear hb
            clear hHeld
            refine hK.out _ _ (by exact trivial) (fun hHeld => ?_)
            clear hK
            (try simp only [p0, p1, p2, p3])
            refine pR1 2 (fun K hK => ?_)
            go_simp
            (go_at_call 25; with_reducible refine (r_sub O L1).mono ?_)
            rintro _ w63 ⟨v, er, rfl, R, hb⟩
            (try go_wp2_with fail)
            replace KC0 := KC0.on hb
            replace KC1 := KC1.on hb
            replace K30 := K30.on hb
            replace K48 := K48.on hb
            replace Z31 := Z31.on hb
            replace Z49 := Z49.on hb
            replace AX := AX.kp (Kept.of hb)
            replace L1 := L1.kp (Kept.of hb)
            replace BW := BW.trans (hb.mono BW.size)
            clear hb
            obtain ⟨rfl, L2⟩ := R.yes not_false HF.out
            clear R
            replace L2 := L2.to (edge_neg HB.out HU.out HX0.out)
            clear hHeld
            refine hK.out _ _ (by exact trivial) (fun hHeld => ?_)
            clear hK
            (try simp only [p0, p1, p2, p3])
            refine pT 3 ?_
            (try simp only [p0, p1, p2, p3])
            refine pT 4 ?_
            (try simp only [p0, p1, p2, p3])
            refine pT 5 ?_
            (try simp only [p0, p1, p2, p3])
            refine pR1 6 (fun K hK => ?_)
            obtain ⟨c64, c65, c66, c67⟩ := K48.c4
            obtain ⟨c68, c69, c70, c71⟩ := Z49.f4
            go_simp
            clear c64 c65 c66 c67 c68 c69 c70 c71
            obtain ⟨V72, hk74⟩ : ∃ V72, V72 = w63.setCells (b55) 0 [.bool v.n, .slice v.A v.xs.length v.c, .bool v.m, .slice v.B v.ds.length v.d] := ⟨_, rfl⟩
            have e73 := hk74
            simp only [World.setCells, Nat.zero_add, Nat.reduceAdd] at e73
            have hk75 := Kept.overE hk74 K48 rfl (Nat.le_of_ble_eq_true rfl)
            replace KC0 := KC0.awayE hk74 n50
            replace KC1 := KC1.awayE hk74 n51
            replace K30 := K30.awayE hk74 n52
            replace K48 := K48.overE hk74 rfl
            replace Z31 := Z31.putE hk74
            replace AX := AX.kp hk75
            replace L1 := L1.kp hk75
            replace L2 := L2.kp hk75
            replace BW := Below.putE BW hk74 g54
            clear hk74 hk75
            rw [← e73]
            clear e73
            clear hHeld
            refine hK.out _ _ (by exact trivial) (fun hHeld => ?_)
            clear hK
            (try simp only [p0, p1, p2, p3])
            refine pT 7 ?_
            (try simp only [p0, p1, p2, p3])
            refine wpAnyH_done (by kernel_rfl) (NoPanic.normal ?_) _
            obtain ⟨c76, c77, c78, c79⟩ := KC1.c4
            obtain ⟨c80, c81, c82, c83⟩ := K48.c4
            go_wp2_with fail
            clear c76 c77 c78 c79 c80 c81 c82 c83
            refine (r_same L2 AX).mono ?_
            rintro _ w84 ⟨rfl, hb⟩
            replace KC0 := KC0.on hb
            replace KC1 := KC1.on hb
            replace K30 := K30.on hb
            replace K48 := K48.on hb
            replace Z31 := Z31.on hb
            replace AX := AX.kp (Kept.of hb)
            replace L1 := L1.kp (Kept.of hb)
            replace BW := BW.trans (hb.mono BW.size)
            clear hb
            (try rw [decide_eq_true rfl])
            go_wp2_with fail
            refine (w_lives).mono ?_
            rintro _ w85 ⟨rfl, hb⟩
            replace KC0 := KC0.on hb
            replace KC1 := KC1.on hb
            replace K30 := K30.on hb
            replace K48 := K48.on hb
            replace Z31 := Z31.on hb
            replace AX := AX.kp (Kept.of hb)
            replace L1 := L1.kp (Kept.of hb)
            replace BW := BW.trans (hb.mono BW.size)
            clear hb
            go_wp2_with fail
            exact bodyPost_ret (v := .bool true) (by simp [results, Tryz.results10, go_sem]) rfl ⟨rfl, BW⟩
          ·have ht1 : decide (t < 0) = false := by simp; omega
           have HU := Lib.hid (sgn_ge.1 (show 0 ≤ sgnQ (q2.b * (x / absQ q2.b)) by rw [HT.out]; omega))
           clear ht0
           replace L1 := L1.to (edge_pos HB.out HU.out HX0.out)
           obtain ⟨c57, c58, c59, c60⟩ := KC1.c4
           obtain ⟨c61, c62, c63, c64⟩ := K48.c4
           go_wp2_with fail
           clear c57 c58 c59 c60 c61 c62 c63 c64
           refine (r_same L1 AX).mono ?_
           rintro _ w65 ⟨rfl, hb⟩
           replace KC0 := KC0.on hb
           replace KC1 := KC1.on hb
           replace K30 := K30.on hb
           replace Z31 := Z31.on hb
           replace BW := BW.trans (hb.mono BW.size)
           clear hb
           (try rw [decide_eq_true rfl])
           go_wp2_with fail
           refine (w_lives).mono ?_
           rintro _ w66 ⟨rfl, hb⟩
           replace KC0 := KC0.on hb
           replace KC1 := KC1.on hb
           replace K30 := K30.on hb
           replace Z31 := Z31.on hb
           replace BW := BW.trans (hb.mono BW.size)
           clear hb
           go_wp2_with fail
           exact bodyPost_ret (v := .bool true) (by simp [results, Tryz.results10, go_sem]) rfl ⟨rfl, BW⟩
         ·have he2 : (e2 == 0) = false := by simpa using he
          clear he
          go_wp2_with fail
          go_wp2_with fail
          refine (w_lives).mono ?_
          rintro _ w37 ⟨rfl, hb⟩
          replace KC0 := KC0.on hb
          replace KC1 := KC1.on hb
          replace K30 := K30.on hb
          replace Z31 := Z31.on hb
          replace BW := BW.trans (hb.mono BW.size)
          clear hb
          go_wp2_with fail
          exact bodyPost_ret (v := .bool true) (by simp [results, Tryz.results10, go_sem]) rfl ⟨rfl, BW⟩
       ·obtain ⟨V27, e28, hb29, K30, Z31, -⟩ := alloc_new w26 [.bool u.n, .slice u.A u.xs.length u.c, .bool u.m, .slice u.B u.ds.length u.d] 29
        have n32 : w.heap.size ≠ w26.heap.size := Nat.ne_of_lt (KC0.lt)
        have n33 : w.heap.size + 1 ≠ w26.heap.size := Nat.ne_of_lt (KC1.lt)
        have g34 : w.heap.size ≤ w26.heap.size := BW.size
        replace KC0 := KC0.on hb29
        replace KC1 := KC1.on hb29
        replace BW := BW.trans (hb29.mono BW.size)
        clear hb29
        go_wp2_with fail
        rw [← e28]
        clear e28
        generalize w26.heap.size = b35 at *
        refine (w_lives).mono ?_
        rintro _ w36 ⟨rfl, hb⟩
        replace KC0 := KC0.on hb
        replace KC1 := KC1.on hb
        replace K30 := K30.on hb
        replace Z31 := Z31.on hb
        replace BW := BW.trans (hb.mono BW.size)
        clear hb
        go_wp2_with fail
        exact bodyPost_ret (v := .bool true) (by simp [results, Tryz.results10, go_sem]) rfl ⟨rfl, BW⟩
       ·obtain rfl : s = true := HS.out.2 hb0
        obtain ⟨V27, e28, hb29, K30, Z31, -⟩ := alloc_new w26 [.bool u.n, .slice u.A u.xs.length u.c, .bool u.m, .slice u.B u.ds.length u.d] 29
        have n32 : w.heap.size ≠ w26.heap.size := Nat.ne_of_lt (KC0.lt)
        have n33 : w.heap.size + 1 ≠ w26.heap.size := Nat.ne_of_lt (KC1.lt)
        have g34 : w.heap.size ≤ w26.heap.size := BW.size
        replace KC0 := KC0.on hb29
        replace KC1 := KC1.on hb29
        replace BW := BW.trans (hb29.mono BW.size)
        clear hb29
        go_wp2_with fail
        rw [← e28]
        clear e28
        generalize w26.heap.size = b35 at *
        refine (w_lives).mono ?_
        rintro _ w36 ⟨rfl, hb⟩
        replace KC0 := KC0.on hb
        replace KC1 := KC1.on hb
        replace K30 := K30.on hb
        replace Z31 := Z31.on hb
        replace BW := BW.trans (hb.mono BW.size)
        clear hb
        go_wp2_with fail
        exact bodyPost_ret (v := .bool true) (by simp [results, Tryz.results10, go_sem]) rfl ⟨rfl, BW⟩
       ·obtain ⟨V27, e28, hb29, K30, Z31, -⟩ := alloc_new w26 [.bool u.n, .slice u.A u.xs.length u.c, .bool u.m, .slice u.B u.ds.length u.d] 29
        have n32 : w.heap.size ≠ w26.heap.size := Nat.ne_of_lt (KC0.lt)
        have n33 : w.heap.size + 1 ≠ w26.heap.size := Nat.ne_of_lt (KC1.lt)
        have g34 : w.heap.size ≤ w26.heap.size := BW.size
        replace KC0 := KC0.on hb29
        replace KC1 := KC1.on hb29
        replace BW := BW.trans (hb29.mono BW.size)
        clear hb29
        go_wp2_with fail
        rw [← e28]
        clear e28
        generalize w26.heap.size = b35 at *
        refine (w_lives).mono ?_
        rintro _ w36 ⟨rfl, hb⟩
        replace KC0 := KC0.on hb
        replace KC1 := KC1.on hb
        replace K30 := K30.on hb
        replace Z31 := Z31.on hb
        replace BW := BW.trans (hb.mono BW.size)
        clear hb
        go_wp2_with fail
        exact bodyPost_ret (v := .bool true) (by simp [results, Tryz.results10, go_sem]) rfl ⟨rfl, BW⟩
      ·refine (i_StopNo G.xm A (fun h => ha h.2)).mono ?_
       rintro _ w26 ⟨rfl, hb⟩
       replace KC0 := KC0.on hb
       replace KC1 := KC1.on hb
       replace A := A.kp (Kept.of hb)
       replace BW := BW.trans (hb.mono BW.size)
       clear hb
       obtain ⟨V27, e28, hb29, K30, Z31, -⟩ := alloc_new w26 [.bool false, .slice none 0 0, .bool false, .slice none 0 0] 29
       have n32 : w.heap.size ≠ w26.heap.size := Nat.ne_of_lt (KC0.lt)
       have n33 : w.heap.size + 1 ≠ w26.heap.size := Nat.ne_of_lt (KC1.lt)
       have g34 : w.heap.size ≤ w26.heap.size := BW.size
       replace BW := BW.trans (hb29.mono BW.size)
       clear hb29
       go_wp2_with fail
       rw [← e28]
       clear e28
       generalize w26.heap.size = b35 at *
       refine (w_lives).mono ?_
       rintro _ w36 ⟨rfl, hb⟩
       replace BW := BW.trans (hb.mono BW.size)
       clear hb
       go_wp2_with fail
       exact bodyPost_ret (v := .bool true) (by simp [results, Tryz.results10, go_sem]) rfl ⟨rfl, BW⟩
   ·have HN := Lib.hid (fun h => hM (MayM.at HX.out h) : ¬ MayM wc m)
    refine (i_SharpNo X HN.out).mono ?_
    rintro _ w16 ⟨rfl, hb⟩
    replace A := A.kp (Kept.of hb)
    replace BW := BW.trans (hb.mono BW.size)
    clear hb
    go_wp2_with fail
    refine (w_lives).mono ?_
    rintro _ w17 ⟨rfl, hb⟩
    replace BW := BW.trans (hb.mono BW.size)
    clear hb
    go_wp2_with fail
    exact bodyPost_ret (v := .bool true) (by simp [results, Tryz.results10, go_sem]) rfl ⟨rfl, BW⟩
  ·go_wp2_with fail
   exact bodyPost_ret (v := .bool true) (by simp [results, Tryz.results10, go_sem]) rfl ⟨rfl, BW⟩
end Go.Proofs.YtplgheabhekedaaGreat
