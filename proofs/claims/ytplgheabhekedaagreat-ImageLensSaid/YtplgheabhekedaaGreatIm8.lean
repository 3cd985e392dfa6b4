/-
  What ImageLens answers: yes. Conditions: that what is handed in is no longer than memory.
-/
import Derived.Test.YtplgheabhekedaaGreatImwy
import Derived.Test.YtplgheabhekedaaGreatIma
import Derived.Test.YtplgheabhekedaaGreatRky
import Derived.Deep.RegionHeld3
import Derived.Deep.DeepCutAuto
import Derived.BigRegion
namespace Go.Proofs.YtplgheabhekedaaGreat
open Go.RowKit Nb

def YesM (W : World) (r : Bool) (q : Mq) (y : Mv) : Prop := r = true → Fm W q y
theorem YesM.kp {W W' : World} {r : Bool} {q : Mq} {y : Mv} (h : YesM W r q y) (k : Kept W W') : YesM W' r q y := fun e => (h e).kp k
theorem lens_is {q : Mq} (hc : q.c ≠ 0) (hd : q.det = 1) : imS q (((0 : Int) : Rat) - (q.d - 1) / q.c) ((1 - q.a) / q.c) = Mq.low q.c := by
 have e1 : (q.d - 1) / q.c * q.c = q.d - 1 := Rat.div_mul_cancel hc
 have e2 : (1 - q.a) / q.c * q.c = 1 - q.a := Rat.div_mul_cancel hc
 generalize (q.d - 1) / q.c = u at *
 generalize (1 - q.a) / q.c = v at *
 have e0 : ((0 : Int) : Rat) = 0 := rfl
 rw [e0]
 simp only [Mq.det] at hd
 have ha : q.a + v * q.c = 1 := by grind
 have hx : q.d - u * q.c = 1 := by grind
 apply Mq.ext4
 ·simp only [imS, Mq.mul, Mq.space, Mq.low]; grind
 ·have h1 : (imS q (0 - u) v).b * q.c = 0 := by
   simp only [imS, Mq.mul, Mq.space]
   grind
  have h2 : (imS q (0 - u) v).b = 0 := by
   rcases Rat.mul_eq_zero.1 h1 with h | h
   ·exact h
   ·exact absurd h hc
  rw [h2]; rfl
 ·simp only [imS, Mq.mul, Mq.space, Mq.low]; grind
 ·simp only [imS, Mq.mul, Mq.space, Mq.low]; grind
theorem zero_sub {x : Rat} : ((0 : Int) : Rat) - x = -x := by
 have e0 : ((0 : Int) : Rat) = 0 := rfl
 rw [e0]; grind
set_option maxHeartbeats 16000000 in
set_option maxRecDepth 100000 in
theorem lens_walk {m : Mv} {w : World} (X : Xm w m) :
    Calls Tryz.prog 9 #[mv m] w (fun e w' => e = .returned (.bool true) ∧ Below w.heap.size w w') := by
 have HX := Lib.hid X
 have BW : Below w.heap.size w w := Below.refl _ _
 obtain ⟨V1, e2, hb3, K4, Z5, -⟩ := alloc_new w [.bool m.A.n, .slice m.A.A m.A.xs.length m.A.c, .bool m.A.m, .slice m.A.B m.A.ds.length m.A.d, .bool m.B.n, .slice m.B.A m.B.xs.length m.B.c, .bool m.B.m, .slice m.B.B m.B.ds.length m.B.d, .bool m.C.n, .slice m.C.A m.C.xs.length m.C.c, .bool m.C.m, .slice m.C.B m.C.ds.length m.C.d, .bool m.D.n, .slice m.D.A m.D.xs.length m.D.c, .bool m.D.m, .slice m.D.B m.D.ds.length m.D.d] 31
 replace K4 : Box V1 (w.heap.size) (mcs m) := K4
 have g6 : w.heap.size ≤ w.heap.size := BW.size
 replace X := X.kp (Kept.of hb3)
 replace BW := BW.trans (hb3.mono BW.size)
 clear hb3
 go_enter Tryz.func9, Tryz.ntmps9
 go_upto_region 1 with fail
 rw [← e2]
 clear e2
 have c7 : Box V1 (w.heap.size) [.bool m.A.n, .slice m.A.A m.A.xs.length m.A.c, .bool m.A.m, .slice m.A.B m.A.ds.length m.A.d, .bool m.B.n, .slice m.B.A m.B.xs.length m.B.c, .bool m.B.m, .slice m.B.B m.B.ds.length m.B.d, .bool m.C.n, .slice m.C.A m.C.xs.length m.C.c, .bool m.C.m, .slice m.C.B m.C.ds.length m.C.d, .bool m.D.n, .slice m.D.A m.D.xs.length m.D.c, .bool m.D.m, .slice m.D.B m.D.ds.length m.D.d] := K4
 go_wp2_with (first | (refine wpList_ldM (by rfl) (by rfl) (by rfl) c7 (by rfl) ?_))
 clear c7
 refine (c_matrix X).mono ?_
 rintro _ w8 ⟨n1, rfl, hb⟩
 replace K4 := K4.on hb
 replace Z5 := Z5.on hb
 replace X := X.kp (Kept.of hb)
 replace BW := BW.trans (hb.mono BW.size)
 clear hb
 obtain ⟨V9, e10, hb11, K12, Z13, -⟩ := alloc_new w8 [.int .i64 n1] 3
 have n14 : w.heap.size ≠ w8.heap.size := Nat.ne_of_lt (K4.lt)
 have g15 : w.heap.size ≤ w8.heap.size := BW.size
 replace K4 := K4.on hb11
 replace Z5 := Z5.on hb11
 replace X := X.kp (Kept.of hb11)
 replace BW := BW.trans (hb11.mono BW.size)
 clear hb11
 go_wp2_with fail
 rw [← e10]
 clear e10
 generalize w8.heap.size = b16 at *
 refine (c_beyond (ns := [n1]) (c := 1) K12 (by simp) (by simp)).mono ?_
 rintro _ w17 ⟨r, rfl, hb⟩
 replace K4 := K4.on hb
 replace K12 := K12.on hb
 replace Z5 := Z5.on hb
 replace X := X.kp (Kept.of hb)
 replace BW := BW.trans (hb.mono BW.size)
 clear hb
 clear K12
 cases r
 ·have c18 : Box w17 (w.heap.size) [.bool m.A.n, .slice m.A.A m.A.xs.length m.A.c, .bool m.A.m, .slice m.A.B m.A.ds.length m.A.d, .bool m.B.n, .slice m.B.A m.B.xs.length m.B.c, .bool m.B.m, .slice m.B.B m.B.ds.length m.B.d, .bool m.C.n, .slice m.C.A m.C.xs.length m.C.c, .bool m.C.m, .slice m.C.B m.C.ds.length m.C.d, .bool m.D.n, .slice m.D.A m.D.xs.length m.D.c, .bool m.D.m, .slice m.D.B m.D.ds.length m.D.d] := K4
  go_wp2_with (first | (refine wpList_ldM (by rfl) (by rfl) (by rfl) c18 (by rfl) ?_))
  clear c18
  by_cases hM : MayM w m
  ·obtain ⟨q, G0, hd⟩ := hM
   obtain ⟨q2, G, hd2⟩ := MayM.at X ⟨q, G0, hd⟩
   obtain rfl : q2 = q := G.uniq G0
   have HD := Lib.hid hd2
   clear hd hd2 G0 X
   refine (i_Planes G HD.out).mono ?_
   rintro _ w19 ⟨f, g, er, rfl, R, hb⟩
   replace K4 := K4.on hb
   replace Z5 := Z5.on hb
   replace G := G.kp (Kept.of hb)
   replace BW := BW.trans (hb.mono BW.size)
   clear hb
   obtain ⟨V21, e22, hb23, K24, Z25, z20⟩ := alloc_new w19 [.bool f.n, .slice f.A f.xs.length f.c, .bool f.m, .slice f.B f.ds.length f.d] 29
   have n26 : w.heap.size ≠ w19.heap.size := Nat.ne_of_lt (K4.lt)
   have g27 : w.heap.size ≤ w19.heap.size := BW.size
   replace K4 := K4.on hb23
   replace Z5 := Z5.on hb23
   replace G := G.kp (Kept.of hb23)
   replace R := R.kp (Kept.of hb23)
   replace BW := BW.trans (hb23.mono BW.size)
   clear hb23
   obtain ⟨V28, e29, hb30, K31, Z32, -⟩ := alloc_new V21 [.bool g.n, .slice g.A g.xs.length g.c, .bool g.m, .slice g.B g.ds.length g.d] 29
   rw [z20] at K31 Z32
   have n33 : w.heap.size ≠ w19.heap.size + 1 := Nat.ne_of_lt (z20 ▸ K4.lt)
   have n34 : w19.heap.size ≠ w19.heap.size + 1 := Nat.ne_of_lt (z20 ▸ K24.lt)
   have g35 : w.heap.size ≤ w19.heap.size + 1 := z20 ▸ BW.size
   replace K4 := K4.on hb30
   replace K24 := K24.on hb30
   replace Z5 := Z5.on hb30
   replace Z25 := Z25.on hb30
   replace G := G.kp (Kept.of hb30)
   replace R := R.kp (Kept.of hb30)
   replace BW := BW.trans (hb30.mono BW.size)
   clear hb30
   clear z20
   go_upto_region 4 with fail
   rw [← e22, ← e29]
   clear e22 e29
   generalize w19.heap.size + 1 = b36 at *
   generalize w19.heap.size = b37 at *
   have c38 : Box V28 (w.heap.size) [.bool m.A.n, .slice m.A.A m.A.xs.length m.A.c, .bool m.A.m, .slice m.A.B m.A.ds.length m.A.d, .bool m.B.n, .slice m.B.A m.B.xs.length m.B.c, .bool m.B.m, .slice m.B.B m.B.ds.length m.B.d, .bool m.C.n, .slice m.C.A m.C.xs.length m.C.c, .bool m.C.m, .slice m.C.B m.C.ds.length m.C.d, .bool m.D.n, .slice m.D.A m.D.xs.length m.D.c, .bool m.D.m, .slice m.D.B m.D.ds.length m.D.d] := K4
   go_wp2_with (first | (refine wpList_ldM (by rfl) (by rfl) (by rfl) c38 (by rfl) ?_))
   clear c38
   refine (i_Power G HD.out).mono ?_
   rintro _ w39 ⟨k, rfl, LK, hb⟩
   replace K4 := K4.on hb
   replace K24 := K24.on hb
   replace K31 := K31.on hb
   replace Z5 := Z5.on hb
   replace Z25 := Z25.on hb
   replace Z32 := Z32.on hb
   replace G := G.kp (Kept.of hb)
   replace R := R.kp (Kept.of hb)
   replace BW := BW.trans (hb.mono BW.size)
   clear hb
   rcases R with ⟨hc, rfl, LF, LG⟩ | ⟨hc, rfl, -, -⟩ | ⟨hc, rfl, -, -, -⟩
   ·have HC := Lib.hid hc
    clear hc
    obtain ⟨V40, e41, hb42, K43, Z44, -⟩ := alloc_new w39 [.bool k.n, .slice k.A k.xs.length k.c, .bool k.m, .slice k.B k.ds.length k.d] 29
    have n45 : w.heap.size ≠ w39.heap.size := Nat.ne_of_lt (K4.lt)
    have n46 : b37 ≠ w39.heap.size := Nat.ne_of_lt (K24.lt)
    have n47 : b36 ≠ w39.heap.size := Nat.ne_of_lt (K31.lt)
    have g48 : w.heap.size ≤ w39.heap.size := BW.size
    replace K4 := K4.on hb42
    replace K24 := K24.on hb42
    replace K31 := K31.on hb42
    replace Z5 := Z5.on hb42
    replace Z25 := Z25.on hb42
    replace Z32 := Z32.on hb42
    replace G := G.kp (Kept.of hb42)
    replace LK := LK.kp (Kept.of hb42)
    replace LF := LF.kp (Kept.of hb42)
    replace LG := LG.kp (Kept.of hb42)
    replace BW := BW.trans (hb42.mono BW.size)
    clear hb42
    go_wp2_with fail
    rw [← e41]
    clear e41
    generalize w39.heap.size = b49 at *
    have HF1 := Lib.hid (show FitsQ (((0 : Int) : Rat) - (q2.d - 1) / q2.c) by rw [zero_sub]; exact fits_neg LF.fits)
    have HF2 := Lib.hid (show FitsQ (((0 : Int) : Rat) - -q2.c) by rw [zero_sub]; exact fits_neg LK.fits)
    go_cut [8, 9] (fun sv0 sw0 wx => ∃ (pka_0 : Nat) (ua : Fv), sv0 = .pointer (some ⟨pka_0, 0, none⟩) ∧ sw0 = .int .i64 0 ∧ Below w.heap.size w wx ∧ Box wx (w.heap.size) (mcs m) ∧ Box wx (b37) [.bool f.n, .slice f.A f.xs.length f.c, .bool f.m, .slice f.B f.ds.length f.d] ∧ Box wx (b36) [.bool g.n, .slice g.A g.xs.length g.c, .bool g.m, .slice g.B g.ds.length g.d] ∧ Box wx (b49) [.bool k.n, .slice k.A k.xs.length k.c, .bool k.m, .slice k.B k.ds.length k.d] ∧ Fz wx (w.heap.size) ∧ Fz wx (b37) ∧ Fz wx (b36) ∧ Fz wx (b49) ∧ Fm wx (q2) m ∧ Ff wx (-q2.c) k ∧ Ff wx ((q2.d - 1) / q2.c) f ∧ Ff wx ((1 - q2.a) / q2.c) g ∧ Box wx pka_0 [.bool ua.n, .slice ua.A ua.xs.length ua.c, .bool ua.m, .slice ua.B ua.ds.length ua.d] ∧ pka_0 ≠ w.heap.size ∧ pka_0 ≠ b37 ∧ pka_0 ≠ b36 ∧ pka_0 ≠ b49 ∧ Ff wx (((0 : Int) : Rat) - (q2.d - 1) / q2.c) ua)
    case first =>
     refine wp_region_noPanic ?_
     have hb : Below V40.heap.size V40 V40.drew := (Below.refl _ _).drew
     replace K4 := K4.on hb
     replace K24 := K24.on hb
     replace K31 := K31.on hb
     replace K43 := K43.on hb
     replace Z5 := Z5.on hb
     replace Z25 := Z25.on hb
     replace Z32 := Z32.on hb
     replace Z44 := Z44.on hb
     replace G := G.kp (Kept.of hb)
     replace LK := LK.kp (Kept.of hb)
     replace LF := LF.kp (Kept.of hb)
     replace LG := LG.kp (Kept.of hb)
     replace BW := BW.trans (hb.mono BW.size)
     clear hb
     refine wp_region_held_drew (S := (fun wx => Cs wx (b37) 0 [.bool f.n, .slice f.A f.xs.length f.c, .bool f.m, .slice f.B f.ds.length f.d])) (by kernel_rfl) (by exact K24.cs) (fun hHeld => ?_)
     generalize V40.drew = Vd50 at *
     refine pT 1 ?_
     (try simp only [p0, p1, p2, p3])
     clear hHeld
     refine nameH (fun OP QQ AA hOP hQQ hAA => ?_)
     have kya_2_1 : ∀ (o : Fv) (ua : Fv) (kq0 : Nat) (W : World) (hw : Below Vd50.heap.size Vd50 W) (O : Ff W (((0 : Int) : Rat)) o) (L1 : Ff W (((0 : Int) : Rat) - (q2.d - 1) / q2.c) ua) (kb0 : Box W kq0 [.bool false, .slice none 0 0, .bool false, .slice none 0 0]) (kz0 : Fz W kq0) (kg0 : Vd50.heap.size ≤ kq0) , wpAnyH Tryz.prog .any OP QQ (fun wx => Cs wx (b37) 0 [.bool f.n, .slice f.A f.xs.length f.c, .bool f.m, .slice f.B f.ds.length f.d]) 2 #[true, true, true, true, true, true, true, false, false] ((((((AA.put (some 59) (.agg #[.bool o.n, .slice o.A o.xs.length o.c, .bool o.m, .slice o.B o.ds.length o.d])).put (some 61) (.tuple #[.agg #[.bool ua.n, .slice ua.A ua.xs.length ua.c, .bool ua.m, .slice ua.B ua.ds.length ua.d], .int .i64 0])).put (some 8) (.pointer (some ⟨kq0, 0, none⟩))).put (some 58) (.tuple #[.agg #[.bool ua.n, .slice ua.A ua.xs.length ua.c, .bool ua.m, .slice ua.B ua.ds.length ua.d], .int .i64 0])).put (some 62) (.agg #[.bool ua.n, .slice ua.A ua.xs.length ua.c, .bool ua.m, .slice ua.B ua.ds.length ua.d])).put (some 63) (.int .i64 0)) W := by
      intro o ua kq0 W hw O L1 kb0 kz0 kg0
      subst hOP
      subst hQQ
      subst hAA
      (try simp only [p0, p1, p2, p3])
      have gw0 : w.heap.size ≤ kq0 := Nat.le_trans BW.size kg0
      have xK40 : w.heap.size ≠ kq0 := Nat.ne_of_lt (Nat.lt_of_lt_of_le K4.lt kg0)
      have xK240 : b37 ≠ kq0 := Nat.ne_of_lt (Nat.lt_of_lt_of_le K24.lt kg0)
      have xK310 : b36 ≠ kq0 := Nat.ne_of_lt (Nat.lt_of_lt_of_le K31.lt kg0)
      have xK430 : b49 ≠ kq0 := Nat.ne_of_lt (Nat.lt_of_lt_of_le K43.lt kg0)
      replace K4 := K4.on hw
      replace Z5 := Z5.on hw
      replace K24 := K24.on hw
      replace Z25 := Z25.on hw
      replace K31 := K31.on hw
      replace Z32 := Z32.on hw
      replace K43 := K43.on hw
      replace Z44 := Z44.on hw
      replace G := G.kp (Kept.of hw)
      replace LK := LK.kp (Kept.of hw)
      replace LF := LF.kp (Kept.of hw)
      replace LG := LG.kp (Kept.of hw)
      replace BW := BW.trans (hw.mono BW.size)
      refine pR1 7 (fun K hK => ?_)
      obtain ⟨c51, c52, c53, c54⟩ := kb0.c4
      obtain ⟨c55, c56, c57, c58⟩ := kz0.f4
      go_simp
      clear c51 c52 c53 c54 c55 c56 c57 c58
      obtain ⟨V59, hk61⟩ : ∃ V59, V59 = W.setCells (kq0) 0 [.bool ua.n, .slice ua.A ua.xs.length ua.c, .bool ua.m, .slice ua.B ua.ds.length ua.d] := ⟨_, rfl⟩
      have e60 := hk61
      simp only [World.setCells, Nat.zero_add, Nat.reduceAdd] at e60
      have hk62 := Kept.overE hk61 kb0 rfl (Nat.le_of_ble_eq_true rfl)
      replace K4 := K4.awayE hk61 xK40
      replace K24 := K24.awayE hk61 xK240
      replace K31 := K31.awayE hk61 xK310
      replace K43 := K43.awayE hk61 xK430
      replace kb0 := kb0.overE hk61 rfl
      replace Z5 := Z5.putE hk61
      replace Z25 := Z25.putE hk61
      replace Z32 := Z32.putE hk61
      replace Z44 := Z44.putE hk61
      replace kz0 := kz0.putE hk61
      replace G := G.kp hk62
      replace LK := LK.kp hk62
      replace LF := LF.kp hk62
      replace LG := LG.kp hk62
      replace O := O.kp hk62
      replace L1 := L1.kp hk62
      replace BW := Below.putE BW hk61 gw0
      clear hk61 hk62
      rw [← e60]
      clear e60
      refine hK.out _ _ (by exact K24.cs) (fun hHeld => ?_)
      clear hK
      (try simp only [p1, p2, p3])
      clear hHeld
      have hHeld : (fun wx => Cs wx (b37) 0 [.bool f.n, .slice f.A f.xs.length f.c, .bool f.m, .slice f.B f.ds.length f.d]) V59 := (by exact K24.cs)
      refine pT 8 ?_
      (try simp only [p0, p1, p2, p3])
      clear hHeld
      refine wpAnyH_done (by kernel_rfl) (NoPanic.normal ?_) _
      go_wp2
      go_meet
      exact ⟨kq0, ua, rfl, rfl, BW, K4, K24, K31, K43, Z5, Z25, Z32, Z44, G, LK, LF, LG, kb0, xK40.symm, xK240.symm, xK310.symm, xK430.symm, L1⟩
     have kya_1_1 : ∀ (o : Fv) (kq0 : Nat) (W : World) (hw : Below Vd50.heap.size Vd50 W) (O : Ff W (((0 : Int) : Rat)) o) (kb0 : Box W kq0 [.bool false, .slice none 0 0, .bool false, .slice none 0 0]) (kz0 : Fz W kq0) (kg0 : Vd50.heap.size ≤ kq0) , wpAnyH Tryz.prog .any OP QQ (fun wx => Cs wx (b37) 0 [.bool f.n, .slice f.A f.xs.length f.c, .bool f.m, .slice f.B f.ds.length f.d]) 6 #[true, true, false, false, false, false, true, false, false] ((AA.put (some 59) (.agg #[.bool o.n, .slice o.A o.xs.length o.c, .bool o.m, .slice o.B o.ds.length o.d])).put (some 8) (.pointer (some ⟨kq0, 0, none⟩))) W := by
      intro o kq0 W hw O kb0 kz0 kg0
      subst hOP
      subst hQQ
      subst hAA
      (try simp only [p0, p1, p2, p3])
      refine pR1 2 (fun K hK => ?_)
      replace LF := LF.kp (Kept.of hw)
      replace K24 := K24.on hw
      go_simp
      (go_at_call 25; with_reducible refine (r_sub O LF).mono ?_)
      rintro _ W2 ⟨ua, er, rfl, R, hb⟩
      (try go_wp2_with fail)
      obtain ⟨rfl, L1⟩ := R.yes not_false (HF1.out)
      clear R
      have hw2 := hw.trans (hb.mono hw.size)
      refine hK.out _ _ (by exact (K24.on hb).cs) (fun hHeld => ?_)
      clear hK
      (try simp only [p1, p2, p3])
      refine pT 3 ?_
      (try simp only [p0, p1, p2, p3])
      refine pT 4 ?_
      (try simp only [p0, p1, p2, p3])
      refine pT 5 ?_
      (try simp only [p0, p1, p2, p3])
      have ky := kya_2_1 o ua kq0 W2 hw2 (O.kp (Kept.of hb)) L1 (kb0.on hb) (kz0.on hb) kg0 
      (try simp only [p0, p1, p2, p3] at ky)
      exact castL (by kernel_rfl) ky
     have kya_2_0 : ∀ (o : Fv) (ua : Fv)  (W : World) (hw : Below Vd50.heap.size Vd50 W) (O : Ff W (((0 : Int) : Rat)) o) (L1 : Ff W (((0 : Int) : Rat) - (q2.d - 1) / q2.c) ua)  , wpAnyH Tryz.prog .any OP QQ (fun wx => Cs wx (b37) 0 [.bool f.n, .slice f.A f.xs.length f.c, .bool f.m, .slice f.B f.ds.length f.d]) 3 #[true, true, true, true, true, true, false, false, false] (((((AA.put (some 59) (.agg #[.bool o.n, .slice o.A o.xs.length o.c, .bool o.m, .slice o.B o.ds.length o.d])).put (some 61) (.tuple #[.agg #[.bool ua.n, .slice ua.A ua.xs.length ua.c, .bool ua.m, .slice ua.B ua.ds.length ua.d], .int .i64 0])).put (some 58) (.tuple #[.agg #[.bool ua.n, .slice ua.A ua.xs.length ua.c, .bool ua.m, .slice ua.B ua.ds.length ua.d], .int .i64 0])).put (some 62) (.agg #[.bool ua.n, .slice ua.A ua.xs.length ua.c, .bool ua.m, .slice ua.B ua.ds.length ua.d])).put (some 63) (.int .i64 0)) W := by
      intro o ua W hw O L1
      subst hOP
      subst hQQ
      subst hAA
      (try simp only [p0, p1, p2, p3])
      refine pR1 6 (fun K hK => ?_)
      replace K24 := K24.on hw
      go_simp
      obtain ⟨V2, e2, hb, K2, Z2, -⟩ := alloc_new W [.bool false, .slice none 0 0, .bool false, .slice none 0 0] 29
      rw [← e2]
      clear e2
      have hw2 := hw.trans (hb.mono hw.size)
      refine hK.out _ _ (by exact (K24.on hb).cs) (fun hHeld => ?_)
      clear hK
      (try simp only [p1, p2, p3])
      have ky := kya_2_1 o ua W.heap.size V2 hw2 (O.kp (Kept.of hb)) (L1.kp (Kept.of hb)) K2 Z2 hw.size 
      (try simp only [p0, p1, p2, p3] at ky)
      exact castL (by kernel_rfl) ky
     have kya_0_1 : ∀  (kq0 : Nat) (W : World) (hw : Below Vd50.heap.size Vd50 W)  (kb0 : Box W kq0 [.bool false, .slice none 0 0, .bool false, .slice none 0 0]) (kz0 : Fz W kq0) (kg0 : Vd50.heap.size ≤ kq0) , wpAnyH Tryz.prog .any OP QQ (fun wx => Cs wx (b37) 0 [.bool f.n, .slice f.A f.xs.length f.c, .bool f.m, .slice f.B f.ds.length f.d]) 7 #[false, true, false, false, false, false, true, false, false] (AA.put (some 8) (.pointer (some ⟨kq0, 0, none⟩))) W := by
      intro kq0 W hw kb0 kz0 kg0
      subst hOP
      subst hQQ
      subst hAA
      (try simp only [p0, p1, p2, p3])
      refine pR1 0 (fun K hK => ?_)
      replace K24 := K24.on hw
      go_simp
      (go_at_call 43; with_reducible refine (w_int (n := 0) (by decide) (by decide)).mono ?_)
      rintro _ W2 ⟨o, rfl, O, hb⟩
      (try go_wp2_with fail)
      have hw2 := hw.trans (hb.mono hw.size)
      refine hK.out _ _ (by exact (K24.on hb).cs) (fun hHeld => ?_)
      clear hK
      (try simp only [p1, p2])
      have ky := kya_1_1 o kq0 W2 hw2 O (kb0.on hb) (kz0.on hb) kg0 
      (try simp only [p0, p1, p2, p3] at ky)
      exact castL (by kernel_rfl) ky
     have kya_1_0 : ∀ (o : Fv)  (W : World) (hw : Below Vd50.heap.size Vd50 W) (O : Ff W (((0 : Int) : Rat)) o)  , wpAnyH Tryz.prog .any OP QQ (fun wx => Cs wx (b37) 0 [.bool f.n, .slice f.A f.xs.length f.c, .bool f.m, .slice f.B f.ds.length f.d]) 7 #[true, true, false, false, false, false, false, false, false] (AA.put (some 59) (.agg #[.bool o.n, .slice o.A o.xs.length o.c, .bool o.m, .slice o.B o.ds.length o.d])) W := by
      intro o W hw O
      subst hOP
      subst hQQ
      subst hAA
      (try simp only [p0, p1, p2, p3])
      refine pR2 2 6 (fun K hK => ?_) (fun K hK => ?_)
      ·replace LF := LF.kp (Kept.of hw)
       replace K24 := K24.on hw
       go_simp
       (go_at_call 25; with_reducible refine (r_sub O LF).mono ?_)
       rintro _ W2 ⟨ua, er, rfl, R, hb⟩
       (try go_wp2_with fail)
       obtain ⟨rfl, L1⟩ := R.yes not_false (HF1.out)
       clear R
       have hw2 := hw.trans (hb.mono hw.size)
       refine hK.out _ _ (by exact (K24.on hb).cs) (fun hHeld => ?_)
       clear hK
       (try simp only [p1, p2, p3])
       refine pT 3 ?_
       (try simp only [p0, p1, p2, p3])
       refine pT 4 ?_
       (try simp only [p0, p1, p2, p3])
       refine pT 5 ?_
       (try simp only [p0, p1, p2, p3])
       have ky := kya_2_0 o ua  W2 hw2 (O.kp (Kept.of hb)) L1  
       (try simp only [p0, p1, p2, p3] at ky)
       exact castL (by kernel_rfl) ky
      ·replace K24 := K24.on hw
       go_simp
       obtain ⟨V2, e2, hb, K2, Z2, -⟩ := alloc_new W [.bool false, .slice none 0 0, .bool false, .slice none 0 0] 29
       rw [← e2]
       clear e2
       have hw2 := hw.trans (hb.mono hw.size)
       refine hK.out _ _ (by exact (K24.on hb).cs) (fun hHeld => ?_)
       clear hK
       (try simp only [p1, p2, p3])
       have ky := kya_1_1 o W.heap.size V2 hw2 (O.kp (Kept.of hb)) K2 Z2 hw.size 
       (try simp only [p0, p1, p2, p3] at ky)
       exact castL (by kernel_rfl) ky
     have kya_0_0 : ∀   (W : World) (hw : Below Vd50.heap.size Vd50 W)   , wpAnyH Tryz.prog .any OP QQ (fun wx => Cs wx (b37) 0 [.bool f.n, .slice f.A f.xs.length f.c, .bool f.m, .slice f.B f.ds.length f.d]) 8 #[false, true, false, false, false, false, false, false, false] AA W := by
      intro W hw
      subst hOP
      subst hQQ
      subst hAA
      (try simp only [p0, p1, p2, p3])
      refine pR2 0 6 (fun K hK => ?_) (fun K hK => ?_)
      ·replace K24 := K24.on hw
       go_simp
       (go_at_call 43; with_reducible refine (w_int (n := 0) (by decide) (by decide)).mono ?_)
       rintro _ W2 ⟨o, rfl, O, hb⟩
       (try go_wp2_with fail)
       have hw2 := hw.trans (hb.mono hw.size)
       refine hK.out _ _ (by exact (K24.on hb).cs) (fun hHeld => ?_)
       clear hK
       (try simp only [p1, p2])
       have ky := kya_1_0 o  W2 hw2 O  
       (try simp only [p0, p1, p2, p3] at ky)
       exact castL (by kernel_rfl) ky
      ·replace K24 := K24.on hw
       go_simp
       obtain ⟨V2, e2, hb, K2, Z2, -⟩ := alloc_new W [.bool false, .slice none 0 0, .bool false, .slice none 0 0] 29
       rw [← e2]
       clear e2
       have hw2 := hw.trans (hb.mono hw.size)
       refine hK.out _ _ (by exact (K24.on hb).cs) (fun hHeld => ?_)
       clear hK
       (try simp only [p1, p2, p3])
       have ky := kya_0_1  W.heap.size V2 hw2  K2 Z2 hw.size 
       (try simp only [p0, p1, p2, p3] at ky)
       exact castL (by kernel_rfl) ky
     exact castL (by kernel_rfl) (kya_0_0 Vd50 (Below.refl _ _))
    case rest =>
     obtain ⟨pka_0, ua, rfl, rfl, BW, K4, K24, K31, K43, Z5, Z25, Z32, Z44, G, LK, LF, LG, KNa_0, nn50, nn51, nn52, nn53, L1⟩ := hcut
     obtain ⟨c54, c55, c56, c57⟩ := K31.c4
     obtain ⟨c58, c59, c60, c61⟩ := KNa_0.c4
     have c62 : Box wc (w.heap.size) [.bool m.A.n, .slice m.A.A m.A.xs.length m.A.c, .bool m.A.m, .slice m.A.B m.A.ds.length m.A.d, .bool m.B.n, .slice m.B.A m.B.xs.length m.B.c, .bool m.B.m, .slice m.B.B m.B.ds.length m.B.d, .bool m.C.n, .slice m.C.A m.C.xs.length m.C.c, .bool m.C.m, .slice m.C.B m.C.ds.length m.C.d, .bool m.D.n, .slice m.D.A m.D.xs.length m.D.c, .bool m.D.m, .slice m.D.B m.D.ds.length m.D.d] := K4
     go_wp2_with (first | (refine wpList_ldM (by rfl) (by rfl) (by rfl) c62 (by rfl) ?_))
     clear c54 c55 c56 c57 c58 c59 c60 c61 c62
     refine (w_within G HD.out L1 LG).mono ?_
     rintro _ w63 ⟨y, r2, rfl, hr, hb⟩
     replace K4 := K4.on hb
     replace K24 := K24.on hb
     replace K31 := K31.on hb
     replace K43 := K43.on hb
     replace KNa_0 := KNa_0.on hb
     replace Z5 := Z5.on hb
     replace Z25 := Z25.on hb
     replace Z32 := Z32.on hb
     replace Z44 := Z44.on hb
     replace LK := LK.kp (Kept.of hb)
     replace BW := BW.trans (hb.mono BW.size)
     clear hb
     have HR : YesM w63 r2 (Mq.low q2.c) y := fun h => (hr h).to (lens_is HC.out HD.out)
     clear hr
     obtain ⟨V64, e65, hb66, K67, Z68, -⟩ := alloc_new w63 [.bool y.A.n, .slice y.A.A y.A.xs.length y.A.c, .bool y.A.m, .slice y.A.B y.A.ds.length y.A.d, .bool y.B.n, .slice y.B.A y.B.xs.length y.B.c, .bool y.B.m, .slice y.B.B y.B.ds.length y.B.d, .bool y.C.n, .slice y.C.A y.C.xs.length y.C.c, .bool y.C.m, .slice y.C.B y.C.ds.length y.C.d, .bool y.D.n, .slice y.D.A y.D.xs.length y.D.c, .bool y.D.m, .slice y.D.B y.D.ds.length y.D.d] 31
     replace K67 : Box V64 (w63.heap.size) (mcs y) := K67
     have n69 : w.heap.size ≠ w63.heap.size := Nat.ne_of_lt (K4.lt)
     have n70 : b37 ≠ w63.heap.size := Nat.ne_of_lt (K24.lt)
     have n71 : b36 ≠ w63.heap.size := Nat.ne_of_lt (K31.lt)
     have n72 : b49 ≠ w63.heap.size := Nat.ne_of_lt (K43.lt)
     have n73 : pka_0 ≠ w63.heap.size := Nat.ne_of_lt (KNa_0.lt)
     have g74 : w.heap.size ≤ w63.heap.size := BW.size
     replace K4 := K4.on hb66
     replace K24 := K24.on hb66
     replace K31 := K31.on hb66
     replace K43 := K43.on hb66
     replace KNa_0 := KNa_0.on hb66
     replace Z5 := Z5.on hb66
     replace Z25 := Z25.on hb66
     replace Z32 := Z32.on hb66
     replace Z44 := Z44.on hb66
     replace LK := LK.kp (Kept.of hb66)
     replace HR := HR.kp (Kept.of hb66)
     replace BW := BW.trans (hb66.mono BW.size)
     clear hb66
     go_wp2_with (first | (refine wpList_stNew (by rfl) (by rfl) (by rfl) (by rfl) (by rfl) (by rfl) (by rfl) ?_))
     (try simp only [p0, p1, p2, p3])
     rw [← e65]
     clear e65
     generalize w63.heap.size = b75 at *
     go_cut [12, 13] (fun sv0 sw0 wx => ∃ (pkb_0 : Nat) (ub : Fv), sv0 = .pointer (some ⟨pkb_0, 0, none⟩) ∧ sw0 = .int .i64 0 ∧ Below w.heap.size w wx ∧ Box wx (w.heap.size) (mcs m) ∧ Box wx (b37) [.bool f.n, .slice f.A f.xs.length f.c, .bool f.m, .slice f.B f.ds.length f.d] ∧ Box wx (b36) [.bool g.n, .slice g.A g.xs.length g.c, .bool g.m, .slice g.B g.ds.length g.d] ∧ Box wx (b49) [.bool k.n, .slice k.A k.xs.length k.c, .bool k.m, .slice k.B k.ds.length k.d] ∧ Box wx (pka_0) [.bool ua.n, .slice ua.A ua.xs.length ua.c, .bool ua.m, .slice ua.B ua.ds.length ua.d] ∧ Box wx (b75) (mcs y) ∧ Fz wx (w.heap.size) ∧ Fz wx (b37) ∧ Fz wx (b36) ∧ Fz wx (b49) ∧ Fz wx (b75) ∧ Ff wx (-q2.c) k ∧ YesM wx r2 (Mq.low q2.c) y ∧ Box wx pkb_0 [.bool ub.n, .slice ub.A ub.xs.length ub.c, .bool ub.m, .slice ub.B ub.ds.length ub.d] ∧ pkb_0 ≠ w.heap.size ∧ pkb_0 ≠ b37 ∧ pkb_0 ≠ b36 ∧ pkb_0 ≠ b49 ∧ pkb_0 ≠ b75 ∧ Ff wx (((0 : Int) : Rat) - -q2.c) ub)
     case first =>
      refine wp_region_noPanic ?_
      have hb : Below V64.heap.size V64 V64.drew := (Below.refl _ _).drew
      replace K4 := K4.on hb
      replace K24 := K24.on hb
      replace K31 := K31.on hb
      replace K43 := K43.on hb
      replace KNa_0 := KNa_0.on hb
      replace K67 := K67.on hb
      replace Z5 := Z5.on hb
      replace Z25 := Z25.on hb
      replace Z32 := Z32.on hb
      replace Z44 := Z44.on hb
      replace Z68 := Z68.on hb
      replace LK := LK.kp (Kept.of hb)
      replace HR := HR.kp (Kept.of hb)
      replace BW := BW.trans (hb.mono BW.size)
      clear hb
      refine wp_region_held_drew (S := (fun wx => Cs wx (b49) 0 [.bool k.n, .slice k.A k.xs.length k.c, .bool k.m, .slice k.B k.ds.length k.d])) (by kernel_rfl) (by exact K43.cs) (fun hHeld => ?_)
      generalize V64.drew = Vd76 at *
      refine pT 1 ?_
      (try simp only [p0, p1, p2, p3])
      clear hHeld
      refine nameH (fun OP QQ AA hOP hQQ hAA => ?_)
      have kyb_2_1 : ∀ (o : Fv) (ub : Fv) (kq0 : Nat) (W : World) (hw : Below Vd76.heap.size Vd76 W) (O : Ff W (((0 : Int) : Rat)) o) (L2 : Ff W (((0 : Int) : Rat) - -q2.c) ub) (kb0 : Box W kq0 [.bool false, .slice none 0 0, .bool false, .slice none 0 0]) (kz0 : Fz W kq0) (kg0 : Vd76.heap.size ≤ kq0) , wpAnyH Tryz.prog .any OP QQ (fun wx => Cs wx (b49) 0 [.bool k.n, .slice k.A k.xs.length k.c, .bool k.m, .slice k.B k.ds.length k.d]) 2 #[true, true, true, true, true, true, true, false, false] ((((((AA.put (some 72) (.agg #[.bool o.n, .slice o.A o.xs.length o.c, .bool o.m, .slice o.B o.ds.length o.d])).put (some 74) (.tuple #[.agg #[.bool ub.n, .slice ub.A ub.xs.length ub.c, .bool ub.m, .slice ub.B ub.ds.length ub.d], .int .i64 0])).put (some 12) (.pointer (some ⟨kq0, 0, none⟩))).put (some 71) (.tuple #[.agg #[.bool ub.n, .slice ub.A ub.xs.length ub.c, .bool ub.m, .slice ub.B ub.ds.length ub.d], .int .i64 0])).put (some 75) (.agg #[.bool ub.n, .slice ub.A ub.xs.length ub.c, .bool ub.m, .slice ub.B ub.ds.length ub.d])).put (some 76) (.int .i64 0)) W := by
       intro o ub kq0 W hw O L2 kb0 kz0 kg0
       subst hOP
       subst hQQ
       subst hAA
       (try simp only [p0, p1, p2, p3])
       have gw0 : w.heap.size ≤ kq0 := Nat.le_trans BW.size kg0
       have xK40 : w.heap.size ≠ kq0 := Nat.ne_of_lt (Nat.lt_of_lt_of_le K4.lt kg0)
       have xK240 : b37 ≠ kq0 := Nat.ne_of_lt (Nat.lt_of_lt_of_le K24.lt kg0)
       have xK310 : b36 ≠ kq0 := Nat.ne_of_lt (Nat.lt_of_lt_of_le K31.lt kg0)
       have xK430 : b49 ≠ kq0 := Nat.ne_of_lt (Nat.lt_of_lt_of_le K43.lt kg0)
       have xKNa_00 : pka_0 ≠ kq0 := Nat.ne_of_lt (Nat.lt_of_lt_of_le KNa_0.lt kg0)
       have xK670 : b75 ≠ kq0 := Nat.ne_of_lt (Nat.lt_of_lt_of_le K67.lt kg0)
       replace K4 := K4.on hw
       replace Z5 := Z5.on hw
       replace K24 := K24.on hw
       replace Z25 := Z25.on hw
       replace K31 := K31.on hw
       replace Z32 := Z32.on hw
       replace K43 := K43.on hw
       replace Z44 := Z44.on hw
       replace KNa_0 := KNa_0.on hw
       replace K67 := K67.on hw
       replace Z68 := Z68.on hw
       replace LK := LK.kp (Kept.of hw)
       replace HR := HR.kp (Kept.of hw)
       replace BW := BW.trans (hw.mono BW.size)
       refine pR1 7 (fun K hK => ?_)
       obtain ⟨c77, c78, c79, c80⟩ := kb0.c4
       obtain ⟨c81, c82, c83, c84⟩ := kz0.f4
       go_simp
       clear c77 c78 c79 c80 c81 c82 c83 c84
       obtain ⟨V85, hk87⟩ : ∃ V85, V85 = W.setCells (kq0) 0 [.bool ub.n, .slice ub.A ub.xs.length ub.c, .bool ub.m, .slice ub.B ub.ds.length ub.d] := ⟨_, rfl⟩
       have e86 := hk87
       simp only [World.setCells, Nat.zero_add, Nat.reduceAdd] at e86
       have hk88 := Kept.overE hk87 kb0 rfl (Nat.le_of_ble_eq_true rfl)
       replace K4 := K4.awayE hk87 xK40
       replace K24 := K24.awayE hk87 xK240
       replace K31 := K31.awayE hk87 xK310
       replace K43 := K43.awayE hk87 xK430
       replace KNa_0 := KNa_0.awayE hk87 xKNa_00
       replace K67 := K67.awayE hk87 xK670
       replace kb0 := kb0.overE hk87 rfl
       replace Z5 := Z5.putE hk87
       replace Z25 := Z25.putE hk87
       replace Z32 := Z32.putE hk87
       replace Z44 := Z44.putE hk87
       replace Z68 := Z68.putE hk87
       replace kz0 := kz0.putE hk87
       replace LK := LK.kp hk88
       replace HR := HR.kp hk88
       replace O := O.kp hk88
       replace L2 := L2.kp hk88
       replace BW := Below.putE BW hk87 gw0
       clear hk87 hk88
       rw [← e86]
       clear e86
       refine hK.out _ _ (by exact K43.cs) (fun hHeld => ?_)
       clear hK
       (try simp only [p1, p2, p3])
       clear hHeld
       have hHeld : (fun wx => Cs wx (b49) 0 [.bool k.n, .slice k.A k.xs.length k.c, .bool k.m, .slice k.B k.ds.length k.d]) V85 := (by exact K43.cs)
       refine pT 8 ?_
       (try simp only [p0, p1, p2, p3])
       clear hHeld
       refine wpAnyH_done (by kernel_rfl) (NoPanic.normal ?_) _
       go_wp2
       go_meet
       exact ⟨kq0, ub, rfl, rfl, BW, K4, K24, K31, K43, KNa_0, K67, Z5, Z25, Z32, Z44, Z68, LK, HR, kb0, xK40.symm, xK240.symm, xK310.symm, xK430.symm, xK670.symm, L2⟩
      have kyb_1_1 : ∀ (o : Fv) (kq0 : Nat) (W : World) (hw : Below Vd76.heap.size Vd76 W) (O : Ff W (((0 : Int) : Rat)) o) (kb0 : Box W kq0 [.bool false, .slice none 0 0, .bool false, .slice none 0 0]) (kz0 : Fz W kq0) (kg0 : Vd76.heap.size ≤ kq0) , wpAnyH Tryz.prog .any OP QQ (fun wx => Cs wx (b49) 0 [.bool k.n, .slice k.A k.xs.length k.c, .bool k.m, .slice k.B k.ds.length k.d]) 6 #[true, true, false, false, false, false, true, false, false] ((AA.put (some 72) (.agg #[.bool o.n, .slice o.A o.xs.length o.c, .bool o.m, .slice o.B o.ds.length o.d])).put (some 12) (.pointer (some ⟨kq0, 0, none⟩))) W := by
       intro o kq0 W hw O kb0 kz0 kg0
       subst hOP
       subst hQQ
       subst hAA
       (try simp only [p0, p1, p2, p3])
       refine pR1 2 (fun K hK => ?_)
       replace LK := LK.kp (Kept.of hw)
       replace K43 := K43.on hw
       go_simp
       (go_at_call 25; with_reducible refine (r_sub O LK).mono ?_)
       rintro _ W2 ⟨ub, er, rfl, R, hb⟩
       (try go_wp2_with fail)
       obtain ⟨rfl, L2⟩ := R.yes not_false (HF2.out)
       clear R
       have hw2 := hw.trans (hb.mono hw.size)
       refine hK.out _ _ (by exact (K43.on hb).cs) (fun hHeld => ?_)
       clear hK
       (try simp only [p1, p2, p3])
       refine pT 3 ?_
       (try simp only [p0, p1, p2, p3])
       refine pT 4 ?_
       (try simp only [p0, p1, p2, p3])
       refine pT 5 ?_
       (try simp only [p0, p1, p2, p3])
       have ky := kyb_2_1 o ub kq0 W2 hw2 (O.kp (Kept.of hb)) L2 (kb0.on hb) (kz0.on hb) kg0 
       (try simp only [p0, p1, p2, p3] at ky)
       exact castL (by kernel_rfl) ky
      have kyb_2_0 : ∀ (o : Fv) (ub : Fv)  (W : World) (hw : Below Vd76.heap.size Vd76 W) (O : Ff W (((0 : Int) : Rat)) o) (L2 : Ff W (((0 : Int) : Rat) - -q2.c) ub)  , wpAnyH Tryz.prog .any OP QQ (fun wx => Cs wx (b49) 0 [.bool k.n, .slice k.A k.xs.length k.c, .bool k.m, .slice k.B k.ds.length k.d]) 3 #[true, true, true, true, true, true, false, false, false] (((((AA.put (some 72) (.agg #[.bool o.n, .slice o.A o.xs.length o.c, .bool o.m, .slice o.B o.ds.length o.d])).put (some 74) (.tuple #[.agg #[.bool ub.n, .slice ub.A ub.xs.length ub.c, .bool ub.m, .slice ub.B ub.ds.length ub.d], .int .i64 0])).put (some 71) (.tuple #[.agg #[.bool ub.n, .slice ub.A ub.xs.length ub.c, .bool ub.m, .slice ub.B ub.ds.length ub.d], .int .i64 0])).put (some 75) (.agg #[.bool ub.n, .slice ub.A ub.xs.length ub.c, .bool ub.m, .slice ub.B ub.ds.length ub.d])).put (some 76) (.int .i64 0)) W := by
       intro o ub W hw O L2
       subst hOP
       subst hQQ
       subst hAA
       (try simp only [p0, p1, p2, p3])
       refine pR1 6 (fun K hK => ?_)
       replace K43 := K43.on hw
       go_simp
       obtain ⟨V2, e2, hb, K2, Z2, -⟩ := alloc_new W [.bool false, .slice none 0 0, .bool false, .slice none 0 0] 29
       rw [← e2]
       clear e2
       have hw2 := hw.trans (hb.mono hw.size)
       refine hK.out _ _ (by exact (K43.on hb).cs) (fun hHeld => ?_)
       clear hK
       (try simp only [p1, p2, p3])
       have ky := kyb_2_1 o ub W.heap.size V2 hw2 (O.kp (Kept.of hb)) (L2.kp (Kept.of hb)) K2 Z2 hw.size 
       (try simp only [p0, p1, p2, p3] at ky)
       exact castL (by kernel_rfl) ky
      have kyb_0_1 : ∀  (kq0 : Nat) (W : World) (hw : Below Vd76.heap.size Vd76 W)  (kb0 : Box W kq0 [.bool false, .slice none 0 0, .bool false, .slice none 0 0]) (kz0 : Fz W kq0) (kg0 : Vd76.heap.size ≤ kq0) , wpAnyH Tryz.prog .any OP QQ (fun wx => Cs wx (b49) 0 [.bool k.n, .slice k.A k.xs.length k.c, .bool k.m, .slice k.B k.ds.length k.d]) 7 #[false, true, false, false, false, false, true, false, false] (AA.put (some 12) (.pointer (some ⟨kq0, 0, none⟩))) W := by
       intro kq0 W hw kb0 kz0 kg0
       subst hOP
       subst hQQ
       subst hAA
       (try simp only [p0, p1, p2, p3])
       refine pR1 0 (fun K hK => ?_)
       replace K43 := K43.on hw
       go_simp
       (go_at_call 43; with_reducible refine (w_int (n := 0) (by decide) (by decide)).mono ?_)
       rintro _ W2 ⟨o, rfl, O, hb⟩
       (try go_wp2_with fail)
       have hw2 := hw.trans (hb.mono hw.size)
       refine hK.out _ _ (by exact (K43.on hb).cs) (fun hHeld => ?_)
       clear hK
       (try simp only [p1, p2])
       have ky := kyb_1_1 o kq0 W2 hw2 O (kb0.on hb) (kz0.on hb) kg0 
       (try simp only [p0, p1, p2, p3] at ky)
       exact castL (by kernel_rfl) ky
      have kyb_1_0 : ∀ (o : Fv)  (W : World) (hw : Below Vd76.heap.size Vd76 W) (O : Ff W (((0 : Int) : Rat)) o)  , wpAnyH Tryz.prog .any OP QQ (fun wx => Cs wx (b49) 0 [.bool k.n, .slice k.A k.xs.length k.c, .bool k.m, .slice k.B k.ds.length k.d]) 7 #[true, true, false, false, false, false, false, false, false] (AA.put (some 72) (.agg #[.bool o.n, .slice o.A o.xs.length o.c, .bool o.m, .slice o.B o.ds.length o.d])) W := by
       intro o W hw O
       subst hOP
       subst hQQ
       subst hAA
       (try simp only [p0, p1, p2, p3])
       refine pR2 2 6 (fun K hK => ?_) (fun K hK => ?_)
       ·replace LK := LK.kp (Kept.of hw)
        replace K43 := K43.on hw
        go_simp
        (go_at_call 25; with_reducible refine (r_sub O LK).mono ?_)
        rintro _ W2 ⟨ub, er, rfl, R, hb⟩
        (try go_wp2_with fail)
        obtain ⟨rfl, L2⟩ := R.yes not_false (HF2.out)
        clear R
        have hw2 := hw.trans (hb.mono hw.size)
        refine hK.out _ _ (by exact (K43.on hb).cs) (fun hHeld => ?_)
        clear hK
        (try simp only [p1, p2, p3])
        refine pT 3 ?_
        (try simp only [p0, p1, p2, p3])
        refine pT 4 ?_
        (try simp only [p0, p1, p2, p3])
        refine pT 5 ?_
        (try simp only [p0, p1, p2, p3])
        have ky := kyb_2_0 o ub  W2 hw2 (O.kp (Kept.of hb)) L2  
        (try simp only [p0, p1, p2, p3] at ky)
        exact castL (by kernel_rfl) ky
       ·replace K43 := K43.on hw
        go_simp
        obtain ⟨V2, e2, hb, K2, Z2, -⟩ := alloc_new W [.bool false, .slice none 0 0, .bool false, .slice none 0 0] 29
        rw [← e2]
        clear e2
        have hw2 := hw.trans (hb.mono hw.size)
        refine hK.out _ _ (by exact (K43.on hb).cs) (fun hHeld => ?_)
        clear hK
        (try simp only [p1, p2, p3])
        have ky := kyb_1_1 o W.heap.size V2 hw2 (O.kp (Kept.of hb)) K2 Z2 hw.size 
        (try simp only [p0, p1, p2, p3] at ky)
        exact castL (by kernel_rfl) ky
      have kyb_0_0 : ∀   (W : World) (hw : Below Vd76.heap.size Vd76 W)   , wpAnyH Tryz.prog .any OP QQ (fun wx => Cs wx (b49) 0 [.bool k.n, .slice k.A k.xs.length k.c, .bool k.m, .slice k.B k.ds.length k.d]) 8 #[false, true, false, false, false, false, false, false, false] AA W := by
       intro W hw
       subst hOP
       subst hQQ
       subst hAA
       (try simp only [p0, p1, p2, p3])
       refine pR2 0 6 (fun K hK => ?_) (fun K hK => ?_)
       ·replace K43 := K43.on hw
        go_simp
        (go_at_call 43; with_reducible refine (w_int (n := 0) (by decide) (by decide)).mono ?_)
        rintro _ W2 ⟨o, rfl, O, hb⟩
        (try go_wp2_with fail)
        have hw2 := hw.trans (hb.mono hw.size)
        refine hK.out _ _ (by exact (K43.on hb).cs) (fun hHeld => ?_)
        clear hK
        (try simp only [p1, p2])
        have ky := kyb_1_0 o  W2 hw2 O  
        (try simp only [p0, p1, p2, p3] at ky)
        exact castL (by kernel_rfl) ky
       ·replace K43 := K43.on hw
        go_simp
        obtain ⟨V2, e2, hb, K2, Z2, -⟩ := alloc_new W [.bool false, .slice none 0 0, .bool false, .slice none 0 0] 29
        rw [← e2]
        clear e2
        have hw2 := hw.trans (hb.mono hw.size)
        refine hK.out _ _ (by exact (K43.on hb).cs) (fun hHeld => ?_)
        clear hK
        (try simp only [p1, p2, p3])
        have ky := kyb_0_1  W.heap.size V2 hw2  K2 Z2 hw.size 
        (try simp only [p0, p1, p2, p3] at ky)
        exact castL (by kernel_rfl) ky
      exact castL (by kernel_rfl) (kyb_0_0 Vd76 (Below.refl _ _))
     case rest =>
      obtain ⟨pkb_0, ub, rfl, rfl, BW, K4, K24, K31, K43, KNa_0, K67, Z5, Z25, Z32, Z44, Z68, LK, HR, KNb_0, nn76, nn77, nn78, nn79, nn80, L2⟩ := hcut
      cases r2
      ·go_wp2_with fail
       refine (w_lives).mono ?_
       rintro _ w81 ⟨rfl, hb⟩
       replace K4 := K4.on hb
       replace K24 := K24.on hb
       replace K31 := K31.on hb
       replace K43 := K43.on hb
       replace K67 := K67.on hb
       replace KNb_0 := KNb_0.on hb
       replace Z25 := Z25.on hb
       replace Z32 := Z32.on hb
       replace Z44 := Z44.on hb
       replace BW := BW.trans (hb.mono BW.size)
       clear hb
       go_wp2_with fail
       exact bodyPost_ret (v := .bool true) (by simp [results, Tryz.results9, go_sem]) rfl ⟨rfl, BW⟩
      ·have YF : Fm wc (Mq.low q2.c) y := HR rfl
       go_wp2_with fail
       refine wp_region_noPanic ?_
       have hb : Below wc.heap.size wc wc.drew := (Below.refl _ _).drew
       replace K4 := K4.on hb
       replace K24 := K24.on hb
       replace K31 := K31.on hb
       replace K43 := K43.on hb
       replace K67 := K67.on hb
       replace KNb_0 := KNb_0.on hb
       replace Z25 := Z25.on hb
       replace Z32 := Z32.on hb
       replace Z44 := Z44.on hb
       replace L2 := L2.kp (Kept.of hb)
       replace YF := YF.kp (Kept.of hb)
       replace BW := BW.trans (hb.mono BW.size)
       clear hb
       refine wp_region_held_drew (S := (fun wx => Cs wx (b49) 0 [.bool k.n, .slice k.A k.xs.length k.c, .bool k.m, .slice k.B k.ds.length k.d] ∧ Box wx (b75) [.bool y.A.n, .slice y.A.A y.A.xs.length y.A.c, .bool y.A.m, .slice y.A.B y.A.ds.length y.A.d, .bool y.B.n, .slice y.B.A y.B.xs.length y.B.c, .bool y.B.m, .slice y.B.B y.B.ds.length y.B.d, .bool y.C.n, .slice y.C.A y.C.xs.length y.C.c, .bool y.C.m, .slice y.C.B y.C.ds.length y.C.d, .bool y.D.n, .slice y.D.A y.D.xs.length y.D.c, .bool y.D.m, .slice y.D.B y.D.ds.length y.D.d] ∧ Cs wx (pkb_0) 0 [.bool ub.n, .slice ub.A ub.xs.length ub.c, .bool ub.m, .slice ub.B ub.ds.length ub.d])) (by kernel_rfl) (by exact ⟨K43.cs, K67, KNb_0.cs⟩) (fun hHeld => ?_)
       generalize wc.drew = Vd81 at *
       refine pT 0 ?_ (hy := fun wt hSw => ldM rfl rfl hSw.2.1)
       (try simp only [p0, p1, p2, p3])
       refine pT 1 ?_
       (try simp only [p0, p1, p2, p3])
       refine pT 2 ?_
       (try simp only [p0, p1, p2, p3])
       refine pR1 3 (fun K hK => ?_)
       go_simp
       (go_at_call 47; with_reducible refine (w_lens L2).mono ?_)
       rintro _ w82 ⟨z, rfl, ZF, hb⟩
       (try go_wp2_with fail)
       replace K4 := K4.on hb
       replace K24 := K24.on hb
       replace K31 := K31.on hb
       replace K43 := K43.on hb
       replace K67 := K67.on hb
       replace KNb_0 := KNb_0.on hb
       replace Z25 := Z25.on hb
       replace Z32 := Z32.on hb
       replace Z44 := Z44.on hb
       replace YF := YF.kp (Kept.of hb)
       replace BW := BW.trans (hb.mono BW.size)
       clear hb
       clear hHeld
       refine hK.out _ _ (by exact ⟨K43.cs, K67, KNb_0.cs⟩) (fun hHeld => ?_)
       clear hK
       (try simp only [p0, p1, p2, p3])
       refine pR1 4 (fun K hK => ?_)
       go_simp
       (go_at_call 17; with_reducible refine (y_sameM YF (ZF.to (by rw [zero_sub]; grind))).mono ?_)
       rintro _ w83 ⟨rfl, hb⟩
       (try go_wp2_with fail)
       replace K4 := K4.on hb
       replace K24 := K24.on hb
       replace K31 := K31.on hb
       replace K43 := K43.on hb
       replace K67 := K67.on hb
       replace KNb_0 := KNb_0.on hb
       replace Z25 := Z25.on hb
       replace Z32 := Z32.on hb
       replace Z44 := Z44.on hb
       replace BW := BW.trans (hb.mono BW.size)
       clear hb
       clear hHeld
       refine hK.out _ _ (by exact ⟨K43.cs, K67, KNb_0.cs⟩) (fun hHeld => ?_)
       clear hK
       (try simp only [p0, p1, p2, p3])
       refine pT 5 ?_
       (try simp only [p0, p1, p2, p3])
       refine pR1 6 (fun K hK => ?_)
       go_simp
       (go_at_call 39; with_reducible refine (w_lives).mono ?_)
       rintro _ w84 ⟨rfl, hb⟩
       (try go_wp2_with fail)
       replace K4 := K4.on hb
       replace K24 := K24.on hb
       replace K31 := K31.on hb
       replace K43 := K43.on hb
       replace K67 := K67.on hb
       replace KNb_0 := KNb_0.on hb
       replace Z25 := Z25.on hb
       replace Z32 := Z32.on hb
       replace Z44 := Z44.on hb
       replace BW := BW.trans (hb.mono BW.size)
       clear hb
       clear hHeld
       refine hK.out _ _ (by exact ⟨K43.cs, K67, KNb_0.cs⟩) (fun hHeld => ?_)
       clear hK
       (try simp only [p0, p1, p2, p3])
       refine pT 7 ?_
       (try simp only [p0, p1, p2, p3])
       refine pT 8 ?_
       (try simp only [p0, p1, p2, p3])
       refine wpAnyH_done (by kernel_rfl) (NoPanic.normal ?_) _
       go_wp2
       exact bodyPost_ret (v := .bool true) (by simp [results, Tryz.results9, go_sem]) rfl ⟨rfl, BW⟩
   ·have HC := Lib.hid hc
    clear hc
    obtain ⟨V40, e41, hb42, K43, Z44, -⟩ := alloc_new w39 [.bool k.n, .slice k.A k.xs.length k.c, .bool k.m, .slice k.B k.ds.length k.d] 29
    have n45 : w.heap.size ≠ w39.heap.size := Nat.ne_of_lt (K4.lt)
    have n46 : b37 ≠ w39.heap.size := Nat.ne_of_lt (K24.lt)
    have n47 : b36 ≠ w39.heap.size := Nat.ne_of_lt (K31.lt)
    have g48 : w.heap.size ≤ w39.heap.size := BW.size
    replace K4 := K4.on hb42
    replace K24 := K24.on hb42
    replace K31 := K31.on hb42
    replace Z25 := Z25.on hb42
    replace Z32 := Z32.on hb42
    replace LK := LK.kp (Kept.of hb42)
    replace BW := BW.trans (hb42.mono BW.size)
    clear hb42
    go_wp2_with fail
    rw [← e41]
    clear e41
    generalize w39.heap.size = b49 at *
    refine (r_sign LK).mono ?_
    rintro _ w50 ⟨rfl, hb⟩
    replace K4 := K4.on hb
    replace K24 := K24.on hb
    replace K31 := K31.on hb
    replace K43 := K43.on hb
    replace Z25 := Z25.on hb
    replace Z32 := Z32.on hb
    replace Z44 := Z44.on hb
    replace LK := LK.kp (Kept.of hb)
    replace BW := BW.trans (hb.mono BW.size)
    clear hb
    rw [show sgnQ (-q2.c) = 0 from sgn_zero.2 (by rw [HC.out]; rfl)]
    go_wp2_with fail
    refine (w_lives).mono ?_
    rintro _ w51 ⟨rfl, hb⟩
    replace K4 := K4.on hb
    replace K24 := K24.on hb
    replace K31 := K31.on hb
    replace K43 := K43.on hb
    replace Z25 := Z25.on hb
    replace Z32 := Z32.on hb
    replace Z44 := Z44.on hb
    replace BW := BW.trans (hb.mono BW.size)
    clear hb
    go_wp2_with fail
    exact bodyPost_ret (v := .bool true) (by simp [results, Tryz.results9, go_sem]) rfl ⟨rfl, BW⟩
   ·have HC := Lib.hid hc
    clear hc
    obtain ⟨V40, e41, hb42, K43, Z44, -⟩ := alloc_new w39 [.bool k.n, .slice k.A k.xs.length k.c, .bool k.m, .slice k.B k.ds.length k.d] 29
    have n45 : w.heap.size ≠ w39.heap.size := Nat.ne_of_lt (K4.lt)
    have n46 : b37 ≠ w39.heap.size := Nat.ne_of_lt (K24.lt)
    have n47 : b36 ≠ w39.heap.size := Nat.ne_of_lt (K31.lt)
    have g48 : w.heap.size ≤ w39.heap.size := BW.size
    replace K4 := K4.on hb42
    replace K24 := K24.on hb42
    replace K31 := K31.on hb42
    replace Z25 := Z25.on hb42
    replace Z32 := Z32.on hb42
    replace LK := LK.kp (Kept.of hb42)
    replace BW := BW.trans (hb42.mono BW.size)
    clear hb42
    go_wp2_with fail
    rw [← e41]
    clear e41
    generalize w39.heap.size = b49 at *
    refine (r_sign LK).mono ?_
    rintro _ w50 ⟨rfl, hb⟩
    replace K4 := K4.on hb
    replace K24 := K24.on hb
    replace K31 := K31.on hb
    replace K43 := K43.on hb
    replace Z25 := Z25.on hb
    replace Z32 := Z32.on hb
    replace Z44 := Z44.on hb
    replace BW := BW.trans (hb.mono BW.size)
    clear hb
    have hs0 : (sgnQ (-q2.c) == 0) = false := by simpa using (fun h => HC.out (by have h1 := sgn_zero.1 h; grind))
    go_wp2_with fail
    refine (w_lives).mono ?_
    rintro _ w51 ⟨rfl, hb⟩
    replace K4 := K4.on hb
    replace K24 := K24.on hb
    replace K31 := K31.on hb
    replace K43 := K43.on hb
    replace Z25 := Z25.on hb
    replace Z32 := Z32.on hb
    replace Z44 := Z44.on hb
    replace BW := BW.trans (hb.mono BW.size)
    clear hb
    go_wp2_with fail
    exact bodyPost_ret (v := .bool true) (by simp [results, Tryz.results9, go_sem]) rfl ⟨rfl, BW⟩
  ·have HN := Lib.hid (fun h => hM (MayM.at HX.out h) : ¬ MayM w17 m)
   refine (i_PlanesNo X HN.out).mono ?_
   rintro _ w19 ⟨rfl, hb⟩
   replace K4 := K4.on hb
   replace X := X.kp (Kept.of hb)
   replace BW := BW.trans (hb.mono BW.size)
   clear hb
   obtain ⟨V21, e22, hb23, K24, Z25, z20⟩ := alloc_new w19 [.bool false, .slice none 0 0, .bool false, .slice none 0 0] 29
   have n26 : w.heap.size ≠ w19.heap.size := Nat.ne_of_lt (K4.lt)
   have g27 : w.heap.size ≤ w19.heap.size := BW.size
   replace K4 := K4.on hb23
   replace X := X.kp (Kept.of hb23)
   replace BW := BW.trans (hb23.mono BW.size)
   clear hb23
   obtain ⟨V28, e29, hb30, K31, Z32, -⟩ := alloc_new V21 [.bool false, .slice none 0 0, .bool false, .slice none 0 0] 29
   rw [z20] at K31 Z32
   have n33 : w.heap.size ≠ w19.heap.size + 1 := Nat.ne_of_lt (z20 ▸ K4.lt)
   have n34 : w19.heap.size ≠ w19.heap.size + 1 := Nat.ne_of_lt (z20 ▸ K24.lt)
   have g35 : w.heap.size ≤ w19.heap.size + 1 := z20 ▸ BW.size
   replace K4 := K4.on hb30
   replace K24 := K24.on hb30
   replace X := X.kp (Kept.of hb30)
   replace BW := BW.trans (hb30.mono BW.size)
   clear hb30
   clear z20
   go_upto_region 4 with fail
   rw [← e22, ← e29]
   clear e22 e29
   generalize w19.heap.size + 1 = b36 at *
   generalize w19.heap.size = b37 at *
   have c38 : Box V28 (w.heap.size) [.bool m.A.n, .slice m.A.A m.A.xs.length m.A.c, .bool m.A.m, .slice m.A.B m.A.ds.length m.A.d, .bool m.B.n, .slice m.B.A m.B.xs.length m.B.c, .bool m.B.m, .slice m.B.B m.B.ds.length m.B.d, .bool m.C.n, .slice m.C.A m.C.xs.length m.C.c, .bool m.C.m, .slice m.C.B m.C.ds.length m.C.d, .bool m.D.n, .slice m.D.A m.D.xs.length m.D.c, .bool m.D.m, .slice m.D.B m.D.ds.length m.D.d] := K4
   go_wp2_with (first | (refine wpList_ldM (by rfl) (by rfl) (by rfl) c38 (by rfl) ?_))
   clear c38
   have HN2 := Lib.hid (fun h => hM (MayM.at HX.out h) : ¬ MayM V28 m)
   refine (i_PowerNo X HN2.out).mono ?_
   rintro _ w39 ⟨rfl, hb⟩
   replace K4 := K4.on hb
   replace K24 := K24.on hb
   replace K31 := K31.on hb
   replace BW := BW.trans (hb.mono BW.size)
   clear hb
   obtain ⟨V40, e41, hb42, K43, Z44, -⟩ := alloc_new w39 [.bool false, .slice none 0 0, .bool false, .slice none 0 0] 29
   have n45 : w.heap.size ≠ w39.heap.size := Nat.ne_of_lt (K4.lt)
   have n46 : b37 ≠ w39.heap.size := Nat.ne_of_lt (K24.lt)
   have n47 : b36 ≠ w39.heap.size := Nat.ne_of_lt (K31.lt)
   have g48 : w.heap.size ≤ w39.heap.size := BW.size
   replace BW := BW.trans (hb42.mono BW.size)
   clear hb42
   go_wp2_with fail
   rw [← e41]
   clear e41
   generalize w39.heap.size = b49 at *
   refine (w_lives).mono ?_
   rintro _ w50 ⟨rfl, hb⟩
   replace BW := BW.trans (hb.mono BW.size)
   clear hb
   go_wp2_with fail
   exact bodyPost_ret (v := .bool true) (by simp [results, Tryz.results9, go_sem]) rfl ⟨rfl, BW⟩
 ·go_wp2_with fail
  exact bodyPost_ret (v := .bool true) (by simp [results, Tryz.results9, go_sem]) rfl ⟨rfl, BW⟩
end Go.Proofs.YtplgheabhekedaaGreat
