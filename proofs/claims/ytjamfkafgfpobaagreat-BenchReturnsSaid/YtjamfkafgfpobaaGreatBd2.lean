/-
  What Through answers of a ray that may not be. Conditions: as each theorem states.
-/
import Derived.Test.YtjamfkafgfpobaaGreatXtb
import Derived.Test.YtjamfkafgfpobaaGreatBd1
import Derived.Deep.RegionHeld3
import Derived.Deep.DeepCutAuto
import Derived.BigRegion
namespace Go.Proofs.YtjamfkafgfpobaaGreat
open Go.RowKit Nb
set_option maxHeartbeats 8000000 in
set_option maxRecDepth 20000 in
theorem y_rkNoY {e0 : Int} {v : Value} {w : World} (he : e0 ≠ 0) :
    Calls Tryz.prog 52 #[.int .i64 e0, v] w (fun e w' => e = .returned (.tuple #[.agg #[.bool false, .slice none 0 0, .bool false, .slice none 0 0, .bool false, .slice none 0 0, .bool false, .slice none 0 0], .int .i64 e0]) ∧ Below w.heap.size w w') := by
 have he2 : (e0 == 0) = false := by simpa using he
 clear he
 have BW : Below w.heap.size w w := Below.refl _ _
 obtain ⟨V2, e3, hb4, K5, Z6, z1⟩ := alloc_new w [.int .i64 e0] 32
 have g7 : w.heap.size ≤ w.heap.size := BW.size
 replace BW := BW.trans (hb4.mono BW.size)
 clear hb4
 obtain ⟨V9, e10, hb11, K12, Z13, z8⟩ := alloc_new V2 [.bool false, .slice none 0 0, .bool false, .slice none 0 0, .bool false, .slice none 0 0, .bool false, .slice none 0 0] 40
 rw [z1] at K12 Z13 z8
 replace K12 : Box V9 (w.heap.size + 1) (zcs8) := K12
 have n14 : w.heap.size ≠ w.heap.size + 1 := Nat.ne_of_lt (z1 ▸ K5.lt)
 have g15 : w.heap.size ≤ w.heap.size + 1 := z1 ▸ BW.size
 replace K5 := K5.on hb11
 replace BW := BW.trans (hb11.mono BW.size)
 clear hb11
 obtain ⟨V16, e17, hb18, K19, Z20, -⟩ := alloc_new V9 [.bool false, .slice none 0 0, .bool false, .slice none 0 0, .bool false, .slice none 0 0, .bool false, .slice none 0 0] 40
 rw [z8] at K19 Z20
 replace K19 : Box V16 (w.heap.size + 1 + 1) (zcs8) := K19
 have n21 : w.heap.size ≠ w.heap.size + 1 + 1 := Nat.ne_of_lt (z8 ▸ K5.lt)
 have n22 : w.heap.size + 1 ≠ w.heap.size + 1 + 1 := Nat.ne_of_lt (z8 ▸ K12.lt)
 have g23 : w.heap.size ≤ w.heap.size + 1 + 1 := z8 ▸ BW.size
 replace K5 := K5.on hb18
 replace K12 := K12.on hb18
 replace Z13 := Z13.on hb18
 replace BW := BW.trans (hb18.mono BW.size)
 clear hb18
 clear z1 z8
 go_enter Tryz.func52, Tryz.ntmps52
 go_wp2_with fail
 rw [← e3, ← e10, ← e17]
 clear e3 e10 e17
 go_wp2_with fail
 refine wp_region_noPanic ?_
 have hb : Below V16.heap.size V16 V16.drew := (Below.refl _ _).drew
 replace K5 := K5.on hb
 replace K12 := K12.on hb
 replace K19 := K19.on hb
 replace Z13 := Z13.on hb
 replace BW := BW.trans (hb.mono BW.size)
 clear hb
 refine wp_region_held_drew (S := (fun wx => Cs wx (w.heap.size) 0 [.int .i64 e0] ∧ Cs wx (w.heap.size + 1 + 1) 0 [.bool false, .slice none 0 0, .bool false, .slice none 0 0, .bool false, .slice none 0 0, .bool false, .slice none 0 0])) (by kernel_rfl) (by exact ⟨K5.cs, K19.cs⟩) (fun hHeld => ?_)
 generalize V16.drew = Vd24 at *
 refine pT 0 ?_
 (try simp only [p0, p1, p2, p3])
 refine pT 1 ?_
 (try simp only [p0, p1, p2, p3])
 refine pR1 2 (fun K hK => ?_)
 obtain ⟨c25, c26, c27, c28, c29, c30, c31, c32⟩ := K12.c8
 obtain ⟨c33, c34, c35, c36, c37, c38, c39, c40⟩ := Z13.f8
 go_simp
 clear c25 c26 c27 c28 c29 c30 c31 c32 c33 c34 c35 c36 c37 c38 c39 c40
 obtain ⟨V41, hk43⟩ : ∃ V41, V41 = Vd24.setCells (w.heap.size + 1) 0 [.bool false, .slice none 0 0, .bool false, .slice none 0 0, .bool false, .slice none 0 0, .bool false, .slice none 0 0] := ⟨_, rfl⟩
 have e42 := hk43
 simp only [World.setCells, Nat.zero_add, Nat.reduceAdd] at e42
 have hk44 := Kept.overE hk43 K12 rfl (Nat.le_of_ble_eq_true rfl)
 replace K5 := K5.awayE hk43 n14
 replace K12 := K12.overE hk43 rfl
 replace K19 := K19.awayE hk43 n22.symm
 replace BW := Below.putE BW hk43 g15
 clear hk43 hk44
 replace K12 : Box V41 (w.heap.size + 1) (zcs8) := K12
 rw [← e42]
 clear e42
 clear hHeld
 refine hK.out _ _ (by exact ⟨K5.cs, K19.cs⟩) (fun hHeld => ?_)
 clear hK
 (try simp only [p0, p1, p2, p3])
 refine pT 3 ?_
 (try simp only [p0, p1, p2, p3])
 refine wpAnyH_done (by kernel_rfl) (NoPanic.normal ?_) _
 go_wp2
 obtain ⟨c45, c46, c47, c48, c49, c50, c51, c52⟩ := K12.c8
 exact bodyPost_ret (v := .tuple #[.agg #[.bool false, .slice none 0 0, .bool false, .slice none 0 0, .bool false, .slice none 0 0, .bool false, .slice none 0 0], .int .i64 e0]) (by simp [results, Tryz.results52, go_sem, c45, c46, c47, c48, c49, c50, c51, c52]) rfl ⟨rfl, BW⟩
set_option maxHeartbeats 8000000 in
set_option maxRecDepth 20000 in
theorem y_ThrNo {e0 : Int} {q : Mq} {m : Mv} {y : Yv} {w : World} (Fm1 : Fm w q m) (hd : q.det = 1) (Xa : Xy w y) (he : orE (chkv y.Y) (chkv y.U) = e0 ∧ e0 ≠ 0) :
    Calls Tryz.prog 20 #[mv m, yv y] w (fun e w' => e = .returned (.tuple #[.agg #[.bool false, .slice none 0 0, .bool false, .slice none 0 0, .bool false, .slice none 0 0, .bool false, .slice none 0 0], .int .i64 e0]) ∧ Below w.heap.size w w') := by
 have HE := Lib.hid he
 clear he
 have BW : Below w.heap.size w w := Below.refl _ _
 obtain ⟨V2, e3, hb4, K5, -, z1⟩ := alloc_new w [.bool m.A.n, .slice m.A.A m.A.xs.length m.A.c, .bool m.A.m, .slice m.A.B m.A.ds.length m.A.d, .bool m.B.n, .slice m.B.A m.B.xs.length m.B.c, .bool m.B.m, .slice m.B.B m.B.ds.length m.B.d, .bool m.C.n, .slice m.C.A m.C.xs.length m.C.c, .bool m.C.m, .slice m.C.B m.C.ds.length m.C.d, .bool m.D.n, .slice m.D.A m.D.xs.length m.D.c, .bool m.D.m, .slice m.D.B m.D.ds.length m.D.d] 31
 replace K5 : Box V2 (w.heap.size) (mcs m) := K5
 replace Fm1 := Fm1.kp (Kept.of hb4)
 replace Xa := Xa.kp (Kept.of hb4)
 replace BW := BW.trans (hb4.mono BW.size)
 clear hb4
 obtain ⟨V7, e8, hb9, K10, -, z6⟩ := alloc_new V2 [.bool y.Y.n, .slice y.Y.A y.Y.xs.length y.Y.c, .bool y.Y.m, .slice y.Y.B y.Y.ds.length y.Y.d, .bool y.U.n, .slice y.U.A y.U.xs.length y.U.c, .bool y.U.m, .slice y.U.B y.U.ds.length y.U.d] 40
 rw [z1] at K10 z6
 replace K10 : Box V7 (w.heap.size + 1) (ycs y) := K10
 replace K5 := K5.on hb9
 replace Fm1 := Fm1.kp (Kept.of hb9)
 replace Xa := Xa.kp (Kept.of hb9)
 replace BW := BW.trans (hb9.mono BW.size)
 clear hb9
 obtain ⟨V11, e12, hb13, K14, Z15, -⟩ := alloc_new V7 [.bool false, .slice none 0 0, .bool false, .slice none 0 0, .bool false, .slice none 0 0, .bool false, .slice none 0 0] 40
 rw [z6] at K14 Z15
 replace K14 : Box V11 (w.heap.size + 1 + 1) (zcs8) := K14
 have n16 : w.heap.size ≠ w.heap.size + 1 + 1 := Nat.ne_of_lt (z6 ▸ K5.lt)
 have n17 : w.heap.size + 1 ≠ w.heap.size + 1 + 1 := Nat.ne_of_lt (z6 ▸ K10.lt)
 have g18 : w.heap.size ≤ w.heap.size + 1 + 1 := z6 ▸ BW.size
 replace K5 := K5.on hb13
 replace K10 := K10.on hb13
 replace Fm1 := Fm1.kp (Kept.of hb13)
 replace Xa := Xa.kp (Kept.of hb13)
 replace BW := BW.trans (hb13.mono BW.size)
 clear hb13
 clear z1 z6
 go_enter Tryz.func20, Tryz.ntmps20
 go_wp2_with fail
 rw [← e3, ← e8, ← e12]
 clear e3 e8 e12
 refine wp_region_noPanic ?_
 have hb : Below V11.heap.size V11 V11.drew := (Below.refl _ _).drew
 replace K5 := K5.on hb
 replace K10 := K10.on hb
 replace K14 := K14.on hb
 replace Z15 := Z15.on hb
 replace Fm1 := Fm1.kp (Kept.of hb)
 replace Xa := Xa.kp (Kept.of hb)
 replace BW := BW.trans (hb.mono BW.size)
 clear hb
 refine wp_region_held_drew (S := (fun wx => Box wx (w.heap.size) [.bool m.A.n, .slice m.A.A m.A.xs.length m.A.c, .bool m.A.m, .slice m.A.B m.A.ds.length m.A.d, .bool m.B.n, .slice m.B.A m.B.xs.length m.B.c, .bool m.B.m, .slice m.B.B m.B.ds.length m.B.d, .bool m.C.n, .slice m.C.A m.C.xs.length m.C.c, .bool m.C.m, .slice m.C.B m.C.ds.length m.C.d, .bool m.D.n, .slice m.D.A m.D.xs.length m.D.c, .bool m.D.m, .slice m.D.B m.D.ds.length m.D.d] ∧ Cs wx (w.heap.size + 1) 0 [.bool y.Y.n, .slice y.Y.A y.Y.xs.length y.Y.c, .bool y.Y.m, .slice y.Y.B y.Y.ds.length y.Y.d, .bool y.U.n, .slice y.U.A y.U.xs.length y.U.c, .bool y.U.m, .slice y.U.B y.U.ds.length y.U.d])) (by kernel_rfl) (by exact ⟨K5, K10.cs⟩) (fun hHeld => ?_)
 generalize V11.drew = Vd19 at *
 refine pT 0 ?_ (hy := fun wt hSw => ldM rfl rfl hSw.1)
 (try simp only [p0, p1, p2, p3])
 refine pT 2 ?_
 (try simp only [p0, p1, p2, p3])
 refine pR2 1 6 (fun K hK => ?_) (fun K hK => ?_)
 · go_simp
   (go_at_call 14; with_reducible refine (y_check0 Fm1 hd).mono ?_)
   rintro _ w20 ⟨rfl, hb⟩
   (try go_wp2_with fail)
   replace K5 := K5.on hb
   replace K10 := K10.on hb
   replace K14 := K14.on hb
   replace Z15 := Z15.on hb
   replace Fm1 := Fm1.kp (Kept.of hb)
   replace Xa := Xa.kp (Kept.of hb)
   replace BW := BW.trans (hb.mono BW.size)
   clear hb
   clear hHeld
   refine hK.out _ _ (by exact ⟨K5, K10.cs⟩) (fun hHeld => ?_)
   clear hK
   (try simp only [p0, p1, p2, p3])
   refine pR2 3 6 (fun K hK => ?_) (fun K hK => ?_)
   · go_simp
     (go_at_call 53; with_reducible refine (y_chkRay Xa).mono ?_)
     rintro _ w21 ⟨rfl, hb⟩
     (try go_wp2_with fail)
     replace K5 := K5.on hb
     replace K10 := K10.on hb
     replace K14 := K14.on hb
     replace Z15 := Z15.on hb
     replace Fm1 := Fm1.kp (Kept.of hb)
     replace Xa := Xa.kp (Kept.of hb)
     replace BW := BW.trans (hb.mono BW.size)
     clear hb
     clear hHeld
     refine hK.out _ _ (by exact ⟨K5, K10.cs⟩) (fun hHeld => ?_)
     clear hK
     (try simp only [p0, p1, p2, p3])
     refine pR2 4 6 (fun K hK => ?_) (fun K hK => ?_)
     · go_simp
       obtain ⟨V22, e23, hb24, K25, -, -⟩ := alloc_new w21 [.int .i64 0, .int .i64 (orE (chkv y.Y) (chkv y.U))] 32
       have n26 : w.heap.size + 1 + 1 ≠ w21.heap.size := Nat.ne_of_lt (K14.lt)
       replace K5 := K5.on hb24
       replace K10 := K10.on hb24
       replace K14 := K14.on hb24
       replace Z15 := Z15.on hb24
       replace Fm1 := Fm1.kp (Kept.of hb24)
       replace Xa := Xa.kp (Kept.of hb24)
       replace BW := BW.trans (hb24.mono BW.size)
       clear hb24
       rw [← e23]
       clear e23
       generalize w21.heap.size = b27 at *
       clear hHeld
       refine hK.out _ _ (by exact ⟨K5, K10.cs⟩) (fun hHeld => ?_)
       clear hK
       (try simp only [p0, p1, p2, p3])
       refine pR2 5 6 (fun K hK => ?_) (fun K hK => ?_)
       · go_simp
         (go_at_call 38; with_reducible refine (cor_two K25).mono ?_)
         rintro _ w28 ⟨rfl, hb⟩
         (try go_wp2_with fail)
         replace K5 := K5.on hb
         replace K10 := K10.on hb
         replace K14 := K14.on hb
         replace K25 := K25.on hb
         replace Z15 := Z15.on hb
         replace Fm1 := Fm1.kp (Kept.of hb)
         replace Xa := Xa.kp (Kept.of hb)
         replace BW := BW.trans (hb.mono BW.size)
         clear hb
         rw [show orE 0 (orE (chkv y.Y) (chkv y.U)) = e0 from HE.out.1]
         clear hHeld
         refine hK.out _ _ (by exact ⟨K5, K10.cs⟩) (fun hHeld => ?_)
         clear hK
         (try simp only [p0, p1, p2, p3])
         refine pR1 6 (fun K hK => ?_)
         go_simp
         clear hHeld
         refine hK.out _ _ (by exact ⟨K5, K10.cs⟩) (fun hHeld => ?_)
         clear hK
         (try simp only [p0, p1, p2, p3])
         refine pR1 7 (fun K hK => ?_)
         go_simp
         (go_at_call 52; with_reducible refine (y_rkNoY HE.out.2).mono ?_)
         rintro _ w29 ⟨rfl, hb⟩
         (try go_wp2_with fail)
         replace K5 := K5.on hb
         replace K10 := K10.on hb
         replace K14 := K14.on hb
         replace K25 := K25.on hb
         replace Z15 := Z15.on hb
         replace Fm1 := Fm1.kp (Kept.of hb)
         replace Xa := Xa.kp (Kept.of hb)
         replace BW := BW.trans (hb.mono BW.size)
         clear hb
         clear hHeld
         refine hK.out _ _ (by exact ⟨K5, K10.cs⟩) (fun hHeld => ?_)
         clear hK
         (try simp only [p0, p1, p2, p3])
         refine pT 8 ?_
         (try simp only [p0, p1, p2, p3])
         refine pT 9 ?_
         (try simp only [p0, p1, p2, p3])
         refine pR1 10 (fun K hK => ?_)
         obtain ⟨c30, c31, c32, c33, c34, c35, c36, c37⟩ := K14.c8
         obtain ⟨c38, c39, c40, c41, c42, c43, c44, c45⟩ := Z15.f8
         go_simp
         clear c30 c31 c32 c33 c34 c35 c36 c37 c38 c39 c40 c41 c42 c43 c44 c45
         obtain ⟨V46, hk48⟩ : ∃ V46, V46 = w29.setCells (w.heap.size + 1 + 1) 0 [.bool false, .slice none 0 0, .bool false, .slice none 0 0, .bool false, .slice none 0 0, .bool false, .slice none 0 0] := ⟨_, rfl⟩
         have e47 := hk48
         simp only [World.setCells, Nat.zero_add, Nat.reduceAdd] at e47
         have hk49 := Kept.overE hk48 K14 rfl (Nat.le_of_ble_eq_true rfl)
         replace K5 := K5.awayE hk48 n16
         replace K10 := K10.awayE hk48 n17
         replace K14 := K14.overE hk48 rfl
         replace K25 := K25.awayE hk48 n26.symm
         replace Z15 := Z15.putE hk48
         replace Fm1 := Fm1.kp hk49
         replace Xa := Xa.kp hk49
         replace BW := Below.putE BW hk48 g18
         clear hk48 hk49
         replace K14 : Box V46 (w.heap.size + 1 + 1) (zcs8) := K14
         rw [← e47]
         clear e47
         clear hHeld
         refine hK.out _ _ (by exact ⟨K5, K10.cs⟩) (fun hHeld => ?_)
         clear hK
         (try simp only [p0, p1, p2, p3])
         refine pT 11 ?_
         (try simp only [p0, p1, p2, p3])
         refine wpAnyH_done (by kernel_rfl) (NoPanic.normal ?_) _
         go_wp2
         obtain ⟨c50, c51, c52, c53, c54, c55, c56, c57⟩ := K14.c8
         exact bodyPost_ret (v := .tuple #[.agg #[.bool false, .slice none 0 0, .bool false, .slice none 0 0, .bool false, .slice none 0 0, .bool false, .slice none 0 0], .int .i64 e0]) (by simp [results, Tryz.results20, go_sem, c50, c51, c52, c53, c54, c55, c56, c57]) rfl ⟨rfl, BW⟩
       · go_simp
         clear hHeld
         refine hK.out _ _ (by exact ⟨K5, K10.cs⟩) (fun hHeld => ?_)
         clear hK
         (try simp only [p0, p1, p2, p3])
         refine pR1 5 (fun K hK => ?_)
         go_simp
         (go_at_call 38; with_reducible refine (cor_two K25).mono ?_)
         rintro _ w28 ⟨rfl, hb⟩
         (try go_wp2_with fail)
         replace K5 := K5.on hb
         replace K10 := K10.on hb
         replace K14 := K14.on hb
         replace K25 := K25.on hb
         replace Z15 := Z15.on hb
         replace Fm1 := Fm1.kp (Kept.of hb)
         replace Xa := Xa.kp (Kept.of hb)
         replace BW := BW.trans (hb.mono BW.size)
         clear hb
         rw [show orE 0 (orE (chkv y.Y) (chkv y.U)) = e0 from HE.out.1]
         clear hHeld
         refine hK.out _ _ (by exact ⟨K5, K10.cs⟩) (fun hHeld => ?_)
         clear hK
         (try simp only [p0, p1, p2, p3])
         refine pR1 7 (fun K hK => ?_)
         go_simp
         (go_at_call 52; with_reducible refine (y_rkNoY HE.out.2).mono ?_)
         rintro _ w29 ⟨rfl, hb⟩
         (try go_wp2_with fail)
         replace K5 := K5.on hb
         replace K10 := K10.on hb
         replace K14 := K14.on hb
         replace K25 := K25.on hb
         replace Z15 := Z15.on hb
         replace Fm1 := Fm1.kp (Kept.of hb)
         replace Xa := Xa.kp (Kept.of hb)
         replace BW := BW.trans (hb.mono BW.size)
         clear hb
         clear hHeld
         refine hK.out _ _ (by exact ⟨K5, K10.cs⟩) (fun hHeld => ?_)
         clear hK
         (try simp only [p0, p1, p2, p3])
         refine pT 8 ?_
         (try simp only [p0, p1, p2, p3])
         refine pT 9 ?_
         (try simp only [p0, p1, p2, p3])
         refine pR1 10 (fun K hK => ?_)
         obtain ⟨c30, c31, c32, c33, c34, c35, c36, c37⟩ := K14.c8
         obtain ⟨c38, c39, c40, c41, c42, c43, c44, c45⟩ := Z15.f8
         go_simp
         clear c30 c31 c32 c33 c34 c35 c36 c37 c38 c39 c40 c41 c42 c43 c44 c45
         obtain ⟨V46, hk48⟩ : ∃ V46, V46 = w29.setCells (w.heap.size + 1 + 1) 0 [.bool false, .slice none 0 0, .bool false, .slice none 0 0, .bool false, .slice none 0 0, .bool false, .slice none 0 0] := ⟨_, rfl⟩
         have e47 := hk48
         simp only [World.setCells, Nat.zero_add, Nat.reduceAdd] at e47
         have hk49 := Kept.overE hk48 K14 rfl (Nat.le_of_ble_eq_true rfl)
         replace K5 := K5.awayE hk48 n16
         replace K10 := K10.awayE hk48 n17
         replace K14 := K14.overE hk48 rfl
         replace K25 := K25.awayE hk48 n26.symm
         replace Z15 := Z15.putE hk48
         replace Fm1 := Fm1.kp hk49
         replace Xa := Xa.kp hk49
         replace BW := Below.putE BW hk48 g18
         clear hk48 hk49
         replace K14 : Box V46 (w.heap.size + 1 + 1) (zcs8) := K14
         rw [← e47]
         clear e47
         clear hHeld
         refine hK.out _ _ (by exact ⟨K5, K10.cs⟩) (fun hHeld => ?_)
         clear hK
         (try simp only [p0, p1, p2, p3])
         refine pT 11 ?_
         (try simp only [p0, p1, p2, p3])
         refine wpAnyH_done (by kernel_rfl) (NoPanic.normal ?_) _
         go_wp2
         obtain ⟨c50, c51, c52, c53, c54, c55, c56, c57⟩ := K14.c8
         exact bodyPost_ret (v := .tuple #[.agg #[.bool false, .slice none 0 0, .bool false, .slice none 0 0, .bool false, .slice none 0 0, .bool false, .slice none 0 0], .int .i64 e0]) (by simp [results, Tryz.results20, go_sem, c50, c51, c52, c53, c54, c55, c56, c57]) rfl ⟨rfl, BW⟩
     · go_simp
       clear hHeld
       refine hK.out _ _ (by exact ⟨K5, K10.cs⟩) (fun hHeld => ?_)
       clear hK
       (try simp only [p0, p1, p2, p3])
       refine pR1 4 (fun K hK => ?_)
       go_simp
       obtain ⟨V22, e23, hb24, K25, -, -⟩ := alloc_new w21 [.int .i64 0, .int .i64 (orE (chkv y.Y) (chkv y.U))] 32
       have n26 : w.heap.size + 1 + 1 ≠ w21.heap.size := Nat.ne_of_lt (K14.lt)
       replace K5 := K5.on hb24
       replace K10 := K10.on hb24
       replace K14 := K14.on hb24
       replace Z15 := Z15.on hb24
       replace Fm1 := Fm1.kp (Kept.of hb24)
       replace Xa := Xa.kp (Kept.of hb24)
       replace BW := BW.trans (hb24.mono BW.size)
       clear hb24
       rw [← e23]
       clear e23
       generalize w21.heap.size = b27 at *
       clear hHeld
       refine hK.out _ _ (by exact ⟨K5, K10.cs⟩) (fun hHeld => ?_)
       clear hK
       (try simp only [p0, p1, p2, p3])
       refine pR1 5 (fun K hK => ?_)
       go_simp
       (go_at_call 38; with_reducible refine (cor_two K25).mono ?_)
       rintro _ w28 ⟨rfl, hb⟩
       (try go_wp2_with fail)
       replace K5 := K5.on hb
       replace K10 := K10.on hb
       replace K14 := K14.on hb
       replace K25 := K25.on hb
       replace Z15 := Z15.on hb
       replace Fm1 := Fm1.kp (Kept.of hb)
       replace Xa := Xa.kp (Kept.of hb)
       replace BW := BW.trans (hb.mono BW.size)
       clear hb
       rw [show orE 0 (orE (chkv y.Y) (chkv y.U)) = e0 from HE.out.1]
       clear hHeld
       refine hK.out _ _ (by exact ⟨K5, K10.cs⟩) (fun hHeld => ?_)
       clear hK
       (try simp only [p0, p1, p2, p3])
       refine pR1 7 (fun K hK => ?_)
       go_simp
       (go_at_call 52; with_reducible refine (y_rkNoY HE.out.2).mono ?_)
       rintro _ w29 ⟨rfl, hb⟩
       (try go_wp2_with fail)
       replace K5 := K5.on hb
       replace K10 := K10.on hb
       replace K14 := K14.on hb
       replace K25 := K25.on hb
       replace Z15 := Z15.on hb
       replace Fm1 := Fm1.kp (Kept.of hb)
       replace Xa := Xa.kp (Kept.of hb)
       replace BW := BW.trans (hb.mono BW.size)
       clear hb
       clear hHeld
       refine hK.out _ _ (by exact ⟨K5, K10.cs⟩) (fun hHeld => ?_)
       clear hK
       (try simp only [p0, p1, p2, p3])
       refine pT 8 ?_
       (try simp only [p0, p1, p2, p3])
       refine pT 9 ?_
       (try simp only [p0, p1, p2, p3])
       refine pR1 10 (fun K hK => ?_)
       obtain ⟨c30, c31, c32, c33, c34, c35, c36, c37⟩ := K14.c8
       obtain ⟨c38, c39, c40, c41, c42, c43, c44, c45⟩ := Z15.f8
       go_simp
       clear c30 c31 c32 c33 c34 c35 c36 c37 c38 c39 c40 c41 c42 c43 c44 c45
       obtain ⟨V46, hk48⟩ : ∃ V46, V46 = w29.setCells (w.heap.size + 1 + 1) 0 [.bool false, .slice none 0 0, .bool false, .slice none 0 0, .bool false, .slice none 0 0, .bool false, .slice none 0 0] := ⟨_, rfl⟩
       have e47 := hk48
       simp only [World.setCells, Nat.zero_add, Nat.reduceAdd] at e47
       have hk49 := Kept.overE hk48 K14 rfl (Nat.le_of_ble_eq_true rfl)
       replace K5 := K5.awayE hk48 n16
       replace K10 := K10.awayE hk48 n17
       replace K14 := K14.overE hk48 rfl
       replace K25 := K25.awayE hk48 n26.symm
       replace Z15 := Z15.putE hk48
       replace Fm1 := Fm1.kp hk49
       replace Xa := Xa.kp hk49
       replace BW := Below.putE BW hk48 g18
       clear hk48 hk49
       replace K14 : Box V46 (w.heap.size + 1 + 1) (zcs8) := K14
       rw [← e47]
       clear e47
       clear hHeld
       refine hK.out _ _ (by exact ⟨K5, K10.cs⟩) (fun hHeld => ?_)
       clear hK
       (try simp only [p0, p1, p2, p3])
       refine pT 11 ?_
       (try simp only [p0, p1, p2, p3])
       refine wpAnyH_done (by kernel_rfl) (NoPanic.normal ?_) _
       go_wp2
       obtain ⟨c50, c51, c52, c53, c54, c55, c56, c57⟩ := K14.c8
       exact bodyPost_ret (v := .tuple #[.agg #[.bool false, .slice none 0 0, .bool false, .slice none 0 0, .bool false, .slice none 0 0, .bool false, .slice none 0 0], .int .i64 e0]) (by simp [results, Tryz.results20, go_sem, c50, c51, c52, c53, c54, c55, c56, c57]) rfl ⟨rfl, BW⟩
   · go_simp
     clear hHeld
     refine hK.out _ _ (by exact ⟨K5, K10.cs⟩) (fun hHeld => ?_)
     clear hK
     (try simp only [p0, p1, p2, p3])
     refine pR1 3 (fun K hK => ?_)
     go_simp
     (go_at_call 53; with_reducible refine (y_chkRay Xa).mono ?_)
     rintro _ w21 ⟨rfl, hb⟩
     (try go_wp2_with fail)
     replace K5 := K5.on hb
     replace K10 := K10.on hb
     replace K14 := K14.on hb
     replace Z15 := Z15.on hb
     replace Fm1 := Fm1.kp (Kept.of hb)
     replace Xa := Xa.kp (Kept.of hb)
     replace BW := BW.trans (hb.mono BW.size)
     clear hb
     clear hHeld
     refine hK.out _ _ (by exact ⟨K5, K10.cs⟩) (fun hHeld => ?_)
     clear hK
     (try simp only [p0, p1, p2, p3])
     refine pR1 4 (fun K hK => ?_)
     go_simp
     obtain ⟨V22, e23, hb24, K25, -, -⟩ := alloc_new w21 [.int .i64 0, .int .i64 (orE (chkv y.Y) (chkv y.U))] 32
     have n26 : w.heap.size + 1 + 1 ≠ w21.heap.size := Nat.ne_of_lt (K14.lt)
     replace K5 := K5.on hb24
     replace K10 := K10.on hb24
     replace K14 := K14.on hb24
     replace Z15 := Z15.on hb24
     replace Fm1 := Fm1.kp (Kept.of hb24)
     replace Xa := Xa.kp (Kept.of hb24)
     replace BW := BW.trans (hb24.mono BW.size)
     clear hb24
     rw [← e23]
     clear e23
     generalize w21.heap.size = b27 at *
     clear hHeld
     refine hK.out _ _ (by exact ⟨K5, K10.cs⟩) (fun hHeld => ?_)
     clear hK
     (try simp only [p0, p1, p2, p3])
     refine pR1 5 (fun K hK => ?_)
     go_simp
     (go_at_call 38; with_reducible refine (cor_two K25).mono ?_)
     rintro _ w28 ⟨rfl, hb⟩
     (try go_wp2_with fail)
     replace K5 := K5.on hb
     replace K10 := K10.on hb
     replace K14 := K14.on hb
     replace K25 := K25.on hb
     replace Z15 := Z15.on hb
     replace Fm1 := Fm1.kp (Kept.of hb)
     replace Xa := Xa.kp (Kept.of hb)
     replace BW := BW.trans (hb.mono BW.size)
     clear hb
     rw [show orE 0 (orE (chkv y.Y) (chkv y.U)) = e0 from HE.out.1]
     clear hHeld
     refine hK.out _ _ (by exact ⟨K5, K10.cs⟩) (fun hHeld => ?_)
     clear hK
     (try simp only [p0, p1, p2, p3])
     refine pR1 7 (fun K hK => ?_)
     go_simp
     (go_at_call 52; with_reducible refine (y_rkNoY HE.out.2).mono ?_)
     rintro _ w29 ⟨rfl, hb⟩
     (try go_wp2_with fail)
     replace K5 := K5.on hb
     replace K10 := K10.on hb
     replace K14 := K14.on hb
     replace K25 := K25.on hb
     replace Z15 := Z15.on hb
     replace Fm1 := Fm1.kp (Kept.of hb)
     replace Xa := Xa.kp (Kept.of hb)
     replace BW := BW.trans (hb.mono BW.size)
     clear hb
     clear hHeld
     refine hK.out _ _ (by exact ⟨K5, K10.cs⟩) (fun hHeld => ?_)
     clear hK
     (try simp only [p0, p1, p2, p3])
     refine pT 8 ?_
     (try simp only [p0, p1, p2, p3])
     refine pT 9 ?_
     (try simp only [p0, p1, p2, p3])
     refine pR1 10 (fun K hK => ?_)
     obtain ⟨c30, c31, c32, c33, c34, c35, c36, c37⟩ := K14.c8
     obtain ⟨c38, c39, c40, c41, c42, c43, c44, c45⟩ := Z15.f8
     go_simp
     clear c30 c31 c32 c33 c34 c35 c36 c37 c38 c39 c40 c41 c42 c43 c44 c45
     obtain ⟨V46, hk48⟩ : ∃ V46, V46 = w29.setCells (w.heap.size + 1 + 1) 0 [.bool false, .slice none 0 0, .bool false, .slice none 0 0, .bool false, .slice none 0 0, .bool false, .slice none 0 0] := ⟨_, rfl⟩
     have e47 := hk48
     simp only [World.setCells, Nat.zero_add, Nat.reduceAdd] at e47
     have hk49 := Kept.overE hk48 K14 rfl (Nat.le_of_ble_eq_true rfl)
     replace K5 := K5.awayE hk48 n16
     replace K10 := K10.awayE hk48 n17
     replace K14 := K14.overE hk48 rfl
     replace K25 := K25.awayE hk48 n26.symm
     replace Z15 := Z15.putE hk48
     replace Fm1 := Fm1.kp hk49
     replace Xa := Xa.kp hk49
     replace BW := Below.putE BW hk48 g18
     clear hk48 hk49
     replace K14 : Box V46 (w.heap.size + 1 + 1) (zcs8) := K14
     rw [← e47]
     clear e47
     clear hHeld
     refine hK.out _ _ (by exact ⟨K5, K10.cs⟩) (fun hHeld => ?_)
     clear hK
     (try simp only [p0, p1, p2, p3])
     refine pT 11 ?_
     (try simp only [p0, p1, p2, p3])
     refine wpAnyH_done (by kernel_rfl) (NoPanic.normal ?_) _
     go_wp2
     obtain ⟨c50, c51, c52, c53, c54, c55, c56, c57⟩ := K14.c8
     exact bodyPost_ret (v := .tuple #[.agg #[.bool false, .slice none 0 0, .bool false, .slice none 0 0, .bool false, .slice none 0 0, .bool false, .slice none 0 0], .int .i64 e0]) (by simp [results, Tryz.results20, go_sem, c50, c51, c52, c53, c54, c55, c56, c57]) rfl ⟨rfl, BW⟩
 · go_simp
   clear hHeld
   refine hK.out _ _ (by exact ⟨K5, K10.cs⟩) (fun hHeld => ?_)
   clear hK
   (try simp only [p0, p1, p2, p3])
   refine pR1 1 (fun K hK => ?_)
   go_simp
   (go_at_call 14; with_reducible refine (y_check0 Fm1 hd).mono ?_)
   rintro _ w20 ⟨rfl, hb⟩
   (try go_wp2_with fail)
   replace K5 := K5.on hb
   replace K10 := K10.on hb
   replace K14 := K14.on hb
   replace Z15 := Z15.on hb
   replace Xa := Xa.kp (Kept.of hb)
   replace BW := BW.trans (hb.mono BW.size)
   clear hb
   clear hHeld
   refine hK.out _ _ (by exact ⟨K5, K10.cs⟩) (fun hHeld => ?_)
   clear hK
   (try simp only [p0, p1, p2, p3])
   refine pR1 3 (fun K hK => ?_)
   go_simp
   (go_at_call 53; with_reducible refine (y_chkRay Xa).mono ?_)
   rintro _ w21 ⟨rfl, hb⟩
   (try go_wp2_with fail)
   replace K5 := K5.on hb
   replace K10 := K10.on hb
   replace K14 := K14.on hb
   replace Z15 := Z15.on hb
   replace BW := BW.trans (hb.mono BW.size)
   clear hb
   clear hHeld
   refine hK.out _ _ (by exact ⟨K5, K10.cs⟩) (fun hHeld => ?_)
   clear hK
   (try simp only [p0, p1, p2, p3])
   refine pR1 4 (fun K hK => ?_)
   go_simp
   obtain ⟨V22, e23, hb24, K25, -, -⟩ := alloc_new w21 [.int .i64 0, .int .i64 (orE (chkv y.Y) (chkv y.U))] 32
   have n26 : w.heap.size + 1 + 1 ≠ w21.heap.size := Nat.ne_of_lt (K14.lt)
   replace K5 := K5.on hb24
   replace K10 := K10.on hb24
   replace K14 := K14.on hb24
   replace Z15 := Z15.on hb24
   replace BW := BW.trans (hb24.mono BW.size)
   clear hb24
   rw [← e23]
   clear e23
   generalize w21.heap.size = b27 at *
   clear hHeld
   refine hK.out _ _ (by exact ⟨K5, K10.cs⟩) (fun hHeld => ?_)
   clear hK
   (try simp only [p0, p1, p2, p3])
   refine pR1 5 (fun K hK => ?_)
   go_simp
   (go_at_call 38; with_reducible refine (cor_two K25).mono ?_)
   rintro _ w28 ⟨rfl, hb⟩
   (try go_wp2_with fail)
   replace K5 := K5.on hb
   replace K10 := K10.on hb
   replace K14 := K14.on hb
   replace Z15 := Z15.on hb
   replace BW := BW.trans (hb.mono BW.size)
   clear hb
   rw [show orE 0 (orE (chkv y.Y) (chkv y.U)) = e0 from HE.out.1]
   clear hHeld
   refine hK.out _ _ (by exact ⟨K5, K10.cs⟩) (fun hHeld => ?_)
   clear hK
   (try simp only [p0, p1, p2, p3])
   refine pR1 7 (fun K hK => ?_)
   go_simp
   (go_at_call 52; with_reducible refine (y_rkNoY HE.out.2).mono ?_)
   rintro _ w29 ⟨rfl, hb⟩
   (try go_wp2_with fail)
   replace K5 := K5.on hb
   replace K10 := K10.on hb
   replace K14 := K14.on hb
   replace Z15 := Z15.on hb
   replace BW := BW.trans (hb.mono BW.size)
   clear hb
   clear hHeld
   refine hK.out _ _ (by exact ⟨K5, K10.cs⟩) (fun hHeld => ?_)
   clear hK
   (try simp only [p0, p1, p2, p3])
   refine pT 8 ?_
   (try simp only [p0, p1, p2, p3])
   refine pT 9 ?_
   (try simp only [p0, p1, p2, p3])
   refine pR1 10 (fun K hK => ?_)
   obtain ⟨c30, c31, c32, c33, c34, c35, c36, c37⟩ := K14.c8
   obtain ⟨c38, c39, c40, c41, c42, c43, c44, c45⟩ := Z15.f8
   go_simp
   clear c30 c31 c32 c33 c34 c35 c36 c37 c38 c39 c40 c41 c42 c43 c44 c45
   obtain ⟨V46, hk48⟩ : ∃ V46, V46 = w29.setCells (w.heap.size + 1 + 1) 0 [.bool false, .slice none 0 0, .bool false, .slice none 0 0, .bool false, .slice none 0 0, .bool false, .slice none 0 0] := ⟨_, rfl⟩
   have e47 := hk48
   simp only [World.setCells, Nat.zero_add, Nat.reduceAdd] at e47
   have hk49 := Kept.overE hk48 K14 rfl (Nat.le_of_ble_eq_true rfl)
   replace K5 := K5.awayE hk48 n16
   replace K10 := K10.awayE hk48 n17
   replace K14 := K14.overE hk48 rfl
   replace BW := Below.putE BW hk48 g18
   clear hk48 hk49
   replace K14 : Box V46 (w.heap.size + 1 + 1) (zcs8) := K14
   rw [← e47]
   clear e47
   clear hHeld
   refine hK.out _ _ (by exact ⟨K5, K10.cs⟩) (fun hHeld => ?_)
   clear hK
   (try simp only [p0, p1, p2, p3])
   refine pT 11 ?_
   (try simp only [p0, p1, p2, p3])
   refine wpAnyH_done (by kernel_rfl) (NoPanic.normal ?_) _
   go_wp2
   obtain ⟨c50, c51, c52, c53, c54, c55, c56, c57⟩ := K14.c8
   exact bodyPost_ret (v := .tuple #[.agg #[.bool false, .slice none 0 0, .bool false, .slice none 0 0, .bool false, .slice none 0 0, .bool false, .slice none 0 0], .int .i64 e0]) (by simp [results, Tryz.results20, go_sem, c50, c51, c52, c53, c54, c55, c56, c57]) rfl ⟨rfl, BW⟩
end Go.Proofs.YtjamfkafgfpobaaGreat
