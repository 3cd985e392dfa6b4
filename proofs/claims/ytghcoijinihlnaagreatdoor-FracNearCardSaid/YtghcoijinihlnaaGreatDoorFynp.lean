/-
  For every fraction that is handed in, may it be or not, no float beside is nearer than the one that frac.Float tells, and one that is as near has an odd last bit (FracNear). No conditions but what the row lists.
-/
import Derived.Test.YtghcoijinihlnaaGreatDoorFya
import Derived.Deep.RegionHeld3
import Derived.Deep.DeepCutAuto
import Derived.BigRegion
import Derived.Test.YtghcoijinihlnaaGreatDoorRod
import Derived.Test.YtghcoijinihlnaaGreatDoorTie
import Derived.Test.YtghcoijinihlnaaGreatDoorCards
namespace Go.Proofs.YtghcoijinihlnaaGreatDoor
open Go.RowKit Nb

open Fl Ieee
theorem f_cost {f : Fv} {w : World} : Calls Tryz.prog 5 #[fv f] w (fun e w' => (∃ k : Int, e = .returned (.int .i64 k)) ∧ Below w.heap.size w w') := fcost_any _ _ _ _ _ _ _ _ _
set_option maxHeartbeats 2000000 in
theorem beyond_one {g l : Nat} {k1 : Int} {w : World} (K : Box w g [.int .i64 k1]) :
  Calls Tryz.prog 4 #[.slice (some ⟨g, 0, none⟩) 1 l] w fun e w' => (∃ b : Bool, e = .returned (.bool b)) ∧ Below w.heap.size w w' := by
 have c0 := K.c 0 _ rfl
 clear K
 go_enter Tryz.func4, Tryz.ntmps4
 go_wp2
 refine wp_loop_rounds 2 ?_
 rw [rounds_succ]
 go_wp2
 all_goals try (go_ret; exact ⟨⟨_, rfl⟩, Below.refl _ _⟩)
 all_goals rw [rounds_succ]
 all_goals go_wp2
 all_goals (go_ret; exact ⟨⟨_, rfl⟩, Below.refl _ _⟩)
theorem nextf_lt {v : Nat} (hv : v < 18446744073709551616) (hf : mg v < 9218868437227405312) (b : Bool) : nextf v b < 18446744073709551616 := by
  have h : v < 18446744073709551615 := by unfold mg at hf; omega
  unfold nextf
  split
  · omega
  · split
    · omega
    · split
      · split <;> omega
      · split <;> omega
theorem par_even {v : Nat} {b : Bool} (h : decide (v % 2 = 0) = b) : (((v : Int) % 2) == 0) = b := by
  rw [← h]
  rcases Nat.mod_two_eq_zero_or_one v with g | g
  · have : (v : Int) % 2 = 0 := by omega
    rw [this, g]; rfl
  · have : (v : Int) % 2 = 1 := by omega
    rw [this, g]; rfl
set_option maxHeartbeats 16000000 in
set_option maxRecDepth 100000 in
theorem fnear_walk {f : Fv} {w : World} (X : Fx w f) (htab : Tab w) :
    Calls Tryz.prog 3 #[fv f] w (fun e w' => e = .returned (.bool true) ∧ Below w.heap.size w w') := by
  have HT := Lib.hid htab
  clear htab
  have BW : Below w.heap.size w w := Below.refl _ _
  obtain ⟨V1, e2, hb3, K4, -, -⟩ := alloc_new w [.bool f.n, .slice f.A f.xs.length f.c, .bool f.m, .slice f.B f.ds.length f.d] 26
  replace X := X.kp (Kept.of hb3)
  replace BW := BW.trans (hb3.mono BW.size)
  clear hb3
  go_enter Tryz.func3, Tryz.ntmps3
  go_wp2_with fail
  rw [← e2]
  clear e2
  refine (f_cost).mono ?_
  rintro _ w5 ⟨⟨k, rfl⟩, hb⟩
  replace K4 := K4.on hb
  replace X := X.kp (Kept.of hb)
  replace BW := BW.trans (hb.mono BW.size)
  clear hb
  obtain ⟨V6, e7, hb8, K9, -, -⟩ := alloc_new w5 [.int .i64 k] 3
  replace K4 := K4.on hb8
  replace X := X.kp (Kept.of hb8)
  replace BW := BW.trans (hb8.mono BW.size)
  clear hb8
  go_wp2_with fail
  rw [← e7]
  clear e7
  generalize w5.heap.size = b10 at *
  refine (beyond_one K9).mono ?_
  rintro _ w11 ⟨⟨bb, rfl⟩, hb⟩
  replace K4 := K4.on hb
  replace X := X.kp (Kept.of hb)
  replace BW := BW.trans (hb.mono BW.size)
  clear hb
  cases bb with
  | true =>
    obtain ⟨c12, c13, c14, c15⟩ := K4.c4
    go_wp2_with fail
    clear c12 c13 c14 c15
    refine (lives_any _ (tab_below HT.out BW)).mono ?_
    rintro _ w16 ⟨rfl, hb⟩
    replace K4 := K4.on hb
    replace X := X.kp (Kept.of hb)
    replace BW := BW.trans (hb.mono BW.size)
    clear hb
    go_wp2_with fail
    exact bodyPost_ret (v := .bool true) (by simp [results, Tryz.results3, go_sem]) rfl ⟨rfl, BW⟩
  | false =>
    obtain ⟨c12, c13, c14, c15⟩ := K4.c4
    go_wp2_with fail
    clear c12 c13 c14 c15
    refine (r_check X).mono ?_
    rintro _ w16 ⟨rfl, hb⟩
    replace K4 := K4.on hb
    replace X := X.kp (Kept.of hb)
    replace BW := BW.trans (hb.mono BW.size)
    clear hb
    by_cases hok : okv f
    · rw [chkv_ok hok]
      obtain ⟨q, L⟩ : ∃ q, Ff w16 q f := okv.ff hok X
      clear X hok
      obtain ⟨c17, c18, c19, c20⟩ := K4.c4
      go_wp2_with fail
      clear c17 c18 c19 c20
      refine (float_any L).mono ?_
      rintro _ w21 ⟨v, er, rfl, hF, hb⟩
      replace K4 := K4.on hb
      replace L := L.kp (Kept.of hb)
      replace BW := BW.trans (hb.mono BW.size)
      clear hb
      rcases (show er = 6 ∨ er = 0 from by rcases hF with ⟨h, _⟩ | ⟨h, _⟩; exact .inr h; exact .inl h) with rfl | rfl
      · have hv0 : v = 0 := by rcases hF with ⟨h, _⟩ | ⟨_, h, _⟩; exact absurd h (by decide); exact h
        subst hv0
        clear hF
        have o0 : (FloatKind.f64.format.order 0 0 == some .eq) = true := by decide +kernel
        go_wp2_with fail
        refine (lives_any _ (tab_below HT.out BW)).mono ?_
        rintro _ w22 ⟨rfl, hb⟩
        replace K4 := K4.on hb
        replace L := L.kp (Kept.of hb)
        replace BW := BW.trans (hb.mono BW.size)
        clear hb
        go_wp2_with fail
        exact bodyPost_ret (v := .bool true) (by simp [results, Tryz.results3, go_sem]) rfl ⟨rfl, BW⟩
      · obtain ⟨hv, hf, hz, hup, hdn⟩ := near_beside hF
        obtain ⟨ev, hev⟩ : ∃ ev, decide (v % 2 = 0) = ev := ⟨_, rfl⟩
        have hpar := par_even hev
        have HU : Hid (∀ p : Rat, p = ab (q - fl (nextf v true)) → cmpQ (ab (q - fl v)) p ≤ 0 ∧ (cmpQ (ab (q - fl v)) p = 0 → ev = true)) := Lib.hid (fun p hp => by rw [hp]; exact ⟨(cmpQ_le _ _).2 hup.1, fun e => by rw [← hev]; exact decide_eq_true (hup.2 ((cmpQ_zero _ _).1 e))⟩)
        have HD : Hid (∀ p : Rat, p = ab (q - fl (nextf v false)) → cmpQ (ab (q - fl v)) p ≤ 0 ∧ (cmpQ (ab (q - fl v)) p = 0 → ev = true)) := Lib.hid (fun p hp => by rw [hp]; exact ⟨(cmpQ_le _ _).2 hdn.1, fun e => by rw [← hev]; exact decide_eq_true (hdn.2 ((cmpQ_zero _ _).1 e))⟩)
        have HV := Lib.hid (And.intro hv (And.intro hf hz))
        have HP := Lib.hid hpar
        have nl : ∀ b, nextf v b < 18446744073709551616 := nextf_lt hv hf
        have HN := Lib.hid nl
        clear hF hv hf hz hup hdn hev hpar nl
        obtain ⟨c22, c23, c24, c25⟩ := K4.c4
        go_wp2_with fail
        clear c22 c23 c24 c25
        refine (away_any L HV.out.1).mono ?_
        rintro _ w26 ⟨g0, k0, rfl, hk0, A0, hb⟩
        replace K4 := K4.on hb
        replace L := L.kp (Kept.of hb)
        replace BW := BW.trans (hb.mono BW.size)
        clear hb
        clear hk0
        obtain ⟨V27, e28, hb29, K30, -, -⟩ := alloc_new w26 [.bool g0.n, .slice g0.A g0.xs.length g0.c, .bool g0.m, .slice g0.B g0.ds.length g0.d] 26
        replace K4 := K4.on hb29
        replace L := L.kp (Kept.of hb29)
        replace A0 := A0.kp (Kept.of hb29)
        replace BW := BW.trans (hb29.mono BW.size)
        clear hb29
        go_wp2_with fail
        rw [← e28]
        clear e28
        generalize w26.heap.size = b31 at *
        go_cut [7, 8] (fun sv sb wx => ∃ (pk1 : Nat) (g1 : Fv) (k1 : Bool), sv = .pointer (some ⟨pk1, 0, none⟩) ∧ sb = .bool k1 ∧ Below w.heap.size w wx ∧ Box wx (w.heap.size) [.bool f.n, .slice f.A f.xs.length f.c, .bool f.m, .slice f.B f.ds.length f.d] ∧ Box wx (b31) [.bool g0.n, .slice g0.A g0.xs.length g0.c, .bool g0.m, .slice g0.B g0.ds.length g0.d] ∧ Ff wx q f ∧ Af wx (ab (q - fl v)) g0 k0 ∧ Box wx pk1 [.bool g1.n, .slice g1.A g1.xs.length g1.c, .bool g1.m, .slice g1.B g1.ds.length g1.d] ∧ Af wx (ab (q - fl (nextf v true))) g1 k1 ∧ True)
        case first =>
          as_aux_lemma =>
            refine wp_region_noPanic ?_
            have hb : Below V27.heap.size V27 V27.drew := (Below.refl _ _).drew
            replace K4 := K4.on hb
            replace K30 := K30.on hb
            replace L := L.kp (Kept.of hb)
            replace A0 := A0.kp (Kept.of hb)
            replace BW := BW.trans (hb.mono BW.size)
            clear hb
            refine wp_region_held_drew (S := (fun wx => Cs wx (w.heap.size) 0 [.bool f.n, .slice f.A f.xs.length f.c, .bool f.m, .slice f.B f.ds.length f.d])) (by kernel_rfl) (by exact K4.cs) (fun hHeld => ?_)
            generalize V27.drew = Vd32 at *
            refine pT 0 ?_
            (try simp only [p0, p1, p2, p3])
            refine pT 1 ?_
            (try simp only [p0, p1, p2, p3])
            refine pR2 2 8 (fun K hK => ?_) (fun K hK => ?_)
            · go_simp
              (go_at_call 11; with_reducible refine (infp_any _).mono ?_)
              rintro _ w33 ⟨rfl, rfl⟩
              (try go_wp2_with fail)
              refine hK.out _ _ (by exact K4.cs) (fun hHeld => ?_)
              clear hK
              (try simp only [p0, p1, p2, p3])
              refine pR2 3 8 (fun K hK => ?_) (fun K hK => ?_)
              · go_simp
                (go_at_call 10; with_reducible refine (nextup_any v _ HV.out.1 HV.out.2.1).mono ?_)
                rintro _ w34 ⟨rfl, rfl⟩
                (try go_wp2_with fail)
                refine hK.out _ _ (by exact K4.cs) (fun hHeld => ?_)
                clear hK
                (try simp only [p0, p1, p2, p3])
                refine pR2 4 8 (fun K hK => ?_) (fun K hK => ?_)
                · go_simp
                  (go_at_call 9; with_reducible refine (away_any L (HN.out true)).mono ?_)
                  rintro _ w35 ⟨g1, k1, rfl, hk1, A1, hb⟩
                  (try go_wp2_with fail)
                  replace K4 := K4.on hb
                  replace K30 := K30.on hb
                  replace L := L.kp (Kept.of hb)
                  replace A0 := A0.kp (Kept.of hb)
                  replace BW := BW.trans (hb.mono BW.size)
                  clear hb
                  clear hk1
                  have he1 : True := trivial
                  refine hK.out _ _ (by exact K4.cs) (fun hHeld => ?_)
                  clear hK
                  (try simp only [p0, p1, p2, p3])
                  refine pT 5 ?_
                  (try simp only [p0, p1, p2, p3])
                  refine pT 6 ?_
                  (try simp only [p0, p1, p2, p3])
                  refine pT 7 ?_
                  (try simp only [p0, p1, p2, p3])
                  refine pR1 8 (fun K hK => ?_)
                  go_simp
                  obtain ⟨V36, e37, hb38, K39, Z40, -⟩ := alloc_new w35 [.bool false, .slice none 0 0, .bool false, .slice none 0 0] 26
                  have n41 : w.heap.size ≠ w35.heap.size := Nat.ne_of_lt (K4.lt)
                  have n42 : b31 ≠ w35.heap.size := Nat.ne_of_lt (K30.lt)
                  have g43 : w.heap.size ≤ w35.heap.size := BW.size
                  replace K4 := K4.on hb38
                  replace K30 := K30.on hb38
                  replace L := L.kp (Kept.of hb38)
                  replace A0 := A0.kp (Kept.of hb38)
                  replace A1 := A1.kp (Kept.of hb38)
                  replace BW := BW.trans (hb38.mono BW.size)
                  clear hb38
                  rw [← e37]
                  clear e37
                  generalize w35.heap.size = b44 at *
                  refine hK.out _ _ (by exact K4.cs) (fun hHeld => ?_)
                  clear hK
                  (try simp only [p0, p1, p2, p3])
                  refine pR1 9 (fun K hK => ?_)
                  obtain ⟨c45, c46, c47, c48⟩ := K39.c4
                  obtain ⟨c49, c50, c51, c52⟩ := Z40.f4
                  go_simp
                  clear c45 c46 c47 c48 c49 c50 c51 c52
                  obtain ⟨V53, hk55⟩ : ∃ V53, V53 = V36.setCells (b44) 0 [.bool g1.n, .slice g1.A g1.xs.length g1.c, .bool g1.m, .slice g1.B g1.ds.length g1.d] := ⟨_, rfl⟩
                  have e54 := hk55
                  simp only [World.setCells, Nat.zero_add, Nat.reduceAdd] at e54
                  have hk56 := Kept.overE hk55 K39 rfl (by simp)
                  replace K4 := K4.awayE hk55 n41
                  replace K30 := K30.awayE hk55 n42
                  replace K39 := K39.overE hk55 rfl
                  replace Z40 := Z40.putE hk55
                  replace L := L.kp hk56
                  replace A0 := A0.kp hk56
                  replace A1 := A1.kp hk56
                  replace BW := Below.putE BW hk55 g43
                  clear hk55 hk56
                  rw [← e54]
                  clear e54
                  refine hK.out _ _ (by exact K4.cs) (fun hHeld => ?_)
                  clear hK
                  (try simp only [p0, p1, p2, p3])
                  refine pT 10 ?_
                  (try simp only [p0, p1, p2, p3])
                  refine wpAnyH_done (by kernel_rfl) (NoPanic.normal ?_) _
                  go_wp2
                  go_meet
                  exact ⟨b44, g1, k1, rfl, rfl, BW, K4, K30, L, A0, K39, A1, he1⟩
                · go_simp
                  obtain ⟨V35, e36, hb37, K38, Z39, -⟩ := alloc_new w34 [.bool false, .slice none 0 0, .bool false, .slice none 0 0] 26
                  have n40 : w.heap.size ≠ w34.heap.size := Nat.ne_of_lt (K4.lt)
                  have n41 : b31 ≠ w34.heap.size := Nat.ne_of_lt (K30.lt)
                  have g42 : w.heap.size ≤ w34.heap.size := BW.size
                  replace K4 := K4.on hb37
                  replace K30 := K30.on hb37
                  replace L := L.kp (Kept.of hb37)
                  replace A0 := A0.kp (Kept.of hb37)
                  replace BW := BW.trans (hb37.mono BW.size)
                  clear hb37
                  rw [← e36]
                  clear e36
                  generalize w34.heap.size = b43 at *
                  refine hK.out _ _ (by exact K4.cs) (fun hHeld => ?_)
                  clear hK
                  (try simp only [p0, p1, p2, p3])
                  refine pR1 4 (fun K hK => ?_)
                  go_simp
                  (go_at_call 9; with_reducible refine (away_any L (HN.out true)).mono ?_)
                  rintro _ w44 ⟨g1, k1, rfl, hk1, A1, hb⟩
                  (try go_wp2_with fail)
                  replace K4 := K4.on hb
                  replace K30 := K30.on hb
                  replace K38 := K38.on hb
                  replace Z39 := Z39.on hb
                  replace L := L.kp (Kept.of hb)
                  replace A0 := A0.kp (Kept.of hb)
                  replace BW := BW.trans (hb.mono BW.size)
                  clear hb
                  clear hk1
                  have he1 : True := trivial
                  refine hK.out _ _ (by exact K4.cs) (fun hHeld => ?_)
                  clear hK
                  (try simp only [p0, p1, p2, p3])
                  refine pT 5 ?_
                  (try simp only [p0, p1, p2, p3])
                  refine pT 6 ?_
                  (try simp only [p0, p1, p2, p3])
                  refine pT 7 ?_
                  (try simp only [p0, p1, p2, p3])
                  refine pR1 9 (fun K hK => ?_)
                  obtain ⟨c45, c46, c47, c48⟩ := K38.c4
                  obtain ⟨c49, c50, c51, c52⟩ := Z39.f4
                  go_simp
                  clear c45 c46 c47 c48 c49 c50 c51 c52
                  obtain ⟨V53, hk55⟩ : ∃ V53, V53 = w44.setCells (b43) 0 [.bool g1.n, .slice g1.A g1.xs.length g1.c, .bool g1.m, .slice g1.B g1.ds.length g1.d] := ⟨_, rfl⟩
                  have e54 := hk55
                  simp only [World.setCells, Nat.zero_add, Nat.reduceAdd] at e54
                  have hk56 := Kept.overE hk55 K38 rfl (by simp)
                  replace K4 := K4.awayE hk55 n40
                  replace K30 := K30.awayE hk55 n41
                  replace K38 := K38.overE hk55 rfl
                  replace Z39 := Z39.putE hk55
                  replace L := L.kp hk56
                  replace A0 := A0.kp hk56
                  replace A1 := A1.kp hk56
                  replace BW := Below.putE BW hk55 g42
                  clear hk55 hk56
                  rw [← e54]
                  clear e54
                  refine hK.out _ _ (by exact K4.cs) (fun hHeld => ?_)
                  clear hK
                  (try simp only [p0, p1, p2, p3])
                  refine pT 10 ?_
                  (try simp only [p0, p1, p2, p3])
                  refine wpAnyH_done (by kernel_rfl) (NoPanic.normal ?_) _
                  go_wp2
                  go_meet
                  exact ⟨b43, g1, k1, rfl, rfl, BW, K4, K30, L, A0, K38, A1, he1⟩
              · go_simp
                obtain ⟨V34, e35, hb36, K37, Z38, -⟩ := alloc_new w33 [.bool false, .slice none 0 0, .bool false, .slice none 0 0] 26
                have n39 : w.heap.size ≠ w33.heap.size := Nat.ne_of_lt (K4.lt)
                have n40 : b31 ≠ w33.heap.size := Nat.ne_of_lt (K30.lt)
                have g41 : w.heap.size ≤ w33.heap.size := BW.size
                replace K4 := K4.on hb36
                replace K30 := K30.on hb36
                replace L := L.kp (Kept.of hb36)
                replace A0 := A0.kp (Kept.of hb36)
                replace BW := BW.trans (hb36.mono BW.size)
                clear hb36
                rw [← e35]
                clear e35
                generalize w33.heap.size = b42 at *
                refine hK.out _ _ (by exact K4.cs) (fun hHeld => ?_)
                clear hK
                (try simp only [p0, p1, p2, p3])
                refine pR1 3 (fun K hK => ?_)
                go_simp
                (go_at_call 10; with_reducible refine (nextup_any v _ HV.out.1 HV.out.2.1).mono ?_)
                rintro _ w43 ⟨rfl, rfl⟩
                (try go_wp2_with fail)
                refine hK.out _ _ (by exact K4.cs) (fun hHeld => ?_)
                clear hK
                (try simp only [p0, p1, p2, p3])
                refine pR1 4 (fun K hK => ?_)
                go_simp
                (go_at_call 9; with_reducible refine (away_any L (HN.out true)).mono ?_)
                rintro _ w44 ⟨g1, k1, rfl, hk1, A1, hb⟩
                (try go_wp2_with fail)
                replace K4 := K4.on hb
                replace K30 := K30.on hb
                replace K37 := K37.on hb
                replace Z38 := Z38.on hb
                replace L := L.kp (Kept.of hb)
                replace A0 := A0.kp (Kept.of hb)
                replace BW := BW.trans (hb.mono BW.size)
                clear hb
                clear hk1
                have he1 : True := trivial
                refine hK.out _ _ (by exact K4.cs) (fun hHeld => ?_)
                clear hK
                (try simp only [p0, p1, p2, p3])
                refine pT 5 ?_
                (try simp only [p0, p1, p2, p3])
                refine pT 6 ?_
                (try simp only [p0, p1, p2, p3])
                refine pT 7 ?_
                (try simp only [p0, p1, p2, p3])
                refine pR1 9 (fun K hK => ?_)
                obtain ⟨c45, c46, c47, c48⟩ := K37.c4
                obtain ⟨c49, c50, c51, c52⟩ := Z38.f4
                go_simp
                clear c45 c46 c47 c48 c49 c50 c51 c52
                obtain ⟨V53, hk55⟩ : ∃ V53, V53 = w44.setCells (b42) 0 [.bool g1.n, .slice g1.A g1.xs.length g1.c, .bool g1.m, .slice g1.B g1.ds.length g1.d] := ⟨_, rfl⟩
                have e54 := hk55
                simp only [World.setCells, Nat.zero_add, Nat.reduceAdd] at e54
                have hk56 := Kept.overE hk55 K37 rfl (by simp)
                replace K4 := K4.awayE hk55 n39
                replace K30 := K30.awayE hk55 n40
                replace K37 := K37.overE hk55 rfl
                replace Z38 := Z38.putE hk55
                replace L := L.kp hk56
                replace A0 := A0.kp hk56
                replace A1 := A1.kp hk56
                replace BW := Below.putE BW hk55 g41
                clear hk55 hk56
                rw [← e54]
                clear e54
                refine hK.out _ _ (by exact K4.cs) (fun hHeld => ?_)
                clear hK
                (try simp only [p0, p1, p2, p3])
                refine pT 10 ?_
                (try simp only [p0, p1, p2, p3])
                refine wpAnyH_done (by kernel_rfl) (NoPanic.normal ?_) _
                go_wp2
                go_meet
                exact ⟨b42, g1, k1, rfl, rfl, BW, K4, K30, L, A0, K37, A1, he1⟩
            · go_simp
              obtain ⟨V33, e34, hb35, K36, Z37, -⟩ := alloc_new Vd32 [.bool false, .slice none 0 0, .bool false, .slice none 0 0] 26
              have n38 : w.heap.size ≠ Vd32.heap.size := Nat.ne_of_lt (K4.lt)
              have n39 : b31 ≠ Vd32.heap.size := Nat.ne_of_lt (K30.lt)
              have g40 : w.heap.size ≤ Vd32.heap.size := BW.size
              replace K4 := K4.on hb35
              replace K30 := K30.on hb35
              replace L := L.kp (Kept.of hb35)
              replace A0 := A0.kp (Kept.of hb35)
              replace BW := BW.trans (hb35.mono BW.size)
              clear hb35
              rw [← e34]
              clear e34
              generalize Vd32.heap.size = b41 at *
              refine hK.out _ _ (by exact K4.cs) (fun hHeld => ?_)
              clear hK
              (try simp only [p0, p1, p2, p3])
              refine pR1 2 (fun K hK => ?_)
              go_simp
              (go_at_call 11; with_reducible refine (infp_any _).mono ?_)
              rintro _ w42 ⟨rfl, rfl⟩
              (try go_wp2_with fail)
              refine hK.out _ _ (by exact K4.cs) (fun hHeld => ?_)
              clear hK
              (try simp only [p0, p1, p2, p3])
              refine pR1 3 (fun K hK => ?_)
              go_simp
              (go_at_call 10; with_reducible refine (nextup_any v _ HV.out.1 HV.out.2.1).mono ?_)
              rintro _ w43 ⟨rfl, rfl⟩
              (try go_wp2_with fail)
              refine hK.out _ _ (by exact K4.cs) (fun hHeld => ?_)
              clear hK
              (try simp only [p0, p1, p2, p3])
              refine pR1 4 (fun K hK => ?_)
              go_simp
              (go_at_call 9; with_reducible refine (away_any L (HN.out true)).mono ?_)
              rintro _ w44 ⟨g1, k1, rfl, hk1, A1, hb⟩
              (try go_wp2_with fail)
              replace K4 := K4.on hb
              replace K30 := K30.on hb
              replace K36 := K36.on hb
              replace Z37 := Z37.on hb
              replace L := L.kp (Kept.of hb)
              replace A0 := A0.kp (Kept.of hb)
              replace BW := BW.trans (hb.mono BW.size)
              clear hb
              clear hk1
              have he1 : True := trivial
              refine hK.out _ _ (by exact K4.cs) (fun hHeld => ?_)
              clear hK
              (try simp only [p0, p1, p2, p3])
              refine pT 5 ?_
              (try simp only [p0, p1, p2, p3])
              refine pT 6 ?_
              (try simp only [p0, p1, p2, p3])
              refine pT 7 ?_
              (try simp only [p0, p1, p2, p3])
              refine pR1 9 (fun K hK => ?_)
              obtain ⟨c45, c46, c47, c48⟩ := K36.c4
              obtain ⟨c49, c50, c51, c52⟩ := Z37.f4
              go_simp
              clear c45 c46 c47 c48 c49 c50 c51 c52
              obtain ⟨V53, hk55⟩ : ∃ V53, V53 = w44.setCells (b41) 0 [.bool g1.n, .slice g1.A g1.xs.length g1.c, .bool g1.m, .slice g1.B g1.ds.length g1.d] := ⟨_, rfl⟩
              have e54 := hk55
              simp only [World.setCells, Nat.zero_add, Nat.reduceAdd] at e54
              have hk56 := Kept.overE hk55 K36 rfl (by simp)
              replace K4 := K4.awayE hk55 n38
              replace K30 := K30.awayE hk55 n39
              replace K36 := K36.overE hk55 rfl
              replace Z37 := Z37.putE hk55
              replace L := L.kp hk56
              replace A0 := A0.kp hk56
              replace A1 := A1.kp hk56
              replace BW := Below.putE BW hk55 g40
              clear hk55 hk56
              rw [← e54]
              clear e54
              refine hK.out _ _ (by exact K4.cs) (fun hHeld => ?_)
              clear hK
              (try simp only [p0, p1, p2, p3])
              refine pT 10 ?_
              (try simp only [p0, p1, p2, p3])
              refine wpAnyH_done (by kernel_rfl) (NoPanic.normal ?_) _
              go_wp2
              go_meet
              exact ⟨b41, g1, k1, rfl, rfl, BW, K4, K30, L, A0, K36, A1, he1⟩
        case rest =>
          obtain ⟨pk1, g1, k1, rfl, rfl, BW, K4, K30, L, A0, KN1, A1, he1⟩ := hcut
          clear he1
          go_upto_region 8 with fail
          go_cut [9, 10] (fun sv sb wx => ∃ (pk2 : Nat) (g2 : Fv) (k2 : Bool), sv = .pointer (some ⟨pk2, 0, none⟩) ∧ sb = .bool k2 ∧ Below w.heap.size w wx ∧ Box wx (w.heap.size) [.bool f.n, .slice f.A f.xs.length f.c, .bool f.m, .slice f.B f.ds.length f.d] ∧ Box wx (b31) [.bool g0.n, .slice g0.A g0.xs.length g0.c, .bool g0.m, .slice g0.B g0.ds.length g0.d] ∧ Box wx (pk1) [.bool g1.n, .slice g1.A g1.xs.length g1.c, .bool g1.m, .slice g1.B g1.ds.length g1.d] ∧ Ff wx q f ∧ Af wx (ab (q - fl v)) g0 k0 ∧ Af wx (ab (q - fl (nextf v true))) g1 k1 ∧ Box wx pk2 [.bool g2.n, .slice g2.A g2.xs.length g2.c, .bool g2.m, .slice g2.B g2.ds.length g2.d] ∧ Af wx (ab (q - fl (nextf v false))) g2 k2 ∧ True)
          case first =>
            as_aux_lemma =>
              refine wp_region_noPanic ?_
              have hb : Below wc.heap.size wc wc.drew := (Below.refl _ _).drew
              replace K4 := K4.on hb
              replace K30 := K30.on hb
              replace KN1 := KN1.on hb
              replace L := L.kp (Kept.of hb)
              replace A0 := A0.kp (Kept.of hb)
              replace A1 := A1.kp (Kept.of hb)
              replace BW := BW.trans (hb.mono BW.size)
              clear hb
              refine wp_region_held_drew (S := (fun wx => Cs wx (w.heap.size) 0 [.bool f.n, .slice f.A f.xs.length f.c, .bool f.m, .slice f.B f.ds.length f.d])) (by kernel_rfl) (by exact K4.cs) (fun hHeld => ?_)
              generalize wc.drew = Vd32 at *
              refine pT 0 ?_
              (try simp only [p0, p1, p2, p3])
              refine pT 1 ?_
              (try simp only [p0, p1, p2, p3])
              refine pR2 2 8 (fun K hK => ?_) (fun K hK => ?_)
              · go_simp
                (go_at_call 11; with_reducible refine (infn_any _).mono ?_)
                rintro _ w33 ⟨rfl, rfl⟩
                (try go_wp2_with fail)
                refine hK.out _ _ (by exact K4.cs) (fun hHeld => ?_)
                clear hK
                (try simp only [p0, p1, p2, p3])
                refine pR2 3 8 (fun K hK => ?_) (fun K hK => ?_)
                · go_simp
                  (go_at_call 10; with_reducible refine (nextdn_any v _ HV.out.1 HV.out.2.1).mono ?_)
                  rintro _ w34 ⟨rfl, rfl⟩
                  (try go_wp2_with fail)
                  refine hK.out _ _ (by exact K4.cs) (fun hHeld => ?_)
                  clear hK
                  (try simp only [p0, p1, p2, p3])
                  refine pR2 4 8 (fun K hK => ?_) (fun K hK => ?_)
                  · go_simp
                    (go_at_call 9; with_reducible refine (away_any L (HN.out false)).mono ?_)
                    rintro _ w35 ⟨g2, k2, rfl, hk2, A2, hb⟩
                    (try go_wp2_with fail)
                    replace K4 := K4.on hb
                    replace K30 := K30.on hb
                    replace KN1 := KN1.on hb
                    replace L := L.kp (Kept.of hb)
                    replace A0 := A0.kp (Kept.of hb)
                    replace A1 := A1.kp (Kept.of hb)
                    replace BW := BW.trans (hb.mono BW.size)
                    clear hb
                    clear hk2
                    have he2 : True := trivial
                    refine hK.out _ _ (by exact K4.cs) (fun hHeld => ?_)
                    clear hK
                    (try simp only [p0, p1, p2, p3])
                    refine pT 5 ?_
                    (try simp only [p0, p1, p2, p3])
                    refine pT 6 ?_
                    (try simp only [p0, p1, p2, p3])
                    refine pT 7 ?_
                    (try simp only [p0, p1, p2, p3])
                    refine pR1 8 (fun K hK => ?_)
                    go_simp
                    obtain ⟨V36, e37, hb38, K39, Z40, -⟩ := alloc_new w35 [.bool false, .slice none 0 0, .bool false, .slice none 0 0] 26
                    have n41 : w.heap.size ≠ w35.heap.size := Nat.ne_of_lt (K4.lt)
                    have n42 : b31 ≠ w35.heap.size := Nat.ne_of_lt (K30.lt)
                    have n43 : pk1 ≠ w35.heap.size := Nat.ne_of_lt (KN1.lt)
                    have g44 : w.heap.size ≤ w35.heap.size := BW.size
                    replace K4 := K4.on hb38
                    replace K30 := K30.on hb38
                    replace KN1 := KN1.on hb38
                    replace L := L.kp (Kept.of hb38)
                    replace A0 := A0.kp (Kept.of hb38)
                    replace A1 := A1.kp (Kept.of hb38)
                    replace A2 := A2.kp (Kept.of hb38)
                    replace BW := BW.trans (hb38.mono BW.size)
                    clear hb38
                    rw [← e37]
                    clear e37
                    generalize w35.heap.size = b45 at *
                    refine hK.out _ _ (by exact K4.cs) (fun hHeld => ?_)
                    clear hK
                    (try simp only [p0, p1, p2, p3])
                    refine pR1 9 (fun K hK => ?_)
                    obtain ⟨c46, c47, c48, c49⟩ := K39.c4
                    obtain ⟨c50, c51, c52, c53⟩ := Z40.f4
                    go_simp
                    clear c46 c47 c48 c49 c50 c51 c52 c53
                    obtain ⟨V54, hk56⟩ : ∃ V54, V54 = V36.setCells (b45) 0 [.bool g2.n, .slice g2.A g2.xs.length g2.c, .bool g2.m, .slice g2.B g2.ds.length g2.d] := ⟨_, rfl⟩
                    have e55 := hk56
                    simp only [World.setCells, Nat.zero_add, Nat.reduceAdd] at e55
                    have hk57 := Kept.overE hk56 K39 rfl (by simp)
                    replace K4 := K4.awayE hk56 n41
                    replace K30 := K30.awayE hk56 n42
                    replace KN1 := KN1.awayE hk56 n43
                    replace K39 := K39.overE hk56 rfl
                    replace L := L.kp hk57
                    replace A0 := A0.kp hk57
                    replace A1 := A1.kp hk57
                    replace A2 := A2.kp hk57
                    replace BW := Below.putE BW hk56 g44
                    clear hk56 hk57
                    rw [← e55]
                    clear e55
                    refine hK.out _ _ (by exact K4.cs) (fun hHeld => ?_)
                    clear hK
                    (try simp only [p0, p1, p2, p3])
                    refine pT 10 ?_
                    (try simp only [p0, p1, p2, p3])
                    refine wpAnyH_done (by kernel_rfl) (NoPanic.normal ?_) _
                    go_wp2
                    go_meet
                    exact ⟨b45, g2, k2, rfl, rfl, BW, K4, K30, KN1, L, A0, A1, K39, A2, he2⟩
                  · go_simp
                    obtain ⟨V35, e36, hb37, K38, Z39, -⟩ := alloc_new w34 [.bool false, .slice none 0 0, .bool false, .slice none 0 0] 26
                    have n40 : w.heap.size ≠ w34.heap.size := Nat.ne_of_lt (K4.lt)
                    have n41 : b31 ≠ w34.heap.size := Nat.ne_of_lt (K30.lt)
                    have n42 : pk1 ≠ w34.heap.size := Nat.ne_of_lt (KN1.lt)
                    have g43 : w.heap.size ≤ w34.heap.size := BW.size
                    replace K4 := K4.on hb37
                    replace K30 := K30.on hb37
                    replace KN1 := KN1.on hb37
                    replace L := L.kp (Kept.of hb37)
                    replace A0 := A0.kp (Kept.of hb37)
                    replace A1 := A1.kp (Kept.of hb37)
                    replace BW := BW.trans (hb37.mono BW.size)
                    clear hb37
                    rw [← e36]
                    clear e36
                    generalize w34.heap.size = b44 at *
                    refine hK.out _ _ (by exact K4.cs) (fun hHeld => ?_)
                    clear hK
                    (try simp only [p0, p1, p2, p3])
                    refine pR1 4 (fun K hK => ?_)
                    go_simp
                    (go_at_call 9; with_reducible refine (away_any L (HN.out false)).mono ?_)
                    rintro _ w45 ⟨g2, k2, rfl, hk2, A2, hb⟩
                    (try go_wp2_with fail)
                    replace K4 := K4.on hb
                    replace K30 := K30.on hb
                    replace KN1 := KN1.on hb
                    replace K38 := K38.on hb
                    replace Z39 := Z39.on hb
                    replace L := L.kp (Kept.of hb)
                    replace A0 := A0.kp (Kept.of hb)
                    replace A1 := A1.kp (Kept.of hb)
                    replace BW := BW.trans (hb.mono BW.size)
                    clear hb
                    clear hk2
                    have he2 : True := trivial
                    refine hK.out _ _ (by exact K4.cs) (fun hHeld => ?_)
                    clear hK
                    (try simp only [p0, p1, p2, p3])
                    refine pT 5 ?_
                    (try simp only [p0, p1, p2, p3])
                    refine pT 6 ?_
                    (try simp only [p0, p1, p2, p3])
                    refine pT 7 ?_
                    (try simp only [p0, p1, p2, p3])
                    refine pR1 9 (fun K hK => ?_)
                    obtain ⟨c46, c47, c48, c49⟩ := K38.c4
                    obtain ⟨c50, c51, c52, c53⟩ := Z39.f4
                    go_simp
                    clear c46 c47 c48 c49 c50 c51 c52 c53
                    obtain ⟨V54, hk56⟩ : ∃ V54, V54 = w45.setCells (b44) 0 [.bool g2.n, .slice g2.A g2.xs.length g2.c, .bool g2.m, .slice g2.B g2.ds.length g2.d] := ⟨_, rfl⟩
                    have e55 := hk56
                    simp only [World.setCells, Nat.zero_add, Nat.reduceAdd] at e55
                    have hk57 := Kept.overE hk56 K38 rfl (by simp)
                    replace K4 := K4.awayE hk56 n40
                    replace K30 := K30.awayE hk56 n41
                    replace KN1 := KN1.awayE hk56 n42
                    replace K38 := K38.overE hk56 rfl
                    replace L := L.kp hk57
                    replace A0 := A0.kp hk57
                    replace A1 := A1.kp hk57
                    replace A2 := A2.kp hk57
                    replace BW := Below.putE BW hk56 g43
                    clear hk56 hk57
                    rw [← e55]
                    clear e55
                    refine hK.out _ _ (by exact K4.cs) (fun hHeld => ?_)
                    clear hK
                    (try simp only [p0, p1, p2, p3])
                    refine pT 10 ?_
                    (try simp only [p0, p1, p2, p3])
                    refine wpAnyH_done (by kernel_rfl) (NoPanic.normal ?_) _
                    go_wp2
                    go_meet
                    exact ⟨b44, g2, k2, rfl, rfl, BW, K4, K30, KN1, L, A0, A1, K38, A2, he2⟩
                · go_simp
                  obtain ⟨V34, e35, hb36, K37, Z38, -⟩ := alloc_new w33 [.bool false, .slice none 0 0, .bool false, .slice none 0 0] 26
                  have n39 : w.heap.size ≠ w33.heap.size := Nat.ne_of_lt (K4.lt)
                  have n40 : b31 ≠ w33.heap.size := Nat.ne_of_lt (K30.lt)
                  have n41 : pk1 ≠ w33.heap.size := Nat.ne_of_lt (KN1.lt)
                  have g42 : w.heap.size ≤ w33.heap.size := BW.size
                  replace K4 := K4.on hb36
                  replace K30 := K30.on hb36
                  replace KN1 := KN1.on hb36
                  replace L := L.kp (Kept.of hb36)
                  replace A0 := A0.kp (Kept.of hb36)
                  replace A1 := A1.kp (Kept.of hb36)
                  replace BW := BW.trans (hb36.mono BW.size)
                  clear hb36
                  rw [← e35]
                  clear e35
                  generalize w33.heap.size = b43 at *
                  refine hK.out _ _ (by exact K4.cs) (fun hHeld => ?_)
                  clear hK
                  (try simp only [p0, p1, p2, p3])
                  refine pR1 3 (fun K hK => ?_)
                  go_simp
                  (go_at_call 10; with_reducible refine (nextdn_any v _ HV.out.1 HV.out.2.1).mono ?_)
                  rintro _ w44 ⟨rfl, rfl⟩
                  (try go_wp2_with fail)
                  refine hK.out _ _ (by exact K4.cs) (fun hHeld => ?_)
                  clear hK
                  (try simp only [p0, p1, p2, p3])
                  refine pR1 4 (fun K hK => ?_)
                  go_simp
                  (go_at_call 9; with_reducible refine (away_any L (HN.out false)).mono ?_)
                  rintro _ w45 ⟨g2, k2, rfl, hk2, A2, hb⟩
                  (try go_wp2_with fail)
                  replace K4 := K4.on hb
                  replace K30 := K30.on hb
                  replace KN1 := KN1.on hb
                  replace K37 := K37.on hb
                  replace Z38 := Z38.on hb
                  replace L := L.kp (Kept.of hb)
                  replace A0 := A0.kp (Kept.of hb)
                  replace A1 := A1.kp (Kept.of hb)
                  replace BW := BW.trans (hb.mono BW.size)
                  clear hb
                  clear hk2
                  have he2 : True := trivial
                  refine hK.out _ _ (by exact K4.cs) (fun hHeld => ?_)
                  clear hK
                  (try simp only [p0, p1, p2, p3])
                  refine pT 5 ?_
                  (try simp only [p0, p1, p2, p3])
                  refine pT 6 ?_
                  (try simp only [p0, p1, p2, p3])
                  refine pT 7 ?_
                  (try simp only [p0, p1, p2, p3])
                  refine pR1 9 (fun K hK => ?_)
                  obtain ⟨c46, c47, c48, c49⟩ := K37.c4
                  obtain ⟨c50, c51, c52, c53⟩ := Z38.f4
                  go_simp
                  clear c46 c47 c48 c49 c50 c51 c52 c53
                  obtain ⟨V54, hk56⟩ : ∃ V54, V54 = w45.setCells (b43) 0 [.bool g2.n, .slice g2.A g2.xs.length g2.c, .bool g2.m, .slice g2.B g2.ds.length g2.d] := ⟨_, rfl⟩
                  have e55 := hk56
                  simp only [World.setCells, Nat.zero_add, Nat.reduceAdd] at e55
                  have hk57 := Kept.overE hk56 K37 rfl (by simp)
                  replace K4 := K4.awayE hk56 n39
                  replace K30 := K30.awayE hk56 n40
                  replace KN1 := KN1.awayE hk56 n41
                  replace K37 := K37.overE hk56 rfl
                  replace L := L.kp hk57
                  replace A0 := A0.kp hk57
                  replace A1 := A1.kp hk57
                  replace A2 := A2.kp hk57
                  replace BW := Below.putE BW hk56 g42
                  clear hk56 hk57
                  rw [← e55]
                  clear e55
                  refine hK.out _ _ (by exact K4.cs) (fun hHeld => ?_)
                  clear hK
                  (try simp only [p0, p1, p2, p3])
                  refine pT 10 ?_
                  (try simp only [p0, p1, p2, p3])
                  refine wpAnyH_done (by kernel_rfl) (NoPanic.normal ?_) _
                  go_wp2
                  go_meet
                  exact ⟨b43, g2, k2, rfl, rfl, BW, K4, K30, KN1, L, A0, A1, K37, A2, he2⟩
              · go_simp
                obtain ⟨V33, e34, hb35, K36, Z37, -⟩ := alloc_new Vd32 [.bool false, .slice none 0 0, .bool false, .slice none 0 0] 26
                have n38 : w.heap.size ≠ Vd32.heap.size := Nat.ne_of_lt (K4.lt)
                have n39 : b31 ≠ Vd32.heap.size := Nat.ne_of_lt (K30.lt)
                have n40 : pk1 ≠ Vd32.heap.size := Nat.ne_of_lt (KN1.lt)
                have g41 : w.heap.size ≤ Vd32.heap.size := BW.size
                replace K4 := K4.on hb35
                replace K30 := K30.on hb35
                replace KN1 := KN1.on hb35
                replace L := L.kp (Kept.of hb35)
                replace A0 := A0.kp (Kept.of hb35)
                replace A1 := A1.kp (Kept.of hb35)
                replace BW := BW.trans (hb35.mono BW.size)
                clear hb35
                rw [← e34]
                clear e34
                generalize Vd32.heap.size = b42 at *
                refine hK.out _ _ (by exact K4.cs) (fun hHeld => ?_)
                clear hK
                (try simp only [p0, p1, p2, p3])
                refine pR1 2 (fun K hK => ?_)
                go_simp
                (go_at_call 11; with_reducible refine (infn_any _).mono ?_)
                rintro _ w43 ⟨rfl, rfl⟩
                (try go_wp2_with fail)
                refine hK.out _ _ (by exact K4.cs) (fun hHeld => ?_)
                clear hK
                (try simp only [p0, p1, p2, p3])
                refine pR1 3 (fun K hK => ?_)
                go_simp
                (go_at_call 10; with_reducible refine (nextdn_any v _ HV.out.1 HV.out.2.1).mono ?_)
                rintro _ w44 ⟨rfl, rfl⟩
                (try go_wp2_with fail)
                refine hK.out _ _ (by exact K4.cs) (fun hHeld => ?_)
                clear hK
                (try simp only [p0, p1, p2, p3])
                refine pR1 4 (fun K hK => ?_)
                go_simp
                (go_at_call 9; with_reducible refine (away_any L (HN.out false)).mono ?_)
                rintro _ w45 ⟨g2, k2, rfl, hk2, A2, hb⟩
                (try go_wp2_with fail)
                replace K4 := K4.on hb
                replace K30 := K30.on hb
                replace KN1 := KN1.on hb
                replace K36 := K36.on hb
                replace Z37 := Z37.on hb
                replace L := L.kp (Kept.of hb)
                replace A0 := A0.kp (Kept.of hb)
                replace A1 := A1.kp (Kept.of hb)
                replace BW := BW.trans (hb.mono BW.size)
                clear hb
                clear hk2
                have he2 : True := trivial
                refine hK.out _ _ (by exact K4.cs) (fun hHeld => ?_)
                clear hK
                (try simp only [p0, p1, p2, p3])
                refine pT 5 ?_
                (try simp only [p0, p1, p2, p3])
                refine pT 6 ?_
                (try simp only [p0, p1, p2, p3])
                refine pT 7 ?_
                (try simp only [p0, p1, p2, p3])
                refine pR1 9 (fun K hK => ?_)
                obtain ⟨c46, c47, c48, c49⟩ := K36.c4
                obtain ⟨c50, c51, c52, c53⟩ := Z37.f4
                go_simp
                clear c46 c47 c48 c49 c50 c51 c52 c53
                obtain ⟨V54, hk56⟩ : ∃ V54, V54 = w45.setCells (b42) 0 [.bool g2.n, .slice g2.A g2.xs.length g2.c, .bool g2.m, .slice g2.B g2.ds.length g2.d] := ⟨_, rfl⟩
                have e55 := hk56
                simp only [World.setCells, Nat.zero_add, Nat.reduceAdd] at e55
                have hk57 := Kept.overE hk56 K36 rfl (by simp)
                replace K4 := K4.awayE hk56 n38
                replace K30 := K30.awayE hk56 n39
                replace KN1 := KN1.awayE hk56 n40
                replace K36 := K36.overE hk56 rfl
                replace L := L.kp hk57
                replace A0 := A0.kp hk57
                replace A1 := A1.kp hk57
                replace A2 := A2.kp hk57
                replace BW := Below.putE BW hk56 g41
                clear hk56 hk57
                rw [← e55]
                clear e55
                refine hK.out _ _ (by exact K4.cs) (fun hHeld => ?_)
                clear hK
                (try simp only [p0, p1, p2, p3])
                refine pT 10 ?_
                (try simp only [p0, p1, p2, p3])
                refine wpAnyH_done (by kernel_rfl) (NoPanic.normal ?_) _
                go_wp2
                go_meet
                exact ⟨b42, g2, k2, rfl, rfl, BW, K4, K30, KN1, L, A0, A1, K36, A2, he2⟩
          case rest =>
            obtain ⟨pk2, g2, k2, rfl, rfl, BW, K4, K30, KN1, L, A0, A1, KN2, A2, he2⟩ := hcut
            clear he2 L HN
            have hfb := run_bits
            have hp9 := HP.out
            have hv0 : (0 : Int) ≤ v := by omega
            have hv1 : (v : Int) < 18446744073709551616 := by have := HV.out.1; omega
            go_upto_region 10 with fail
            clear hfb hp9 hv0 hv1
            go_cut [83] (fun s83 wx => s83 = .bool false ∧ Below w.heap.size w wx ∧ Box wx (w.heap.size) [.bool f.n, .slice f.A f.xs.length f.c, .bool f.m, .slice f.B f.ds.length f.d] ∧ Box wx (b31) [.bool g0.n, .slice g0.A g0.xs.length g0.c, .bool g0.m, .slice g0.B g0.ds.length g0.d] ∧ Box wx (pk1) [.bool g1.n, .slice g1.A g1.xs.length g1.c, .bool g1.m, .slice g1.B g1.ds.length g1.d] ∧ Box wx (pk2) [.bool g2.n, .slice g2.A g2.xs.length g2.c, .bool g2.m, .slice g2.B g2.ds.length g2.d] ∧ Af wx (ab (q - fl v)) g0 k0 ∧ Af wx (ab (q - fl (nextf v true))) g1 k1 ∧ Af wx (ab (q - fl (nextf v false))) g2 k2)
            case first =>
              as_aux_lemma =>
                cases hk0 : k0
                · subst hk0
                  go_wp2
                  go_meet
                  exact ⟨by first | rfl | rw [hc3b], BW, K4, K30, KN1, KN2, A0, A1, A2⟩
                · subst hk0
                  cases hk1 : k1
                  · subst hk1
                    go_wp2
                    go_meet
                    exact ⟨by first | rfl | rw [hc3b], BW, K4, K30, KN1, KN2, A0, A1, A2⟩
                  · subst hk1
                    obtain ⟨hc1, hc2⟩ := HU.out _ rfl
                    obtain ⟨cc, hcc⟩ : ∃ cc, cmpQ (ab (q - fl v)) (ab (q - fl (nextf v true))) = cc := ⟨_, rfl⟩
                    rw [hcc] at hc1 hc2
                    have HCC := Lib.hid hcc
                    have hc3 : ¬ 0 < cc := by omega
                    have hc3b : decide (0 < cc) = false := decide_eq_false hc3
                    clear hcc hc1
                    obtain ⟨c32, c33, c34, c35⟩ := K30.c4
                    obtain ⟨c36, c37, c38, c39⟩ := KN1.c4
                    go_wp2_with fail
                    clear c32 c33 c34 c35 c36 c37 c38 c39
                    refine (r_cmp (A0 rfl) (A1 rfl)).mono ?_
                    rintro _ w40 ⟨rfl, hb⟩
                    replace K4 := K4.on hb
                    replace K30 := K30.on hb
                    replace KN1 := KN1.on hb
                    replace KN2 := KN2.on hb
                    replace A0 := A0.kp (Kept.of hb)
                    replace A1 := A1.kp (Kept.of hb)
                    replace A2 := A2.kp (Kept.of hb)
                    replace BW := BW.trans (hb.mono BW.size)
                    clear hb
                    rw [HCC.out]
                    obtain ⟨c41, c42, c43, c44⟩ := K30.c4
                    obtain ⟨c45, c46, c47, c48⟩ := KN1.c4
                    go_wp2_with fail
                    clear c41 c42 c43 c44 c45 c46 c47 c48
                    refine (r_cmp (A0 rfl) (A1 rfl)).mono ?_
                    rintro _ w49 ⟨rfl, hb⟩
                    replace K4 := K4.on hb
                    replace K30 := K30.on hb
                    replace KN1 := KN1.on hb
                    replace KN2 := KN2.on hb
                    replace A0 := A0.kp (Kept.of hb)
                    replace A1 := A1.kp (Kept.of hb)
                    replace A2 := A2.kp (Kept.of hb)
                    replace BW := BW.trans (hb.mono BW.size)
                    clear hb
                    rw [HCC.out]
                    by_cases h0 : cc = 0
                    · have he := hc2 h0
                      subst he
                      subst h0
                      clear hc2
                      go_wp2
                      go_meet
                      exact ⟨by first | rfl | rw [hc3b], BW, K4, K30, KN1, KN2, A0, A1, A2⟩
                    · have h0b : (cc == 0) = false := beq_false_of_ne h0
                      clear hc2
                      go_wp2
                      go_meet
                      exact ⟨by first | rfl | rw [hc3b], BW, K4, K30, KN1, KN2, A0, A1, A2⟩
            case rest =>
              clear BW K4 K30 KN1 KN2 A0 A1 A2
              obtain ⟨rfl, BW, K4, K30, KN1, KN2, A0, A1, A2⟩ := hcut
              go_upto_region 12 with fail
              go_cut [103] (fun s103 wx => s103 = .bool false ∧ Below w.heap.size w wx ∧ Box wx (w.heap.size) [.bool f.n, .slice f.A f.xs.length f.c, .bool f.m, .slice f.B f.ds.length f.d] ∧ Box wx (b31) [.bool g0.n, .slice g0.A g0.xs.length g0.c, .bool g0.m, .slice g0.B g0.ds.length g0.d] ∧ Box wx (pk1) [.bool g1.n, .slice g1.A g1.xs.length g1.c, .bool g1.m, .slice g1.B g1.ds.length g1.d] ∧ Box wx (pk2) [.bool g2.n, .slice g2.A g2.xs.length g2.c, .bool g2.m, .slice g2.B g2.ds.length g2.d] ∧ Af wx (ab (q - fl v)) g0 k0 ∧ Af wx (ab (q - fl (nextf v true))) g1 k1 ∧ Af wx (ab (q - fl (nextf v false))) g2 k2)
              case first =>
                as_aux_lemma =>
                  cases hk0 : k0
                  · subst hk0
                    go_wp2
                    go_meet
                    exact ⟨by first | rfl | rw [hc3b], BW, K4, K30, KN1, KN2, A0, A1, A2⟩
                  · subst hk0
                    cases hk1 : k2
                    · subst hk1
                      go_wp2
                      go_meet
                      exact ⟨by first | rfl | rw [hc3b], BW, K4, K30, KN1, KN2, A0, A1, A2⟩
                    · subst hk1
                      obtain ⟨hc1, hc2⟩ := HD.out _ rfl
                      obtain ⟨cc, hcc⟩ : ∃ cc, cmpQ (ab (q - fl v)) (ab (q - fl (nextf v false))) = cc := ⟨_, rfl⟩
                      rw [hcc] at hc1 hc2
                      have HCC := Lib.hid hcc
                      have hc3 : ¬ 0 < cc := by omega
                      have hc3b : decide (0 < cc) = false := decide_eq_false hc3
                      clear hcc hc1
                      obtain ⟨c32, c33, c34, c35⟩ := K30.c4
                      obtain ⟨c36, c37, c38, c39⟩ := KN2.c4
                      go_wp2_with fail
                      clear c32 c33 c34 c35 c36 c37 c38 c39
                      refine (r_cmp (A0 rfl) (A2 rfl)).mono ?_
                      rintro _ w40 ⟨rfl, hb⟩
                      replace K4 := K4.on hb
                      replace K30 := K30.on hb
                      replace KN1 := KN1.on hb
                      replace KN2 := KN2.on hb
                      replace A0 := A0.kp (Kept.of hb)
                      replace A1 := A1.kp (Kept.of hb)
                      replace A2 := A2.kp (Kept.of hb)
                      replace BW := BW.trans (hb.mono BW.size)
                      clear hb
                      rw [HCC.out]
                      obtain ⟨c41, c42, c43, c44⟩ := K30.c4
                      obtain ⟨c45, c46, c47, c48⟩ := KN2.c4
                      go_wp2_with fail
                      clear c41 c42 c43 c44 c45 c46 c47 c48
                      refine (r_cmp (A0 rfl) (A2 rfl)).mono ?_
                      rintro _ w49 ⟨rfl, hb⟩
                      replace K4 := K4.on hb
                      replace K30 := K30.on hb
                      replace KN1 := KN1.on hb
                      replace KN2 := KN2.on hb
                      replace A0 := A0.kp (Kept.of hb)
                      replace A1 := A1.kp (Kept.of hb)
                      replace A2 := A2.kp (Kept.of hb)
                      replace BW := BW.trans (hb.mono BW.size)
                      clear hb
                      rw [HCC.out]
                      by_cases h0 : cc = 0
                      · have he := hc2 h0
                        subst he
                        subst h0
                        clear hc2
                        go_wp2
                        go_meet
                        exact ⟨by first | rfl | rw [hc3b], BW, K4, K30, KN1, KN2, A0, A1, A2⟩
                      · have h0b : (cc == 0) = false := beq_false_of_ne h0
                        clear hc2
                        go_wp2
                        go_meet
                        exact ⟨by first | rfl | rw [hc3b], BW, K4, K30, KN1, KN2, A0, A1, A2⟩
              case rest =>
                clear BW K4 K30 KN1 KN2 A0 A1 A2
                obtain ⟨rfl, BW, K4, K30, KN1, KN2, A0, A1, A2⟩ := hcut
                have o5 := eq_zero v
                by_cases h0 : mg v = 0
                · rw [decide_eq_true h0] at o5
                  obtain rfl := HV.out.2.2 h0
                  go_wp2_with fail
                  refine (signbit_any 0 _ (by decide)).mono ?_
                  rintro _ w32 ⟨rfl, rfl⟩
                  rw [show ng 0 = false from by decide]
                  go_wp2_with fail
                  refine (lives_any _ (tab_below HT.out BW)).mono ?_
                  rintro _ w33 ⟨rfl, hb⟩
                  replace BW := BW.trans (hb.mono BW.size)
                  clear hb
                  go_wp2_with fail
                  exact bodyPost_ret (v := .bool true) (by simp [results, Tryz.results3, go_sem]) rfl ⟨rfl, BW⟩
                · rw [decide_eq_false h0] at o5
                  go_wp2_with fail
                  refine (lives_any _ (tab_below HT.out BW)).mono ?_
                  rintro _ w32 ⟨rfl, hb⟩
                  replace BW := BW.trans (hb.mono BW.size)
                  clear hb
                  go_wp2_with fail
                  exact bodyPost_ret (v := .bool true) (by simp [results, Tryz.results3, go_sem]) rfl ⟨rfl, BW⟩
    · rw [chkv_bad hok]
      go_wp2_with fail
      refine (lives_any _ (tab_below HT.out BW)).mono ?_
      rintro _ w17 ⟨rfl, hb⟩
      replace BW := BW.trans (hb.mono BW.size)
      clear hb
      go_wp2_with fail
      exact bodyPost_ret (v := .bool true) (by simp [results, Tryz.results3, go_sem]) rfl ⟨rfl, BW⟩
end Go.Proofs.YtghcoijinihlnaaGreatDoor

namespace Go.Proofs.YtghcoijinihlnaaGreatDoor.fracNear
open Go.ChangeShapes Go.WideShapes Go.ChangeAt Go.RowKit Nb
set_option linter.unusedVariables false
set_option maxRecDepth 100000 in
theorem lifted (os : Os) (started : os.Started) (H : Type) (enc : TypeId × Value → H) :
    ReturnsInHanded {} Tryz.checked os 3 .any (fun w args => (Rows.fracNearSpec.pre enc Tryz.prog Tryz.f3 [] false w args ∧ laidMetH Tryz.prog laidL w) ∧ sizedMet enc Tryz.prog Tryz.f3 (OpenSpec.ofChange Rows.fracNearSpec) false w args)
      (Rows.fracNearSpec.post enc Tryz.prog Tryz.f3 false true false false) := by
  refine returnsInHanded_of_change_and (C := Tryz.checked) (X := fun w _ => laidMetH Tryz.prog laidL w) (fun _ _ _ hh h => h.of_heap hh) own started (by kernel_rfl) Tryz.func3
    (ChangeSpec.witness_shaped (enc := enc) (C := Tryz.checked) (os := os) (X := fun w _ => laidMetH Tryz.prog laidL w) false (World.doorLaid Tryz.prog 400 os) #[.agg #[.bool false, .slice none 0 0, .bool false, .slice none 0 0]] 8 rfl (World.shaped_of_RefB (by kernel_rfl) (by kernel_rfl)) (by kernel_rfl) (by kernel_rfl) (by kernel_rfl) (door_met os _)) ?_
  intro W base args ds gs before hval0 hW _ hsz0 hL _
  have hsz : (DataW.weightsEach Tryz.prog (Tryz.f3.params.toList ++ Rows.fracNearSpec.plain.varTypes Tryz.prog) (ds ++ gs)).all (· ≤ reachBytes) = true := hsz0
  clear hsz0
  have hval : ∀ (j : Nat) t v, Tryz.f3.params[j]? = some t → args[j]? = some v → Value.okWide Tryz.prog W .any base t v := hval0
  have hW' := hW
  obtain ⟨p, q, hA0, hV, rfl, _, _⟩ := hW
  have hA : DataW.TrodAll enc Tryz.prog W 0 (fun _ => true) true Tryz.f3.params.toList args.toList ds p := hA0
  rw [Tryz.params3] at hA hval hsz
  obtain ⟨v0, d0, rfl, rfl, h0⟩ := trodAll_one hA
  obtain ⟨rfl, rfl⟩ := trodVars_none hV
  clear hA0
  simp only [List.append_nil] at hW'
  have hlt0 : ∀ x ∈ p, x.block < W.heap.size := fun x hx => by simpa using hW'.lt x (by simp [hx])
  have hw0 : ∀ n ∈ d0.weights Tryz.prog 26, n ≤ reachBytes := fun n hn => by
    have := List.all_eq_true.1 hsz _ (DataW.weights_mem_each (j := 0) rfl rfl n hn)
    simpa using this
  have k0 := h0
  obtain ⟨f0_0, rfl, r0_0⟩ := open_fv (hval 0 26 v0 rfl rfl) h0 hlt0 hw0
  refine (fnear_walk r0_0 (tab_of_laid hL)).mono fun e W' ⟨he, hg⟩ => ?_
  subst he
  refine ⟨_, rfl, _, _, _, [], p, [], hW', ?_, ?_, rfl, hg.frame _, fun h => by cases h⟩
  · exact trodAll_cons_mk (shut_bool Tryz.underlying4 _) trodAll_mk0
  · exact trodAll_mk1 (Below.trod laidOut (by kernel_rfl) (of_decide_eq_true (by kernel_rfl)) k0 hg hlt0)
theorem over : Rows.FracNearSaid :=
  OpenClaim.holds_of_wide 3 Tryz.f3 rfl rfl rfl rfl rfl rfl rfl ⟨rfl, rfl, rfl, rfl, rfl⟩ rfl rfl rfl rfl rfl (by kernel_rfl) Tryz.func3 (by kernel_rfl)
    (of_decide_eq_true (by kernel_rfl)) (by unfold Func.isWrapper; first | (rw [if_pos (by decide +kernel)]; kernel_rfl) | (rw [if_neg (by decide +kernel)]; exact ⟨rfl, rfl⟩))
    (fun os started H enc _ => lifted os started H enc)
theorem proved : Rows.FracNearCardSaid :=
  Claim7.holds_tied_plain_at .later [] [.data, .data, .data] true Rows.fracNearCard.stood.harness false
    over (fun _ h => by cases h) (by kernel_rfl) (fun _ h => by cases h) fracNear_row_tie rfl ⟨rfl, rfl⟩ (by kernel_rfl) rfl
    (fun f fn hf hfn => by
      obtain rfl : f = 3 := Option.some.inj ((show Tryz.prog.funcNamed "polestar/polestarlaw02.FracNear" = some 3 by kernel_rfl).symm.trans hf) |>.symm
      obtain rfl : fn = Tryz.f3 := (Option.some.inj (Tryz.func3.symm.trans hfn)).symm
      exact ⟨by kernel_rfl, fun j t ht => by
        rw [Tryz.params3] at ht
        have hm : t ∈ [26] := by
          have h3 : t = 26 := by simpa using Array.mem_of_getElem? ht
          simpa using h3
        have hall : ([26].all fun u => !Tryz.prog.wantsStandIn u) = true := by kernel_rfl
        exact (show Tryz.prog.wantsStandIn t = false by simpa using List.all_eq_true.1 hall t hm)⟩)
    (by kernel_rfl)
end Go.Proofs.YtghcoijinihlnaaGreatDoor.fracNear
