/-
  RoundExact's walk where the second is nought and the first not below nought. Condition: finite floats of 64 bits.
-/
import Derived.Test.YtmcnhgakaodafaaGreatFr0
import Derived.Deep.RegionHeld3
import Derived.Deep.DeepCutAuto
import Derived.BigRegion
namespace Go.Proofs.YtmcnhgakaodafaaGreat
open Go.RowKit Nb

open Fl Ieee
set_option maxHeartbeats 8000000 in
set_option maxRecDepth 20000 in
theorem roundExact_b {a b : Nat} {w : World} (ha : a < 18446744073709551616) (fa : mg a < 9218868437227405312) (hb : b < 18446744073709551616) (fb : mg b < 9218868437227405312) (hbz : (FloatKind.f64.format.order b 0 == some .eq) = true) (hneg : (FloatKind.f64.format.order a 0 == some .lt) = false) :
    Calls Tryz.prog 3 #[.float .f64 a, .float .f64 b] w (fun e w' => e = .returned (.bool true) ∧ Below w.heap.size w w') := by
  have HAB := Lib.hid (And.intro (And.intro ha fa) (And.intro hb fb))
  have HF := Lib.hid (And.intro (fits_add fa fb) (And.intro (fits_sub fa fb) (fits_mul fa fb)))
  clear ha fa hb fb
  have BW : Below w.heap.size w w := Below.refl _ _
  obtain ⟨V1, e2, hb3, K4, -, -⟩ := alloc_new w [.float .f64 a, .float .f64 b] 22
  replace BW := BW.trans (hb3.mono BW.size)
  clear hb3
  go_enter Tryz.func3, Tryz.ntmps3
  go_wp2_with fail
  rw [← e2]
  clear e2
  refine (worth2 K4 HAB.out.1 HAB.out.2).mono ?_
  rintro _ w5 ⟨g0, cap0, f0, f1, rfl, La, Lb, KR, hb⟩
  replace BW := BW.trans (hb.mono BW.size)
  clear hb
  go_wp2_with fail
  refine (alive_any _).mono ?_
  rintro _ w6 ⟨rfl, hb⟩
  replace KR := KR.on hb
  replace La := La.kp (Kept.of hb)
  replace Lb := Lb.kp (Kept.of hb)
  replace BW := BW.trans (hb.mono BW.size)
  clear hb
  go_wp2_with fail
  go_cut [7, 8] (fun sv se wx => ∃ (pk7 : Nat) (f2 : Fv), sv = .pointer (some ⟨pk7, 0, none⟩) ∧ se = .int .i64 0 ∧ Below w.heap.size w wx ∧ Box wx (g0) [.bool f0.n, .slice f0.A f0.xs.length f0.c, .bool f0.m, .slice f0.B f0.ds.length f0.d, .bool f1.n, .slice f1.A f1.xs.length f1.c, .bool f1.m, .slice f1.B f1.ds.length f1.d] ∧ Ff wx (fl a) f0 ∧ Ff wx (fl b) f1 ∧ Box wx pk7 [.bool f2.n, .slice f2.A f2.xs.length f2.c, .bool f2.m, .slice f2.B f2.ds.length f2.d] ∧ Ff wx (fl a + fl b) f2)
  case first =>
    as_aux_lemma =>
      refine wp_region_noPanic ?_
      have hb : Below w6.heap.size w6 w6.drew := (Below.refl _ _).drew
      replace KR := KR.on hb
      replace La := La.kp (Kept.of hb)
      replace Lb := Lb.kp (Kept.of hb)
      replace BW := BW.trans (hb.mono BW.size)
      clear hb
      refine wp_region_held_drew (S := (fun wx => Cs wx (g0) 0 [.bool f0.n, .slice f0.A f0.xs.length f0.c, .bool f0.m, .slice f0.B f0.ds.length f0.d, .bool f1.n, .slice f1.A f1.xs.length f1.c, .bool f1.m, .slice f1.B f1.ds.length f1.d])) (by kernel_rfl) (by exact KR.cs) (fun hHeld => ?_)
      generalize w6.drew = Vd7 at *
      refine pT 0 ?_
      (try simp only [p0, p1, p2, p3])
      refine pT 1 ?_
      (try simp only [p0, p1, p2, p3])
      refine pT 2 ?_
      (try simp only [p0, p1, p2, p3])
      refine pT 3 ?_
      (try simp only [p0, p1, p2, p3])
      refine pT 4 ?_
      (try simp only [p0, p1, p2, p3])
      refine pT 5 ?_
      (try simp only [p0, p1, p2, p3])
      refine pR2 6 10 (fun K hK => ?_) (fun K hK => ?_)
      · go_simp
        (go_at_call 8; with_reducible refine (r_add La Lb).mono ?_)
        rintro _ w8 ⟨f2, er, rfl, R2, hb⟩
        (try go_wp2_with fail)
        replace KR := KR.on hb
        replace La := La.kp (Kept.of hb)
        replace Lb := Lb.kp (Kept.of hb)
        replace BW := BW.trans (hb.mono BW.size)
        clear hb
        obtain ⟨rfl, L2⟩ := R2.yes not_false HF.out.1
        clear R2
        refine hK.out _ _ (by exact KR.cs) (fun hHeld => ?_)
        clear hK
        (try simp only [p0, p1, p2, p3])
        refine pT 7 ?_
        (try simp only [p0, p1, p2, p3])
        refine pT 8 ?_
        (try simp only [p0, p1, p2, p3])
        refine pT 9 ?_
        (try simp only [p0, p1, p2, p3])
        refine pR1 10 (fun K hK => ?_)
        go_simp
        obtain ⟨V9, e10, hb11, K12, Z13, -⟩ := alloc_new w8 [.bool false, .slice none 0 0, .bool false, .slice none 0 0] 32
        have n14 : g0 ≠ w8.heap.size := Nat.ne_of_lt (KR.lt)
        have g15 : w.heap.size ≤ w8.heap.size := BW.size
        replace KR := KR.on hb11
        replace La := La.kp (Kept.of hb11)
        replace Lb := Lb.kp (Kept.of hb11)
        replace L2 := L2.kp (Kept.of hb11)
        replace BW := BW.trans (hb11.mono BW.size)
        clear hb11
        rw [← e10]
        clear e10
        generalize w8.heap.size = b16 at *
        refine hK.out _ _ (by exact KR.cs) (fun hHeld => ?_)
        clear hK
        (try simp only [p0, p1, p2, p3])
        refine pR1 11 (fun K hK => ?_)
        obtain ⟨c17, c18, c19, c20⟩ := K12.c4
        obtain ⟨c21, c22, c23, c24⟩ := Z13.f4
        go_simp
        clear c17 c18 c19 c20 c21 c22 c23 c24
        obtain ⟨V25, hk27⟩ : ∃ V25, V25 = V9.setCells (b16) 0 [.bool f2.n, .slice f2.A f2.xs.length f2.c, .bool f2.m, .slice f2.B f2.ds.length f2.d] := ⟨_, rfl⟩
        have e26 := hk27
        simp only [World.setCells, Nat.zero_add, Nat.reduceAdd] at e26
        have hk28 := Kept.overE hk27 K12 rfl (by simp)
        replace KR := KR.awayE hk27 n14
        replace K12 := K12.overE hk27 rfl
        replace Z13 := Z13.putE hk27
        replace La := La.kp hk28
        replace Lb := Lb.kp hk28
        replace L2 := L2.kp hk28
        replace BW := Below.putE BW hk27 g15
        clear hk27 hk28
        rw [← e26]
        clear e26
        refine hK.out _ _ (by exact KR.cs) (fun hHeld => ?_)
        clear hK
        (try simp only [p0, p1, p2, p3])
        refine pT 12 ?_
        (try simp only [p0, p1, p2, p3])
        refine wpAnyH_done (by kernel_rfl) (NoPanic.normal ?_) _
        go_wp2
        go_meet
        exact ⟨b16, f2, rfl, rfl, BW, KR, La, Lb, K12, L2⟩
      · go_simp
        obtain ⟨V8, e9, hb10, K11, Z12, -⟩ := alloc_new Vd7 [.bool false, .slice none 0 0, .bool false, .slice none 0 0] 32
        have n13 : g0 ≠ Vd7.heap.size := Nat.ne_of_lt (KR.lt)
        have g14 : w.heap.size ≤ Vd7.heap.size := BW.size
        replace KR := KR.on hb10
        replace La := La.kp (Kept.of hb10)
        replace Lb := Lb.kp (Kept.of hb10)
        replace BW := BW.trans (hb10.mono BW.size)
        clear hb10
        rw [← e9]
        clear e9
        generalize Vd7.heap.size = b15 at *
        refine hK.out _ _ (by exact KR.cs) (fun hHeld => ?_)
        clear hK
        (try simp only [p0, p1, p2, p3])
        refine pR1 6 (fun K hK => ?_)
        go_simp
        (go_at_call 8; with_reducible refine (r_add La Lb).mono ?_)
        rintro _ w16 ⟨f2, er, rfl, R2, hb⟩
        (try go_wp2_with fail)
        replace KR := KR.on hb
        replace K11 := K11.on hb
        replace Z12 := Z12.on hb
        replace La := La.kp (Kept.of hb)
        replace Lb := Lb.kp (Kept.of hb)
        replace BW := BW.trans (hb.mono BW.size)
        clear hb
        obtain ⟨rfl, L2⟩ := R2.yes not_false HF.out.1
        clear R2
        refine hK.out _ _ (by exact KR.cs) (fun hHeld => ?_)
        clear hK
        (try simp only [p0, p1, p2, p3])
        refine pT 7 ?_
        (try simp only [p0, p1, p2, p3])
        refine pT 8 ?_
        (try simp only [p0, p1, p2, p3])
        refine pT 9 ?_
        (try simp only [p0, p1, p2, p3])
        refine pR1 11 (fun K hK => ?_)
        obtain ⟨c17, c18, c19, c20⟩ := K11.c4
        obtain ⟨c21, c22, c23, c24⟩ := Z12.f4
        go_simp
        clear c17 c18 c19 c20 c21 c22 c23 c24
        obtain ⟨V25, hk27⟩ : ∃ V25, V25 = w16.setCells (b15) 0 [.bool f2.n, .slice f2.A f2.xs.length f2.c, .bool f2.m, .slice f2.B f2.ds.length f2.d] := ⟨_, rfl⟩
        have e26 := hk27
        simp only [World.setCells, Nat.zero_add, Nat.reduceAdd] at e26
        have hk28 := Kept.overE hk27 K11 rfl (by simp)
        replace KR := KR.awayE hk27 n13
        replace K11 := K11.overE hk27 rfl
        replace Z12 := Z12.putE hk27
        replace La := La.kp hk28
        replace Lb := Lb.kp hk28
        replace L2 := L2.kp hk28
        replace BW := Below.putE BW hk27 g14
        clear hk27 hk28
        rw [← e26]
        clear e26
        refine hK.out _ _ (by exact KR.cs) (fun hHeld => ?_)
        clear hK
        (try simp only [p0, p1, p2, p3])
        refine pT 12 ?_
        (try simp only [p0, p1, p2, p3])
        refine wpAnyH_done (by kernel_rfl) (NoPanic.normal ?_) _
        go_wp2
        go_meet
        exact ⟨b15, f2, rfl, rfl, BW, KR, La, Lb, K11, L2⟩
  case rest =>
    as_aux_lemma =>
      obtain ⟨pk7, f2, rfl, rfl, BW, KR, La, Lb, KN7, L2⟩ := hcut
      go_wp2_with fail
      go_cut [9, 10] (fun sv se wx => ∃ (pk9 : Nat) (f3 : Fv), sv = .pointer (some ⟨pk9, 0, none⟩) ∧ se = .int .i64 0 ∧ Below w.heap.size w wx ∧ Box wx (g0) [.bool f0.n, .slice f0.A f0.xs.length f0.c, .bool f0.m, .slice f0.B f0.ds.length f0.d, .bool f1.n, .slice f1.A f1.xs.length f1.c, .bool f1.m, .slice f1.B f1.ds.length f1.d] ∧ Box wx (pk7) [.bool f2.n, .slice f2.A f2.xs.length f2.c, .bool f2.m, .slice f2.B f2.ds.length f2.d] ∧ Ff wx (fl a) f0 ∧ Ff wx (fl b) f1 ∧ Ff wx (fl a + fl b) f2 ∧ Box wx pk9 [.bool f3.n, .slice f3.A f3.xs.length f3.c, .bool f3.m, .slice f3.B f3.ds.length f3.d] ∧ Ff wx (fl a - fl b) f3)
      case first =>
        as_aux_lemma =>
          refine wp_region_noPanic ?_
          have hb : Below wc.heap.size wc wc.drew := (Below.refl _ _).drew
          replace KR := KR.on hb
          replace KN7 := KN7.on hb
          replace La := La.kp (Kept.of hb)
          replace Lb := Lb.kp (Kept.of hb)
          replace L2 := L2.kp (Kept.of hb)
          replace BW := BW.trans (hb.mono BW.size)
          clear hb
          refine wp_region_held_drew (S := (fun wx => Cs wx (g0) 0 [.bool f0.n, .slice f0.A f0.xs.length f0.c, .bool f0.m, .slice f0.B f0.ds.length f0.d, .bool f1.n, .slice f1.A f1.xs.length f1.c, .bool f1.m, .slice f1.B f1.ds.length f1.d])) (by kernel_rfl) (by exact KR.cs) (fun hHeld => ?_)
          generalize wc.drew = Vd7 at *
          refine pT 0 ?_
          (try simp only [p0, p1, p2, p3])
          refine pT 1 ?_
          (try simp only [p0, p1, p2, p3])
          refine pT 2 ?_
          (try simp only [p0, p1, p2, p3])
          refine pT 3 ?_
          (try simp only [p0, p1, p2, p3])
          refine pT 4 ?_
          (try simp only [p0, p1, p2, p3])
          refine pT 5 ?_
          (try simp only [p0, p1, p2, p3])
          refine pR2 6 10 (fun K hK => ?_) (fun K hK => ?_)
          · go_simp
            (go_at_call 9; with_reducible refine (r_sub La Lb).mono ?_)
            rintro _ w8 ⟨f3, er, rfl, R3, hb⟩
            (try go_wp2_with fail)
            replace KR := KR.on hb
            replace KN7 := KN7.on hb
            replace La := La.kp (Kept.of hb)
            replace Lb := Lb.kp (Kept.of hb)
            replace L2 := L2.kp (Kept.of hb)
            replace BW := BW.trans (hb.mono BW.size)
            clear hb
            obtain ⟨rfl, L3⟩ := R3.yes not_false HF.out.2.1
            clear R3
            refine hK.out _ _ (by exact KR.cs) (fun hHeld => ?_)
            clear hK
            (try simp only [p0, p1, p2, p3])
            refine pT 7 ?_
            (try simp only [p0, p1, p2, p3])
            refine pT 8 ?_
            (try simp only [p0, p1, p2, p3])
            refine pT 9 ?_
            (try simp only [p0, p1, p2, p3])
            refine pR1 10 (fun K hK => ?_)
            go_simp
            obtain ⟨V9, e10, hb11, K12, Z13, -⟩ := alloc_new w8 [.bool false, .slice none 0 0, .bool false, .slice none 0 0] 32
            have n14 : g0 ≠ w8.heap.size := Nat.ne_of_lt (KR.lt)
            have n15 : pk7 ≠ w8.heap.size := Nat.ne_of_lt (KN7.lt)
            have g16 : w.heap.size ≤ w8.heap.size := BW.size
            replace KR := KR.on hb11
            replace KN7 := KN7.on hb11
            replace La := La.kp (Kept.of hb11)
            replace Lb := Lb.kp (Kept.of hb11)
            replace L2 := L2.kp (Kept.of hb11)
            replace L3 := L3.kp (Kept.of hb11)
            replace BW := BW.trans (hb11.mono BW.size)
            clear hb11
            rw [← e10]
            clear e10
            generalize w8.heap.size = b17 at *
            refine hK.out _ _ (by exact KR.cs) (fun hHeld => ?_)
            clear hK
            (try simp only [p0, p1, p2, p3])
            refine pR1 11 (fun K hK => ?_)
            obtain ⟨c18, c19, c20, c21⟩ := K12.c4
            obtain ⟨c22, c23, c24, c25⟩ := Z13.f4
            go_simp
            clear c18 c19 c20 c21 c22 c23 c24 c25
            obtain ⟨V26, hk28⟩ : ∃ V26, V26 = V9.setCells (b17) 0 [.bool f3.n, .slice f3.A f3.xs.length f3.c, .bool f3.m, .slice f3.B f3.ds.length f3.d] := ⟨_, rfl⟩
            have e27 := hk28
            simp only [World.setCells, Nat.zero_add, Nat.reduceAdd] at e27
            have hk29 := Kept.overE hk28 K12 rfl (by simp)
            replace KR := KR.awayE hk28 n14
            replace KN7 := KN7.awayE hk28 n15
            replace K12 := K12.overE hk28 rfl
            replace Z13 := Z13.putE hk28
            replace La := La.kp hk29
            replace Lb := Lb.kp hk29
            replace L2 := L2.kp hk29
            replace L3 := L3.kp hk29
            replace BW := Below.putE BW hk28 g16
            clear hk28 hk29
            rw [← e27]
            clear e27
            refine hK.out _ _ (by exact KR.cs) (fun hHeld => ?_)
            clear hK
            (try simp only [p0, p1, p2, p3])
            refine pT 12 ?_
            (try simp only [p0, p1, p2, p3])
            refine wpAnyH_done (by kernel_rfl) (NoPanic.normal ?_) _
            go_wp2
            go_meet
            exact ⟨b17, f3, rfl, rfl, BW, KR, KN7, La, Lb, L2, K12, L3⟩
          · go_simp
            obtain ⟨V8, e9, hb10, K11, Z12, -⟩ := alloc_new Vd7 [.bool false, .slice none 0 0, .bool false, .slice none 0 0] 32
            have n13 : g0 ≠ Vd7.heap.size := Nat.ne_of_lt (KR.lt)
            have n14 : pk7 ≠ Vd7.heap.size := Nat.ne_of_lt (KN7.lt)
            have g15 : w.heap.size ≤ Vd7.heap.size := BW.size
            replace KR := KR.on hb10
            replace KN7 := KN7.on hb10
            replace La := La.kp (Kept.of hb10)
            replace Lb := Lb.kp (Kept.of hb10)
            replace L2 := L2.kp (Kept.of hb10)
            replace BW := BW.trans (hb10.mono BW.size)
            clear hb10
            rw [← e9]
            clear e9
            generalize Vd7.heap.size = b16 at *
            refine hK.out _ _ (by exact KR.cs) (fun hHeld => ?_)
            clear hK
            (try simp only [p0, p1, p2, p3])
            refine pR1 6 (fun K hK => ?_)
            go_simp
            (go_at_call 9; with_reducible refine (r_sub La Lb).mono ?_)
            rintro _ w17 ⟨f3, er, rfl, R3, hb⟩
            (try go_wp2_with fail)
            replace KR := KR.on hb
            replace KN7 := KN7.on hb
            replace K11 := K11.on hb
            replace Z12 := Z12.on hb
            replace La := La.kp (Kept.of hb)
            replace Lb := Lb.kp (Kept.of hb)
            replace L2 := L2.kp (Kept.of hb)
            replace BW := BW.trans (hb.mono BW.size)
            clear hb
            obtain ⟨rfl, L3⟩ := R3.yes not_false HF.out.2.1
            clear R3
            refine hK.out _ _ (by exact KR.cs) (fun hHeld => ?_)
            clear hK
            (try simp only [p0, p1, p2, p3])
            refine pT 7 ?_
            (try simp only [p0, p1, p2, p3])
            refine pT 8 ?_
            (try simp only [p0, p1, p2, p3])
            refine pT 9 ?_
            (try simp only [p0, p1, p2, p3])
            refine pR1 11 (fun K hK => ?_)
            obtain ⟨c18, c19, c20, c21⟩ := K11.c4
            obtain ⟨c22, c23, c24, c25⟩ := Z12.f4
            go_simp
            clear c18 c19 c20 c21 c22 c23 c24 c25
            obtain ⟨V26, hk28⟩ : ∃ V26, V26 = w17.setCells (b16) 0 [.bool f3.n, .slice f3.A f3.xs.length f3.c, .bool f3.m, .slice f3.B f3.ds.length f3.d] := ⟨_, rfl⟩
            have e27 := hk28
            simp only [World.setCells, Nat.zero_add, Nat.reduceAdd] at e27
            have hk29 := Kept.overE hk28 K11 rfl (by simp)
            replace KR := KR.awayE hk28 n13
            replace KN7 := KN7.awayE hk28 n14
            replace K11 := K11.overE hk28 rfl
            replace Z12 := Z12.putE hk28
            replace La := La.kp hk29
            replace Lb := Lb.kp hk29
            replace L2 := L2.kp hk29
            replace L3 := L3.kp hk29
            replace BW := Below.putE BW hk28 g15
            clear hk28 hk29
            rw [← e27]
            clear e27
            refine hK.out _ _ (by exact KR.cs) (fun hHeld => ?_)
            clear hK
            (try simp only [p0, p1, p2, p3])
            refine pT 12 ?_
            (try simp only [p0, p1, p2, p3])
            refine wpAnyH_done (by kernel_rfl) (NoPanic.normal ?_) _
            go_wp2
            go_meet
            exact ⟨b16, f3, rfl, rfl, BW, KR, KN7, La, Lb, L2, K11, L3⟩
      case rest =>
        as_aux_lemma =>
          obtain ⟨pk9, f3, rfl, rfl, BW, KR, KN7, La, Lb, L2, KN9, L3⟩ := hcut
          go_wp2_with fail
          go_cut [11, 12] (fun sv se wx => ∃ (pk11 : Nat) (f4 : Fv), sv = .pointer (some ⟨pk11, 0, none⟩) ∧ se = .int .i64 0 ∧ Below w.heap.size w wx ∧ Box wx (g0) [.bool f0.n, .slice f0.A f0.xs.length f0.c, .bool f0.m, .slice f0.B f0.ds.length f0.d, .bool f1.n, .slice f1.A f1.xs.length f1.c, .bool f1.m, .slice f1.B f1.ds.length f1.d] ∧ Box wx (pk7) [.bool f2.n, .slice f2.A f2.xs.length f2.c, .bool f2.m, .slice f2.B f2.ds.length f2.d] ∧ Box wx (pk9) [.bool f3.n, .slice f3.A f3.xs.length f3.c, .bool f3.m, .slice f3.B f3.ds.length f3.d] ∧ Ff wx (fl a) f0 ∧ Ff wx (fl b) f1 ∧ Ff wx (fl a + fl b) f2 ∧ Ff wx (fl a - fl b) f3 ∧ Box wx pk11 [.bool f4.n, .slice f4.A f4.xs.length f4.c, .bool f4.m, .slice f4.B f4.ds.length f4.d] ∧ Ff wx (fl a * fl b) f4)
          case first =>
            as_aux_lemma =>
              refine wp_region_noPanic ?_
              have hb : Below wc.heap.size wc wc.drew := (Below.refl _ _).drew
              replace KR := KR.on hb
              replace KN7 := KN7.on hb
              replace KN9 := KN9.on hb
              replace La := La.kp (Kept.of hb)
              replace Lb := Lb.kp (Kept.of hb)
              replace L2 := L2.kp (Kept.of hb)
              replace L3 := L3.kp (Kept.of hb)
              replace BW := BW.trans (hb.mono BW.size)
              clear hb
              refine wp_region_held_drew (S := (fun wx => Cs wx (g0) 0 [.bool f0.n, .slice f0.A f0.xs.length f0.c, .bool f0.m, .slice f0.B f0.ds.length f0.d, .bool f1.n, .slice f1.A f1.xs.length f1.c, .bool f1.m, .slice f1.B f1.ds.length f1.d])) (by kernel_rfl) (by exact KR.cs) (fun hHeld => ?_)
              generalize wc.drew = Vd7 at *
              refine pT 0 ?_
              (try simp only [p0, p1, p2, p3])
              refine pT 1 ?_
              (try simp only [p0, p1, p2, p3])
              refine pT 2 ?_
              (try simp only [p0, p1, p2, p3])
              refine pT 3 ?_
              (try simp only [p0, p1, p2, p3])
              refine pT 4 ?_
              (try simp only [p0, p1, p2, p3])
              refine pT 5 ?_
              (try simp only [p0, p1, p2, p3])
              refine pR2 6 10 (fun K hK => ?_) (fun K hK => ?_)
              · go_simp
                (go_at_call 10; with_reducible refine (r_mul La Lb).mono ?_)
                rintro _ w8 ⟨f4, er, rfl, R4, hb⟩
                (try go_wp2_with fail)
                replace KR := KR.on hb
                replace KN7 := KN7.on hb
                replace KN9 := KN9.on hb
                replace La := La.kp (Kept.of hb)
                replace Lb := Lb.kp (Kept.of hb)
                replace L2 := L2.kp (Kept.of hb)
                replace L3 := L3.kp (Kept.of hb)
                replace BW := BW.trans (hb.mono BW.size)
                clear hb
                obtain ⟨rfl, L4⟩ := R4.yes not_false HF.out.2.2
                clear R4
                refine hK.out _ _ (by exact KR.cs) (fun hHeld => ?_)
                clear hK
                (try simp only [p0, p1, p2, p3])
                refine pT 7 ?_
                (try simp only [p0, p1, p2, p3])
                refine pT 8 ?_
                (try simp only [p0, p1, p2, p3])
                refine pT 9 ?_
                (try simp only [p0, p1, p2, p3])
                refine pR1 10 (fun K hK => ?_)
                go_simp
                obtain ⟨V9, e10, hb11, K12, Z13, -⟩ := alloc_new w8 [.bool false, .slice none 0 0, .bool false, .slice none 0 0] 32
                have n14 : g0 ≠ w8.heap.size := Nat.ne_of_lt (KR.lt)
                have n15 : pk7 ≠ w8.heap.size := Nat.ne_of_lt (KN7.lt)
                have n16 : pk9 ≠ w8.heap.size := Nat.ne_of_lt (KN9.lt)
                have g17 : w.heap.size ≤ w8.heap.size := BW.size
                replace KR := KR.on hb11
                replace KN7 := KN7.on hb11
                replace KN9 := KN9.on hb11
                replace La := La.kp (Kept.of hb11)
                replace Lb := Lb.kp (Kept.of hb11)
                replace L2 := L2.kp (Kept.of hb11)
                replace L3 := L3.kp (Kept.of hb11)
                replace L4 := L4.kp (Kept.of hb11)
                replace BW := BW.trans (hb11.mono BW.size)
                clear hb11
                rw [← e10]
                clear e10
                generalize w8.heap.size = b18 at *
                refine hK.out _ _ (by exact KR.cs) (fun hHeld => ?_)
                clear hK
                (try simp only [p0, p1, p2, p3])
                refine pR1 11 (fun K hK => ?_)
                obtain ⟨c19, c20, c21, c22⟩ := K12.c4
                obtain ⟨c23, c24, c25, c26⟩ := Z13.f4
                go_simp
                clear c19 c20 c21 c22 c23 c24 c25 c26
                obtain ⟨V27, hk29⟩ : ∃ V27, V27 = V9.setCells (b18) 0 [.bool f4.n, .slice f4.A f4.xs.length f4.c, .bool f4.m, .slice f4.B f4.ds.length f4.d] := ⟨_, rfl⟩
                have e28 := hk29
                simp only [World.setCells, Nat.zero_add, Nat.reduceAdd] at e28
                have hk30 := Kept.overE hk29 K12 rfl (by simp)
                replace KR := KR.awayE hk29 n14
                replace KN7 := KN7.awayE hk29 n15
                replace KN9 := KN9.awayE hk29 n16
                replace K12 := K12.overE hk29 rfl
                replace La := La.kp hk30
                replace Lb := Lb.kp hk30
                replace L2 := L2.kp hk30
                replace L3 := L3.kp hk30
                replace L4 := L4.kp hk30
                replace BW := Below.putE BW hk29 g17
                clear hk29 hk30
                rw [← e28]
                clear e28
                refine hK.out _ _ (by exact KR.cs) (fun hHeld => ?_)
                clear hK
                (try simp only [p0, p1, p2, p3])
                refine pT 12 ?_
                (try simp only [p0, p1, p2, p3])
                refine wpAnyH_done (by kernel_rfl) (NoPanic.normal ?_) _
                go_wp2
                go_meet
                exact ⟨b18, f4, rfl, rfl, BW, KR, KN7, KN9, La, Lb, L2, L3, K12, L4⟩
              · go_simp
                obtain ⟨V8, e9, hb10, K11, Z12, -⟩ := alloc_new Vd7 [.bool false, .slice none 0 0, .bool false, .slice none 0 0] 32
                have n13 : g0 ≠ Vd7.heap.size := Nat.ne_of_lt (KR.lt)
                have n14 : pk7 ≠ Vd7.heap.size := Nat.ne_of_lt (KN7.lt)
                have n15 : pk9 ≠ Vd7.heap.size := Nat.ne_of_lt (KN9.lt)
                have g16 : w.heap.size ≤ Vd7.heap.size := BW.size
                replace KR := KR.on hb10
                replace KN7 := KN7.on hb10
                replace KN9 := KN9.on hb10
                replace La := La.kp (Kept.of hb10)
                replace Lb := Lb.kp (Kept.of hb10)
                replace L2 := L2.kp (Kept.of hb10)
                replace L3 := L3.kp (Kept.of hb10)
                replace BW := BW.trans (hb10.mono BW.size)
                clear hb10
                rw [← e9]
                clear e9
                generalize Vd7.heap.size = b17 at *
                refine hK.out _ _ (by exact KR.cs) (fun hHeld => ?_)
                clear hK
                (try simp only [p0, p1, p2, p3])
                refine pR1 6 (fun K hK => ?_)
                go_simp
                (go_at_call 10; with_reducible refine (r_mul La Lb).mono ?_)
                rintro _ w18 ⟨f4, er, rfl, R4, hb⟩
                (try go_wp2_with fail)
                replace KR := KR.on hb
                replace KN7 := KN7.on hb
                replace KN9 := KN9.on hb
                replace K11 := K11.on hb
                replace Z12 := Z12.on hb
                replace La := La.kp (Kept.of hb)
                replace Lb := Lb.kp (Kept.of hb)
                replace L2 := L2.kp (Kept.of hb)
                replace L3 := L3.kp (Kept.of hb)
                replace BW := BW.trans (hb.mono BW.size)
                clear hb
                obtain ⟨rfl, L4⟩ := R4.yes not_false HF.out.2.2
                clear R4
                refine hK.out _ _ (by exact KR.cs) (fun hHeld => ?_)
                clear hK
                (try simp only [p0, p1, p2, p3])
                refine pT 7 ?_
                (try simp only [p0, p1, p2, p3])
                refine pT 8 ?_
                (try simp only [p0, p1, p2, p3])
                refine pT 9 ?_
                (try simp only [p0, p1, p2, p3])
                refine pR1 11 (fun K hK => ?_)
                obtain ⟨c19, c20, c21, c22⟩ := K11.c4
                obtain ⟨c23, c24, c25, c26⟩ := Z12.f4
                go_simp
                clear c19 c20 c21 c22 c23 c24 c25 c26
                obtain ⟨V27, hk29⟩ : ∃ V27, V27 = w18.setCells (b17) 0 [.bool f4.n, .slice f4.A f4.xs.length f4.c, .bool f4.m, .slice f4.B f4.ds.length f4.d] := ⟨_, rfl⟩
                have e28 := hk29
                simp only [World.setCells, Nat.zero_add, Nat.reduceAdd] at e28
                have hk30 := Kept.overE hk29 K11 rfl (by simp)
                replace KR := KR.awayE hk29 n13
                replace KN7 := KN7.awayE hk29 n14
                replace KN9 := KN9.awayE hk29 n15
                replace K11 := K11.overE hk29 rfl
                replace La := La.kp hk30
                replace Lb := Lb.kp hk30
                replace L2 := L2.kp hk30
                replace L3 := L3.kp hk30
                replace L4 := L4.kp hk30
                replace BW := Below.putE BW hk29 g16
                clear hk29 hk30
                rw [← e28]
                clear e28
                refine hK.out _ _ (by exact KR.cs) (fun hHeld => ?_)
                clear hK
                (try simp only [p0, p1, p2, p3])
                refine pT 12 ?_
                (try simp only [p0, p1, p2, p3])
                refine wpAnyH_done (by kernel_rfl) (NoPanic.normal ?_) _
                go_wp2
                go_meet
                exact ⟨b17, f4, rfl, rfl, BW, KR, KN7, KN9, La, Lb, L2, L3, K11, L4⟩
          case rest =>
            as_aux_lemma =>
              obtain ⟨pk11, f4, rfl, rfl, BW, KR, KN7, KN9, La, Lb, L2, L3, KN11, L4⟩ := hcut
              go_wp2_with fail
              refine (rd_add HAB.out.1.1 HAB.out.2.1 HAB.out.1.2 HAB.out.2.2).mono ?_
              rintro _ w7 ⟨d1, u1, rfl, hd1, hu1, B1, hb⟩
              replace KR := KR.on hb
              replace KN7 := KN7.on hb
              replace KN9 := KN9.on hb
              replace KN11 := KN11.on hb
              replace La := La.kp (Kept.of hb)
              replace L2 := L2.kp (Kept.of hb)
              replace L3 := L3.kp (Kept.of hb)
              replace L4 := L4.kp (Kept.of hb)
              replace BW := BW.trans (hb.mono BW.size)
              clear hb
              have HB1 := Lib.hid (And.intro hd1 (And.intro hu1 B1))
              clear hd1 hu1 B1
              go_wp2_with fail
              refine (rd_sub HAB.out.1.1 HAB.out.2.1 HAB.out.1.2 HAB.out.2.2).mono ?_
              rintro _ w8 ⟨d2, u2, rfl, hd2, hu2, B2, hb⟩
              replace KR := KR.on hb
              replace KN7 := KN7.on hb
              replace KN9 := KN9.on hb
              replace KN11 := KN11.on hb
              replace La := La.kp (Kept.of hb)
              replace L2 := L2.kp (Kept.of hb)
              replace L3 := L3.kp (Kept.of hb)
              replace L4 := L4.kp (Kept.of hb)
              replace BW := BW.trans (hb.mono BW.size)
              clear hb
              have HB2 := Lib.hid (And.intro hd2 (And.intro hu2 B2))
              clear hd2 hu2 B2
              go_wp2_with fail
              refine (rd_mul HAB.out.1.1 HAB.out.2.1 HAB.out.1.2 HAB.out.2.2).mono ?_
              rintro _ w9 ⟨d3, u3, rfl, hd3, hu3, B3, hb⟩
              replace KR := KR.on hb
              replace KN7 := KN7.on hb
              replace KN9 := KN9.on hb
              replace KN11 := KN11.on hb
              replace La := La.kp (Kept.of hb)
              replace L2 := L2.kp (Kept.of hb)
              replace L3 := L3.kp (Kept.of hb)
              replace L4 := L4.kp (Kept.of hb)
              replace BW := BW.trans (hb.mono BW.size)
              clear hb
              have HB3 := Lib.hid (And.intro hd3 (And.intro hu3 B3))
              clear hd3 hu3 B3
              obtain ⟨c10, c11, c12, c13⟩ := KN7.c4
              go_wp2_with fail
              clear c10 c11 c12 c13
              refine (between_any L2 HB1.out.1 HB1.out.2.1 HB1.out.2.2).mono ?_
              rintro _ w14 ⟨rfl, hb⟩
              replace KR := KR.on hb
              replace KN9 := KN9.on hb
              replace KN11 := KN11.on hb
              replace La := La.kp (Kept.of hb)
              replace L3 := L3.kp (Kept.of hb)
              replace L4 := L4.kp (Kept.of hb)
              replace BW := BW.trans (hb.mono BW.size)
              clear hb
              obtain ⟨c15, c16, c17, c18⟩ := KN9.c4
              go_wp2_with fail
              clear c15 c16 c17 c18
              refine (between_any L3 HB2.out.1 HB2.out.2.1 HB2.out.2.2).mono ?_
              rintro _ w19 ⟨rfl, hb⟩
              replace KR := KR.on hb
              replace KN11 := KN11.on hb
              replace La := La.kp (Kept.of hb)
              replace L4 := L4.kp (Kept.of hb)
              replace BW := BW.trans (hb.mono BW.size)
              clear hb
              obtain ⟨c20, c21, c22, c23⟩ := KN11.c4
              go_wp2_with fail
              clear c20 c21 c22 c23
              refine (between_any L4 HB3.out.1 HB3.out.2.1 HB3.out.2.2).mono ?_
              rintro _ w24 ⟨rfl, hb⟩
              replace KR := KR.on hb
              replace La := La.kp (Kept.of hb)
              replace BW := BW.trans (hb.mono BW.size)
              clear hb
              have hbn : (FloatKind.f64.format.order b 0 != some .eq) = false := by show (!(FloatKind.f64.format.order b 0 == some .eq)) = false; rw [hbz]; rfl
              have HNA : Hid (ng a = false ∨ mg a = 0) := Lib.hid (not_neg HAB.out.1.2 hneg)
              go_wp2_with fail
              refine (rd_sqrt HAB.out.1.1 HAB.out.1.2 HNA.out).mono ?_
              rintro _ w25 ⟨d5, u5, rfl, S5, hb⟩
              replace KR := KR.on hb
              replace La := La.kp (Kept.of hb)
              replace BW := BW.trans (hb.mono BW.size)
              clear hb
              have HS := Lib.hid S5
              clear S5
              obtain ⟨c1, hc1⟩ : ∃ c1 : Int, cmpQ (fl d5 * fl d5) (fl a) = c1 := ⟨_, rfl⟩
              obtain ⟨c2, hc2⟩ : ∃ c2 : Int, cmpQ (fl u5 * fl u5) (fl a) = c2 := ⟨_, rfl⟩
              have HC1 := Lib.hid hc1
              have HC2 := Lib.hid hc2
              clear hc1 hc2
              obtain ⟨V26, e27, hb28, K29, -, -⟩ := alloc_new w25 [.float .f64 d5, .float .f64 u5] 22
              replace KR := KR.on hb28
              replace La := La.kp (Kept.of hb28)
              replace BW := BW.trans (hb28.mono BW.size)
              clear hb28
              go_wp2_with fail
              rw [← e27]
              clear e27
              generalize w25.heap.size = b30 at *
              refine (worth2 K29 ⟨HS.out.d64, HS.out.fd⟩ ⟨HS.out.u64, HS.out.fu⟩).mono ?_
              rintro _ w31 ⟨g5, cap5, f5, f6, rfl, Ld, Lu, KS, hb⟩
              replace KR := KR.on hb
              replace La := La.kp (Kept.of hb)
              replace BW := BW.trans (hb.mono BW.size)
              clear hb
              go_wp2_with fail
              go_cut [26, 27] (fun sv se wx => ∃ (pk26 : Nat) (f7 : Fv), sv = .pointer (some ⟨pk26, 0, none⟩) ∧ se = .int .i64 0 ∧ Below w.heap.size w wx ∧ Box wx (g0) [.bool f0.n, .slice f0.A f0.xs.length f0.c, .bool f0.m, .slice f0.B f0.ds.length f0.d, .bool f1.n, .slice f1.A f1.xs.length f1.c, .bool f1.m, .slice f1.B f1.ds.length f1.d] ∧ Box wx (g5) [.bool f5.n, .slice f5.A f5.xs.length f5.c, .bool f5.m, .slice f5.B f5.ds.length f5.d, .bool f6.n, .slice f6.A f6.xs.length f6.c, .bool f6.m, .slice f6.B f6.ds.length f6.d] ∧ Ff wx (fl a) f0 ∧ Ff wx (fl d5) f5 ∧ Ff wx (fl u5) f6 ∧ Box wx pk26 [.bool f7.n, .slice f7.A f7.xs.length f7.c, .bool f7.m, .slice f7.B f7.ds.length f7.d] ∧ Ff wx (fl d5 * fl d5) f7)
              case first =>
                as_aux_lemma =>
                  refine wp_region_noPanic ?_
                  have hb : Below w31.heap.size w31 w31.drew := (Below.refl _ _).drew
                  replace KR := KR.on hb
                  replace KS := KS.on hb
                  replace La := La.kp (Kept.of hb)
                  replace Ld := Ld.kp (Kept.of hb)
                  replace Lu := Lu.kp (Kept.of hb)
                  replace BW := BW.trans (hb.mono BW.size)
                  clear hb
                  refine wp_region_held_drew (S := (fun wx => Cs wx (g5) 0 [.bool f5.n, .slice f5.A f5.xs.length f5.c, .bool f5.m, .slice f5.B f5.ds.length f5.d, .bool f6.n, .slice f6.A f6.xs.length f6.c, .bool f6.m, .slice f6.B f6.ds.length f6.d])) (by kernel_rfl) (by exact KS.cs) (fun hHeld => ?_)
                  generalize w31.drew = Vd32 at *
                  refine pT 0 ?_
                  (try simp only [p0, p1, p2, p3])
                  refine pT 1 ?_
                  (try simp only [p0, p1, p2, p3])
                  refine pT 2 ?_
                  (try simp only [p0, p1, p2, p3])
                  refine pT 3 ?_
                  (try simp only [p0, p1, p2, p3])
                  refine pT 4 ?_
                  (try simp only [p0, p1, p2, p3])
                  refine pT 5 ?_
                  (try simp only [p0, p1, p2, p3])
                  refine pR2 6 10 (fun K hK => ?_) (fun K hK => ?_)
                  · go_simp
                    (go_at_call 10; with_reducible refine (r_mul Ld Ld).mono ?_)
                    rintro _ w33 ⟨f7, er, rfl, R7, hb⟩
                    (try go_wp2_with fail)
                    replace KR := KR.on hb
                    replace KS := KS.on hb
                    replace La := La.kp (Kept.of hb)
                    replace Ld := Ld.kp (Kept.of hb)
                    replace Lu := Lu.kp (Kept.of hb)
                    replace BW := BW.trans (hb.mono BW.size)
                    clear hb
                    obtain ⟨rfl, L7⟩ := R7.yes not_false (fits_mul HS.out.fd HS.out.fd)
                    clear R7
                    refine hK.out _ _ (by exact KS.cs) (fun hHeld => ?_)
                    clear hK
                    (try simp only [p0, p1, p2, p3])
                    refine pT 7 ?_
                    (try simp only [p0, p1, p2, p3])
                    refine pT 8 ?_
                    (try simp only [p0, p1, p2, p3])
                    refine pT 9 ?_
                    (try simp only [p0, p1, p2, p3])
                    refine pR1 10 (fun K hK => ?_)
                    go_simp
                    obtain ⟨V34, e35, hb36, K37, Z38, -⟩ := alloc_new w33 [.bool false, .slice none 0 0, .bool false, .slice none 0 0] 32
                    have n39 : g0 ≠ w33.heap.size := Nat.ne_of_lt (KR.lt)
                    have n40 : g5 ≠ w33.heap.size := Nat.ne_of_lt (KS.lt)
                    have g41 : w.heap.size ≤ w33.heap.size := BW.size
                    replace KR := KR.on hb36
                    replace KS := KS.on hb36
                    replace La := La.kp (Kept.of hb36)
                    replace Ld := Ld.kp (Kept.of hb36)
                    replace Lu := Lu.kp (Kept.of hb36)
                    replace L7 := L7.kp (Kept.of hb36)
                    replace BW := BW.trans (hb36.mono BW.size)
                    clear hb36
                    rw [← e35]
                    clear e35
                    generalize w33.heap.size = b42 at *
                    refine hK.out _ _ (by exact KS.cs) (fun hHeld => ?_)
                    clear hK
                    (try simp only [p0, p1, p2, p3])
                    refine pR1 11 (fun K hK => ?_)
                    obtain ⟨c43, c44, c45, c46⟩ := K37.c4
                    obtain ⟨c47, c48, c49, c50⟩ := Z38.f4
                    go_simp
                    clear c43 c44 c45 c46 c47 c48 c49 c50
                    obtain ⟨V51, hk53⟩ : ∃ V51, V51 = V34.setCells (b42) 0 [.bool f7.n, .slice f7.A f7.xs.length f7.c, .bool f7.m, .slice f7.B f7.ds.length f7.d] := ⟨_, rfl⟩
                    have e52 := hk53
                    simp only [World.setCells, Nat.zero_add, Nat.reduceAdd] at e52
                    have hk54 := Kept.overE hk53 K37 rfl (by simp)
                    replace KR := KR.awayE hk53 n39
                    replace KS := KS.awayE hk53 n40
                    replace K37 := K37.overE hk53 rfl
                    replace Z38 := Z38.putE hk53
                    replace La := La.kp hk54
                    replace Ld := Ld.kp hk54
                    replace Lu := Lu.kp hk54
                    replace L7 := L7.kp hk54
                    replace BW := Below.putE BW hk53 g41
                    clear hk53 hk54
                    rw [← e52]
                    clear e52
                    refine hK.out _ _ (by exact KS.cs) (fun hHeld => ?_)
                    clear hK
                    (try simp only [p0, p1, p2, p3])
                    refine pT 12 ?_
                    (try simp only [p0, p1, p2, p3])
                    refine wpAnyH_done (by kernel_rfl) (NoPanic.normal ?_) _
                    go_wp2
                    go_meet
                    exact ⟨b42, f7, rfl, rfl, BW, KR, KS, La, Ld, Lu, K37, L7⟩
                  · go_simp
                    obtain ⟨V33, e34, hb35, K36, Z37, -⟩ := alloc_new Vd32 [.bool false, .slice none 0 0, .bool false, .slice none 0 0] 32
                    have n38 : g0 ≠ Vd32.heap.size := Nat.ne_of_lt (KR.lt)
                    have n39 : g5 ≠ Vd32.heap.size := Nat.ne_of_lt (KS.lt)
                    have g40 : w.heap.size ≤ Vd32.heap.size := BW.size
                    replace KR := KR.on hb35
                    replace KS := KS.on hb35
                    replace La := La.kp (Kept.of hb35)
                    replace Ld := Ld.kp (Kept.of hb35)
                    replace Lu := Lu.kp (Kept.of hb35)
                    replace BW := BW.trans (hb35.mono BW.size)
                    clear hb35
                    rw [← e34]
                    clear e34
                    generalize Vd32.heap.size = b41 at *
                    refine hK.out _ _ (by exact KS.cs) (fun hHeld => ?_)
                    clear hK
                    (try simp only [p0, p1, p2, p3])
                    refine pR1 6 (fun K hK => ?_)
                    go_simp
                    (go_at_call 10; with_reducible refine (r_mul Ld Ld).mono ?_)
                    rintro _ w42 ⟨f7, er, rfl, R7, hb⟩
                    (try go_wp2_with fail)
                    replace KR := KR.on hb
                    replace KS := KS.on hb
                    replace K36 := K36.on hb
                    replace Z37 := Z37.on hb
                    replace La := La.kp (Kept.of hb)
                    replace Ld := Ld.kp (Kept.of hb)
                    replace Lu := Lu.kp (Kept.of hb)
                    replace BW := BW.trans (hb.mono BW.size)
                    clear hb
                    obtain ⟨rfl, L7⟩ := R7.yes not_false (fits_mul HS.out.fd HS.out.fd)
                    clear R7
                    refine hK.out _ _ (by exact KS.cs) (fun hHeld => ?_)
                    clear hK
                    (try simp only [p0, p1, p2, p3])
                    refine pT 7 ?_
                    (try simp only [p0, p1, p2, p3])
                    refine pT 8 ?_
                    (try simp only [p0, p1, p2, p3])
                    refine pT 9 ?_
                    (try simp only [p0, p1, p2, p3])
                    refine pR1 11 (fun K hK => ?_)
                    obtain ⟨c43, c44, c45, c46⟩ := K36.c4
                    obtain ⟨c47, c48, c49, c50⟩ := Z37.f4
                    go_simp
                    clear c43 c44 c45 c46 c47 c48 c49 c50
                    obtain ⟨V51, hk53⟩ : ∃ V51, V51 = w42.setCells (b41) 0 [.bool f7.n, .slice f7.A f7.xs.length f7.c, .bool f7.m, .slice f7.B f7.ds.length f7.d] := ⟨_, rfl⟩
                    have e52 := hk53
                    simp only [World.setCells, Nat.zero_add, Nat.reduceAdd] at e52
                    have hk54 := Kept.overE hk53 K36 rfl (by simp)
                    replace KR := KR.awayE hk53 n38
                    replace KS := KS.awayE hk53 n39
                    replace K36 := K36.overE hk53 rfl
                    replace Z37 := Z37.putE hk53
                    replace La := La.kp hk54
                    replace Ld := Ld.kp hk54
                    replace Lu := Lu.kp hk54
                    replace L7 := L7.kp hk54
                    replace BW := Below.putE BW hk53 g40
                    clear hk53 hk54
                    rw [← e52]
                    clear e52
                    refine hK.out _ _ (by exact KS.cs) (fun hHeld => ?_)
                    clear hK
                    (try simp only [p0, p1, p2, p3])
                    refine pT 12 ?_
                    (try simp only [p0, p1, p2, p3])
                    refine wpAnyH_done (by kernel_rfl) (NoPanic.normal ?_) _
                    go_wp2
                    go_meet
                    exact ⟨b41, f7, rfl, rfl, BW, KR, KS, La, Ld, Lu, K36, L7⟩
              case rest =>
                as_aux_lemma =>
                  obtain ⟨pk26, f7, rfl, rfl, BW, KR, KS, La, Ld, Lu, KN26, L7⟩ := hcut
                  go_wp2_with fail
                  go_cut [28, 29] (fun sv se wx => ∃ (pk28 : Nat) (f8 : Fv), sv = .pointer (some ⟨pk28, 0, none⟩) ∧ se = .int .i64 0 ∧ Below w.heap.size w wx ∧ Box wx (g0) [.bool f0.n, .slice f0.A f0.xs.length f0.c, .bool f0.m, .slice f0.B f0.ds.length f0.d, .bool f1.n, .slice f1.A f1.xs.length f1.c, .bool f1.m, .slice f1.B f1.ds.length f1.d] ∧ Box wx (g5) [.bool f5.n, .slice f5.A f5.xs.length f5.c, .bool f5.m, .slice f5.B f5.ds.length f5.d, .bool f6.n, .slice f6.A f6.xs.length f6.c, .bool f6.m, .slice f6.B f6.ds.length f6.d] ∧ Box wx (pk26) [.bool f7.n, .slice f7.A f7.xs.length f7.c, .bool f7.m, .slice f7.B f7.ds.length f7.d] ∧ Ff wx (fl a) f0 ∧ Ff wx (fl d5) f5 ∧ Ff wx (fl u5) f6 ∧ Ff wx (fl d5 * fl d5) f7 ∧ Box wx pk28 [.bool f8.n, .slice f8.A f8.xs.length f8.c, .bool f8.m, .slice f8.B f8.ds.length f8.d] ∧ Ff wx (fl u5 * fl u5) f8)
                  case first =>
                    as_aux_lemma =>
                      refine wp_region_noPanic ?_
                      have hb : Below wc.heap.size wc wc.drew := (Below.refl _ _).drew
                      replace KR := KR.on hb
                      replace KS := KS.on hb
                      replace KN26 := KN26.on hb
                      replace La := La.kp (Kept.of hb)
                      replace Ld := Ld.kp (Kept.of hb)
                      replace Lu := Lu.kp (Kept.of hb)
                      replace L7 := L7.kp (Kept.of hb)
                      replace BW := BW.trans (hb.mono BW.size)
                      clear hb
                      refine wp_region_held_drew (S := (fun wx => Cs wx (g5) 0 [.bool f5.n, .slice f5.A f5.xs.length f5.c, .bool f5.m, .slice f5.B f5.ds.length f5.d, .bool f6.n, .slice f6.A f6.xs.length f6.c, .bool f6.m, .slice f6.B f6.ds.length f6.d])) (by kernel_rfl) (by exact KS.cs) (fun hHeld => ?_)
                      generalize wc.drew = Vd32 at *
                      refine pT 0 ?_
                      (try simp only [p0, p1, p2, p3])
                      refine pT 1 ?_
                      (try simp only [p0, p1, p2, p3])
                      refine pT 2 ?_
                      (try simp only [p0, p1, p2, p3])
                      refine pT 3 ?_
                      (try simp only [p0, p1, p2, p3])
                      refine pT 4 ?_
                      (try simp only [p0, p1, p2, p3])
                      refine pT 5 ?_
                      (try simp only [p0, p1, p2, p3])
                      refine pR2 6 10 (fun K hK => ?_) (fun K hK => ?_)
                      · go_simp
                        (go_at_call 10; with_reducible refine (r_mul Lu Lu).mono ?_)
                        rintro _ w33 ⟨f8, er, rfl, R8, hb⟩
                        (try go_wp2_with fail)
                        replace KR := KR.on hb
                        replace KS := KS.on hb
                        replace KN26 := KN26.on hb
                        replace La := La.kp (Kept.of hb)
                        replace Ld := Ld.kp (Kept.of hb)
                        replace Lu := Lu.kp (Kept.of hb)
                        replace L7 := L7.kp (Kept.of hb)
                        replace BW := BW.trans (hb.mono BW.size)
                        clear hb
                        obtain ⟨rfl, L8⟩ := R8.yes not_false (fits_mul HS.out.fu HS.out.fu)
                        clear R8
                        refine hK.out _ _ (by exact KS.cs) (fun hHeld => ?_)
                        clear hK
                        (try simp only [p0, p1, p2, p3])
                        refine pT 7 ?_
                        (try simp only [p0, p1, p2, p3])
                        refine pT 8 ?_
                        (try simp only [p0, p1, p2, p3])
                        refine pT 9 ?_
                        (try simp only [p0, p1, p2, p3])
                        refine pR1 10 (fun K hK => ?_)
                        go_simp
                        obtain ⟨V34, e35, hb36, K37, Z38, -⟩ := alloc_new w33 [.bool false, .slice none 0 0, .bool false, .slice none 0 0] 32
                        have n39 : g0 ≠ w33.heap.size := Nat.ne_of_lt (KR.lt)
                        have n40 : g5 ≠ w33.heap.size := Nat.ne_of_lt (KS.lt)
                        have n41 : pk26 ≠ w33.heap.size := Nat.ne_of_lt (KN26.lt)
                        have g42 : w.heap.size ≤ w33.heap.size := BW.size
                        replace KR := KR.on hb36
                        replace KS := KS.on hb36
                        replace KN26 := KN26.on hb36
                        replace La := La.kp (Kept.of hb36)
                        replace Ld := Ld.kp (Kept.of hb36)
                        replace Lu := Lu.kp (Kept.of hb36)
                        replace L7 := L7.kp (Kept.of hb36)
                        replace L8 := L8.kp (Kept.of hb36)
                        replace BW := BW.trans (hb36.mono BW.size)
                        clear hb36
                        rw [← e35]
                        clear e35
                        generalize w33.heap.size = b43 at *
                        refine hK.out _ _ (by exact KS.cs) (fun hHeld => ?_)
                        clear hK
                        (try simp only [p0, p1, p2, p3])
                        refine pR1 11 (fun K hK => ?_)
                        obtain ⟨c44, c45, c46, c47⟩ := K37.c4
                        obtain ⟨c48, c49, c50, c51⟩ := Z38.f4
                        go_simp
                        clear c44 c45 c46 c47 c48 c49 c50 c51
                        obtain ⟨V52, hk54⟩ : ∃ V52, V52 = V34.setCells (b43) 0 [.bool f8.n, .slice f8.A f8.xs.length f8.c, .bool f8.m, .slice f8.B f8.ds.length f8.d] := ⟨_, rfl⟩
                        have e53 := hk54
                        simp only [World.setCells, Nat.zero_add, Nat.reduceAdd] at e53
                        have hk55 := Kept.overE hk54 K37 rfl (by simp)
                        replace KR := KR.awayE hk54 n39
                        replace KS := KS.awayE hk54 n40
                        replace KN26 := KN26.awayE hk54 n41
                        replace K37 := K37.overE hk54 rfl
                        replace La := La.kp hk55
                        replace Ld := Ld.kp hk55
                        replace Lu := Lu.kp hk55
                        replace L7 := L7.kp hk55
                        replace L8 := L8.kp hk55
                        replace BW := Below.putE BW hk54 g42
                        clear hk54 hk55
                        rw [← e53]
                        clear e53
                        refine hK.out _ _ (by exact KS.cs) (fun hHeld => ?_)
                        clear hK
                        (try simp only [p0, p1, p2, p3])
                        refine pT 12 ?_
                        (try simp only [p0, p1, p2, p3])
                        refine wpAnyH_done (by kernel_rfl) (NoPanic.normal ?_) _
                        go_wp2
                        go_meet
                        exact ⟨b43, f8, rfl, rfl, BW, KR, KS, KN26, La, Ld, Lu, L7, K37, L8⟩
                      · go_simp
                        obtain ⟨V33, e34, hb35, K36, Z37, -⟩ := alloc_new Vd32 [.bool false, .slice none 0 0, .bool false, .slice none 0 0] 32
                        have n38 : g0 ≠ Vd32.heap.size := Nat.ne_of_lt (KR.lt)
                        have n39 : g5 ≠ Vd32.heap.size := Nat.ne_of_lt (KS.lt)
                        have n40 : pk26 ≠ Vd32.heap.size := Nat.ne_of_lt (KN26.lt)
                        have g41 : w.heap.size ≤ Vd32.heap.size := BW.size
                        replace KR := KR.on hb35
                        replace KS := KS.on hb35
                        replace KN26 := KN26.on hb35
                        replace La := La.kp (Kept.of hb35)
                        replace Ld := Ld.kp (Kept.of hb35)
                        replace Lu := Lu.kp (Kept.of hb35)
                        replace L7 := L7.kp (Kept.of hb35)
                        replace BW := BW.trans (hb35.mono BW.size)
                        clear hb35
                        rw [← e34]
                        clear e34
                        generalize Vd32.heap.size = b42 at *
                        refine hK.out _ _ (by exact KS.cs) (fun hHeld => ?_)
                        clear hK
                        (try simp only [p0, p1, p2, p3])
                        refine pR1 6 (fun K hK => ?_)
                        go_simp
                        (go_at_call 10; with_reducible refine (r_mul Lu Lu).mono ?_)
                        rintro _ w43 ⟨f8, er, rfl, R8, hb⟩
                        (try go_wp2_with fail)
                        replace KR := KR.on hb
                        replace KS := KS.on hb
                        replace KN26 := KN26.on hb
                        replace K36 := K36.on hb
                        replace Z37 := Z37.on hb
                        replace La := La.kp (Kept.of hb)
                        replace Ld := Ld.kp (Kept.of hb)
                        replace Lu := Lu.kp (Kept.of hb)
                        replace L7 := L7.kp (Kept.of hb)
                        replace BW := BW.trans (hb.mono BW.size)
                        clear hb
                        obtain ⟨rfl, L8⟩ := R8.yes not_false (fits_mul HS.out.fu HS.out.fu)
                        clear R8
                        refine hK.out _ _ (by exact KS.cs) (fun hHeld => ?_)
                        clear hK
                        (try simp only [p0, p1, p2, p3])
                        refine pT 7 ?_
                        (try simp only [p0, p1, p2, p3])
                        refine pT 8 ?_
                        (try simp only [p0, p1, p2, p3])
                        refine pT 9 ?_
                        (try simp only [p0, p1, p2, p3])
                        refine pR1 11 (fun K hK => ?_)
                        obtain ⟨c44, c45, c46, c47⟩ := K36.c4
                        obtain ⟨c48, c49, c50, c51⟩ := Z37.f4
                        go_simp
                        clear c44 c45 c46 c47 c48 c49 c50 c51
                        obtain ⟨V52, hk54⟩ : ∃ V52, V52 = w43.setCells (b42) 0 [.bool f8.n, .slice f8.A f8.xs.length f8.c, .bool f8.m, .slice f8.B f8.ds.length f8.d] := ⟨_, rfl⟩
                        have e53 := hk54
                        simp only [World.setCells, Nat.zero_add, Nat.reduceAdd] at e53
                        have hk55 := Kept.overE hk54 K36 rfl (by simp)
                        replace KR := KR.awayE hk54 n38
                        replace KS := KS.awayE hk54 n39
                        replace KN26 := KN26.awayE hk54 n40
                        replace K36 := K36.overE hk54 rfl
                        replace La := La.kp hk55
                        replace Ld := Ld.kp hk55
                        replace Lu := Lu.kp hk55
                        replace L7 := L7.kp hk55
                        replace L8 := L8.kp hk55
                        replace BW := Below.putE BW hk54 g41
                        clear hk54 hk55
                        rw [← e53]
                        clear e53
                        refine hK.out _ _ (by exact KS.cs) (fun hHeld => ?_)
                        clear hK
                        (try simp only [p0, p1, p2, p3])
                        refine pT 12 ?_
                        (try simp only [p0, p1, p2, p3])
                        refine wpAnyH_done (by kernel_rfl) (NoPanic.normal ?_) _
                        go_wp2
                        go_meet
                        exact ⟨b42, f8, rfl, rfl, BW, KR, KS, KN26, La, Ld, Lu, L7, K36, L8⟩
                  case rest =>
                    as_aux_lemma =>
                      obtain ⟨pk28, f8, rfl, rfl, BW, KR, KS, KN26, La, Ld, Lu, L7, KN28, L8⟩ := hcut
                      go_wp2_with fail
                      refine wp_region_noPanic ?_
                      have hb : Below wc.heap.size wc wc.drew := (Below.refl _ _).drew
                      replace KR := KR.on hb
                      replace KN26 := KN26.on hb
                      replace KN28 := KN28.on hb
                      replace La := La.kp (Kept.of hb)
                      replace L7 := L7.kp (Kept.of hb)
                      replace L8 := L8.kp (Kept.of hb)
                      replace BW := BW.trans (hb.mono BW.size)
                      clear hb
                      refine wp_region_held_drew (S := (fun wx => Cs wx (g0) 0 [.bool f0.n, .slice f0.A f0.xs.length f0.c, .bool f0.m, .slice f0.B f0.ds.length f0.d, .bool f1.n, .slice f1.A f1.xs.length f1.c, .bool f1.m, .slice f1.B f1.ds.length f1.d] ∧ Cs wx (pk26) 0 [.bool f7.n, .slice f7.A f7.xs.length f7.c, .bool f7.m, .slice f7.B f7.ds.length f7.d] ∧ Cs wx (pk28) 0 [.bool f8.n, .slice f8.A f8.xs.length f8.c, .bool f8.m, .slice f8.B f8.ds.length f8.d])) (by kernel_rfl) (by exact ⟨KR.cs, KN26.cs, KN28.cs⟩) (fun hHeld => ?_)
                      generalize wc.drew = Vd32 at *
                      refine pT 0 ?_
                      (try simp only [p0, p1, p2, p3])
                      refine pT 1 ?_
                      (try simp only [p0, p1, p2, p3])
                      refine pT 2 ?_
                      (try simp only [p0, p1, p2, p3])
                      refine pT 3 ?_
                      (try simp only [p0, p1, p2, p3])
                      refine pT 5 ?_
                      (try simp only [p0, p1, p2, p3])
                      refine pT 6 ?_
                      (try simp only [p0, p1, p2, p3])
                      refine pT 7 ?_
                      (try simp only [p0, p1, p2, p3])
                      refine pT 8 ?_
                      (try simp only [p0, p1, p2, p3])
                      refine pR1 4 (fun K hK => ?_)
                      go_simp
                      (go_at_call 18; with_reducible refine (r_cmp L7 La).mono ?_)
                      rintro _ w33 ⟨rfl, hb⟩
                      (try go_wp2_with fail)
                      replace KR := KR.on hb
                      replace KN26 := KN26.on hb
                      replace KN28 := KN28.on hb
                      replace La := La.kp (Kept.of hb)
                      replace L8 := L8.kp (Kept.of hb)
                      replace BW := BW.trans (hb.mono BW.size)
                      clear hb
                      rw [HC1.out]
                      refine hK.out _ _ (by exact ⟨KR.cs, KN26.cs, KN28.cs⟩) (fun hHeld => ?_)
                      clear hK
                      (try simp only [p0, p1, p2, p3])
                      refine pR1 9 (fun K hK => ?_)
                      go_simp
                      (go_at_call 18; with_reducible refine (r_cmp L8 La).mono ?_)
                      rintro _ w34 ⟨rfl, hb⟩
                      (try go_wp2_with fail)
                      replace KR := KR.on hb
                      replace KN26 := KN26.on hb
                      replace KN28 := KN28.on hb
                      replace BW := BW.trans (hb.mono BW.size)
                      clear hb
                      rw [HC2.out]
                      refine hK.out _ _ (by exact ⟨KR.cs, KN26.cs, KN28.cs⟩) (fun hHeld => ?_)
                      clear hK
                      (try simp only [p0, p1, p2, p3])
                      refine pT 10 ?_
                      (try simp only [p0, p1, p2, p3])
                      refine pT 11 ?_
                      (try simp only [p0, p1, p2, p3])
                      refine wpAnyH_done (by kernel_rfl) (NoPanic.normal ?_) _
                      obtain ⟨bb, hle, hge, h0, h1, heq⟩ := sr_facts HS.out HC1.out HC2.out
                      go_wp2_with fail
                      exact bodyPost_ret (v := .bool true) (by simp [results, Tryz.results3, go_sem]) rfl ⟨rfl, BW⟩
end Go.Proofs.YtmcnhgakaodafaaGreat
