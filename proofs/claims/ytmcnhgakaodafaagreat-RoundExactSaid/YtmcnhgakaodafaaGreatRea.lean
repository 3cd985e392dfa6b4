/-
  RoundExact's walk where the second is nought and the first below nought. Condition: finite floats of 64 bits.
-/
import Derived.Test.YtmcnhgakaodafaaGreatFr0
import Derived.Deep.RegionHeld3
import Derived.Deep.DeepCutAuto
import Derived.BigRegion
namespace Go.Proofs.YtmcnhgakaodafaaGreat
open Go.RowKit Nb

open Fl Ieee
set_option maxHeartbeats 8000000 in
set_option maxRecDepth 20000 in
theorem roundExact_a {a b : Nat} {w : World} (ha : a < 18446744073709551616) (fa : mg a < 9218868437227405312) (hb : b < 18446744073709551616) (fb : mg b < 9218868437227405312) (hbz : (FloatKind.f64.format.order b 0 == some .eq) = true) (hneg : (FloatKind.f64.format.order a 0 == some .lt) = true) :
    Calls Tryz.prog 3 #[.float .f64 a, .float .f64 b] w (fun e w' => e = .returned (.bool true) ∧ Below w.heap.size w w') := by
  have HAB := Lib.hid (And.intro (And.intro ha fa) (And.intro hb fb))
  have HF := Lib.hid (And.intro (fits_add fa fb) (And.intro (fits_sub fa fb) (fits_mul fa fb)))
  clear ha fa hb fb
  have BW : Below w.heap.size w w := Below.refl _ _
  obtain ⟨V1, e2, hb3, K4, -, -⟩ := alloc_new w [.float .f64 a, .float .f64 b] 22
  replace BW := BW.trans (hb3.mono BW.size)
  clear hb3
  go_enter Tryz.func3, Tryz.ntmps3
  go_wp2_with fail
  rw [← e2]
  clear e2
  refine (worth2 K4 HAB.out.1 HAB.out.2).mono ?_
  rintro _ w5 ⟨g0, cap0, f0, f1, rfl, La, Lb, KR, hb⟩
  replace BW := BW.trans (hb.mono BW.size)
  clear hb
  go_wp2_with fail
  refine (alive_any _).mono ?_
  rintro _ w6 ⟨rfl, hb⟩
  replace KR := KR.on hb
  replace La := La.kp (Kept.of hb)
  replace Lb := Lb.kp (Kept.of hb)
  replace BW := BW.trans (hb.mono BW.size)
  clear hb
  go_wp2_with fail
  go_cut [7, 8] (fun sv se wx => ∃ (pk7 : Nat) (f2 : Fv), sv = .pointer (some ⟨pk7, 0, none⟩) ∧ se = .int .i64 0 ∧ Below w.heap.size w wx ∧ Box wx (g0) [.bool f0.n, .slice f0.A f0.xs.length f0.c, .bool f0.m, .slice f0.B f0.ds.length f0.d, .bool f1.n, .slice f1.A f1.xs.length f1.c, .bool f1.m, .slice f1.B f1.ds.length f1.d] ∧ Ff wx (fl a) f0 ∧ Ff wx (fl b) f1 ∧ Box wx pk7 [.bool f2.n, .slice f2.A f2.xs.length f2.c, .bool f2.m, .slice f2.B f2.ds.length f2.d] ∧ Ff wx (fl a + fl b) f2)
  case first =>
    as_aux_lemma =>
      refine wp_region_noPanic ?_
      have hb : Below w6.heap.size w6 w6.drew := (Below.refl _ _).drew
      replace KR := KR.on hb
      replace La := La.kp (Kept.of hb)
      replace Lb := Lb.kp (Kept.of hb)
      replace BW := BW.trans (hb.mono BW.size)
      clear hb
      refine wp_region_held_drew (S := (fun wx => Cs wx (g0) 0 [.bool f0.n, .slice f0.A f0.xs.length f0.c, .bool f0.m, .slice f0.B f0.ds.length f0.d, .bool f1.n, .slice f1.A f1.xs.length f1.c, .bool f1.m, .slice f1.B f1.ds.length f1.d])) (by kernel_rfl) (by exact KR.cs) (fun hHeld => ?_)
      generalize w6.drew = Vd7 at *
      refine pT 0 ?_
      (try simp only [p0, p1, p2, p3])
      refine pT 1 ?_
      (try simp only [p0, p1, p2, p3])
      refine pT 2 ?_
      (try simp only [p0, p1, p2, p3])
      refine pT 3 ?_
      (try simp only [p0, p1, p2, p3])
      refine pT 4 ?_
      (try simp only [p0, p1, p2, p3])
      refine pT 5 ?_
      (try simp only [p0, p1, p2, p3])
      refine pR2 6 10 (fun K hK => ?_) (fun K hK => ?_)
      · go_simp
        (go_at_call 8; with_reducible refine (r_add La Lb).mono ?_)
        rintro _ w8 ⟨f2, er, rfl, R2, hb⟩
        (try go_wp2_with fail)
        replace KR := KR.on hb
        replace La := La.kp (Kept.of hb)
        replace Lb := Lb.kp (Kept.of hb)
        replace BW := BW.trans (hb.mono BW.size)
        clear hb
        obtain ⟨rfl, L2⟩ := R2.yes not_false HF.out.1
        clear R2
        refine hK.out _ _ (by exact KR.cs) (fun hHeld => ?_)
        clear hK
        (try simp only [p0, p1, p2, p3])
        refine pT 7 ?_
        (try simp only [p0, p1, p2, p3])
        refine pT 8 ?_
        (try simp only [p0, p1, p2, p3])
        refine pT 9 ?_
        (try simp only [p0, p1, p2, p3])
        refine pR1 10 (fun K hK => ?_)
        go_simp
        obtain ⟨V9, e10, hb11, K12, Z13, -⟩ := alloc_new w8 [.bool false, .slice none 0 0, .bool false, .slice none 0 0] 32
        have n14 : g0 ≠ w8.heap.size := Nat.ne_of_lt (KR.lt)
        have g15 : w.heap.size ≤ w8.heap.size := BW.size
        replace KR := KR.on hb11
        replace La := La.kp (Kept.of hb11)
        replace Lb := Lb.kp (Kept.of hb11)
        replace L2 := L2.kp (Kept.of hb11)
        replace BW := BW.trans (hb11.mono BW.size)
        clear hb11
        rw [← e10]
        clear e10
        generalize w8.heap.size = b16 at *
        refine hK.out _ _ (by exact KR.cs) (fun hHeld => ?_)
        clear hK
        (try simp only [p0, p1, p2, p3])
        refine pR1 11 (fun K hK => ?_)
        obtain ⟨c17, c18, c19, c20⟩ := K12.c4
        obtain ⟨c21, c22, c23, c24⟩ := Z13.f4
        go_simp
        clear c17 c18 c19 c20 c21 c22 c23 c24
        obtain ⟨V25, hk27⟩ : ∃ V25, V25 = V9.setCells (b16) 0 [.bool f2.n, .slice f2.A f2.xs.length f2.c, .bool f2.m, .slice f2.B f2.ds.length f2.d] := ⟨_, rfl⟩
        have e26 := hk27
        simp only [World.setCells, Nat.zero_add, Nat.reduceAdd] at e26
        have hk28 := Kept.overE hk27 K12 rfl (by simp)
        replace KR := KR.awayE hk27 n14
        replace K12 := K12.overE hk27 rfl
        replace Z13 := Z13.putE hk27
        replace La := La.kp hk28
        replace Lb := Lb.kp hk28
        replace L2 := L2.kp hk28
        replace BW := Below.putE BW hk27 g15
        clear hk27 hk28
        rw [← e26]
        clear e26
        refine hK.out _ _ (by exact KR.cs) (fun hHeld => ?_)
        clear hK
        (try simp only [p0, p1, p2, p3])
        refine pT 12 ?_
        (try simp only [p0, p1, p2, p3])
        refine wpAnyH_done (by kernel_rfl) (NoPanic.normal ?_) _
        go_wp2
        go_meet
        exact ⟨b16, f2, rfl, rfl, BW, KR, La, Lb, K12, L2⟩
      · go_simp
        obtain ⟨V8, e9, hb10, K11, Z12, -⟩ := alloc_new Vd7 [.bool false, .slice none 0 0, .bool false, .slice none 0 0] 32
        have n13 : g0 ≠ Vd7.heap.size := Nat.ne_of_lt (KR.lt)
        have g14 : w.heap.size ≤ Vd7.heap.size := BW.size
        replace KR := KR.on hb10
        replace La := La.kp (Kept.of hb10)
        replace Lb := Lb.kp (Kept.of hb10)
        replace BW := BW.trans (hb10.mono BW.size)
        clear hb10
        rw [← e9]
        clear e9
        generalize Vd7.heap.size = b15 at *
        refine hK.out _ _ (by exact KR.cs) (fun hHeld => ?_)
        clear hK
        (try simp only [p0, p1, p2, p3])
        refine pR1 6 (fun K hK => ?_)
        go_simp
        (go_at_call 8; with_reducible refine (r_add La Lb).mono ?_)
        rintro _ w16 ⟨f2, er, rfl, R2, hb⟩
        (try go_wp2_with fail)
        replace KR := KR.on hb
        replace K11 := K11.on hb
        replace Z12 := Z12.on hb
        replace La := La.kp (Kept.of hb)
        replace Lb := Lb.kp (Kept.of hb)
        replace BW := BW.trans (hb.mono BW.size)
        clear hb
        obtain ⟨rfl, L2⟩ := R2.yes not_false HF.out.1
        clear R2
        refine hK.out _ _ (by exact KR.cs) (fun hHeld => ?_)
        clear hK
        (try simp only [p0, p1, p2, p3])
        refine pT 7 ?_
        (try simp only [p0, p1, p2, p3])
        refine pT 8 ?_
        (try simp only [p0, p1, p2, p3])
        refine pT 9 ?_
        (try simp only [p0, p1, p2, p3])
        refine pR1 11 (fun K hK => ?_)
        obtain ⟨c17, c18, c19, c20⟩ := K11.c4
        obtain ⟨c21, c22, c23, c24⟩ := Z12.f4
        go_simp
        clear c17 c18 c19 c20 c21 c22 c23 c24
        obtain ⟨V25, hk27⟩ : ∃ V25, V25 = w16.setCells (b15) 0 [.bool f2.n, .slice f2.A f2.xs.length f2.c, .bool f2.m, .slice f2.B f2.ds.length f2.d] := ⟨_, rfl⟩
        have e26 := hk27
        simp only [World.setCells, Nat.zero_add, Nat.reduceAdd] at e26
        have hk28 := Kept.overE hk27 K11 rfl (by simp)
        replace KR := KR.awayE hk27 n13
        replace K11 := K11.overE hk27 rfl
        replace Z12 := Z12.putE hk27
        replace La := La.kp hk28
        replace Lb := Lb.kp hk28
        replace L2 := L2.kp hk28
        replace BW := Below.putE BW hk27 g14
        clear hk27 hk28
        rw [← e26]
        clear e26
        refine hK.out _ _ (by exact KR.cs) (fun hHeld => ?_)
        clear hK
        (try simp only [p0, p1, p2, p3])
        refine pT 12 ?_
        (try simp only [p0, p1, p2, p3])
        refine wpAnyH_done (by kernel_rfl) (NoPanic.normal ?_) _
        go_wp2
        go_meet
        exact ⟨b15, f2, rfl, rfl, BW, KR, La, Lb, K11, L2⟩
  case rest =>
    as_aux_lemma =>
      obtain ⟨pk7, f2, rfl, rfl, BW, KR, La, Lb, KN7, L2⟩ := hcut
      go_wp2_with fail
      go_cut [9, 10] (fun sv se wx => ∃ (pk9 : Nat) (f3 : Fv), sv = .pointer (some ⟨pk9, 0, none⟩) ∧ se = .int .i64 0 ∧ Below w.heap.size w wx ∧ Box wx (g0) [.bool f0.n, .slice f0.A f0.xs.length f0.c, .bool f0.m, .slice f0.B f0.ds.length f0.d, .bool f1.n, .slice f1.A f1.xs.length f1.c, .bool f1.m, .slice f1.B f1.ds.length f1.d] ∧ Box wx (pk7) [.bool f2.n, .slice f2.A f2.xs.length f2.c, .bool f2.m, .slice f2.B f2.ds.length f2.d] ∧ Ff wx (fl a) f0 ∧ Ff wx (fl b) f1 ∧ Ff wx (fl a + fl b) f2 ∧ Box wx pk9 [.bool f3.n, .slice f3.A f3.xs.length f3.c, .bool f3.m, .slice f3.B f3.ds.length f3.d] ∧ Ff wx (fl a - fl b) f3)
      case first =>
        as_aux_lemma =>
          refine wp_region_noPanic ?_
          have hb : Below wc.heap.size wc wc.drew := (Below.refl _ _).drew
          replace KR := KR.on hb
          replace KN7 := KN7.on hb
          replace La := La.kp (Kept.of hb)
          replace Lb := Lb.kp (Kept.of hb)
          replace L2 := L2.kp (Kept.of hb)
          replace BW := BW.trans (hb.mono BW.size)
          clear hb
          refine wp_region_held_drew (S := (fun wx => Cs wx (g0) 0 [.bool f0.n, .slice f0.A f0.xs.length f0.c, .bool f0.m, .slice f0.B f0.ds.length f0.d, .bool f1.n, .slice f1.A f1.xs.length f1.c, .bool f1.m, .slice f1.B f1.ds.length f1.d])) (by kernel_rfl) (by exact KR.cs) (fun hHeld => ?_)
          generalize wc.drew = Vd7 at *
          refine pT 0 ?_
          (try simp only [p0, p1, p2, p3])
          refine pT 1 ?_
          (try simp only [p0, p1, p2, p3])
          refine pT 2 ?_
          (try simp only [p0, p1, p2, p3])
          refine pT 3 ?_
          (try simp only [p0, p1, p2, p3])
          refine pT 4 ?_
          (try simp only [p0, p1, p2, p3])
          refine pT 5 ?_
          (try simp only [p0, p1, p2, p3])
          refine pR2 6 10 (fun K hK => ?_) (fun K hK => ?_)
          · go_simp
            (go_at_call 9; with_reducible refine (r_sub La Lb).mono ?_)
            rintro _ w8 ⟨f3, er, rfl, R3, hb⟩
            (try go_wp2_with fail)
            replace KR := KR.on hb
            replace KN7 := KN7.on hb
            replace La := La.kp (Kept.of hb)
            replace Lb := Lb.kp (Kept.of hb)
            replace L2 := L2.kp (Kept.of hb)
            replace BW := BW.trans (hb.mono BW.size)
            clear hb
            obtain ⟨rfl, L3⟩ := R3.yes not_false HF.out.2.1
            clear R3
            refine hK.out _ _ (by exact KR.cs) (fun hHeld => ?_)
            clear hK
            (try simp only [p0, p1, p2, p3])
            refine pT 7 ?_
            (try simp only [p0, p1, p2, p3])
            refine pT 8 ?_
            (try simp only [p0, p1, p2, p3])
            refine pT 9 ?_
            (try simp only [p0, p1, p2, p3])
            refine pR1 10 (fun K hK => ?_)
            go_simp
            obtain ⟨V9, e10, hb11, K12, Z13, -⟩ := alloc_new w8 [.bool false, .slice none 0 0, .bool false, .slice none 0 0] 32
            have n14 : g0 ≠ w8.heap.size := Nat.ne_of_lt (KR.lt)
            have n15 : pk7 ≠ w8.heap.size := Nat.ne_of_lt (KN7.lt)
            have g16 : w.heap.size ≤ w8.heap.size := BW.size
            replace KR := KR.on hb11
            replace KN7 := KN7.on hb11
            replace La := La.kp (Kept.of hb11)
            replace Lb := Lb.kp (Kept.of hb11)
            replace L2 := L2.kp (Kept.of hb11)
            replace L3 := L3.kp (Kept.of hb11)
            replace BW := BW.trans (hb11.mono BW.size)
            clear hb11
            rw [← e10]
            clear e10
            generalize w8.heap.size = b17 at *
            refine hK.out _ _ (by exact KR.cs) (fun hHeld => ?_)
            clear hK
            (try simp only [p0, p1, p2, p3])
            refine pR1 11 (fun K hK => ?_)
            obtain ⟨c18, c19, c20, c21⟩ := K12.c4
            obtain ⟨c22, c23, c24, c25⟩ := Z13.f4
            go_simp
            clear c18 c19 c20 c21 c22 c23 c24 c25
            obtain ⟨V26, hk28⟩ : ∃ V26, V26 = V9.setCells (b17) 0 [.bool f3.n, .slice f3.A f3.xs.length f3.c, .bool f3.m, .slice f3.B f3.ds.length f3.d] := ⟨_, rfl⟩
            have e27 := hk28
            simp only [World.setCells, Nat.zero_add, Nat.reduceAdd] at e27
            have hk29 := Kept.overE hk28 K12 rfl (by simp)
            replace KR := KR.awayE hk28 n14
            replace KN7 := KN7.awayE hk28 n15
            replace K12 := K12.overE hk28 rfl
            replace Z13 := Z13.putE hk28
            replace La := La.kp hk29
            replace Lb := Lb.kp hk29
            replace L2 := L2.kp hk29
            replace L3 := L3.kp hk29
            replace BW := Below.putE BW hk28 g16
            clear hk28 hk29
            rw [← e27]
            clear e27
            refine hK.out _ _ (by exact KR.cs) (fun hHeld => ?_)
            clear hK
            (try simp only [p0, p1, p2, p3])
            refine pT 12 ?_
            (try simp only [p0, p1, p2, p3])
            refine wpAnyH_done (by kernel_rfl) (NoPanic.normal ?_) _
            go_wp2
            go_meet
            exact ⟨b17, f3, rfl, rfl, BW, KR, KN7, La, Lb, L2, K12, L3⟩
          · go_simp
            obtain ⟨V8, e9, hb10, K11, Z12, -⟩ := alloc_new Vd7 [.bool false, .slice none 0 0, .bool false, .slice none 0 0] 32
            have n13 : g0 ≠ Vd7.heap.size := Nat.ne_of_lt (KR.lt)
            have n14 : pk7 ≠ Vd7.heap.size := Nat.ne_of_lt (KN7.lt)
            have g15 : w.heap.size ≤ Vd7.heap.size := BW.size
            replace KR := KR.on hb10
            replace KN7 := KN7.on hb10
            replace La := La.kp (Kept.of hb10)
            replace Lb := Lb.kp (Kept.of hb10)
            replace L2 := L2.kp (Kept.of hb10)
            replace BW := BW.trans (hb10.mono BW.size)
            clear hb10
            rw [← e9]
            clear e9
            generalize Vd7.heap.size = b16 at *
            refine hK.out _ _ (by exact KR.cs) (fun hHeld => ?_)
            clear hK
            (try simp only [p0, p1, p2, p3])
            refine pR1 6 (fun K hK => ?_)
            go_simp
            (go_at_call 9; with_reducible refine (r_sub La Lb).mono ?_)
            rintro _ w17 ⟨f3, er, rfl, R3, hb⟩
            (try go_wp2_with fail)
            replace KR := KR.on hb
            replace KN7 := KN7.on hb
            replace K11 := K11.on hb
            replace Z12 := Z12.on hb
            replace La := La.kp (Kept.of hb)
            replace Lb := Lb.kp (Kept.of hb)
            replace L2 := L2.kp (Kept.of hb)
            replace BW := BW.trans (hb.mono BW.size)
            clear hb
            obtain ⟨rfl, L3⟩ := R3.yes not_false HF.out.2.1
            clear R3
            refine hK.out _ _ (by exact KR.cs) (fun hHeld => ?_)
            clear hK
            (try simp only [p0, p1, p2, p3])
            refine pT 7 ?_
            (try simp only [p0, p1, p2, p3])
            refine pT 8 ?_
            (try simp only [p0, p1, p2, p3])
            refine pT 9 ?_
            (try simp only [p0, p1, p2, p3])
            refine pR1 11 (fun K hK => ?_)
            obtain ⟨c18, c19, c20, c21⟩ := K11.c4
            obtain ⟨c22, c23, c24, c25⟩ := Z12.f4
            go_simp
            clear c18 c19 c20 c21 c22 c23 c24 c25
            obtain ⟨V26, hk28⟩ : ∃ V26, V26 = w17.setCells (b16) 0 [.bool f3.n, .slice f3.A f3.xs.length f3.c, .bool f3.m, .slice f3.B f3.ds.length f3.d] := ⟨_, rfl⟩
            have e27 := hk28
            simp only [World.setCells, Nat.zero_add, Nat.reduceAdd] at e27
            have hk29 := Kept.overE hk28 K11 rfl (by simp)
            replace KR := KR.awayE hk28 n13
            replace KN7 := KN7.awayE hk28 n14
            replace K11 := K11.overE hk28 rfl
            replace Z12 := Z12.putE hk28
            replace La := La.kp hk29
            replace Lb := Lb.kp hk29
            replace L2 := L2.kp hk29
            replace L3 := L3.kp hk29
            replace BW := Below.putE BW hk28 g15
            clear hk28 hk29
            rw [← e27]
            clear e27
            refine hK.out _ _ (by exact KR.cs) (fun hHeld => ?_)
            clear hK
            (try simp only [p0, p1, p2, p3])
            refine pT 12 ?_
            (try simp only [p0, p1, p2, p3])
            refine wpAnyH_done (by kernel_rfl) (NoPanic.normal ?_) _
            go_wp2
            go_meet
            exact ⟨b16, f3, rfl, rfl, BW, KR, KN7, La, Lb, L2, K11, L3⟩
      case rest =>
        as_aux_lemma =>
          obtain ⟨pk9, f3, rfl, rfl, BW, KR, KN7, La, Lb, L2, KN9, L3⟩ := hcut
          go_wp2_with fail
          go_cut [11, 12] (fun sv se wx => ∃ (pk11 : Nat) (f4 : Fv), sv = .pointer (some ⟨pk11, 0, none⟩) ∧ se = .int .i64 0 ∧ Below w.heap.size w wx ∧ Box wx (g0) [.bool f0.n, .slice f0.A f0.xs.length f0.c, .bool f0.m, .slice f0.B f0.ds.length f0.d, .bool f1.n, .slice f1.A f1.xs.length f1.c, .bool f1.m, .slice f1.B f1.ds.length f1.d] ∧ Box wx (pk7) [.bool f2.n, .slice f2.A f2.xs.length f2.c, .bool f2.m, .slice f2.B f2.ds.length f2.d] ∧ Box wx (pk9) [.bool f3.n, .slice f3.A f3.xs.length f3.c, .bool f3.m, .slice f3.B f3.ds.length f3.d] ∧ Ff wx (fl a) f0 ∧ Ff wx (fl b) f1 ∧ Ff wx (fl a + fl b) f2 ∧ Ff wx (fl a - fl b) f3 ∧ Box wx pk11 [.bool f4.n, .slice f4.A f4.xs.length f4.c, .bool f4.m, .slice f4.B f4.ds.length f4.d] ∧ Ff wx (fl a * fl b) f4)
          case first =>
            as_aux_lemma =>
              refine wp_region_noPanic ?_
              have hb : Below wc.heap.size wc wc.drew := (Below.refl _ _).drew
              replace KR := KR.on hb
              replace KN7 := KN7.on hb
              replace KN9 := KN9.on hb
              replace La := La.kp (Kept.of hb)
              replace Lb := Lb.kp (Kept.of hb)
              replace L2 := L2.kp (Kept.of hb)
              replace L3 := L3.kp (Kept.of hb)
              replace BW := BW.trans (hb.mono BW.size)
              clear hb
              refine wp_region_held_drew (S := (fun wx => Cs wx (g0) 0 [.bool f0.n, .slice f0.A f0.xs.length f0.c, .bool f0.m, .slice f0.B f0.ds.length f0.d, .bool f1.n, .slice f1.A f1.xs.length f1.c, .bool f1.m, .slice f1.B f1.ds.length f1.d])) (by kernel_rfl) (by exact KR.cs) (fun hHeld => ?_)
              generalize wc.drew = Vd7 at *
              refine pT 0 ?_
              (try simp only [p0, p1, p2, p3])
              refine pT 1 ?_
              (try simp only [p0, p1, p2, p3])
              refine pT 2 ?_
              (try simp only [p0, p1, p2, p3])
              refine pT 3 ?_
              (try simp only [p0, p1, p2, p3])
              refine pT 4 ?_
              (try simp only [p0, p1, p2, p3])
              refine pT 5 ?_
              (try simp only [p0, p1, p2, p3])
              refine pR2 6 10 (fun K hK => ?_) (fun K hK => ?_)
              · go_simp
                (go_at_call 10; with_reducible refine (r_mul La Lb).mono ?_)
                rintro _ w8 ⟨f4, er, rfl, R4, hb⟩
                (try go_wp2_with fail)
                replace KR := KR.on hb
                replace KN7 := KN7.on hb
                replace KN9 := KN9.on hb
                replace La := La.kp (Kept.of hb)
                replace Lb := Lb.kp (Kept.of hb)
                replace L2 := L2.kp (Kept.of hb)
                replace L3 := L3.kp (Kept.of hb)
                replace BW := BW.trans (hb.mono BW.size)
                clear hb
                obtain ⟨rfl, L4⟩ := R4.yes not_false HF.out.2.2
                clear R4
                refine hK.out _ _ (by exact KR.cs) (fun hHeld => ?_)
                clear hK
                (try simp only [p0, p1, p2, p3])
                refine pT 7 ?_
                (try simp only [p0, p1, p2, p3])
                refine pT 8 ?_
                (try simp only [p0, p1, p2, p3])
                refine pT 9 ?_
                (try simp only [p0, p1, p2, p3])
                refine pR1 10 (fun K hK => ?_)
                go_simp
                obtain ⟨V9, e10, hb11, K12, Z13, -⟩ := alloc_new w8 [.bool false, .slice none 0 0, .bool false, .slice none 0 0] 32
                have n14 : g0 ≠ w8.heap.size := Nat.ne_of_lt (KR.lt)
                have n15 : pk7 ≠ w8.heap.size := Nat.ne_of_lt (KN7.lt)
                have n16 : pk9 ≠ w8.heap.size := Nat.ne_of_lt (KN9.lt)
                have g17 : w.heap.size ≤ w8.heap.size := BW.size
                replace KR := KR.on hb11
                replace KN7 := KN7.on hb11
                replace KN9 := KN9.on hb11
                replace La := La.kp (Kept.of hb11)
                replace Lb := Lb.kp (Kept.of hb11)
                replace L2 := L2.kp (Kept.of hb11)
                replace L3 := L3.kp (Kept.of hb11)
                replace L4 := L4.kp (Kept.of hb11)
                replace BW := BW.trans (hb11.mono BW.size)
                clear hb11
                rw [← e10]
                clear e10
                generalize w8.heap.size = b18 at *
                refine hK.out _ _ (by exact KR.cs) (fun hHeld => ?_)
                clear hK
                (try simp only [p0, p1, p2, p3])
                refine pR1 11 (fun K hK => ?_)
                obtain ⟨c19, c20, c21, c22⟩ := K12.c4
                obtain ⟨c23, c24, c25, c26⟩ := Z13.f4
                go_simp
                clear c19 c20 c21 c22 c23 c24 c25 c26
                obtain ⟨V27, hk29⟩ : ∃ V27, V27 = V9.setCells (b18) 0 [.bool f4.n, .slice f4.A f4.xs.length f4.c, .bool f4.m, .slice f4.B f4.ds.length f4.d] := ⟨_, rfl⟩
                have e28 := hk29
                simp only [World.setCells, Nat.zero_add, Nat.reduceAdd] at e28
                have hk30 := Kept.overE hk29 K12 rfl (by simp)
                replace KR := KR.awayE hk29 n14
                replace KN7 := KN7.awayE hk29 n15
                replace KN9 := KN9.awayE hk29 n16
                replace K12 := K12.overE hk29 rfl
                replace La := La.kp hk30
                replace Lb := Lb.kp hk30
                replace L2 := L2.kp hk30
                replace L3 := L3.kp hk30
                replace L4 := L4.kp hk30
                replace BW := Below.putE BW hk29 g17
                clear hk29 hk30
                rw [← e28]
                clear e28
                refine hK.out _ _ (by exact KR.cs) (fun hHeld => ?_)
                clear hK
                (try simp only [p0, p1, p2, p3])
                refine pT 12 ?_
                (try simp only [p0, p1, p2, p3])
                refine wpAnyH_done (by kernel_rfl) (NoPanic.normal ?_) _
                go_wp2
                go_meet
                exact ⟨b18, f4, rfl, rfl, BW, KR, KN7, KN9, La, Lb, L2, L3, K12, L4⟩
              · go_simp
                obtain ⟨V8, e9, hb10, K11, Z12, -⟩ := alloc_new Vd7 [.bool false, .slice none 0 0, .bool false, .slice none 0 0] 32
                have n13 : g0 ≠ Vd7.heap.size := Nat.ne_of_lt (KR.lt)
                have n14 : pk7 ≠ Vd7.heap.size := Nat.ne_of_lt (KN7.lt)
                have n15 : pk9 ≠ Vd7.heap.size := Nat.ne_of_lt (KN9.lt)
                have g16 : w.heap.size ≤ Vd7.heap.size := BW.size
                replace KR := KR.on hb10
                replace KN7 := KN7.on hb10
                replace KN9 := KN9.on hb10
                replace La := La.kp (Kept.of hb10)
                replace Lb := Lb.kp (Kept.of hb10)
                replace L2 := L2.kp (Kept.of hb10)
                replace L3 := L3.kp (Kept.of hb10)
                replace BW := BW.trans (hb10.mono BW.size)
                clear hb10
                rw [← e9]
                clear e9
                generalize Vd7.heap.size = b17 at *
                refine hK.out _ _ (by exact KR.cs) (fun hHeld => ?_)
                clear hK
                (try simp only [p0, p1, p2, p3])
                refine pR1 6 (fun K hK => ?_)
                go_simp
                (go_at_call 10; with_reducible refine (r_mul La Lb).mono ?_)
                rintro _ w18 ⟨f4, er, rfl, R4, hb⟩
                (try go_wp2_with fail)
                replace KR := KR.on hb
                replace KN7 := KN7.on hb
                replace KN9 := KN9.on hb
                replace K11 := K11.on hb
                replace Z12 := Z12.on hb
                replace La := La.kp (Kept.of hb)
                replace Lb := Lb.kp (Kept.of hb)
                replace L2 := L2.kp (Kept.of hb)
                replace L3 := L3.kp (Kept.of hb)
                replace BW := BW.trans (hb.mono BW.size)
                clear hb
                obtain ⟨rfl, L4⟩ := R4.yes not_false HF.out.2.2
                clear R4
                refine hK.out _ _ (by exact KR.cs) (fun hHeld => ?_)
                clear hK
                (try simp only [p0, p1, p2, p3])
                refine pT 7 ?_
                (try simp only [p0, p1, p2, p3])
                refine pT 8 ?_
                (try simp only [p0, p1, p2, p3])
                refine pT 9 ?_
                (try simp only [p0, p1, p2, p3])
                refine pR1 11 (fun K hK => ?_)
                obtain ⟨c19, c20, c21, c22⟩ := K11.c4
                obtain ⟨c23, c24, c25, c26⟩ := Z12.f4
                go_simp
                clear c19 c20 c21 c22 c23 c24 c25 c26
                obtain ⟨V27, hk29⟩ : ∃ V27, V27 = w18.setCells (b17) 0 [.bool f4.n, .slice f4.A f4.xs.length f4.c, .bool f4.m, .slice f4.B f4.ds.length f4.d] := ⟨_, rfl⟩
                have e28 := hk29
                simp only [World.setCells, Nat.zero_add, Nat.reduceAdd] at e28
                have hk30 := Kept.overE hk29 K11 rfl (by simp)
                replace KR := KR.awayE hk29 n13
                replace KN7 := KN7.awayE hk29 n14
                replace KN9 := KN9.awayE hk29 n15
                replace K11 := K11.overE hk29 rfl
                replace La := La.kp hk30
                replace Lb := Lb.kp hk30
                replace L2 := L2.kp hk30
                replace L3 := L3.kp hk30
                replace L4 := L4.kp hk30
                replace BW := Below.putE BW hk29 g16
                clear hk29 hk30
                rw [← e28]
                clear e28
                refine hK.out _ _ (by exact KR.cs) (fun hHeld => ?_)
                clear hK
                (try simp only [p0, p1, p2, p3])
                refine pT 12 ?_
                (try simp only [p0, p1, p2, p3])
                refine wpAnyH_done (by kernel_rfl) (NoPanic.normal ?_) _
                go_wp2
                go_meet
                exact ⟨b17, f4, rfl, rfl, BW, KR, KN7, KN9, La, Lb, L2, L3, K11, L4⟩
          case rest =>
            as_aux_lemma =>
              obtain ⟨pk11, f4, rfl, rfl, BW, KR, KN7, KN9, La, Lb, L2, L3, KN11, L4⟩ := hcut
              go_wp2_with fail
              refine (rd_add HAB.out.1.1 HAB.out.2.1 HAB.out.1.2 HAB.out.2.2).mono ?_
              rintro _ w7 ⟨d1, u1, rfl, hd1, hu1, B1, hb⟩
              replace KN7 := KN7.on hb
              replace KN9 := KN9.on hb
              replace KN11 := KN11.on hb
              replace L2 := L2.kp (Kept.of hb)
              replace L3 := L3.kp (Kept.of hb)
              replace L4 := L4.kp (Kept.of hb)
              replace BW := BW.trans (hb.mono BW.size)
              clear hb
              have HB1 := Lib.hid (And.intro hd1 (And.intro hu1 B1))
              clear hd1 hu1 B1
              go_wp2_with fail
              refine (rd_sub HAB.out.1.1 HAB.out.2.1 HAB.out.1.2 HAB.out.2.2).mono ?_
              rintro _ w8 ⟨d2, u2, rfl, hd2, hu2, B2, hb⟩
              replace KN7 := KN7.on hb
              replace KN9 := KN9.on hb
              replace KN11 := KN11.on hb
              replace L2 := L2.kp (Kept.of hb)
              replace L3 := L3.kp (Kept.of hb)
              replace L4 := L4.kp (Kept.of hb)
              replace BW := BW.trans (hb.mono BW.size)
              clear hb
              have HB2 := Lib.hid (And.intro hd2 (And.intro hu2 B2))
              clear hd2 hu2 B2
              go_wp2_with fail
              refine (rd_mul HAB.out.1.1 HAB.out.2.1 HAB.out.1.2 HAB.out.2.2).mono ?_
              rintro _ w9 ⟨d3, u3, rfl, hd3, hu3, B3, hb⟩
              replace KN7 := KN7.on hb
              replace KN9 := KN9.on hb
              replace KN11 := KN11.on hb
              replace L2 := L2.kp (Kept.of hb)
              replace L3 := L3.kp (Kept.of hb)
              replace L4 := L4.kp (Kept.of hb)
              replace BW := BW.trans (hb.mono BW.size)
              clear hb
              have HB3 := Lib.hid (And.intro hd3 (And.intro hu3 B3))
              clear hd3 hu3 B3
              obtain ⟨c10, c11, c12, c13⟩ := KN7.c4
              go_wp2_with fail
              clear c10 c11 c12 c13
              refine (between_any L2 HB1.out.1 HB1.out.2.1 HB1.out.2.2).mono ?_
              rintro _ w14 ⟨rfl, hb⟩
              replace KN9 := KN9.on hb
              replace KN11 := KN11.on hb
              replace L3 := L3.kp (Kept.of hb)
              replace L4 := L4.kp (Kept.of hb)
              replace BW := BW.trans (hb.mono BW.size)
              clear hb
              obtain ⟨c15, c16, c17, c18⟩ := KN9.c4
              go_wp2_with fail
              clear c15 c16 c17 c18
              refine (between_any L3 HB2.out.1 HB2.out.2.1 HB2.out.2.2).mono ?_
              rintro _ w19 ⟨rfl, hb⟩
              replace KN11 := KN11.on hb
              replace L4 := L4.kp (Kept.of hb)
              replace BW := BW.trans (hb.mono BW.size)
              clear hb
              obtain ⟨c20, c21, c22, c23⟩ := KN11.c4
              go_wp2_with fail
              clear c20 c21 c22 c23
              refine (between_any L4 HB3.out.1 HB3.out.2.1 HB3.out.2.2).mono ?_
              rintro _ w24 ⟨rfl, hb⟩
              replace BW := BW.trans (hb.mono BW.size)
              clear hb
              have hbn : (FloatKind.f64.format.order b 0 != some .eq) = false := by show (!(FloatKind.f64.format.order b 0 == some .eq)) = false; rw [hbz]; rfl
              go_wp2_with fail
              exact bodyPost_ret (v := .bool true) (by simp [results, Tryz.results3, go_sem]) rfl ⟨rfl, BW⟩
end Go.Proofs.YtmcnhgakaodafaaGreat
