/-
  The document's numbers on matrices (MatNames): the walk. No conditions.
-/
import Derived.Test.YtgoackkfjieahaaMn1
import Derived.Test.YtgoackkfjieahaaMq0
namespace Go.Proofs.Ytgoackkfjieahaa.W
open Go.RowKit
theorem nm1 : R.tr ⟨1, 2, 3, 4⟩ = 5 := by kernel_rfl
theorem nm2 : R.turned ⟨1, 2, 3, 4⟩ = ⟨4, -2, -3, 1⟩ := by kernel_rfl
theorem pw10 : R.pow ⟨1, 0, 0, 1⟩ ⟨1, 1, 1, 0⟩ 10 = ⟨89, 55, 55, 34⟩ := by
  rw [← Rg.pow_em R (k := 10) (by decide) (by decide), show 10 / 2 = 5 from rfl, ← Rg.pow_om R (k := 5) (by decide) (by decide), show 5 / 2 = 2 from rfl, ← Rg.pow_em R (k := 2) (by decide) (by decide), show 2 / 2 = 1 from rfl, ← Rg.pow_o1 R (k := 1) (by decide) (by decide), show 1 / 2 = 0 from rfl, Rg.pow0]
  kernel_rfl
theorem ch2 : R.chain ⟨1, 0, 0, 1⟩ [⟨1, 1, 0, 1⟩, ⟨1, 0, 1, 1⟩] = ⟨1, 1, 1, 2⟩ := by kernel_rfl
theorem chain2 {g : Nat} {w : World} (K : Box w g [.int .i64 1, .int .i64 1, .int .i64 0, .int .i64 1, .int .i64 1, .int .i64 0, .int .i64 1, .int .i64 1]) : Calls Try.prog 23 #[mv ⟨1, 0, 0, 1⟩, .slice (some ⟨g, 0, none⟩) 2 2] w (fun e w' => e = .returned (mv ⟨1, 1, 1, 2⟩) ∧ Below w.heap.size w w') := by
  rw [← ch2]
  exact chain0 ⟨1, 0, 0, 1⟩ [⟨1, 1, 0, 1⟩, ⟨1, 0, 1, 1⟩] g 2 w K.lt (by decide) (by decide) K
theorem nadd (w : World) : Calls Try.prog 47 #[.int .i64 9223372036854775807, .int .i64 1] w (fun e w' => e = .returned (.int .i64 (-9223372036854775808)) ∧ Below w.heap.size w w') := (cadd 9223372036854775807 1 w).mono fun _ _ ⟨h, e⟩ => ⟨h.trans (by kernel_rfl), e ▸ Below.refl _ _⟩
theorem nmul (w : World) : Calls Try.prog 48 #[.int .i8 100, .int .i8 3] w (fun e w' => e = .returned (.int .i8 44) ∧ Below w.heap.size w w') := (S.cmul 100 3 w).mono fun _ _ ⟨h, e⟩ => ⟨h.trans (by kernel_rfl), e ▸ Below.refl _ _⟩
theorem nneg (w : World) : Calls Try.prog 49 #[.int .i8 (-128)] w (fun e w' => e = .returned (.int .i8 (-128)) ∧ Below w.heap.size w w') := (S.cneg (-128) w).mono fun _ _ ⟨h, e⟩ => ⟨h.trans (by kernel_rfl), e ▸ Below.refl _ _⟩
theorem wmulB (w : World) : Calls Try.prog 51 #[.complex .f64 0 4607182418800017408, .complex .f64 0 4607182418800017408] w (fun e w' => e = .returned (.complex .f64 13830554455654793216 0) ∧ Below w.heap.size w w') := (C.wmul w).mono fun _ _ ⟨h, e⟩ => ⟨h, e ▸ Below.refl _ _⟩
theorem wlikeB (w : World) : Calls Try.prog 52 #[.complex .f64 0 4607182418800017408, .complex .f64 0 4607182418800017408] w (fun e w' => e = .returned (.bool true) ∧ Below w.heap.size w w') := (C.wlike w).mono fun _ _ ⟨h, e⟩ => ⟨h, e ▸ Below.refl _ _⟩
theorem wnegB (w : World) : Calls Try.prog 53 #[.complex .f64 0 4607182418800017408] w (fun e w' => e = .returned (.complex .f64 9223372036854775808 13830554455654793216) ∧ Below w.heap.size w w') := (C.wneg w).mono fun _ _ ⟨h, e⟩ => ⟨h, e ▸ Below.refl _ _⟩
theorem wunlikeB (w : World) : Calls Try.prog 52 #[.complex .f64 0 4607182418800017408, .complex .f64 9223372036854775808 13830554455654793216] w (fun e w' => e = .returned (.bool false) ∧ Below w.heap.size w w') := (C.wunlike w).mono fun _ _ ⟨h, e⟩ => ⟨h, e ▸ Below.refl _ _⟩
theorem samecB (b c : Nat) (w : World) : Calls Try.prog 50 #[.complex .f64 b c, .complex .f64 b c] w (fun e w' => e = .returned (.bool true) ∧ Below w.heap.size w w') := (C.samec b c w).mono fun _ _ ⟨h, e⟩ => ⟨h, e ▸ Below.refl _ _⟩
set_option maxHeartbeats 40000000 in
set_option maxRecDepth 100000 in
theorem names_walk (w : World) :
    Calls Try.prog 8 #[] w (fun e w' => e = .returned (.bool true) ∧ Below w.heap.size w w') := by
  have BW : Below w.heap.size w w := Below.refl _ _
  go_enter Try.func8, Try.ntmps8
  go_wp2_with fail
  refine (wrapw ⟨1, 0, 0, 1⟩ _).mono ?_
  rintro _ w1 ⟨rfl, hb⟩
  replace BW := BW.trans (hb.mono BW.size)
  clear hb
  obtain ⟨V2, e3, hb4, K5, -, -⟩ := alloc_new w1 [.int .i64 1, .int .i64 0, .int .i64 0, .int .i64 1] 31
  replace BW := BW.trans (hb4.mono BW.size)
  clear hb4
  go_wp2_with fail
  rw [← e3]
  clear e3
  generalize w1.heap.size = b6 at *
  refine (wrapw ⟨1, 2, 3, 4⟩ _).mono ?_
  rintro _ w7 ⟨rfl, hb⟩
  replace K5 := K5.on hb
  replace BW := BW.trans (hb.mono BW.size)
  clear hb
  obtain ⟨V8, e9, hb10, K11, -, -⟩ := alloc_new w7 [.int .i64 1, .int .i64 2, .int .i64 3, .int .i64 4] 31
  replace K5 := K5.on hb10
  replace BW := BW.trans (hb10.mono BW.size)
  clear hb10
  go_wp2_with fail
  rw [← e9]
  clear e9
  generalize w7.heap.size = b12 at *
  refine (wrapw ⟨1, 1, 1, 0⟩ _).mono ?_
  rintro _ w13 ⟨rfl, hb⟩
  replace K5 := K5.on hb
  replace K11 := K11.on hb
  replace BW := BW.trans (hb.mono BW.size)
  clear hb
  obtain ⟨V14, e15, hb16, K17, -, -⟩ := alloc_new w13 [.int .i64 1, .int .i64 1, .int .i64 1, .int .i64 0] 31
  replace K5 := K5.on hb16
  replace K11 := K11.on hb16
  replace BW := BW.trans (hb16.mono BW.size)
  clear hb16
  go_wp2_with fail
  rw [← e15]
  clear e15
  generalize w13.heap.size = b18 at *
  refine wp_region_noPanic ?_
  have hb : Below V14.heap.size V14 V14.drew := (Below.refl _ _).drew
  replace K5 := K5.on hb
  replace K11 := K11.on hb
  replace K17 := K17.on hb
  replace BW := BW.trans (hb.mono BW.size)
  clear hb
  refine wp_region_held_drew (S := (fun wx => Cs wx (b6) 0 [.int .i64 1, .int .i64 0, .int .i64 0, .int .i64 1] ∧ Cs wx (b12) 0 [.int .i64 1, .int .i64 2, .int .i64 3, .int .i64 4] ∧ Cs wx (b18) 0 [.int .i64 1, .int .i64 1, .int .i64 1, .int .i64 0])) (by kernel_rfl) (by exact ⟨K5.cs, K11.cs, K17.cs⟩) (fun hHeld => ?_)
  generalize V14.drew = Vd19 at *
  refine pT 0 ?_
  (try simp only [p0, p1, p2, p3])
  refine pR1 1 (fun K hK => ?_)
  go_simp
  (go_at_call 17; with_reducible refine (traceT (x := ⟨1, 2, 3, 4⟩) (d := 5) nm1).mono ?_)
  rintro _ w20 ⟨rfl, hb⟩
  (try go_wp2_with fail)
  replace K5 := K5.on hb
  replace K11 := K11.on hb
  replace K17 := K17.on hb
  replace BW := BW.trans (hb.mono BW.size)
  clear hb
  refine hK.out _ _ (by exact ⟨K5.cs, K11.cs, K17.cs⟩) (fun hHeld => ?_)
  clear hK
  (try simp only [p0, p1, p2, p3])
  refine pT 2 ?_
  (try simp only [p0, p1, p2, p3])
  refine pT 3 ?_
  (try simp only [p0, p1, p2, p3])
  refine pT 4 ?_
  (try simp only [p0, p1, p2, p3])
  refine pT 6 ?_
  (try simp only [p0, p1, p2, p3])
  refine pR1 5 (fun K hK => ?_)
  go_simp
  (go_at_call 19; with_reducible refine (turnedT (x := ⟨1, 2, 3, 4⟩) (y := ⟨4, -2, -3, 1⟩) nm2).mono ?_)
  rintro _ w21 ⟨rfl, hb⟩
  (try go_wp2_with fail)
  replace K5 := K5.on hb
  replace K11 := K11.on hb
  replace K17 := K17.on hb
  replace BW := BW.trans (hb.mono BW.size)
  clear hb
  refine hK.out _ _ (by exact ⟨K5.cs, K11.cs, K17.cs⟩) (fun hHeld => ?_)
  clear hK
  (try simp only [p0, p1, p2, p3])
  refine pR1 7 (fun K hK => ?_)
  go_simp
  (go_at_call 10; with_reducible refine (wrapw ⟨4, -2, -3, 1⟩ _).mono ?_)
  rintro _ w22 ⟨rfl, hb⟩
  (try go_wp2_with fail)
  replace K5 := K5.on hb
  replace K11 := K11.on hb
  replace K17 := K17.on hb
  replace BW := BW.trans (hb.mono BW.size)
  clear hb
  refine hK.out _ _ (by exact ⟨K5.cs, K11.cs, K17.cs⟩) (fun hHeld => ?_)
  clear hK
  (try simp only [p0, p1, p2, p3])
  refine pT 8 ?_
  (try simp only [p0, p1, p2, p3])
  refine pT 9 ?_
  (try simp only [p0, p1, p2, p3])
  refine pT 10 ?_
  (try simp only [p0, p1, p2, p3])
  refine pT 11 ?_
  (try simp only [p0, p1, p2, p3])
  refine pT 12 ?_
  (try simp only [p0, p1, p2, p3])
  refine pT 14 ?_
  (try simp only [p0, p1, p2, p3])
  refine pR1 13 (fun K hK => ?_)
  go_simp
  (go_at_call 21; with_reducible refine (powI (x := ⟨1, 0, 0, 1⟩) (y := ⟨1, 1, 1, 0⟩) (v := 10) (n := 10) rfl (by decide) pw10).mono ?_)
  rintro _ w23 ⟨rfl, hb⟩
  (try go_wp2_with fail)
  replace K5 := K5.on hb
  replace K11 := K11.on hb
  replace K17 := K17.on hb
  replace BW := BW.trans (hb.mono BW.size)
  clear hb
  refine hK.out _ _ (by exact ⟨K5.cs, K11.cs, K17.cs⟩) (fun hHeld => ?_)
  clear hK
  (try simp only [p0, p1, p2, p3])
  refine pR1 15 (fun K hK => ?_)
  go_simp
  (go_at_call 10; with_reducible refine (wrapw ⟨89, 55, 55, 34⟩ _).mono ?_)
  rintro _ w24 ⟨rfl, hb⟩
  (try go_wp2_with fail)
  replace K5 := K5.on hb
  replace K11 := K11.on hb
  replace K17 := K17.on hb
  replace BW := BW.trans (hb.mono BW.size)
  clear hb
  refine hK.out _ _ (by exact ⟨K5.cs, K11.cs, K17.cs⟩) (fun hHeld => ?_)
  clear hK
  (try simp only [p0, p1, p2, p3])
  refine pT 16 ?_
  (try simp only [p0, p1, p2, p3])
  refine pT 17 ?_
  (try simp only [p0, p1, p2, p3])
  refine pT 18 ?_
  (try simp only [p0, p1, p2, p3])
  refine pT 19 ?_
  (try simp only [p0, p1, p2, p3])
  refine pT 20 ?_
  (try simp only [p0, p1, p2, p3])
  refine pT 22 ?_
  (try simp only [p0, p1, p2, p3])
  refine pR1 21 (fun K hK => ?_)
  go_simp
  (go_at_call 21; with_reducible refine (powI (x := ⟨1, 0, 0, 1⟩) (y := ⟨1, 1, 1, 0⟩) (v := 0) (n := 0) rfl (by decide) (Rg.pow0 _ _ _)).mono ?_)
  rintro _ w25 ⟨rfl, hb⟩
  (try go_wp2_with fail)
  replace K5 := K5.on hb
  replace K11 := K11.on hb
  replace K17 := K17.on hb
  replace BW := BW.trans (hb.mono BW.size)
  clear hb
  refine hK.out _ _ (by exact ⟨K5.cs, K11.cs, K17.cs⟩) (fun hHeld => ?_)
  clear hK
  (try simp only [p0, p1, p2, p3])
  refine pT 23 ?_
  (try simp only [p0, p1, p2, p3])
  refine pT 24 ?_
  (try simp only [p0, p1, p2, p3])
  refine pT 25 ?_
  (try simp only [p0, p1, p2, p3])
  refine pT 26 ?_
  (try simp only [p0, p1, p2, p3])
  refine pT 28 ?_
  (try simp only [p0, p1, p2, p3])
  refine pR1 27 (fun K hK => ?_)
  go_simp
  (go_at_call 23; with_reducible refine (chain_nil ⟨1, 0, 0, 1⟩ _).mono ?_)
  rintro _ w26 ⟨rfl, hb⟩
  (try go_wp2_with fail)
  replace K5 := K5.on hb
  replace K11 := K11.on hb
  replace K17 := K17.on hb
  replace BW := BW.trans (hb.mono BW.size)
  clear hb
  refine hK.out _ _ (by exact ⟨K5.cs, K11.cs, K17.cs⟩) (fun hHeld => ?_)
  clear hK
  (try simp only [p0, p1, p2, p3])
  refine pT 29 ?_
  (try simp only [p0, p1, p2, p3])
  refine pT 30 ?_
  (try simp only [p0, p1, p2, p3])
  refine pT 31 ?_
  (try simp only [p0, p1, p2, p3])
  refine wpAnyH_done (by kernel_rfl) (NoPanic.normal ?_) _
  go_wp2_with fail
  refine wp_region_noPanic ?_
  have hb : Below w26.heap.size w26 w26.drew := (Below.refl _ _).drew
  replace K5 := K5.on hb
  replace BW := BW.trans (hb.mono BW.size)
  clear hb
  refine wp_region_held_drew (S := (fun wx => Cs wx (b6) 0 [.int .i64 1, .int .i64 0, .int .i64 0, .int .i64 1])) (by kernel_rfl) (by exact K5.cs) (fun hHeld => ?_)
  generalize w26.drew = Vd27 at *
  refine pT 0 ?_
  (try simp only [p0, p1, p2, p3])
  refine pT 1 ?_
  (try simp only [p0, p1, p2, p3])
  refine pT 3 ?_
  (try simp only [p0, p1, p2, p3])
  refine pT 7 ?_
  (try simp only [p0, p1, p2, p3])
  refine pR1 2 (fun K hK => ?_)
  go_simp
  (go_at_call 10; with_reducible refine (wrapw ⟨1, 1, 0, 1⟩ _).mono ?_)
  rintro _ w28 ⟨rfl, hb⟩
  (try go_wp2_with fail)
  replace K5 := K5.on hb
  replace BW := BW.trans (hb.mono BW.size)
  clear hb
  refine hK.out _ _ (by exact K5.cs) (fun hHeld => ?_)
  clear hK
  (try simp only [p0, p1, p2, p3])
  refine pR1 4 (fun K hK => ?_)
  go_simp
  (go_at_call 10; with_reducible refine (wrapw ⟨1, 0, 1, 1⟩ _).mono ?_)
  rintro _ w29 ⟨rfl, hb⟩
  (try go_wp2_with fail)
  replace K5 := K5.on hb
  replace BW := BW.trans (hb.mono BW.size)
  clear hb
  refine hK.out _ _ (by exact K5.cs) (fun hHeld => ?_)
  clear hK
  (try simp only [p0, p1, p2, p3])
  refine pR1 5 (fun K hK => ?_)
  go_simp
  obtain ⟨V30, e31, hb32, K33, -, -⟩ := alloc_new w29 [.int .i64 1, .int .i64 1, .int .i64 0, .int .i64 1, .int .i64 1, .int .i64 0, .int .i64 1, .int .i64 1] 31
  replace K5 := K5.on hb32
  replace BW := BW.trans (hb32.mono BW.size)
  clear hb32
  rw [← e31]
  clear e31
  generalize w29.heap.size = b34 at *
  refine hK.out _ _ (by exact K5.cs) (fun hHeld => ?_)
  clear hK
  (try simp only [p0, p1, p2, p3])
  refine pR1 6 (fun K hK => ?_)
  go_simp
  (go_at_call 23; with_reducible refine (chain2 K33).mono ?_)
  rintro _ w35 ⟨rfl, hb⟩
  (try go_wp2_with fail)
  replace K5 := K5.on hb
  replace BW := BW.trans (hb.mono BW.size)
  clear hb
  refine hK.out _ _ (by exact K5.cs) (fun hHeld => ?_)
  clear hK
  (try simp only [p0, p1, p2, p3])
  refine pR1 8 (fun K hK => ?_)
  go_simp
  (go_at_call 10; with_reducible refine (wrapw ⟨1, 1, 1, 2⟩ _).mono ?_)
  rintro _ w36 ⟨rfl, hb⟩
  (try go_wp2_with fail)
  replace K5 := K5.on hb
  replace BW := BW.trans (hb.mono BW.size)
  clear hb
  refine hK.out _ _ (by exact K5.cs) (fun hHeld => ?_)
  clear hK
  (try simp only [p0, p1, p2, p3])
  refine pT 9 ?_
  (try simp only [p0, p1, p2, p3])
  refine pT 10 ?_
  (try simp only [p0, p1, p2, p3])
  refine pR1 11 (fun K hK => ?_)
  go_simp
  (go_at_call 47; with_reducible refine (nadd _).mono ?_)
  rintro _ w37 ⟨rfl, hb⟩
  (try go_wp2_with fail)
  replace K5 := K5.on hb
  replace BW := BW.trans (hb.mono BW.size)
  clear hb
  refine hK.out _ _ (by exact K5.cs) (fun hHeld => ?_)
  clear hK
  (try simp only [p0, p1, p2, p3])
  refine pT 12 ?_
  (try simp only [p0, p1, p2, p3])
  refine pT 13 ?_
  (try simp only [p0, p1, p2, p3])
  refine pT 14 ?_
  (try simp only [p0, p1, p2, p3])
  refine pR1 15 (fun K hK => ?_)
  go_simp
  (go_at_call 48; with_reducible refine (nmul _).mono ?_)
  rintro _ w38 ⟨rfl, hb⟩
  (try go_wp2_with fail)
  replace K5 := K5.on hb
  replace BW := BW.trans (hb.mono BW.size)
  clear hb
  refine hK.out _ _ (by exact K5.cs) (fun hHeld => ?_)
  clear hK
  (try simp only [p0, p1, p2, p3])
  refine pT 16 ?_
  (try simp only [p0, p1, p2, p3])
  refine pT 17 ?_
  (try simp only [p0, p1, p2, p3])
  refine pT 18 ?_
  (try simp only [p0, p1, p2, p3])
  refine pR1 19 (fun K hK => ?_)
  go_simp
  (go_at_call 49; with_reducible refine (nneg _).mono ?_)
  rintro _ w39 ⟨rfl, hb⟩
  (try go_wp2_with fail)
  replace K5 := K5.on hb
  replace BW := BW.trans (hb.mono BW.size)
  clear hb
  refine hK.out _ _ (by exact K5.cs) (fun hHeld => ?_)
  clear hK
  (try simp only [p0, p1, p2, p3])
  refine pT 20 ?_
  (try simp only [p0, p1, p2, p3])
  refine pT 21 ?_
  (try simp only [p0, p1, p2, p3])
  refine pT 22 ?_
  (try simp only [p0, p1, p2, p3])
  refine wpAnyH_done (by kernel_rfl) (NoPanic.normal ?_) _
  go_wp2_with fail
  refine (lives _).mono ?_
  rintro _ w40 ⟨rfl, hb⟩
  replace BW := BW.trans (hb.mono BW.size)
  clear hb
  go_wp2_with fail
  refine (wmulB _).mono ?_
  rintro _ w41 ⟨rfl, hb⟩
  replace BW := BW.trans (hb.mono BW.size)
  clear hb
  go_wp2_with fail
  refine (samecB _ _ _).mono ?_
  rintro _ w42 ⟨rfl, hb⟩
  replace BW := BW.trans (hb.mono BW.size)
  clear hb
  go_wp2_with fail
  refine (wlikeB _).mono ?_
  rintro _ w43 ⟨rfl, hb⟩
  replace BW := BW.trans (hb.mono BW.size)
  clear hb
  go_wp2_with fail
  refine (wnegB _).mono ?_
  rintro _ w44 ⟨rfl, hb⟩
  replace BW := BW.trans (hb.mono BW.size)
  clear hb
  go_wp2_with fail
  refine (wunlikeB _).mono ?_
  rintro _ w45 ⟨rfl, hb⟩
  replace BW := BW.trans (hb.mono BW.size)
  clear hb
  go_wp2_with fail
  go_ret; exact ⟨rfl, BW⟩
end Go.Proofs.Ytgoackkfjieahaa.W
