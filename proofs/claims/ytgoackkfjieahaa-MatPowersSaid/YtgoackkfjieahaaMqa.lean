/-
  Powers add up, a chain is one behind the other (MatPowers): the walk, where the powers have 64 bits together. Condition: numbers of 64 bits.
-/
import Derived.Test.YtgoackkfjieahaaMq0
namespace Go.Proofs.Ytgoackkfjieahaa.W
open Go.RowKit
set_option maxHeartbeats 40000000 in
set_option maxRecDepth 100000 in
theorem powersA (X Sx a1 a2 a3 b1 b2 b3 c1 C1 C2 CB : Mz) (l more : List Mz) (a b : Option Addr) (ca cb j k q m : Nat) (w : World) (HSx : Hid (lowm X = Sx)) (HA : Hid (∀ (i : Nat) (mm : Mz), l[i]? = some mm → ∃ g off : Nat, a = some ⟨g, off, none⟩ ∧ At w g (off + i * 4) (mcv mm))) (HB : Hid (∀ (i : Nat) (mm : Mz), more[i]? = some mm → ∃ g off : Nat, b = some ⟨g, off, none⟩ ∧ At w g (off + i * 4) (mcv mm))) (_hj0 : (0 : Int) ≤ (j : Int)) (_hk0 : (0 : Int) ≤ (k : Int)) (hj : (j : Int) ≤ 18446744073709551615) (hk : (k : Int) ≤ 18446744073709551615) (hq : (q : Int) ≤ 18446744073709551615) (eq1 : (j : Int) + (k : Int) = (q : Int)) (eq2 : IntKind.u64.wrap (q : Int) = (q : Int)) (hjq : (j : Int) ≤ (q : Int)) (_hjb : decide (j ≤ q) = true) (hm : m ≤ 64) (HM : Hid ((j : Int) % 65 = (m : Int))) (em1 : (j : Int) % 65 = (m : Int)) (em2 : (j : Int).tmod 65 = (m : Int)) (i0 : TypeInfo) (hi : Try.prog.info? 31 = some i0) (hz1 : i0.size = 4) (hz2 : i0.bytes = 32) (hz0 : i0.zero = some (.agg #[.int .i64 0, .int .i64 0, .int .i64 0, .int .i64 0])) (H1 : Hid (R.pow ⟨1, 0, 0, 1⟩ X j = a1)) (H2 : Hid (R.pow ⟨1, 0, 0, 1⟩ X k = a2)) (H3 : Hid (R.mul a1 a2 = a3)) (H4 : Hid (R.pow ⟨1, 0, 0, 1⟩ X q = a3)) (G1 : Hid (S.R.pow ⟨1, 0, 0, 1⟩ Sx j = b1)) (G2 : Hid (S.R.pow ⟨1, 0, 0, 1⟩ Sx k = b2)) (G3 : Hid (S.R.mul b1 b2 = b3)) (G4 : Hid (S.R.pow ⟨1, 0, 0, 1⟩ Sx q = b3)) (H5 : Hid (R.chain ⟨1, 0, 0, 1⟩ (List.replicate m X) = c1)) (H6 : Hid (R.pow ⟨1, 0, 0, 1⟩ X m = c1)) (H7 : Hid (R.pow ⟨1, 0, 0, 1⟩ X 0 = ⟨1, 0, 0, 1⟩)) (H8 : Hid (R.pow ⟨1, 0, 0, 1⟩ X 1 = X)) (H9 : Hid (R.chain ⟨1, 0, 0, 1⟩ (l ++ more) = CB)) (H10 : Hid (R.chain ⟨1, 0, 0, 1⟩ more = C2)) (H11 : Hid (R.chain ⟨1, 0, 0, 1⟩ l = C1)) (H12 : Hid (R.mul C2 C1 = CB)) (H13 : Hid (R.chain C1 more = CB)) :
    Calls Try.prog 7 #[mv X, .int .u64 (j : Nat), .int .u64 (k : Nat), .slice a l.length ca, .slice b more.length cb] w (fun e w' => e = .returned (.bool true) ∧ Below w.heap.size w w') := by
  have BW : Below w.heap.size w w := Below.refl _ _
  obtain ⟨V1, e2, hb3, K4, -, -⟩ := alloc_new w [.int .i64 X.a, .int .i64 X.b, .int .i64 X.c, .int .i64 X.d] 23
  replace BW := BW.trans (hb3.mono BW.size)
  clear hb3
  go_enter Try.func7, Try.ntmps7
  go_wp2_with fail
  rw [← e2]
  clear e2
  refine (wrapw X _).mono ?_
  rintro _ w5 ⟨rfl, hb⟩
  replace K4 := K4.on hb
  replace BW := BW.trans (hb.mono BW.size)
  clear hb
  obtain ⟨V6, e7, hb8, K9, -, -⟩ := alloc_new w5 [.int .i64 X.a, .int .i64 X.b, .int .i64 X.c, .int .i64 X.d] 31
  replace K4 := K4.on hb8
  replace BW := BW.trans (hb8.mono BW.size)
  clear hb8
  go_wp2_with fail
  rw [← e7]
  clear e7
  generalize w5.heap.size = b10 at *
  refine (wrapw ⟨1, 0, 0, 1⟩ _).mono ?_
  rintro _ w11 ⟨rfl, hb⟩
  replace K4 := K4.on hb
  replace K9 := K9.on hb
  replace BW := BW.trans (hb.mono BW.size)
  clear hb
  obtain ⟨V12, e13, hb14, K15, -, -⟩ := alloc_new w11 [.int .i64 1, .int .i64 0, .int .i64 0, .int .i64 1] 31
  replace K4 := K4.on hb14
  replace K9 := K9.on hb14
  replace BW := BW.trans (hb14.mono BW.size)
  clear hb14
  obtain ⟨c16, c17, c18, c19⟩ := K4.c4
  rw [e13] at c16 c17 c18 c19
  go_wp2_with fail
  clear c16 c17 c18 c19
  rw [← e13]
  clear e13
  generalize w11.heap.size = b20 at *
  refine (smallT HSx.out).mono ?_
  rintro _ w21 ⟨rfl, hb⟩
  replace K4 := K4.on hb
  replace K9 := K9.on hb
  replace K15 := K15.on hb
  replace BW := BW.trans (hb.mono BW.size)
  clear hb
  obtain ⟨V22, e23, hb24, K25, -, -⟩ := alloc_new w21 [.int .i8 Sx.a, .int .i8 Sx.b, .int .i8 Sx.c, .int .i8 Sx.d] 58
  replace K4 := K4.on hb24
  replace K9 := K9.on hb24
  replace K15 := K15.on hb24
  replace BW := BW.trans (hb24.mono BW.size)
  clear hb24
  go_wp2_with fail
  rw [← e23]
  clear e23
  generalize w21.heap.size = b26 at *
  refine (smallT (x := ⟨1, 0, 0, 1⟩) (y := ⟨1, 0, 0, 1⟩) lowm_one).mono ?_
  rintro _ w27 ⟨rfl, hb⟩
  replace K4 := K4.on hb
  replace K9 := K9.on hb
  replace K15 := K15.on hb
  replace K25 := K25.on hb
  replace BW := BW.trans (hb.mono BW.size)
  clear hb
  obtain ⟨V28, e29, hb30, K31, -, -⟩ := alloc_new w27 [.int .i8 1, .int .i8 0, .int .i8 0, .int .i8 1] 58
  replace K4 := K4.on hb30
  replace K9 := K9.on hb30
  replace K15 := K15.on hb30
  replace K25 := K25.on hb30
  replace BW := BW.trans (hb30.mono BW.size)
  clear hb30
  go_wp2_with fail
  rw [← e29]
  clear e29
  generalize w27.heap.size = b32 at *
  refine wp_region_noPanic ?_
  have hb : Below V28.heap.size V28 V28.drew := (Below.refl _ _).drew
  replace K4 := K4.on hb
  replace K9 := K9.on hb
  replace K15 := K15.on hb
  replace K25 := K25.on hb
  replace K31 := K31.on hb
  replace BW := BW.trans (hb.mono BW.size)
  clear hb
  refine wp_region_held_drew (S := (fun wx => Cs wx (b10) 0 [.int .i64 X.a, .int .i64 X.b, .int .i64 X.c, .int .i64 X.d] ∧ Cs wx (b20) 0 [.int .i64 1, .int .i64 0, .int .i64 0, .int .i64 1] ∧ Cs wx (b26) 0 [.int .i8 Sx.a, .int .i8 Sx.b, .int .i8 Sx.c, .int .i8 Sx.d] ∧ Cs wx (b32) 0 [.int .i8 1, .int .i8 0, .int .i8 0, .int .i8 1])) (by kernel_rfl) (by exact ⟨K9.cs, K15.cs, K25.cs, K31.cs⟩) (fun hHeld => ?_)
  generalize V28.drew = Vd33 at *
  refine pT 0 ?_
  (try simp only [p0, p1, p2, p3])
  refine pT 1 ?_
  (try simp only [p0, p1, p2, p3])
  refine pT 2 ?_
  (try simp only [p0, p1, p2, p3])
  refine pT 4 ?_
  (try simp only [p0, p1, p2, p3])
  refine pT 5 ?_
  (try simp only [p0, p1, p2, p3])
  refine pT 6 ?_
  (try simp only [p0, p1, p2, p3])
  refine pT 9 ?_
  (try simp only [p0, p1, p2, p3])
  refine pT 10 ?_
  (try simp only [p0, p1, p2, p3])
  refine pT 11 ?_
  (try simp only [p0, p1, p2, p3])
  refine pT 12 ?_
  (try simp only [p0, p1, p2, p3])
  refine pT 13 ?_
  (try simp only [p0, p1, p2, p3])
  refine pR1 3 (fun K hK => ?_)
  go_simp
  (go_at_call 21; with_reducible refine (powI rfl hj H1.out).mono ?_)
  rintro _ w34 ⟨rfl, hb⟩
  (try go_wp2_with fail)
  replace K4 := K4.on hb
  replace K9 := K9.on hb
  replace K15 := K15.on hb
  replace K25 := K25.on hb
  replace K31 := K31.on hb
  replace BW := BW.trans (hb.mono BW.size)
  clear hb
  refine hK.out _ _ (by exact ⟨K9.cs, K15.cs, K25.cs, K31.cs⟩) (fun hHeld => ?_)
  clear hK
  (try simp only [p0, p1, p2, p3])
  refine pR1 7 (fun K hK => ?_)
  go_simp
  (go_at_call 21; with_reducible refine (powI rfl hk H2.out).mono ?_)
  rintro _ w35 ⟨rfl, hb⟩
  (try go_wp2_with fail)
  replace K4 := K4.on hb
  replace K9 := K9.on hb
  replace K15 := K15.on hb
  replace K25 := K25.on hb
  replace K31 := K31.on hb
  replace BW := BW.trans (hb.mono BW.size)
  clear hb
  refine hK.out _ _ (by exact ⟨K9.cs, K15.cs, K25.cs, K31.cs⟩) (fun hHeld => ?_)
  clear hK
  (try simp only [p0, p1, p2, p3])
  refine pR1 8 (fun K hK => ?_)
  go_simp
  (go_at_call 13; with_reducible refine (mulT H3.out).mono ?_)
  rintro _ w36 ⟨rfl, hb⟩
  (try go_wp2_with fail)
  replace K4 := K4.on hb
  replace K9 := K9.on hb
  replace K15 := K15.on hb
  replace K25 := K25.on hb
  replace K31 := K31.on hb
  replace BW := BW.trans (hb.mono BW.size)
  clear hb
  refine hK.out _ _ (by exact ⟨K9.cs, K15.cs, K25.cs, K31.cs⟩) (fun hHeld => ?_)
  clear hK
  (try simp only [p0, p1, p2, p3])
  refine pR1 14 (fun K hK => ?_)
  go_simp
  (go_at_call 21; with_reducible refine (powI rfl hq H4.out).mono ?_)
  rintro _ w37 ⟨rfl, hb⟩
  (try go_wp2_with fail)
  replace K4 := K4.on hb
  replace K9 := K9.on hb
  replace K15 := K15.on hb
  replace K25 := K25.on hb
  replace K31 := K31.on hb
  replace BW := BW.trans (hb.mono BW.size)
  clear hb
  refine hK.out _ _ (by exact ⟨K9.cs, K15.cs, K25.cs, K31.cs⟩) (fun hHeld => ?_)
  clear hK
  (try simp only [p0, p1, p2, p3])
  refine pT 15 ?_
  (try simp only [p0, p1, p2, p3])
  refine pT 16 ?_
  (try simp only [p0, p1, p2, p3])
  refine pT 17 ?_
  (try simp only [p0, p1, p2, p3])
  refine pT 18 ?_
  (try simp only [p0, p1, p2, p3])
  refine pT 19 ?_
  (try simp only [p0, p1, p2, p3])
  refine pT 21 ?_
  (try simp only [p0, p1, p2, p3])
  refine pT 22 ?_
  (try simp only [p0, p1, p2, p3])
  refine pT 23 ?_
  (try simp only [p0, p1, p2, p3])
  refine pT 26 ?_
  (try simp only [p0, p1, p2, p3])
  refine pT 27 ?_
  (try simp only [p0, p1, p2, p3])
  refine pT 28 ?_
  (try simp only [p0, p1, p2, p3])
  refine pT 29 ?_
  (try simp only [p0, p1, p2, p3])
  refine pT 30 ?_
  (try simp only [p0, p1, p2, p3])
  refine pR1 20 (fun K hK => ?_)
  go_simp
  (go_at_call 35; with_reducible refine (S.powI rfl hj G1.out).mono ?_)
  rintro _ w38 ⟨rfl, hb⟩
  (try go_wp2_with fail)
  replace K4 := K4.on hb
  replace K9 := K9.on hb
  replace K15 := K15.on hb
  replace K25 := K25.on hb
  replace K31 := K31.on hb
  replace BW := BW.trans (hb.mono BW.size)
  clear hb
  refine hK.out _ _ (by exact ⟨K9.cs, K15.cs, K25.cs, K31.cs⟩) (fun hHeld => ?_)
  clear hK
  (try simp only [p0, p1, p2, p3])
  refine pR1 24 (fun K hK => ?_)
  go_simp
  (go_at_call 35; with_reducible refine (S.powI rfl hk G2.out).mono ?_)
  rintro _ w39 ⟨rfl, hb⟩
  (try go_wp2_with fail)
  replace K4 := K4.on hb
  replace K9 := K9.on hb
  replace K15 := K15.on hb
  replace K25 := K25.on hb
  replace K31 := K31.on hb
  replace BW := BW.trans (hb.mono BW.size)
  clear hb
  refine hK.out _ _ (by exact ⟨K9.cs, K15.cs, K25.cs, K31.cs⟩) (fun hHeld => ?_)
  clear hK
  (try simp only [p0, p1, p2, p3])
  refine pR1 25 (fun K hK => ?_)
  go_simp
  (go_at_call 31; with_reducible refine (S.mulT G3.out).mono ?_)
  rintro _ w40 ⟨rfl, hb⟩
  (try go_wp2_with fail)
  replace K4 := K4.on hb
  replace K9 := K9.on hb
  replace K15 := K15.on hb
  replace K25 := K25.on hb
  replace K31 := K31.on hb
  replace BW := BW.trans (hb.mono BW.size)
  clear hb
  refine hK.out _ _ (by exact ⟨K9.cs, K15.cs, K25.cs, K31.cs⟩) (fun hHeld => ?_)
  clear hK
  (try simp only [p0, p1, p2, p3])
  refine pR1 31 (fun K hK => ?_)
  go_simp
  (go_at_call 35; with_reducible refine (S.powI rfl hq G4.out).mono ?_)
  rintro _ w41 ⟨rfl, hb⟩
  (try go_wp2_with fail)
  replace K4 := K4.on hb
  replace K9 := K9.on hb
  replace K15 := K15.on hb
  replace K25 := K25.on hb
  replace K31 := K31.on hb
  replace BW := BW.trans (hb.mono BW.size)
  clear hb
  refine hK.out _ _ (by exact ⟨K9.cs, K15.cs, K25.cs, K31.cs⟩) (fun hHeld => ?_)
  clear hK
  (try simp only [p0, p1, p2, p3])
  refine pT 32 ?_
  (try simp only [p0, p1, p2, p3])
  refine pT 33 ?_
  (try simp only [p0, p1, p2, p3])
  refine wpAnyH_done (by kernel_rfl) (NoPanic.normal ?_) _
  go_wp2_with fail
  have HB0 := Lib.hid (And.intro BW (And.intro K9 K15))
  clear K4 K9 K15 K25 K31 BW
  go_wp2_with fail
  go_loopg [15, 16] m (fun g vv iv wr => ∃ i : Nat, iv = .int .u64 (i : Nat) ∧ i + g = m ∧ Hid (LRow 4 wr w41.heap.size 31 vv i ((List.replicate i X).flatMap mcv) ∧ Below w41.heap.size w41 wr))
  case atStart => exact ⟨0, rfl, by omega, Lib.hid ⟨LRow.nil _ _ _ _, Below.refl _ _⟩⟩
  case round =>
    obtain ⟨i, rfl, hi1, hrel2⟩ := hrel
    by_cases hlt : i < m
    · have h1 : (i : Int) < (m : Int) := by omega
      have h2 : (0 : Int) ≤ (i : Int) := by omega
      have h3 : (i : Int) ≤ 64 := by omega
      obtain ⟨hrow, hbel⟩ := hrel2.out
      have KX := HB0.out.2.1.on hbel
      obtain ⟨c1, c2, c3, c4⟩ := KX.c4
      obtain ⟨V, e1, hb1, K1, -, -⟩ := alloc_new wr [.int .i64 X.a, .int .i64 X.b, .int .i64 X.c, .int .i64 X.d] 31
      have g2 : Below w41.heap.size w41 V := hbel.trans (hb1.mono hbel.size)
      have HS := Lib.hid (And.intro (hrow.on hb1) (And.intro K1.at_ g2.size))
      have HG := Lib.hid (fun W (h : Below w41.heap.size V W) => g2.trans h)
      rw [e1] at HS HG
      clear e1 hb1 K1 g2 hrow hbel hrel2 KX
      go_wp2_with (at_builtin; refine wpList_append_row _ rfl (.tmp 75) (.tmp 77) 27 rfl 4 w41.heap.size 31 i0 (.agg #[.int .i64 0, .int .i64 0, .int .i64 0, .int .i64 0]) 32 Try.underlying27 hi hz0 (by decide) hz1 hz2 rfl _ i ((List.replicate i X).flatMap mcv) rfl HS.out.1 ⟨wr.heap.size, 0, none⟩ 1 (mcv X) rfl rfl HS.out.2.1 (mcv_one _) (by omega) (by omega) HS.out.2.2 ?_
                   intro v' w3 h4 h5 h6)
      have HV := Lib.hid (And.intro h4 (HG.out _ h5))
      clear h4 h5 h6 HS HG c1 c2 c3 c4
      go_wp2_with fail
      go_roundg (gk - 1)
      case rel => exact ⟨i + 1, by go_num, by omega, Lib.hid ⟨by rw [rep_snoc]; exact HV.out.1, HV.out.2⟩⟩
      case measure => omega
    · obtain rfl : i = m := by omega
      obtain ⟨hrow, hbel⟩ := hrel2.out
      have KX := HB0.out.2.1.on hbel
      have KO := HB0.out.2.2.on hbel
      have BW := HB0.out.1.trans (hbel.mono HB0.out.1.size)
      have HR := LRow.len hrow
      clear hrow hbel hrel2 HB0 hlt hi1
      go_wp2_with fail
      refine wp_region_noPanic ?_
      have hb : Below wr.heap.size wr wr.drew := (Below.refl _ _).drew
      replace KX := KX.on hb
      replace KO := KO.on hb
      replace HR := HR.on hb
      replace BW := BW.trans (hb.mono BW.size)
      clear hb
      refine wp_region_held_drew (S := (fun wx => Cs wx (b10) 0 [.int .i64 X.a, .int .i64 X.b, .int .i64 X.c, .int .i64 X.d] ∧ Cs wx (b20) 0 [.int .i64 1, .int .i64 0, .int .i64 0, .int .i64 1])) (by kernel_rfl) (by exact ⟨KX.cs, KO.cs⟩) (fun hHeld => ?_)
      generalize wr.drew = Vd701 at *
      refine pT 0 ?_
      (try simp only [p0, p1, p2, p3])
      refine pT 1 ?_
      (try simp only [p0, p1, p2, p3])
      refine pT 3 ?_
      (try simp only [p0, p1, p2, p3])
      refine pT 4 ?_
      (try simp only [p0, p1, p2, p3])
      refine pT 5 ?_
      (try simp only [p0, p1, p2, p3])
      refine pT 6 ?_
      (try simp only [p0, p1, p2, p3])
      refine pR1 2 (fun K hK => ?_)
      go_simp
      (go_at_call 23; with_reducible refine (chain_any HR H5.out).mono ?_)
      rintro _ w702 ⟨rfl, hb⟩
      (try go_wp2_with fail)
      replace KX := KX.on hb
      replace KO := KO.on hb
      replace HR := HR.on hb
      replace BW := BW.trans (hb.mono BW.size)
      clear hb
      refine hK.out _ _ (by exact ⟨KX.cs, KO.cs⟩) (fun hHeld => ?_)
      clear hK
      (try simp only [p0, p1, p2, p3])
      refine pR1 7 (fun K hK => ?_)
      go_simp
      (go_at_call 21; with_reducible refine (powI rfl (by omega) H6.out).mono ?_)
      rintro _ w703 ⟨rfl, hb⟩
      (try go_wp2_with fail)
      replace KX := KX.on hb
      replace KO := KO.on hb
      replace HR := HR.on hb
      replace BW := BW.trans (hb.mono BW.size)
      clear hb
      refine hK.out _ _ (by exact ⟨KX.cs, KO.cs⟩) (fun hHeld => ?_)
      clear hK
      (try simp only [p0, p1, p2, p3])
      refine pT 8 ?_
      (try simp only [p0, p1, p2, p3])
      refine pT 9 ?_
      (try simp only [p0, p1, p2, p3])
      refine pT 10 ?_
      (try simp only [p0, p1, p2, p3])
      refine pT 11 ?_
      (try simp only [p0, p1, p2, p3])
      refine pT 13 ?_
      (try simp only [p0, p1, p2, p3])
      refine pR1 12 (fun K hK => ?_)
      go_simp
      (go_at_call 21; with_reducible refine (powI (v := 0) (n := 0) rfl (by decide) H7.out).mono ?_)
      rintro _ w704 ⟨rfl, hb⟩
      (try go_wp2_with fail)
      replace KX := KX.on hb
      replace KO := KO.on hb
      replace HR := HR.on hb
      replace BW := BW.trans (hb.mono BW.size)
      clear hb
      refine hK.out _ _ (by exact ⟨KX.cs, KO.cs⟩) (fun hHeld => ?_)
      clear hK
      (try simp only [p0, p1, p2, p3])
      refine pT 14 ?_
      (try simp only [p0, p1, p2, p3])
      refine pT 15 ?_
      (try simp only [p0, p1, p2, p3])
      refine pT 16 ?_
      (try simp only [p0, p1, p2, p3])
      refine pT 17 ?_
      (try simp only [p0, p1, p2, p3])
      refine pT 18 ?_
      (try simp only [p0, p1, p2, p3])
      refine pT 20 ?_
      (try simp only [p0, p1, p2, p3])
      refine pR1 19 (fun K hK => ?_)
      go_simp
      (go_at_call 21; with_reducible refine (powI (v := 1) (n := 1) rfl (by decide) H8.out).mono ?_)
      rintro _ w705 ⟨rfl, hb⟩
      (try go_wp2_with fail)
      replace KX := KX.on hb
      replace KO := KO.on hb
      replace HR := HR.on hb
      replace BW := BW.trans (hb.mono BW.size)
      clear hb
      refine hK.out _ _ (by exact ⟨KX.cs, KO.cs⟩) (fun hHeld => ?_)
      clear hK
      (try simp only [p0, p1, p2, p3])
      refine pT 21 ?_
      (try simp only [p0, p1, p2, p3])
      refine pT 22 ?_
      (try simp only [p0, p1, p2, p3])
      refine wpAnyH_done (by kernel_rfl) (NoPanic.normal ?_) _
      clear HR
      by_cases hl1 : 65536 < l.length
      · have hd1 : (65536 : Int) < (l.length : Int) := by omega
        go_wp2_with fail
        refine (lives _).mono ?_
        rintro _ w706 ⟨rfl, hb⟩
        replace KX := KX.on hb
        replace KO := KO.on hb
        replace BW := BW.trans (hb.mono BW.size)
        clear hb
        go_wp2
        go_ret; exact ⟨rfl, BW⟩
      · by_cases hl2 : 65536 < more.length
        · have hd1 : (l.length : Int) ≤ 65536 := by omega
          have hd2 : (65536 : Int) < (more.length : Int) := by omega
          go_wp2_with fail
          refine (lives _).mono ?_
          rintro _ w706 ⟨rfl, hb⟩
          replace KX := KX.on hb
          replace KO := KO.on hb
          replace BW := BW.trans (hb.mono BW.size)
          clear hb
          go_wp2
          go_ret; exact ⟨rfl, BW⟩
        · have hd1 : (l.length : Int) ≤ 65536 := by omega
          have hd2 : (more.length : Int) ≤ 65536 := by omega
          go_wp2_with fail
          have HB0 := Lib.hid (And.intro BW KO)
          clear KX KO BW
          go_wp2_with fail
          go_loopg [17, 19, 20] l.length (fun g fv bv iv wx => ∃ i : Nat, iv = .int .i64 (i : Nat) ∧ i + g = l.length ∧ Hid (LRow 4 wx w705.heap.size 31 fv i ((l.take i).flatMap mcv) ∧ LRow 4 wx w705.heap.size 31 bv i ((l.take i).flatMap mcv) ∧ (∀ q, InBlk fv q → ¬ InBlk bv q) ∧ Below w705.heap.size w705 wx))
          case atStart => exact ⟨0, rfl, by omega, Lib.hid ⟨LRow.nil _ _ _ _, LRow.nil _ _ _ _, (fun q h => by obtain ⟨_, _, h⟩ := h; cases h), Below.refl _ _⟩⟩
          case round =>
            obtain ⟨i, rfl, hi1, hrel2⟩ := hrel
            by_cases hlt : i < l.length
            · have h1 : (i : Int) < (l.length : Int) := by omega
              obtain ⟨mm, hmm⟩ : ∃ mm, l[i]? = some mm := ⟨_, List.getElem?_eq_getElem hlt⟩
              obtain ⟨g, off, rfl, KA⟩ := HA.out i mm hmm
              obtain ⟨hrF, hrB, hdis, hbel⟩ := hrel2.out
              have hw0 := HB0.out.1.trans (hbel.mono HB0.out.1.size)
              have KR := KA.on hw0
              obtain ⟨c1, c2, c3, c4⟩ := KR.c4
              have HKA := Lib.hid KA
              have HH := Lib.hid (And.intro hmm (And.intro hrF (And.intro hrB (And.intro hdis (And.intro hbel hw0)))))
              clear KA hmm hrF hrB hdis hbel hw0 KR hrel2
              go_wp2_with fail
              clear c1 c2 c3 c4
              refine (wrapw mm _).mono ?_
              rintro _ w2 ⟨rfl, hb⟩
              obtain ⟨V, e1, hb1, K1, -, -⟩ := alloc_new w2 [.int .i64 mm.a, .int .i64 mm.b, .int .i64 mm.c, .int .i64 mm.d] 31
              have g2 : Below w705.heap.size w705 V := (HH.out.2.2.2.2.1.trans (hb.mono HH.out.2.2.2.2.1.size)).trans (hb1.mono (Nat.le_trans HH.out.2.2.2.2.1.size hb.size))
              have HS := Lib.hid (And.intro ((HH.out.2.1.on hb).on hb1) (And.intro K1.at_ g2.size))
              have HT := Lib.hid (And.intro ((HH.out.2.2.1.on hb).on hb1) g2)
              rw [e1] at HS HT
              clear e1 hb1 K1 g2 hb
              go_wp2_with (at_builtin; refine wpList_append_row _ rfl (.tmp 117) (.tmp 123) 27 rfl 4 w705.heap.size 31 i0 (.agg #[.int .i64 0, .int .i64 0, .int .i64 0, .int .i64 0]) 32 Try.underlying27 hi hz0 (by decide) hz1 hz2 rfl _ i ((l.take i).flatMap mcv) rfl HS.out.1 ⟨w2.heap.size, 0, none⟩ 1 (mcv mm) rfl rfl HS.out.2.1 (mcv_one _) (by omega) (by omega) HS.out.2.2 ?_
                           intro v3 w3 h4 h5 h6
                           have HU := Lib.hid (And.intro h4 (And.intro (HT.out.1.oth h6 HH.out.2.2.2.1) (And.intro (h6.dis HT.out.1.lt HH.out.2.2.2.1) (HT.out.2.trans h5))))
                           clear h4 h5 h6 HS HT
                           have hw3 := HB0.out.1.trans (HU.out.2.2.2.mono HB0.out.1.size)
                           have KR := HKA.out.on hw3
                           obtain ⟨c1, c2, c3, c4⟩ := KR.c4
                           clear hw3 KR)
              clear c1 c2 c3 c4
              refine (wrapw mm _).mono ?_
              rintro _ w4 ⟨rfl, hb⟩
              obtain ⟨V, e1, hb1, K1, -, -⟩ := alloc_new w4 [.int .i64 mm.a, .int .i64 mm.b, .int .i64 mm.c, .int .i64 mm.d] 31
              have g2 : Below w705.heap.size w705 V := (HU.out.2.2.2.trans (hb.mono HU.out.2.2.2.size)).trans (hb1.mono (Nat.le_trans HU.out.2.2.2.size hb.size))
              have HS := Lib.hid (And.intro ((HU.out.2.1.on hb).on hb1) (And.intro K1.at_ g2.size))
              have HT := Lib.hid (And.intro ((HU.out.1.on hb).on hb1) g2)
              rw [e1] at HS HT
              clear e1 hb1 K1 g2 hb
              go_wp2_with (at_builtin; refine wpList_append_row _ rfl (.tmp 125) (.tmp 131) 27 rfl 4 w705.heap.size 31 i0 (.agg #[.int .i64 0, .int .i64 0, .int .i64 0, .int .i64 0]) 32 Try.underlying27 hi hz0 (by decide) hz1 hz2 rfl _ i ((l.take i).flatMap mcv) rfl HS.out.1 ⟨w4.heap.size, 0, none⟩ 1 (mcv mm) rfl rfl HS.out.2.1 (mcv_one _) (by omega) (by omega) HS.out.2.2 ?_
                           intro v5 w5 h4 h5 h6)
              have HX := Lib.hid (And.intro (HT.out.1.oth h6 (fun q h8 h9 => HU.out.2.2.1 q h9 h8)) (And.intro h4 (And.intro (fun q h8 h9 => h6.dis HT.out.1.lt (fun q h10 h11 => HU.out.2.2.1 q h11 h10) q h9 h8) (HT.out.2.trans h5))))
              clear h4 h5 h6 HS HT HU HKA
              go_wp2_with fail
              go_roundg (gk - 1)
              case rel => exact ⟨i + 1, by go_num, by omega, Lib.hid ⟨by rw [take_snoc HH.out.1]; exact HX.out.1, by rw [take_snoc HH.out.1]; exact HX.out.2.1, HX.out.2.2.1, HX.out.2.2.2⟩⟩
              case measure => omega
            · obtain rfl : i = l.length := by omega
              obtain ⟨hrF, hrB, hdis, hbel⟩ := hrel2.out
              rw [List.take_length] at hrF hrB
              have HF := Lib.hid (And.intro hrF (And.intro hrB (And.intro hdis hbel)))
              clear hrF hrB hdis hbel hrel2 hlt hi1
              go_wp2_with fail
              go_loopg [18, 19, 21] more.length (fun g sv bv iv wx => ∃ i : Nat, iv = .int .i64 (i : Nat) ∧ i + g = more.length ∧ Hid ((LRow 4 wx w705.heap.size 31 sv i ((more.take i).flatMap mcv) ∧ LRow 4 wx w705.heap.size 31 bv (l.length + i) ((l ++ more.take i).flatMap mcv) ∧ LRow 4 wx w705.heap.size 31 u17 l.length ((l).flatMap mcv)) ∧ ((∀ q, InBlk sv q → ¬ InBlk bv q) ∧ (∀ q, InBlk sv q → ¬ InBlk u17 q) ∧ ∀ q, InBlk bv q → ¬ InBlk u17 q) ∧ Below w705.heap.size w705 wx))
              case atStart => exact ⟨0, rfl, by omega, Lib.hid ⟨⟨LRow.nil _ _ _ _, by simpa using HF.out.2.1, HF.out.1⟩, ⟨(fun q h => by obtain ⟨_, _, h⟩ := h; cases h), (fun q h => by obtain ⟨_, _, h⟩ := h; cases h), fun q h8 h9 => HF.out.2.2.1 q h9 h8⟩, HF.out.2.2.2⟩⟩
              case round =>
                clear HF
                obtain ⟨i, rfl, hi1, hrel2⟩ := hrel
                by_cases hlt : i < more.length
                · have h1 : (i : Int) < (more.length : Int) := by omega
                  obtain ⟨mm, hmm⟩ : ∃ mm, more[i]? = some mm := ⟨_, List.getElem?_eq_getElem hlt⟩
                  obtain ⟨g, off, rfl, KA⟩ := HB.out i mm hmm
                  obtain ⟨⟨hrS, hrB, hrF⟩, ⟨d1, d2, d3⟩, hbel⟩ := hrel2.out
                  have hw0 := HB0.out.1.trans (hbel.mono HB0.out.1.size)
                  have KR := KA.on hw0
                  obtain ⟨c1, c2, c3, c4⟩ := KR.c4
                  have HKA := Lib.hid KA
                  have HH := Lib.hid (And.intro (And.intro hmm (And.intro hrS (And.intro hrB hrF))) (And.intro (And.intro d1 (And.intro d2 d3)) hbel))
                  clear KA hmm hrS hrB hrF d1 d2 d3 hbel hw0 KR hrel2
                  go_wp2_with fail
                  clear c1 c2 c3 c4
                  refine (wrapw mm _).mono ?_
                  rintro _ w2 ⟨rfl, hb⟩
                  obtain ⟨V, e1, hb1, K1, -, -⟩ := alloc_new w2 [.int .i64 mm.a, .int .i64 mm.b, .int .i64 mm.c, .int .i64 mm.d] 31
                  have g2 : Below w705.heap.size w705 V := (HH.out.2.2.trans (hb.mono HH.out.2.2.size)).trans (hb1.mono (Nat.le_trans HH.out.2.2.size hb.size))
                  have HS := Lib.hid (And.intro ((HH.out.1.2.1.on hb).on hb1) (And.intro K1.at_ g2.size))
                  have HT := Lib.hid (And.intro (And.intro ((HH.out.1.2.2.1.on hb).on hb1) ((HH.out.1.2.2.2.on hb).on hb1)) g2)
                  rw [e1] at HS HT
                  clear e1 hb1 K1 g2 hb
                  go_wp2_with (at_builtin; refine wpList_append_row _ rfl (.tmp 139) (.tmp 145) 27 rfl 4 w705.heap.size 31 i0 (.agg #[.int .i64 0, .int .i64 0, .int .i64 0, .int .i64 0]) 32 Try.underlying27 hi hz0 (by decide) hz1 hz2 rfl _ i ((more.take i).flatMap mcv) rfl HS.out.1 ⟨w2.heap.size, 0, none⟩ 1 (mcv mm) rfl rfl HS.out.2.1 (mcv_one _) (by omega) (by omega) HS.out.2.2 ?_
                               intro v3 w3 h4 h5 h6
                               have HU := Lib.hid (And.intro (And.intro h4 (And.intro (HT.out.1.1.oth h6 HH.out.2.1.1) (HT.out.1.2.oth h6 HH.out.2.1.2.1))) (And.intro (And.intro (h6.dis HT.out.1.1.lt HH.out.2.1.1) (And.intro (h6.dis HT.out.1.2.lt HH.out.2.1.2.1) HH.out.2.1.2.2)) (HT.out.2.trans h5)))
                               clear h4 h5 h6 HS HT
                               have hw3 := HB0.out.1.trans (HU.out.2.2.mono HB0.out.1.size)
                               have KR := HKA.out.on hw3
                               obtain ⟨c1, c2, c3, c4⟩ := KR.c4
                               clear hw3 KR)
                  clear c1 c2 c3 c4
                  refine (wrapw mm _).mono ?_
                  rintro _ w4 ⟨rfl, hb⟩
                  obtain ⟨V, e1, hb1, K1, -, -⟩ := alloc_new w4 [.int .i64 mm.a, .int .i64 mm.b, .int .i64 mm.c, .int .i64 mm.d] 31
                  have g2 : Below w705.heap.size w705 V := (HU.out.2.2.trans (hb.mono HU.out.2.2.size)).trans (hb1.mono (Nat.le_trans HU.out.2.2.size hb.size))
                  have HS := Lib.hid (And.intro ((HU.out.1.2.1.on hb).on hb1) (And.intro K1.at_ g2.size))
                  have HT := Lib.hid (And.intro (And.intro ((HU.out.1.1.on hb).on hb1) ((HU.out.1.2.2.on hb).on hb1)) g2)
                  rw [e1] at HS HT
                  clear e1 hb1 K1 g2 hb
                  go_wp2_with (at_builtin; refine wpList_append_row _ rfl (.tmp 147) (.tmp 153) 27 rfl 4 w705.heap.size 31 i0 (.agg #[.int .i64 0, .int .i64 0, .int .i64 0, .int .i64 0]) 32 Try.underlying27 hi hz0 (by decide) hz1 hz2 rfl _ (l.length + i) ((l ++ more.take i).flatMap mcv) rfl HS.out.1 ⟨w4.heap.size, 0, none⟩ 1 (mcv mm) rfl rfl HS.out.2.1 (mcv_one _) (by omega) (by omega) HS.out.2.2 ?_
                               intro v5 w5 h4 h5 h6)
                  have HX := Lib.hid (And.intro (And.intro (HT.out.1.1.oth h6 (fun q h8 h9 => HU.out.2.1.1 q h9 h8)) (And.intro h4 (HT.out.1.2.oth h6 HU.out.2.1.2.2))) (And.intro (And.intro (fun q h8 h9 => h6.dis HT.out.1.1.lt (fun q h10 h11 => HU.out.2.1.1 q h11 h10) q h9 h8) (And.intro HU.out.2.1.2.1 (h6.dis HT.out.1.2.lt HU.out.2.1.2.2))) (HT.out.2.trans h5)))
                  clear h4 h5 h6 HS HT HU HKA
                  go_wp2_with fail
                  go_roundg (gk - 1)
                  case rel => exact ⟨i + 1, by go_num, by omega, Lib.hid ⟨⟨by rw [take_snoc HH.out.1.1]; exact HX.out.1.1, by rw [app_snoc HH.out.1.1]; exact HX.out.1.2.1, HX.out.1.2.2⟩, HX.out.2.1, HX.out.2.2⟩⟩
                  case measure => omega
                · obtain rfl : i = more.length := by omega
                  obtain ⟨⟨hrS, hrB, hrF⟩, -, hbel⟩ := hrel2.out
                  rw [List.take_length] at hrS hrB
                  have hrB := LRow.len2 hrB
                  have KO := HB0.out.2.on hbel
                  have BW := HB0.out.1.trans (hbel.mono HB0.out.1.size)
                  clear hbel hrel2 HB0 hlt hi1
                  go_wp2_with fail
                  refine wp_region_noPanic ?_
                  have hb : Below wr.heap.size wr wr.drew := (Below.refl _ _).drew
                  replace KO := KO.on hb
                  replace hrS := hrS.on hb
                  replace hrB := hrB.on hb
                  replace hrF := hrF.on hb
                  replace BW := BW.trans (hb.mono BW.size)
                  clear hb
                  refine wp_region_held_drew (S := (fun wx => Cs wx (b20) 0 [.int .i64 1, .int .i64 0, .int .i64 0, .int .i64 1])) (by kernel_rfl) (by exact KO.cs) (fun hHeld => ?_)
                  generalize wr.drew = Vd901 at *
                  refine pT 0 ?_
                  (try simp only [p0, p1, p2, p3])
                  refine pT 1 ?_
                  (try simp only [p0, p1, p2, p3])
                  refine pT 3 ?_
                  (try simp only [p0, p1, p2, p3])
                  refine pT 4 ?_
                  (try simp only [p0, p1, p2, p3])
                  refine pT 6 ?_
                  (try simp only [p0, p1, p2, p3])
                  refine pT 7 ?_
                  (try simp only [p0, p1, p2, p3])
                  refine pR1 2 (fun K hK => ?_)
                  go_simp
                  (go_at_call 23; with_reducible refine (chain_any hrB H9.out).mono ?_)
                  rintro _ w902 ⟨rfl, hb⟩
                  (try go_wp2_with fail)
                  replace KO := KO.on hb
                  replace hrS := hrS.on hb
                  replace hrB := hrB.on hb
                  replace hrF := hrF.on hb
                  replace BW := BW.trans (hb.mono BW.size)
                  clear hb
                  refine hK.out _ _ (by exact KO.cs) (fun hHeld => ?_)
                  clear hK
                  (try simp only [p0, p1, p2, p3])
                  refine pR1 5 (fun K hK => ?_)
                  go_simp
                  (go_at_call 23; with_reducible refine (chain_any hrS H10.out).mono ?_)
                  rintro _ w903 ⟨rfl, hb⟩
                  (try go_wp2_with fail)
                  replace KO := KO.on hb
                  replace hrS := hrS.on hb
                  replace hrB := hrB.on hb
                  replace hrF := hrF.on hb
                  replace BW := BW.trans (hb.mono BW.size)
                  clear hb
                  refine hK.out _ _ (by exact KO.cs) (fun hHeld => ?_)
                  clear hK
                  (try simp only [p0, p1, p2, p3])
                  refine pR1 8 (fun K hK => ?_)
                  go_simp
                  (go_at_call 23; with_reducible refine (chain_any hrF H11.out).mono ?_)
                  rintro _ w904 ⟨rfl, hb⟩
                  (try go_wp2_with fail)
                  replace KO := KO.on hb
                  replace hrS := hrS.on hb
                  replace hrB := hrB.on hb
                  replace hrF := hrF.on hb
                  replace BW := BW.trans (hb.mono BW.size)
                  clear hb
                  refine hK.out _ _ (by exact KO.cs) (fun hHeld => ?_)
                  clear hK
                  (try simp only [p0, p1, p2, p3])
                  refine pR1 9 (fun K hK => ?_)
                  go_simp
                  (go_at_call 13; with_reducible refine (mulT H12.out).mono ?_)
                  rintro _ w905 ⟨rfl, hb⟩
                  (try go_wp2_with fail)
                  replace KO := KO.on hb
                  replace hrS := hrS.on hb
                  replace hrB := hrB.on hb
                  replace hrF := hrF.on hb
                  replace BW := BW.trans (hb.mono BW.size)
                  clear hb
                  refine hK.out _ _ (by exact KO.cs) (fun hHeld => ?_)
                  clear hK
                  (try simp only [p0, p1, p2, p3])
                  refine pT 10 ?_
                  (try simp only [p0, p1, p2, p3])
                  refine pT 11 ?_
                  (try simp only [p0, p1, p2, p3])
                  refine pT 12 ?_
                  (try simp only [p0, p1, p2, p3])
                  refine pT 13 ?_
                  (try simp only [p0, p1, p2, p3])
                  refine pT 15 ?_
                  (try simp only [p0, p1, p2, p3])
                  refine pT 17 ?_
                  (try simp only [p0, p1, p2, p3])
                  refine pT 18 ?_
                  (try simp only [p0, p1, p2, p3])
                  refine pR1 14 (fun K hK => ?_)
                  go_simp
                  (go_at_call 23; with_reducible refine (chain_any hrF H11.out).mono ?_)
                  rintro _ w906 ⟨rfl, hb⟩
                  (try go_wp2_with fail)
                  replace KO := KO.on hb
                  replace hrS := hrS.on hb
                  replace hrB := hrB.on hb
                  replace BW := BW.trans (hb.mono BW.size)
                  clear hb
                  refine hK.out _ _ (by exact KO.cs) (fun hHeld => ?_)
                  clear hK
                  (try simp only [p0, p1, p2, p3])
                  refine pR1 16 (fun K hK => ?_)
                  go_simp
                  (go_at_call 23; with_reducible refine (chain_any hrS H13.out).mono ?_)
                  rintro _ w907 ⟨rfl, hb⟩
                  (try go_wp2_with fail)
                  replace KO := KO.on hb
                  replace hrB := hrB.on hb
                  replace BW := BW.trans (hb.mono BW.size)
                  clear hb
                  refine hK.out _ _ (by exact KO.cs) (fun hHeld => ?_)
                  clear hK
                  (try simp only [p0, p1, p2, p3])
                  refine pR1 19 (fun K hK => ?_)
                  go_simp
                  (go_at_call 23; with_reducible refine (chain_any hrB H9.out).mono ?_)
                  rintro _ w908 ⟨rfl, hb⟩
                  (try go_wp2_with fail)
                  replace KO := KO.on hb
                  replace BW := BW.trans (hb.mono BW.size)
                  clear hb
                  refine hK.out _ _ (by exact KO.cs) (fun hHeld => ?_)
                  clear hK
                  (try simp only [p0, p1, p2, p3])
                  refine pT 20 ?_
                  (try simp only [p0, p1, p2, p3])
                  refine pT 21 ?_
                  (try simp only [p0, p1, p2, p3])
                  refine pT 22 ?_
                  (try simp only [p0, p1, p2, p3])
                  refine pR1 23 (fun K hK => ?_)
                  go_simp
                  (go_at_call 27; with_reducible refine (lives _).mono ?_)
                  rintro _ w909 ⟨rfl, hb⟩
                  (try go_wp2_with fail)
                  replace KO := KO.on hb
                  replace BW := BW.trans (hb.mono BW.size)
                  clear hb
                  refine hK.out _ _ (by exact KO.cs) (fun hHeld => ?_)
                  clear hK
                  (try simp only [p0, p1, p2, p3])
                  refine pT 24 ?_
                  (try simp only [p0, p1, p2, p3])
                  refine pT 25 ?_
                  (try simp only [p0, p1, p2, p3])
                  refine wpAnyH_done (by kernel_rfl) (NoPanic.normal ?_) _
                  go_wp2
                  go_ret; exact ⟨rfl, BW⟩
end Go.Proofs.Ytgoackkfjieahaa.W
