/-
  The document's powers and chains of matrices over any ring. No conditions.
-/
import Derived.Test.YtgoackkfjieahaaMd1
namespace Go.Proofs.Ytgoackkfjieahaa.D
open Go.RowKit
set_option maxHeartbeats 8000000 in
set_option maxRecDepth 100000 in
theorem rpow0 {kk : Int} {R : Rg} (H : RefR kk R) (x y : Mz) (n : Nat) (hn : n < 18446744073709551616) (w : World) :
    Calls Try.prog 22 #[tm kk x, tm kk y, .int .u64 (n : Nat)] w (fun e w' => e = .returned (tm kk (R.pow x y n)) ∧ Below w.heap.size w w') := by
  have hsc := @run_store_c Try.prog
  have BW : Below w.heap.size w w := Below.refl _ _
  obtain ⟨V2, e3, hb4, K5, -, z1⟩ := alloc_new w [.int .i64 kk, .int .i64 x.a, .complex .f64 0 0, .int .i64 kk, .int .i64 x.b, .complex .f64 0 0, .int .i64 kk, .int .i64 x.c, .complex .f64 0 0, .int .i64 kk, .int .i64 x.d, .complex .f64 0 0] 37
  replace BW := BW.trans (hb4.mono BW.size)
  clear hb4
  obtain ⟨V7, e8, hb9, K10, -, z6⟩ := alloc_new V2 [.int .i64 kk, .int .i64 y.a, .complex .f64 0 0, .int .i64 kk, .int .i64 y.b, .complex .f64 0 0, .int .i64 kk, .int .i64 y.c, .complex .f64 0 0, .int .i64 kk, .int .i64 y.d, .complex .f64 0 0] 37
  rw [z1] at K10 z6
  replace K5 := K5.on hb9
  replace BW := BW.trans (hb9.mono BW.size)
  clear hb9
  obtain ⟨V12, e13, hb14, K15, Z16, z11⟩ := alloc_new V7 [.int .i64 0, .int .i64 0, .complex .f64 0 0, .int .i64 0, .int .i64 0, .complex .f64 0 0, .int .i64 0, .int .i64 0, .complex .f64 0 0, .int .i64 0, .int .i64 0, .complex .f64 0 0] 37
  rw [z6] at K15 Z16 z11
  have n17 : w.heap.size ≠ w.heap.size + 1 + 1 := Nat.ne_of_lt (z6 ▸ K5.lt)
  have n18 : w.heap.size + 1 ≠ w.heap.size + 1 + 1 := Nat.ne_of_lt (z6 ▸ K10.lt)
  have g19 : w.heap.size ≤ w.heap.size + 1 + 1 := z6 ▸ BW.size
  replace K5 := K5.on hb14
  replace K10 := K10.on hb14
  replace BW := BW.trans (hb14.mono BW.size)
  clear hb14
  obtain ⟨V21, e22, hb23, K24, Z25, z20⟩ := alloc_new V12 [.int .i64 kk, .int .i64 x.a, .complex .f64 0 0, .int .i64 kk, .int .i64 x.b, .complex .f64 0 0, .int .i64 kk, .int .i64 x.c, .complex .f64 0 0, .int .i64 kk, .int .i64 x.d, .complex .f64 0 0] 37
  rw [z11] at K24 Z25 z20
  have n26 : w.heap.size ≠ w.heap.size + 1 + 1 + 1 := Nat.ne_of_lt (z11 ▸ K5.lt)
  have n27 : w.heap.size + 1 ≠ w.heap.size + 1 + 1 + 1 := Nat.ne_of_lt (z11 ▸ K10.lt)
  have n28 : w.heap.size + 1 + 1 ≠ w.heap.size + 1 + 1 + 1 := Nat.ne_of_lt (z11 ▸ K15.lt)
  have g29 : w.heap.size ≤ w.heap.size + 1 + 1 + 1 := z11 ▸ BW.size
  replace K5 := K5.on hb23
  replace K10 := K10.on hb23
  replace K15 := K15.on hb23
  replace Z16 := Z16.on hb23
  replace BW := BW.trans (hb23.mono BW.size)
  clear hb23
  obtain ⟨V30, e31, hb32, K33, Z34, -⟩ := alloc_new V21 [.int .i64 kk, .int .i64 y.a, .complex .f64 0 0, .int .i64 kk, .int .i64 y.b, .complex .f64 0 0, .int .i64 kk, .int .i64 y.c, .complex .f64 0 0, .int .i64 kk, .int .i64 y.d, .complex .f64 0 0] 37
  rw [z20] at K33 Z34
  have n35 : w.heap.size ≠ w.heap.size + 1 + 1 + 1 + 1 := Nat.ne_of_lt (z20 ▸ K5.lt)
  have n36 : w.heap.size + 1 ≠ w.heap.size + 1 + 1 + 1 + 1 := Nat.ne_of_lt (z20 ▸ K10.lt)
  have n37 : w.heap.size + 1 + 1 ≠ w.heap.size + 1 + 1 + 1 + 1 := Nat.ne_of_lt (z20 ▸ K15.lt)
  have n38 : w.heap.size + 1 + 1 + 1 ≠ w.heap.size + 1 + 1 + 1 + 1 := Nat.ne_of_lt (z20 ▸ K24.lt)
  have g39 : w.heap.size ≤ w.heap.size + 1 + 1 + 1 + 1 := z20 ▸ BW.size
  replace K15 := K15.on hb32
  replace K24 := K24.on hb32
  replace Z16 := Z16.on hb32
  replace Z25 := Z25.on hb32
  replace BW := BW.trans (hb32.mono BW.size)
  clear hb32
  clear z1 z6 z11 z20
  go_enter Try.func22, Try.ntmps22
  go_wp2_with fail
  rw [← e3, ← e8, ← e13, ← e22, ← e31]
  clear e3 e8 e13 e22 e31
  go_wp2_with fail
  have gz : w.heap.size ≤ w.heap.size + 1 + 1 := by omega
  have gg : w.heap.size ≤ w.heap.size + 1 + 1 + 1 := by omega
  have gh : w.heap.size ≤ w.heap.size + 1 + 1 + 1 + 1 := by omega
  have nzg : w.heap.size + 1 + 1 ≠ w.heap.size + 1 + 1 + 1 := by omega
  have nzh : w.heap.size + 1 + 1 ≠ w.heap.size + 1 + 1 + 1 + 1 := by omega
  have ngh : w.heap.size + 1 + 1 + 1 ≠ w.heap.size + 1 + 1 + 1 + 1 := by omega
  generalize w.heap.size + 1 + 1 + 1 + 1 = qh at *
  generalize w.heap.size + 1 + 1 + 1 = qg at *
  generalize w.heap.size + 1 + 1 = qz at *
  go_wp2_with fail
  go_loopw [2] (fun nv wr => ∃ (k : Nat) (r s : Mz), nv = .int .u64 (k : Nat) ∧ (0 : Int) ≤ (k : Int) ∧ (k : Int) ≤ 18446744073709551615 ∧ R.pow r s k = R.pow x y n ∧ Box wr qg [.int .i64 kk, .int .i64 r.a, .complex .f64 0 0, .int .i64 kk, .int .i64 r.b, .complex .f64 0 0, .int .i64 kk, .int .i64 r.c, .complex .f64 0 0, .int .i64 kk, .int .i64 r.d, .complex .f64 0 0] ∧ Fz wr qg ∧ Box wr qh [.int .i64 kk, .int .i64 s.a, .complex .f64 0 0, .int .i64 kk, .int .i64 s.b, .complex .f64 0 0, .int .i64 kk, .int .i64 s.c, .complex .f64 0 0, .int .i64 kk, .int .i64 s.d, .complex .f64 0 0] ∧ Fz wr qh ∧ Box wr qz [.int .i64 0, .int .i64 0, .complex .f64 0 0, .int .i64 0, .int .i64 0, .complex .f64 0 0, .int .i64 0, .int .i64 0, .complex .f64 0 0, .int .i64 0, .int .i64 0, .complex .f64 0 0] ∧ Fz wr qz ∧ Below w.heap.size w wr) (fun nv _ => (intOf nv).toNat)
  case atStart => exact ⟨n, x, y, rfl, by omega, by omega, rfl, K24, Z25, K33, Z34, K15, Z16, BW⟩
  case round =>
    obtain ⟨k, r, s, rfl, hk0, hk1, hpow, Kg, Zg, Kh, Zh, Kz, Zz, BW⟩ := hrel
    have HP := Lib.hid hpow
    clear hpow hn
    by_cases h0 : 0 < k
    · have h1 : (0 : Int) < (k : Int) := by omega
      by_cases ho : k % 2 = 1
      · have hb1 : (k : Int) % 2 = 1 := by omega
        by_cases h2 : 1 < k
        · have h3 : (0 : Int) < (k : Int) / 2 := by omega
          obtain ⟨c501, c502, c503, c504, c505, c506, c507, c508, c509, c510, c511, c512⟩ := Kg.c12
          obtain ⟨c513, c514, c515, c516, c517, c518, c519, c520, c521, c522, c523, c524⟩ := Kh.c12
          go_wp2_with fail
          clear c501 c502 c503 c504 c505 c506 c507 c508 c509 c510 c511 c512 c513 c514 c515 c516 c517 c518 c519 c520 c521 c522 c523 c524
          refine (rmul H _ _ _).mono ?_
          rintro _ w525 ⟨rfl, hb⟩
          replace Kg := Kg.on hb
          replace Kh := Kh.on hb
          replace Kz := Kz.on hb
          replace Zg := Zg.on hb
          replace Zh := Zh.on hb
          replace Zz := Zz.on hb
          replace BW := BW.trans (hb.mono BW.size)
          clear hb
          obtain ⟨c526, c527, c528, c529, c530, c531, c532, c533, c534, c535, c536, c537⟩ := Kg.c12
          obtain ⟨c538, c539, c540, c541, c542, c543, c544, c545, c546, c547, c548, c549⟩ := Zg.f12
          obtain ⟨V550, hk552⟩ : ∃ V550, V550 = w525.setCells (qg) 0 [.int .i64 kk, .int .i64 (R.mul s r).a, .complex .f64 0 0, .int .i64 kk, .int .i64 (R.mul s r).b, .complex .f64 0 0, .int .i64 kk, .int .i64 (R.mul s r).c, .complex .f64 0 0, .int .i64 kk, .int .i64 (R.mul s r).d, .complex .f64 0 0] := ⟨_, rfl⟩
          have e551 := hk552
          simp only [World.setCells, Nat.zero_add, Nat.reduceAdd] at e551
          have hk553 := Kept.overE hk552 Kg rfl (by simp)
          replace Kg := Kg.overE hk552 rfl
          replace Kh := Kh.awayE hk552 ngh.symm
          replace Kz := Kz.awayE hk552 nzg
          replace Zg := Zg.putE hk552
          replace Zh := Zh.putE hk552
          replace Zz := Zz.putE hk552
          replace BW := Below.putE BW hk552 gg
          clear hk552 hk553
          obtain ⟨c554, c555, c556, c557, c558, c559, c560, c561, c562, c563, c564, c565⟩ := Kh.c12
          rw [e551] at c554 c555 c556 c557 c558 c559 c560 c561 c562 c563 c564 c565
          go_wp2_with fail
          clear c526 c527 c528 c529 c530 c531 c532 c533 c534 c535 c536 c537 c538 c539 c540 c541 c542 c543 c544 c545 c546 c547 c548 c549 c554 c555 c556 c557 c558 c559 c560 c561 c562 c563 c564 c565
          rw [← e551]
          clear e551
          refine (rmul H _ _ _).mono ?_
          rintro _ w566 ⟨rfl, hb⟩
          replace Kg := Kg.on hb
          replace Kh := Kh.on hb
          replace Kz := Kz.on hb
          replace Zg := Zg.on hb
          replace Zh := Zh.on hb
          replace Zz := Zz.on hb
          replace BW := BW.trans (hb.mono BW.size)
          clear hb
          obtain ⟨c567, c568, c569, c570, c571, c572, c573, c574, c575, c576, c577, c578⟩ := Kh.c12
          obtain ⟨c579, c580, c581, c582, c583, c584, c585, c586, c587, c588, c589, c590⟩ := Zh.f12
          obtain ⟨V591, hk593⟩ : ∃ V591, V591 = w566.setCells (qh) 0 [.int .i64 kk, .int .i64 (R.mul s s).a, .complex .f64 0 0, .int .i64 kk, .int .i64 (R.mul s s).b, .complex .f64 0 0, .int .i64 kk, .int .i64 (R.mul s s).c, .complex .f64 0 0, .int .i64 kk, .int .i64 (R.mul s s).d, .complex .f64 0 0] := ⟨_, rfl⟩
          have e592 := hk593
          simp only [World.setCells, Nat.zero_add, Nat.reduceAdd] at e592
          have hk594 := Kept.overE hk593 Kh rfl (by simp)
          replace Kg := Kg.awayE hk593 ngh
          replace Kh := Kh.overE hk593 rfl
          replace Kz := Kz.awayE hk593 nzh
          replace Zg := Zg.putE hk593
          replace Zh := Zh.putE hk593
          replace Zz := Zz.putE hk593
          replace BW := Below.putE BW hk593 gh
          clear hk593 hk594
          go_wp2_with fail
          clear c567 c568 c569 c570 c571 c572 c573 c574 c575 c576 c577 c578 c579 c580 c581 c582 c583 c584 c585 c586 c587 c588 c589 c590
          rw [← e592]
          clear e592
          go_wp2
          go_roundw
          case rel => exact ⟨k / 2, (R.mul s r), (R.mul s s), by first | (simp; done) | (simp; omega), by omega, by omega, (R.pow_om ho h2).trans HP.out, Kg, Zg, Kh, Zh, Kz, Zz, BW⟩
          case measure => simp [intOf]; omega
        · have h3 : (k : Int) / 2 = 0 := by omega
          obtain ⟨c501, c502, c503, c504, c505, c506, c507, c508, c509, c510, c511, c512⟩ := Kg.c12
          obtain ⟨c513, c514, c515, c516, c517, c518, c519, c520, c521, c522, c523, c524⟩ := Kh.c12
          go_wp2_with fail
          clear c501 c502 c503 c504 c505 c506 c507 c508 c509 c510 c511 c512 c513 c514 c515 c516 c517 c518 c519 c520 c521 c522 c523 c524
          refine (rmul H _ _ _).mono ?_
          rintro _ w525 ⟨rfl, hb⟩
          replace Kg := Kg.on hb
          replace Kh := Kh.on hb
          replace Kz := Kz.on hb
          replace Zg := Zg.on hb
          replace Zh := Zh.on hb
          replace Zz := Zz.on hb
          replace BW := BW.trans (hb.mono BW.size)
          clear hb
          obtain ⟨c526, c527, c528, c529, c530, c531, c532, c533, c534, c535, c536, c537⟩ := Kg.c12
          obtain ⟨c538, c539, c540, c541, c542, c543, c544, c545, c546, c547, c548, c549⟩ := Zg.f12
          obtain ⟨V550, hk552⟩ : ∃ V550, V550 = w525.setCells (qg) 0 [.int .i64 kk, .int .i64 (R.mul s r).a, .complex .f64 0 0, .int .i64 kk, .int .i64 (R.mul s r).b, .complex .f64 0 0, .int .i64 kk, .int .i64 (R.mul s r).c, .complex .f64 0 0, .int .i64 kk, .int .i64 (R.mul s r).d, .complex .f64 0 0] := ⟨_, rfl⟩
          have e551 := hk552
          simp only [World.setCells, Nat.zero_add, Nat.reduceAdd] at e551
          have hk553 := Kept.overE hk552 Kg rfl (by simp)
          replace Kg := Kg.overE hk552 rfl
          replace Kh := Kh.awayE hk552 ngh.symm
          replace Kz := Kz.awayE hk552 nzg
          replace Zg := Zg.putE hk552
          replace Zh := Zh.putE hk552
          replace Zz := Zz.putE hk552
          replace BW := Below.putE BW hk552 gg
          clear hk552 hk553
          go_wp2_with fail
          clear c526 c527 c528 c529 c530 c531 c532 c533 c534 c535 c536 c537 c538 c539 c540 c541 c542 c543 c544 c545 c546 c547 c548 c549
          rw [← e551]
          clear e551
          go_wp2
          go_roundw
          case rel => exact ⟨k / 2, (R.mul s r), s, by first | (simp; done) | (simp; omega), by omega, by omega, (R.pow_o1 ho h2).trans HP.out, Kg, Zg, Kh, Zh, Kz, Zz, BW⟩
          case measure => simp [intOf]; omega
      · have hb1 : (k : Int) % 2 = 0 := by omega
        have h2 : 1 < k := by omega
        have h3 : (0 : Int) < (k : Int) / 2 := by omega
        obtain ⟨c501, c502, c503, c504, c505, c506, c507, c508, c509, c510, c511, c512⟩ := Kh.c12
        go_wp2_with fail
        clear c501 c502 c503 c504 c505 c506 c507 c508 c509 c510 c511 c512
        refine (rmul H _ _ _).mono ?_
        rintro _ w513 ⟨rfl, hb⟩
        replace Kg := Kg.on hb
        replace Kh := Kh.on hb
        replace Kz := Kz.on hb
        replace Zg := Zg.on hb
        replace Zh := Zh.on hb
        replace Zz := Zz.on hb
        replace BW := BW.trans (hb.mono BW.size)
        clear hb
        obtain ⟨c514, c515, c516, c517, c518, c519, c520, c521, c522, c523, c524, c525⟩ := Kh.c12
        obtain ⟨c526, c527, c528, c529, c530, c531, c532, c533, c534, c535, c536, c537⟩ := Zh.f12
        obtain ⟨V538, hk540⟩ : ∃ V538, V538 = w513.setCells (qh) 0 [.int .i64 kk, .int .i64 (R.mul s s).a, .complex .f64 0 0, .int .i64 kk, .int .i64 (R.mul s s).b, .complex .f64 0 0, .int .i64 kk, .int .i64 (R.mul s s).c, .complex .f64 0 0, .int .i64 kk, .int .i64 (R.mul s s).d, .complex .f64 0 0] := ⟨_, rfl⟩
        have e539 := hk540
        simp only [World.setCells, Nat.zero_add, Nat.reduceAdd] at e539
        have hk541 := Kept.overE hk540 Kh rfl (by simp)
        replace Kg := Kg.awayE hk540 ngh
        replace Kh := Kh.overE hk540 rfl
        replace Kz := Kz.awayE hk540 nzh
        replace Zg := Zg.putE hk540
        replace Zh := Zh.putE hk540
        replace Zz := Zz.putE hk540
        replace BW := Below.putE BW hk540 gh
        clear hk540 hk541
        go_wp2_with fail
        clear c514 c515 c516 c517 c518 c519 c520 c521 c522 c523 c524 c525 c526 c527 c528 c529 c530 c531 c532 c533 c534 c535 c536 c537
        rw [← e539]
        clear e539
        go_wp2
        go_roundw
        case rel => exact ⟨k / 2, r, (R.mul s s), by first | (simp; done) | (simp; omega), by omega, by omega, (R.pow_em ho h2).trans HP.out, Kg, Zg, Kh, Zh, Kz, Zz, BW⟩
        case measure => simp [intOf]; omega
    · obtain rfl : k = 0 := by omega
      obtain ⟨c501, c502, c503, c504, c505, c506, c507, c508, c509, c510, c511, c512⟩ := Kg.c12
      obtain ⟨c513, c514, c515, c516, c517, c518, c519, c520, c521, c522, c523, c524⟩ := Kz.c12
      obtain ⟨c525, c526, c527, c528, c529, c530, c531, c532, c533, c534, c535, c536⟩ := Zz.f12
      obtain ⟨V537, hk539⟩ : ∃ V537, V537 = wr.setCells (qz) 0 [.int .i64 kk, .int .i64 r.a, .complex .f64 0 0, .int .i64 kk, .int .i64 r.b, .complex .f64 0 0, .int .i64 kk, .int .i64 r.c, .complex .f64 0 0, .int .i64 kk, .int .i64 r.d, .complex .f64 0 0] := ⟨_, rfl⟩
      have e538 := hk539
      simp only [World.setCells, Nat.zero_add, Nat.reduceAdd] at e538
      have hk540 := Kept.overE hk539 Kz rfl (by simp)
      replace Kz := Kz.overE hk539 rfl
      replace BW := Below.putE BW hk539 gz
      clear hk539 hk540
      go_wp2_with fail
      clear c501 c502 c503 c504 c505 c506 c507 c508 c509 c510 c511 c512 c513 c514 c515 c516 c517 c518 c519 c520 c521 c522 c523 c524 c525 c526 c527 c528 c529 c530 c531 c532 c533 c534 c535 c536
      rw [← e538]
      clear e538
      obtain ⟨c541, c542, c543, c544, c545, c546, c547, c548, c549, c550, c551, c552⟩ := Kz.c12
      exact bodyPost_ret (v := (.agg #[.int .i64 kk, .int .i64 r.a, .complex .f64 0 0, .int .i64 kk, .int .i64 r.b, .complex .f64 0 0, .int .i64 kk, .int .i64 r.c, .complex .f64 0 0, .int .i64 kk, .int .i64 r.d, .complex .f64 0 0])) (by simp [results, Try.results22, go_sem, c541, c542, c543, c544, c545, c546, c547, c548, c549, c550, c551, c552]) rfl ⟨congrArg (fun z => Ending.returned (tm kk z)) ((R.pow0 r s).symm.trans HP.out), BW⟩
set_option maxHeartbeats 8000000 in
set_option maxRecDepth 100000 in
theorem rchain0 {kk : Int} {R : Rg} (H : RefR kk R) (x : Mz) (xs : List Mz) (g cap : Nat) (w : World) (hg : g < w.heap.size) (hc : xs.length ≤ cap) (hm : cap ≤ 9223372036854775807) (hr : Box w g (xs.flatMap (tcv kk))) :
    Calls Try.prog 24 #[tm kk x, .slice (some ⟨g, 0, none⟩) xs.length cap] w (fun e w' => e = .returned (tm kk (R.chain x xs)) ∧ Below w.heap.size w w') := by
  have hsc := @run_store_c Try.prog
  have BW : Below w.heap.size w w := Below.refl _ _
  obtain ⟨V2, e3, hb4, K5, -, z1⟩ := alloc_new w [.int .i64 kk, .int .i64 x.a, .complex .f64 0 0, .int .i64 kk, .int .i64 x.b, .complex .f64 0 0, .int .i64 kk, .int .i64 x.c, .complex .f64 0 0, .int .i64 kk, .int .i64 x.d, .complex .f64 0 0] 37
  replace BW := BW.trans (hb4.mono BW.size)
  clear hb4
  obtain ⟨V7, e8, hb9, K10, Z11, z6⟩ := alloc_new V2 [.int .i64 0, .int .i64 0, .complex .f64 0 0, .int .i64 0, .int .i64 0, .complex .f64 0 0, .int .i64 0, .int .i64 0, .complex .f64 0 0, .int .i64 0, .int .i64 0, .complex .f64 0 0] 37
  rw [z1] at K10 Z11 z6
  have n12 : w.heap.size ≠ w.heap.size + 1 := Nat.ne_of_lt (z1 ▸ K5.lt)
  have g13 : w.heap.size ≤ w.heap.size + 1 := z1 ▸ BW.size
  replace K5 := K5.on hb9
  replace BW := BW.trans (hb9.mono BW.size)
  clear hb9
  obtain ⟨V14, e15, hb16, K17, Z18, -⟩ := alloc_new V7 [.int .i64 kk, .int .i64 x.a, .complex .f64 0 0, .int .i64 kk, .int .i64 x.b, .complex .f64 0 0, .int .i64 kk, .int .i64 x.c, .complex .f64 0 0, .int .i64 kk, .int .i64 x.d, .complex .f64 0 0] 37
  rw [z6] at K17 Z18
  have n19 : w.heap.size ≠ w.heap.size + 1 + 1 := Nat.ne_of_lt (z6 ▸ K5.lt)
  have n20 : w.heap.size + 1 ≠ w.heap.size + 1 + 1 := Nat.ne_of_lt (z6 ▸ K10.lt)
  have g21 : w.heap.size ≤ w.heap.size + 1 + 1 := z6 ▸ BW.size
  replace K10 := K10.on hb16
  replace Z11 := Z11.on hb16
  replace BW := BW.trans (hb16.mono BW.size)
  clear hb16
  clear z1 z6
  go_enter Try.func24, Try.ntmps24
  go_wp2_with fail
  rw [← e3, ← e8, ← e15]
  clear e3 e8 e15
  go_wp2_with fail
  have gz : w.heap.size ≤ w.heap.size + 1 := by omega
  have gg : w.heap.size ≤ w.heap.size + 1 + 1 := by omega
  have nzg : w.heap.size + 1 ≠ w.heap.size + 1 + 1 := by omega
  generalize w.heap.size + 1 + 1 = pg at *
  generalize w.heap.size + 1 = pz at *
  go_wp2_with fail
  go_loopw [6] (fun iv wr => ∃ k : Nat, iv = .int .i64 (k : Nat) ∧ k ≤ xs.length ∧ Box wr pg [.int .i64 kk, .int .i64 (R.chain x (xs.take k)).a, .complex .f64 0 0, .int .i64 kk, .int .i64 (R.chain x (xs.take k)).b, .complex .f64 0 0, .int .i64 kk, .int .i64 (R.chain x (xs.take k)).c, .complex .f64 0 0, .int .i64 kk, .int .i64 (R.chain x (xs.take k)).d, .complex .f64 0 0] ∧ Fz wr pg ∧ Box wr pz [.int .i64 0, .int .i64 0, .complex .f64 0 0, .int .i64 0, .int .i64 0, .complex .f64 0 0, .int .i64 0, .int .i64 0, .complex .f64 0 0, .int .i64 0, .int .i64 0, .complex .f64 0 0] ∧ Fz wr pz ∧ Below w.heap.size w wr) (fun iv _ => xs.length - (intOf iv).toNat)
  case atStart => exact ⟨0, rfl, by omega, K17, Z18, K10, Z11, BW⟩
  case round =>
    obtain ⟨k, rfl, hk, Kg, Zg, Kz, Zz, BW⟩ := hrel
    by_cases hlt : k < xs.length
    · have h1 : (k : Int) < (xs.length : Int) := by omega
      obtain ⟨m, hm⟩ : ∃ m, xs[k]? = some m := ⟨_, List.getElem?_eq_getElem hlt⟩
      have KR := (hr.on BW).elem (s := 12) (fun _ => rfl) hm
      have HC := Lib.hid (R.chain_step (x := x) hm)
      have ngg : g ≠ pg := by omega
      have ngz : g ≠ pz := by omega
      clear hm hr
      go_wp2_with fail
      obtain ⟨c0, c1, c2, c3, c4, c5, c6, c7, c8, c9, c10, c11⟩ := Kg.c12
      obtain ⟨d0, d1, d2, d3, d4, d5, d6, d7, d8, d9, d10, d11⟩ := KR.c12
      have HG := Lib.hid (And.intro (And.intro Kg Zg) (And.intro (And.intro Kz Zz) BW))
      clear Kg Zg Kz Zz BW KR
      go_region_with (go_at_call 14; with_reducible refine (rmul H m _ _).mono ?_; rintro _ w2 ⟨rfl, hb⟩; have b9 := (Below.refl wr.heap.size wr).drew; obtain ⟨g0, g1, g2, g3, g4, g5, g6, g7, g8, g9, g10, g11⟩ := ((HG.out.1.1.on b9).on hb).c12; obtain ⟨h0, h1, h2, h3, h4, h5, h6, h7, h8, h9, h10, h11⟩ := ((HG.out.1.2.on b9).on hb).f12)
      all_goals
        obtain ⟨V, hk⟩ : ∃ V, V = w2.setCells pg 0 [.int .i64 kk, .int .i64 (R.mul m (R.chain x (xs.take k))).a, .complex .f64 0 0, .int .i64 kk, .int .i64 (R.mul m (R.chain x (xs.take k))).b, .complex .f64 0 0, .int .i64 kk, .int .i64 (R.mul m (R.chain x (xs.take k))).c, .complex .f64 0 0, .int .i64 kk, .int .i64 (R.mul m (R.chain x (xs.take k))).d, .complex .f64 0 0] := ⟨_, rfl⟩
        have e := hk
        simp only [World.setCells, Nat.zero_add, Nat.reduceAdd] at e
        have A1 := ((HG.out.1.1.on b9).on hb).overE hk rfl
        have A2 := ((HG.out.1.2.on b9).on hb).putE hk
        have A3 := ((HG.out.2.1.1.on b9).on hb).awayE hk nzg
        have A4 := ((HG.out.2.1.2.on b9).on hb).putE hk
        have A5 := Below.putE ((HG.out.2.2.trans (b9.mono HG.out.2.2.size)).trans (hb.mono (Nat.le_trans HG.out.2.2.size b9.size))) hk gg
        clear hk g0 g1 g2 g3 g4 g5 g6 g7 g8 g9 g10 g11 h0 h1 h2 h3 h4 h5 h6 h7 h8 h9 h10 h11
        rw [← e]
        clear e
        go_wp2
        go_roundw
        case rel => exact ⟨k + 1, by go_num, by omega, by rw [HC.out]; exact A1, A2, A3, A4, A5⟩
        case measure => simp [intOf]; omega
    · obtain rfl : k = xs.length := by omega
      rw [List.take_length] at Kg
      obtain ⟨c501, c502, c503, c504, c505, c506, c507, c508, c509, c510, c511, c512⟩ := Kg.c12
      obtain ⟨c513, c514, c515, c516, c517, c518, c519, c520, c521, c522, c523, c524⟩ := Kz.c12
      obtain ⟨c525, c526, c527, c528, c529, c530, c531, c532, c533, c534, c535, c536⟩ := Zz.f12
      obtain ⟨V537, hk539⟩ : ∃ V537, V537 = wr.setCells (pz) 0 [.int .i64 kk, .int .i64 (R.chain x xs).a, .complex .f64 0 0, .int .i64 kk, .int .i64 (R.chain x xs).b, .complex .f64 0 0, .int .i64 kk, .int .i64 (R.chain x xs).c, .complex .f64 0 0, .int .i64 kk, .int .i64 (R.chain x xs).d, .complex .f64 0 0] := ⟨_, rfl⟩
      have e538 := hk539
      simp only [World.setCells, Nat.zero_add, Nat.reduceAdd] at e538
      have hk540 := Kept.overE hk539 Kz rfl (by simp)
      replace Kz := Kz.overE hk539 rfl
      replace BW := Below.putE BW hk539 gz
      clear hk539 hk540
      go_wp2_with fail
      clear c501 c502 c503 c504 c505 c506 c507 c508 c509 c510 c511 c512 c513 c514 c515 c516 c517 c518 c519 c520 c521 c522 c523 c524 c525 c526 c527 c528 c529 c530 c531 c532 c533 c534 c535 c536
      rw [← e538]
      clear e538
      obtain ⟨c541, c542, c543, c544, c545, c546, c547, c548, c549, c550, c551, c552⟩ := Kz.c12
      exact bodyPost_ret (v := (.agg #[.int .i64 kk, .int .i64 (R.chain x xs).a, .complex .f64 0 0, .int .i64 kk, .int .i64 (R.chain x xs).b, .complex .f64 0 0, .int .i64 kk, .int .i64 (R.chain x xs).c, .complex .f64 0 0, .int .i64 kk, .int .i64 (R.chain x xs).d, .complex .f64 0 0])) (by simp [results, Try.results24, go_sem, c541, c542, c543, c544, c545, c546, c547, c548, c549, c550, c551, c552]) rfl ⟨rfl, BW⟩
set_option maxHeartbeats 8000000 in
set_option maxRecDepth 100000 in
theorem rchain_nil {kk : Int} (x : Mz) (w : World) :
    Calls Try.prog 24 #[tm kk x, .slice none 0 0] w (fun e w' => e = .returned (tm kk x) ∧ Below w.heap.size w w') := by
  have hsc := @run_store_c Try.prog
  have BW : Below w.heap.size w w := Below.refl _ _
  obtain ⟨V2, e3, hb4, K5, -, z1⟩ := alloc_new w [.int .i64 kk, .int .i64 x.a, .complex .f64 0 0, .int .i64 kk, .int .i64 x.b, .complex .f64 0 0, .int .i64 kk, .int .i64 x.c, .complex .f64 0 0, .int .i64 kk, .int .i64 x.d, .complex .f64 0 0] 37
  replace BW := BW.trans (hb4.mono BW.size)
  clear hb4
  obtain ⟨V7, e8, hb9, K10, Z11, z6⟩ := alloc_new V2 [.int .i64 0, .int .i64 0, .complex .f64 0 0, .int .i64 0, .int .i64 0, .complex .f64 0 0, .int .i64 0, .int .i64 0, .complex .f64 0 0, .int .i64 0, .int .i64 0, .complex .f64 0 0] 37
  rw [z1] at K10 Z11 z6
  have n12 : w.heap.size ≠ w.heap.size + 1 := Nat.ne_of_lt (z1 ▸ K5.lt)
  have g13 : w.heap.size ≤ w.heap.size + 1 := z1 ▸ BW.size
  replace K5 := K5.on hb9
  replace BW := BW.trans (hb9.mono BW.size)
  clear hb9
  obtain ⟨V14, e15, hb16, K17, Z18, -⟩ := alloc_new V7 [.int .i64 kk, .int .i64 x.a, .complex .f64 0 0, .int .i64 kk, .int .i64 x.b, .complex .f64 0 0, .int .i64 kk, .int .i64 x.c, .complex .f64 0 0, .int .i64 kk, .int .i64 x.d, .complex .f64 0 0] 37
  rw [z6] at K17 Z18
  have n19 : w.heap.size ≠ w.heap.size + 1 + 1 := Nat.ne_of_lt (z6 ▸ K5.lt)
  have n20 : w.heap.size + 1 ≠ w.heap.size + 1 + 1 := Nat.ne_of_lt (z6 ▸ K10.lt)
  have g21 : w.heap.size ≤ w.heap.size + 1 + 1 := z6 ▸ BW.size
  replace K10 := K10.on hb16
  replace Z11 := Z11.on hb16
  replace BW := BW.trans (hb16.mono BW.size)
  clear hb16
  clear z1 z6
  go_enter Try.func24, Try.ntmps24
  go_wp2_with fail
  rw [← e3, ← e8, ← e15]
  clear e3 e8 e15
  go_wp2_with fail
  go_wp2_with fail
  refine wp_loop_rounds 1 ?_
  rw [rounds_succ]
  obtain ⟨c22, c23, c24, c25, c26, c27, c28, c29, c30, c31, c32, c33⟩ := K10.c12
  obtain ⟨c34, c35, c36, c37, c38, c39, c40, c41, c42, c43, c44, c45⟩ := Z11.f12
  obtain ⟨c46, c47, c48, c49, c50, c51, c52, c53, c54, c55, c56, c57⟩ := K17.c12
  obtain ⟨V58, hk60⟩ : ∃ V58, V58 = V14.setCells (w.heap.size + 1) 0 [.int .i64 kk, .int .i64 x.a, .complex .f64 0 0, .int .i64 kk, .int .i64 x.b, .complex .f64 0 0, .int .i64 kk, .int .i64 x.c, .complex .f64 0 0, .int .i64 kk, .int .i64 x.d, .complex .f64 0 0] := ⟨_, rfl⟩
  have e59 := hk60
  simp only [World.setCells, Nat.zero_add, Nat.reduceAdd] at e59
  have hk61 := Kept.overE hk60 K10 rfl (by simp)
  replace K10 := K10.overE hk60 rfl
  replace BW := Below.putE BW hk60 g13
  clear hk60 hk61
  go_wp2_with fail
  clear c22 c23 c24 c25 c26 c27 c28 c29 c30 c31 c32 c33 c34 c35 c36 c37 c38 c39 c40 c41 c42 c43 c44 c45 c46 c47 c48 c49 c50 c51 c52 c53 c54 c55 c56 c57
  rw [← e59]
  clear e59
  obtain ⟨c62, c63, c64, c65, c66, c67, c68, c69, c70, c71, c72, c73⟩ := K10.c12
  exact bodyPost_ret (v := (.agg #[.int .i64 kk, .int .i64 x.a, .complex .f64 0 0, .int .i64 kk, .int .i64 x.b, .complex .f64 0 0, .int .i64 kk, .int .i64 x.c, .complex .f64 0 0, .int .i64 kk, .int .i64 x.d, .complex .f64 0 0])) (by simp [results, Try.results24, go_sem, c62, c63, c64, c65, c66, c67, c68, c69, c70, c71, c72, c73]) rfl ⟨rfl, BW⟩
theorem rchain {kk : Int} {R : Rg} (H : RefR kk R) {x : Mz} {xs : List Mz} {B : Nat} {e : TypeId} {v : Value} {w : World} (h : LRow 12 w B e v xs.length (xs.flatMap (tcv kk))) :
    Calls Try.prog 24 #[tm kk x, v] w (fun e w' => e = .returned (tm kk (R.chain x xs)) ∧ Below w.heap.size w w') := by
  cases xs with
  | nil =>
    obtain ⟨_, ⟨rfl, _⟩ | ⟨g, cap, cur, rfl, h3, h4, h5, h6, h7, h8⟩⟩ := h
    · exact rchain_nil x w
    · exact rchain0 H x [] g cap w (Array.getElem?_eq_some_iff.1 h4).1 h5 (by simpa [maxLen] using h6) ⟨(Array.getElem?_eq_some_iff.1 h4).1, fun i v e => by simp at e⟩
  | cons m r =>
    obtain ⟨g, cap, rfl, h1, h2, h3, h4⟩ := h.box (by simp)
    exact rchain0 H x (m :: r) g cap w h4.lt h1 (by simpa [maxLen] using h2) h4
end Go.Proofs.Ytgoackkfjieahaa.D
