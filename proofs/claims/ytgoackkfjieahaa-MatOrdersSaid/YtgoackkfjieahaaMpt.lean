/-
  Powers and chains of matrices over a ring that tells what is done: what the program's functions return. No conditions.
-/
import Derived.Test.YtgoackkfjieahaaMrt
import Derived.Test.YtgoackkfjieahaaMr1
import Derived.Test.YtgoackkfjieahaaMls
namespace Go.Proofs.Ytgoackkfjieahaa.T
open Go.RowKit
set_option maxHeartbeats 8000000 in
set_option maxRecDepth 20000 in
theorem power0 {R : Rg} (hR : Hid (R = rt)) (x y : Mz) (n : Nat) (hn : n < 18446744073709551616) (w : World) :
    Calls Try.prog 44 #[mv x, mv y, .int .u64 (n : Nat)] w (fun e w' => e = .returned (mv (R.pow x y n)) ∧ Below w.heap.size w w') := by
  have BW : Below w.heap.size w w := Below.refl _ _
  obtain ⟨V2, e3, hb4, K5, -, z1⟩ := alloc_new w [.int .i64 x.a, .int .i64 x.b, .int .i64 x.c, .int .i64 x.d] 71
  replace BW := BW.trans (hb4.mono BW.size)
  clear hb4
  obtain ⟨V7, e8, hb9, K10, -, z6⟩ := alloc_new V2 [.int .i64 y.a, .int .i64 y.b, .int .i64 y.c, .int .i64 y.d] 71
  rw [z1] at K10 z6
  replace K5 := K5.on hb9
  replace BW := BW.trans (hb9.mono BW.size)
  clear hb9
  obtain ⟨V11, e12, hb13, K14, Z15, -⟩ := alloc_new V7 [.int .i64 0, .int .i64 0, .int .i64 0, .int .i64 0] 71
  rw [z6] at K14 Z15
  have n16 : w.heap.size ≠ w.heap.size + 1 + 1 := Nat.ne_of_lt (z6 ▸ K5.lt)
  have n17 : w.heap.size + 1 ≠ w.heap.size + 1 + 1 := Nat.ne_of_lt (z6 ▸ K10.lt)
  have g18 : w.heap.size ≤ w.heap.size + 1 + 1 := z6 ▸ BW.size
  replace K5 := K5.on hb13
  replace K10 := K10.on hb13
  replace BW := BW.trans (hb13.mono BW.size)
  clear hb13
  clear z1 z6
  go_enter Try.func44, Try.ntmps44
  go_wp2_with fail
  rw [← e3, ← e8, ← e12]
  clear e3 e8 e12
  have gz : w.heap.size ≤ w.heap.size + 1 + 1 := by omega
  generalize w.heap.size + 1 + 1 = pz at *
  go_cut [7, 8] (fun sg sh wx => ∃ pg ph : Nat, sg = .pointer (some ⟨pg, 0, none⟩) ∧ sh = .pointer (some ⟨ph, 0, none⟩) ∧ Box wx pg [.int .i64 x.a, .int .i64 x.b, .int .i64 x.c, .int .i64 x.d] ∧ Fz wx pg ∧ Box wx ph [.int .i64 y.a, .int .i64 y.b, .int .i64 y.c, .int .i64 y.d] ∧ Fz wx ph ∧ pg ≠ ph ∧ w.heap.size ≤ pg ∧ w.heap.size ≤ ph ∧ pz ≠ pg ∧ pz ≠ ph ∧ Box wx pz [.int .i64 0, .int .i64 0, .int .i64 0, .int .i64 0] ∧ Fz wx pz ∧ Below w.heap.size w wx)
  case first =>
    refine wp_region_noPanic ?_
    have hb : Below V11.heap.size V11 V11.drew := (Below.refl _ _).drew
    replace K5 := K5.on hb
    replace K10 := K10.on hb
    replace K14 := K14.on hb
    replace Z15 := Z15.on hb
    replace BW := BW.trans (hb.mono BW.size)
    clear hb
    refine wp_region_held_drew (S := (fun wx => Cs wx (w.heap.size) 0 [.int .i64 x.a, .int .i64 x.b, .int .i64 x.c, .int .i64 x.d] ∧ Cs wx (w.heap.size + 1) 0 [.int .i64 y.a, .int .i64 y.b, .int .i64 y.c, .int .i64 y.d])) (by kernel_rfl) (by exact ⟨K5.cs, K10.cs⟩) (fun hHeld => ?_)
    generalize V11.drew = Vd19 at *
    refine pT 0 ?_
    (try simp only [p0, p1, p2, p3])
    refine pT 1 ?_
    (try simp only [p0, p1, p2, p3])
    refine pR2 2 3 (fun K hK => ?_) (fun K hK => ?_)
    · go_simp
      obtain ⟨V20, e21, hb22, K23, Z24, -⟩ := alloc_new Vd19 [.int .i64 0, .int .i64 0, .int .i64 0, .int .i64 0] 71
      have n25 : w.heap.size ≠ Vd19.heap.size := Nat.ne_of_lt (K5.lt)
      have n26 : w.heap.size + 1 ≠ Vd19.heap.size := Nat.ne_of_lt (K10.lt)
      have n27 : pz ≠ Vd19.heap.size := Nat.ne_of_lt (K14.lt)
      have g28 : w.heap.size ≤ Vd19.heap.size := BW.size
      replace K5 := K5.on hb22
      replace K10 := K10.on hb22
      replace K14 := K14.on hb22
      replace Z15 := Z15.on hb22
      replace BW := BW.trans (hb22.mono BW.size)
      clear hb22
      rw [← e21]
      clear e21
      generalize Vd19.heap.size = b29 at *
      refine hK.out _ _ (by exact ⟨K5.cs, K10.cs⟩) (fun hHeld => ?_)
      clear hK
      (try simp only [p0, p1, p2, p3])
      refine pR1 3 (fun K hK => ?_)
      go_simp
      obtain ⟨V30, e31, hb32, K33, Z34, -⟩ := alloc_new V20 [.int .i64 0, .int .i64 0, .int .i64 0, .int .i64 0] 71
      have n35 : w.heap.size ≠ V20.heap.size := Nat.ne_of_lt (K5.lt)
      have n36 : w.heap.size + 1 ≠ V20.heap.size := Nat.ne_of_lt (K10.lt)
      have n37 : pz ≠ V20.heap.size := Nat.ne_of_lt (K14.lt)
      have n38 : b29 ≠ V20.heap.size := Nat.ne_of_lt (K23.lt)
      have g39 : w.heap.size ≤ V20.heap.size := BW.size
      replace K5 := K5.on hb32
      replace K10 := K10.on hb32
      replace K14 := K14.on hb32
      replace K23 := K23.on hb32
      replace Z15 := Z15.on hb32
      replace Z24 := Z24.on hb32
      replace BW := BW.trans (hb32.mono BW.size)
      clear hb32
      rw [← e31]
      clear e31
      generalize V20.heap.size = b40 at *
      refine hK.out _ _ (by exact ⟨K5.cs, K10.cs⟩) (fun hHeld => ?_)
      clear hK
      (try simp only [p0, p1, p2, p3])
      refine pR1 4 (fun K hK => ?_)
      obtain ⟨c41, c42, c43, c44⟩ := K23.c4
      obtain ⟨c45, c46, c47, c48⟩ := Z24.f4
      go_simp
      clear c41 c42 c43 c44 c45 c46 c47 c48
      obtain ⟨V49, hk51⟩ : ∃ V49, V49 = V30.setCells (b29) 0 [.int .i64 x.a, .int .i64 x.b, .int .i64 x.c, .int .i64 x.d] := ⟨_, rfl⟩
      have e50 := hk51
      simp only [World.setCells, Nat.zero_add, Nat.reduceAdd] at e50
      have hk52 := Kept.overE hk51 K23 rfl (by simp)
      replace K5 := K5.awayE hk51 n25
      replace K10 := K10.awayE hk51 n26
      replace K14 := K14.awayE hk51 n27
      replace K23 := K23.overE hk51 rfl
      replace K33 := K33.awayE hk51 n38.symm
      replace Z15 := Z15.putE hk51
      replace Z24 := Z24.putE hk51
      replace Z34 := Z34.putE hk51
      replace BW := Below.putE BW hk51 g28
      clear hk51 hk52
      rw [← e50]
      clear e50
      refine hK.out _ _ (by exact ⟨K5.cs, K10.cs⟩) (fun hHeld => ?_)
      clear hK
      (try simp only [p0, p1, p2, p3])
      refine pR1 5 (fun K hK => ?_)
      obtain ⟨c53, c54, c55, c56⟩ := K33.c4
      obtain ⟨c57, c58, c59, c60⟩ := Z34.f4
      go_simp
      clear c53 c54 c55 c56 c57 c58 c59 c60
      obtain ⟨V61, hk63⟩ : ∃ V61, V61 = V49.setCells (b40) 0 [.int .i64 y.a, .int .i64 y.b, .int .i64 y.c, .int .i64 y.d] := ⟨_, rfl⟩
      have e62 := hk63
      simp only [World.setCells, Nat.zero_add, Nat.reduceAdd] at e62
      have hk64 := Kept.overE hk63 K33 rfl (by simp)
      replace K5 := K5.awayE hk63 n35
      replace K10 := K10.awayE hk63 n36
      replace K14 := K14.awayE hk63 n37
      replace K23 := K23.awayE hk63 n38
      replace K33 := K33.overE hk63 rfl
      replace Z15 := Z15.putE hk63
      replace Z24 := Z24.putE hk63
      replace Z34 := Z34.putE hk63
      replace BW := Below.putE BW hk63 g39
      clear hk63 hk64
      rw [← e62]
      clear e62
      refine hK.out _ _ (by exact ⟨K5.cs, K10.cs⟩) (fun hHeld => ?_)
      clear hK
      (try simp only [p0, p1, p2, p3])
      refine wpAnyH_done (by kernel_rfl) (NoPanic.normal ?_) _
      go_wp2
      go_meet
      exact ⟨b29, b40, rfl, rfl, K23, Z24, K33, Z34, n38, g28, g39, n27, n37, K14, Z15, BW⟩
    · go_simp
      obtain ⟨V20, e21, hb22, K23, Z24, -⟩ := alloc_new Vd19 [.int .i64 0, .int .i64 0, .int .i64 0, .int .i64 0] 71
      have n25 : w.heap.size ≠ Vd19.heap.size := Nat.ne_of_lt (K5.lt)
      have n26 : w.heap.size + 1 ≠ Vd19.heap.size := Nat.ne_of_lt (K10.lt)
      have n27 : pz ≠ Vd19.heap.size := Nat.ne_of_lt (K14.lt)
      have g28 : w.heap.size ≤ Vd19.heap.size := BW.size
      replace K5 := K5.on hb22
      replace K10 := K10.on hb22
      replace K14 := K14.on hb22
      replace Z15 := Z15.on hb22
      replace BW := BW.trans (hb22.mono BW.size)
      clear hb22
      rw [← e21]
      clear e21
      generalize Vd19.heap.size = b29 at *
      refine hK.out _ _ (by exact ⟨K5.cs, K10.cs⟩) (fun hHeld => ?_)
      clear hK
      (try simp only [p0, p1, p2, p3])
      refine pR1 2 (fun K hK => ?_)
      go_simp
      obtain ⟨V30, e31, hb32, K33, Z34, -⟩ := alloc_new V20 [.int .i64 0, .int .i64 0, .int .i64 0, .int .i64 0] 71
      have n35 : w.heap.size ≠ V20.heap.size := Nat.ne_of_lt (K5.lt)
      have n36 : w.heap.size + 1 ≠ V20.heap.size := Nat.ne_of_lt (K10.lt)
      have n37 : pz ≠ V20.heap.size := Nat.ne_of_lt (K14.lt)
      have n38 : b29 ≠ V20.heap.size := Nat.ne_of_lt (K23.lt)
      have g39 : w.heap.size ≤ V20.heap.size := BW.size
      replace K5 := K5.on hb32
      replace K10 := K10.on hb32
      replace K14 := K14.on hb32
      replace K23 := K23.on hb32
      replace Z15 := Z15.on hb32
      replace Z24 := Z24.on hb32
      replace BW := BW.trans (hb32.mono BW.size)
      clear hb32
      rw [← e31]
      clear e31
      generalize V20.heap.size = b40 at *
      refine hK.out _ _ (by exact ⟨K5.cs, K10.cs⟩) (fun hHeld => ?_)
      clear hK
      (try simp only [p0, p1, p2, p3])
      refine pR1 4 (fun K hK => ?_)
      obtain ⟨c41, c42, c43, c44⟩ := K33.c4
      obtain ⟨c45, c46, c47, c48⟩ := Z34.f4
      go_simp
      clear c41 c42 c43 c44 c45 c46 c47 c48
      obtain ⟨V49, hk51⟩ : ∃ V49, V49 = V30.setCells (b40) 0 [.int .i64 x.a, .int .i64 x.b, .int .i64 x.c, .int .i64 x.d] := ⟨_, rfl⟩
      have e50 := hk51
      simp only [World.setCells, Nat.zero_add, Nat.reduceAdd] at e50
      have hk52 := Kept.overE hk51 K33 rfl (by simp)
      replace K5 := K5.awayE hk51 n35
      replace K10 := K10.awayE hk51 n36
      replace K14 := K14.awayE hk51 n37
      replace K23 := K23.awayE hk51 n38
      replace K33 := K33.overE hk51 rfl
      replace Z15 := Z15.putE hk51
      replace Z24 := Z24.putE hk51
      replace Z34 := Z34.putE hk51
      replace BW := Below.putE BW hk51 g39
      clear hk51 hk52
      rw [← e50]
      clear e50
      refine hK.out _ _ (by exact ⟨K5.cs, K10.cs⟩) (fun hHeld => ?_)
      clear hK
      (try simp only [p0, p1, p2, p3])
      refine pR1 5 (fun K hK => ?_)
      obtain ⟨c53, c54, c55, c56⟩ := K23.c4
      obtain ⟨c57, c58, c59, c60⟩ := Z24.f4
      go_simp
      clear c53 c54 c55 c56 c57 c58 c59 c60
      obtain ⟨V61, hk63⟩ : ∃ V61, V61 = V49.setCells (b29) 0 [.int .i64 y.a, .int .i64 y.b, .int .i64 y.c, .int .i64 y.d] := ⟨_, rfl⟩
      have e62 := hk63
      simp only [World.setCells, Nat.zero_add, Nat.reduceAdd] at e62
      have hk64 := Kept.overE hk63 K23 rfl (by simp)
      replace K5 := K5.awayE hk63 n25
      replace K10 := K10.awayE hk63 n26
      replace K14 := K14.awayE hk63 n27
      replace K23 := K23.overE hk63 rfl
      replace K33 := K33.awayE hk63 n38.symm
      replace Z15 := Z15.putE hk63
      replace Z24 := Z24.putE hk63
      replace Z34 := Z34.putE hk63
      replace BW := Below.putE BW hk63 g28
      clear hk63 hk64
      rw [← e62]
      clear e62
      refine hK.out _ _ (by exact ⟨K5.cs, K10.cs⟩) (fun hHeld => ?_)
      clear hK
      (try simp only [p0, p1, p2, p3])
      refine wpAnyH_done (by kernel_rfl) (NoPanic.normal ?_) _
      go_wp2
      go_meet
      exact ⟨b40, b29, rfl, rfl, K33, Z34, K23, Z24, n38.symm, g39, g28, n37, n27, K14, Z15, BW⟩
  case rest =>
    obtain ⟨pg, ph, rfl, rfl, Kg, Zg, Kh, Zh, ngh, wg, wh, nzg, nzh, Kz, Zz, BW⟩ := hcut
    go_wp2_with fail
    go_loopw [2] (fun nv wr => ∃ (k : Nat) (r s : Mz), nv = .int .u64 (k : Nat) ∧ (0 : Int) ≤ (k : Int) ∧ (k : Int) ≤ 18446744073709551615 ∧ R.pow r s k = R.pow x y n ∧ Box wr pg [.int .i64 r.a, .int .i64 r.b, .int .i64 r.c, .int .i64 r.d] ∧ Fz wr pg ∧ Box wr ph [.int .i64 s.a, .int .i64 s.b, .int .i64 s.c, .int .i64 s.d] ∧ Fz wr ph ∧ pg ≠ ph ∧ w.heap.size ≤ pg ∧ w.heap.size ≤ ph ∧ pz ≠ pg ∧ pz ≠ ph ∧ Box wr pz [.int .i64 0, .int .i64 0, .int .i64 0, .int .i64 0] ∧ Fz wr pz ∧ Below w.heap.size w wr) (fun nv _ => (intOf nv).toNat)
    case atStart => exact ⟨n, x, y, rfl, by omega, by omega, rfl, Kg, Zg, Kh, Zh, ngh, wg, wh, nzg, nzh, Kz, Zz, BW⟩
    case round =>
      obtain ⟨k, r, s, rfl, hk0, hk1, hpow, Kg, Zg, Kh, Zh, ngh, wg, wh, nzg, nzh, Kz, Zz, BW⟩ := hrel
      have HP := Lib.hid hpow
      clear hpow hn
      by_cases h0 : 0 < k
      · have h1 : (0 : Int) < (k : Int) := by omega
        by_cases ho : k % 2 = 1
        · have hb1 := odd_yes (k := k) (by omega) ho
          by_cases h2 : 1 < k
          · have h3 : (1 : Int) < (k : Int) := by omega
            obtain ⟨c501, c502, c503, c504⟩ := Kg.c4
            obtain ⟨c505, c506, c507, c508⟩ := Kh.c4
            go_wp2_with fail
            clear c501 c502 c503 c504 c505 c506 c507 c508
            refine (mul hR _ _ _).mono ?_
            rintro _ w509 ⟨rfl, hb⟩
            replace Kg := Kg.on hb
            replace Kh := Kh.on hb
            replace Kz := Kz.on hb
            replace Zg := Zg.on hb
            replace Zh := Zh.on hb
            replace Zz := Zz.on hb
            replace BW := BW.trans (hb.mono BW.size)
            clear hb
            obtain ⟨c510, c511, c512, c513⟩ := Kg.c4
            obtain ⟨c514, c515, c516, c517⟩ := Zg.f4
            obtain ⟨V518, hk520⟩ : ∃ V518, V518 = w509.setCells (pg) 0 [.int .i64 (R.mul s r).a, .int .i64 (R.mul s r).b, .int .i64 (R.mul s r).c, .int .i64 (R.mul s r).d] := ⟨_, rfl⟩
            have e519 := hk520
            simp only [World.setCells, Nat.zero_add, Nat.reduceAdd] at e519
            have hk521 := Kept.overE hk520 Kg rfl (by simp)
            replace Kg := Kg.overE hk520 rfl
            replace Kh := Kh.awayE hk520 ngh.symm
            replace Kz := Kz.awayE hk520 nzg
            replace Zg := Zg.putE hk520
            replace Zh := Zh.putE hk520
            replace Zz := Zz.putE hk520
            replace BW := Below.putE BW hk520 wg
            clear hk520 hk521
            obtain ⟨c522, c523, c524, c525⟩ := Kh.c4
            rw [e519] at c522 c523 c524 c525
            go_wp2_with fail
            clear c510 c511 c512 c513 c514 c515 c516 c517 c522 c523 c524 c525
            rw [← e519]
            clear e519
            refine (mul hR _ _ _).mono ?_
            rintro _ w526 ⟨rfl, hb⟩
            replace Kg := Kg.on hb
            replace Kh := Kh.on hb
            replace Kz := Kz.on hb
            replace Zg := Zg.on hb
            replace Zh := Zh.on hb
            replace Zz := Zz.on hb
            replace BW := BW.trans (hb.mono BW.size)
            clear hb
            obtain ⟨c527, c528, c529, c530⟩ := Kh.c4
            obtain ⟨c531, c532, c533, c534⟩ := Zh.f4
            obtain ⟨V535, hk537⟩ : ∃ V535, V535 = w526.setCells (ph) 0 [.int .i64 (R.mul s s).a, .int .i64 (R.mul s s).b, .int .i64 (R.mul s s).c, .int .i64 (R.mul s s).d] := ⟨_, rfl⟩
            have e536 := hk537
            simp only [World.setCells, Nat.zero_add, Nat.reduceAdd] at e536
            have hk538 := Kept.overE hk537 Kh rfl (by simp)
            replace Kg := Kg.awayE hk537 ngh
            replace Kh := Kh.overE hk537 rfl
            replace Kz := Kz.awayE hk537 nzh
            replace Zg := Zg.putE hk537
            replace Zh := Zh.putE hk537
            replace Zz := Zz.putE hk537
            replace BW := Below.putE BW hk537 wh
            clear hk537 hk538
            go_wp2_with fail
            clear c527 c528 c529 c530 c531 c532 c533 c534
            rw [← e536]
            clear e536
            go_wp2
            go_roundw
            case rel => exact ⟨k / 2, (R.mul s r), (R.mul s s), by simp, by omega, by omega, (R.pow_om ho h2).trans HP.out, Kg, Zg, Kh, Zh, ngh, wg, wh, nzg, nzh, Kz, Zz, BW⟩
            case measure => simp [intOf]; omega
          · have h3 : (k : Int) ≤ 1 := by omega
            obtain ⟨c501, c502, c503, c504⟩ := Kg.c4
            obtain ⟨c505, c506, c507, c508⟩ := Kh.c4
            go_wp2_with fail
            clear c501 c502 c503 c504 c505 c506 c507 c508
            refine (mul hR _ _ _).mono ?_
            rintro _ w509 ⟨rfl, hb⟩
            replace Kg := Kg.on hb
            replace Kh := Kh.on hb
            replace Kz := Kz.on hb
            replace Zg := Zg.on hb
            replace Zh := Zh.on hb
            replace Zz := Zz.on hb
            replace BW := BW.trans (hb.mono BW.size)
            clear hb
            obtain ⟨c510, c511, c512, c513⟩ := Kg.c4
            obtain ⟨c514, c515, c516, c517⟩ := Zg.f4
            obtain ⟨V518, hk520⟩ : ∃ V518, V518 = w509.setCells (pg) 0 [.int .i64 (R.mul s r).a, .int .i64 (R.mul s r).b, .int .i64 (R.mul s r).c, .int .i64 (R.mul s r).d] := ⟨_, rfl⟩
            have e519 := hk520
            simp only [World.setCells, Nat.zero_add, Nat.reduceAdd] at e519
            have hk521 := Kept.overE hk520 Kg rfl (by simp)
            replace Kg := Kg.overE hk520 rfl
            replace Kh := Kh.awayE hk520 ngh.symm
            replace Kz := Kz.awayE hk520 nzg
            replace Zg := Zg.putE hk520
            replace Zh := Zh.putE hk520
            replace Zz := Zz.putE hk520
            replace BW := Below.putE BW hk520 wg
            clear hk520 hk521
            go_wp2_with fail
            clear c510 c511 c512 c513 c514 c515 c516 c517
            rw [← e519]
            clear e519
            go_wp2
            go_roundw
            case rel => exact ⟨k / 2, (R.mul s r), s, by simp, by omega, by omega, (R.pow_o1 ho h2).trans HP.out, Kg, Zg, Kh, Zh, ngh, wg, wh, nzg, nzh, Kz, Zz, BW⟩
            case measure => simp [intOf]; omega
        · have hb1 := odd_no (k := k) (by omega) ho
          have h2 : 1 < k := by omega
          have h3 : (1 : Int) < (k : Int) := by omega
          obtain ⟨c501, c502, c503, c504⟩ := Kh.c4
          go_wp2_with fail
          clear c501 c502 c503 c504
          refine (mul hR _ _ _).mono ?_
          rintro _ w505 ⟨rfl, hb⟩
          replace Kg := Kg.on hb
          replace Kh := Kh.on hb
          replace Kz := Kz.on hb
          replace Zg := Zg.on hb
          replace Zh := Zh.on hb
          replace Zz := Zz.on hb
          replace BW := BW.trans (hb.mono BW.size)
          clear hb
          obtain ⟨c506, c507, c508, c509⟩ := Kh.c4
          obtain ⟨c510, c511, c512, c513⟩ := Zh.f4
          obtain ⟨V514, hk516⟩ : ∃ V514, V514 = w505.setCells (ph) 0 [.int .i64 (R.mul s s).a, .int .i64 (R.mul s s).b, .int .i64 (R.mul s s).c, .int .i64 (R.mul s s).d] := ⟨_, rfl⟩
          have e515 := hk516
          simp only [World.setCells, Nat.zero_add, Nat.reduceAdd] at e515
          have hk517 := Kept.overE hk516 Kh rfl (by simp)
          replace Kg := Kg.awayE hk516 ngh
          replace Kh := Kh.overE hk516 rfl
          replace Kz := Kz.awayE hk516 nzh
          replace Zg := Zg.putE hk516
          replace Zh := Zh.putE hk516
          replace Zz := Zz.putE hk516
          replace BW := Below.putE BW hk516 wh
          clear hk516 hk517
          go_wp2_with fail
          clear c506 c507 c508 c509 c510 c511 c512 c513
          rw [← e515]
          clear e515
          go_wp2
          go_roundw
          case rel => exact ⟨k / 2, r, (R.mul s s), by simp, by omega, by omega, (R.pow_em ho h2).trans HP.out, Kg, Zg, Kh, Zh, ngh, wg, wh, nzg, nzh, Kz, Zz, BW⟩
          case measure => simp [intOf]; omega
      · obtain rfl : k = 0 := by omega
        obtain ⟨c501, c502, c503, c504⟩ := Kg.c4
        obtain ⟨c505, c506, c507, c508⟩ := Kz.c4
        obtain ⟨c509, c510, c511, c512⟩ := Zz.f4
        obtain ⟨V513, hk515⟩ : ∃ V513, V513 = wr.setCells (pz) 0 [.int .i64 r.a, .int .i64 r.b, .int .i64 r.c, .int .i64 r.d] := ⟨_, rfl⟩
        have e514 := hk515
        simp only [World.setCells, Nat.zero_add, Nat.reduceAdd] at e514
        have hk516 := Kept.overE hk515 Kz rfl (by simp)
        replace Kz := Kz.overE hk515 rfl
        replace BW := Below.putE BW hk515 (by omega)
        clear hk515 hk516
        go_wp2_with fail
        clear c501 c502 c503 c504 c505 c506 c507 c508 c509 c510 c511 c512
        rw [← e514]
        clear e514
        obtain ⟨c517, c518, c519, c520⟩ := Kz.c4
        exact bodyPost_ret (v := (.agg #[.int .i64 r.a, .int .i64 r.b, .int .i64 r.c, .int .i64 r.d])) (by simp [results, Try.results44, go_sem, c517, c518, c519, c520]) rfl ⟨congrArg (fun z => Ending.returned (mv z)) ((R.pow0 r s).symm.trans HP.out), BW⟩
set_option maxHeartbeats 8000000 in
set_option maxRecDepth 20000 in
theorem chain0 {R : Rg} (hR : Hid (R = rt)) (x : Mz) (xs : List Mz) (g cap : Nat) (w : World) (hg : g < w.heap.size) (hc : xs.length ≤ cap) (hm : cap ≤ 9223372036854775807) (hr : Box w g (xs.flatMap mcv)) :
    Calls Try.prog 45 #[mv x, .slice (some ⟨g, 0, none⟩) xs.length cap] w (fun e w' => e = .returned (mv (R.chain x xs)) ∧ Below w.heap.size w w') := by
  have BW : Below w.heap.size w w := Below.refl _ _
  obtain ⟨V2, e3, hb4, K5, -, z1⟩ := alloc_new w [.int .i64 x.a, .int .i64 x.b, .int .i64 x.c, .int .i64 x.d] 71
  replace BW := BW.trans (hb4.mono BW.size)
  clear hb4
  obtain ⟨V7, e8, hb9, K10, Z11, z6⟩ := alloc_new V2 [.int .i64 0, .int .i64 0, .int .i64 0, .int .i64 0] 71
  rw [z1] at K10 Z11 z6
  have n12 : w.heap.size ≠ w.heap.size + 1 := Nat.ne_of_lt (z1 ▸ K5.lt)
  have g13 : w.heap.size ≤ w.heap.size + 1 := z1 ▸ BW.size
  replace K5 := K5.on hb9
  replace BW := BW.trans (hb9.mono BW.size)
  clear hb9
  obtain ⟨V14, e15, hb16, K17, Z18, -⟩ := alloc_new V7 [.int .i64 x.a, .int .i64 x.b, .int .i64 x.c, .int .i64 x.d] 71
  rw [z6] at K17 Z18
  have n19 : w.heap.size ≠ w.heap.size + 1 + 1 := Nat.ne_of_lt (z6 ▸ K5.lt)
  have n20 : w.heap.size + 1 ≠ w.heap.size + 1 + 1 := Nat.ne_of_lt (z6 ▸ K10.lt)
  have g21 : w.heap.size ≤ w.heap.size + 1 + 1 := z6 ▸ BW.size
  replace K10 := K10.on hb16
  replace Z11 := Z11.on hb16
  replace BW := BW.trans (hb16.mono BW.size)
  clear hb16
  clear z1 z6
  go_enter Try.func45, Try.ntmps45
  go_wp2_with fail
  rw [← e3, ← e8, ← e15]
  clear e3 e8 e15
  go_wp2_with fail
  have gz : w.heap.size ≤ w.heap.size + 1 := by omega
  have gg : w.heap.size ≤ w.heap.size + 1 + 1 := by omega
  have nzg : w.heap.size + 1 ≠ w.heap.size + 1 + 1 := by omega
  generalize w.heap.size + 1 + 1 = pg at *
  generalize w.heap.size + 1 = pz at *
  go_wp2_with fail
  go_loopw [11] (fun iv wr => ∃ k : Nat, iv = .int .i64 (k : Nat) ∧ k ≤ xs.length ∧ Box wr pg [.int .i64 (R.chain x (xs.take k)).a, .int .i64 (R.chain x (xs.take k)).b, .int .i64 (R.chain x (xs.take k)).c, .int .i64 (R.chain x (xs.take k)).d] ∧ Fz wr pg ∧ Box wr pz [.int .i64 0, .int .i64 0, .int .i64 0, .int .i64 0] ∧ Fz wr pz ∧ Below w.heap.size w wr) (fun iv _ => xs.length - (intOf iv).toNat)
  case atStart => exact ⟨0, rfl, by omega, K17, Z18, K10, Z11, BW⟩
  case round =>
    obtain ⟨k, rfl, hk, Kg, Zg, Kz, Zz, BW⟩ := hrel
    by_cases hlt : k < xs.length
    · have h1 : (k : Int) < (xs.length : Int) := by omega
      obtain ⟨m, hm⟩ : ∃ m, xs[k]? = some m := ⟨_, List.getElem?_eq_getElem hlt⟩
      have KR := (hr.on BW).elem (s := 4) (fun _ => rfl) hm
      have HC := Lib.hid (R.chain_step (x := x) hm)
      have ngg : g ≠ pg := by omega
      have ngz : g ≠ pz := by omega
      clear hm hr
      obtain ⟨c501, c502, c503, c504⟩ := KR.c4
      obtain ⟨V505, e506, hb507, K508, -, -⟩ := alloc_new wr [.int .i64 m.a, .int .i64 m.b, .int .i64 m.c, .int .i64 m.d] 71
      have n509 : pg ≠ wr.heap.size := Nat.ne_of_lt (Kg.lt)
      have n510 : pz ≠ wr.heap.size := Nat.ne_of_lt (Kz.lt)
      replace Kg := Kg.on hb507
      replace Kz := Kz.on hb507
      replace Zg := Zg.on hb507
      replace Zz := Zz.on hb507
      replace BW := BW.trans (hb507.mono BW.size)
      clear hb507
      obtain ⟨c511, c512, c513, c514⟩ := Kg.c4
      rw [e506] at c511 c512 c513 c514
      go_wp2_with fail
      clear c501 c502 c503 c504 c511 c512 c513 c514
      rw [← e506]
      clear e506
      generalize wr.heap.size = b515 at *
      refine (mul hR _ _ _).mono ?_
      rintro _ w516 ⟨rfl, hb⟩
      replace Kg := Kg.on hb
      replace Kz := Kz.on hb
      replace Zg := Zg.on hb
      replace Zz := Zz.on hb
      replace BW := BW.trans (hb.mono BW.size)
      clear hb
      obtain ⟨c517, c518, c519, c520⟩ := Kg.c4
      obtain ⟨c521, c522, c523, c524⟩ := Zg.f4
      obtain ⟨V525, hk527⟩ : ∃ V525, V525 = w516.setCells (pg) 0 [.int .i64 (R.mul m (R.chain x (xs.take k))).a, .int .i64 (R.mul m (R.chain x (xs.take k))).b, .int .i64 (R.mul m (R.chain x (xs.take k))).c, .int .i64 (R.mul m (R.chain x (xs.take k))).d] := ⟨_, rfl⟩
      have e526 := hk527
      simp only [World.setCells, Nat.zero_add, Nat.reduceAdd] at e526
      have hk528 := Kept.overE hk527 Kg rfl (by simp)
      replace Kg := Kg.overE hk527 rfl
      replace Kz := Kz.awayE hk527 nzg
      replace Zg := Zg.putE hk527
      replace Zz := Zz.putE hk527
      replace BW := Below.putE BW hk527 gg
      clear hk527 hk528
      go_wp2_with fail
      clear c517 c518 c519 c520 c521 c522 c523 c524
      rw [← e526]
      clear e526
      go_wp2
      go_roundw
      case rel => exact ⟨k + 1, by go_num, by omega, by rw [HC.out]; exact Kg, Zg, Kz, Zz, BW⟩
      case measure => simp [intOf]; omega
    · obtain rfl : k = xs.length := by omega
      rw [List.take_length] at Kg
      obtain ⟨c501, c502, c503, c504⟩ := Kg.c4
      obtain ⟨c505, c506, c507, c508⟩ := Kz.c4
      obtain ⟨c509, c510, c511, c512⟩ := Zz.f4
      obtain ⟨V513, hk515⟩ : ∃ V513, V513 = wr.setCells (pz) 0 [.int .i64 (R.chain x xs).a, .int .i64 (R.chain x xs).b, .int .i64 (R.chain x xs).c, .int .i64 (R.chain x xs).d] := ⟨_, rfl⟩
      have e514 := hk515
      simp only [World.setCells, Nat.zero_add, Nat.reduceAdd] at e514
      have hk516 := Kept.overE hk515 Kz rfl (by simp)
      replace Kz := Kz.overE hk515 rfl
      replace BW := Below.putE BW hk515 gz
      clear hk515 hk516
      go_wp2_with fail
      clear c501 c502 c503 c504 c505 c506 c507 c508 c509 c510 c511 c512
      rw [← e514]
      clear e514
      obtain ⟨c517, c518, c519, c520⟩ := Kz.c4
      exact bodyPost_ret (v := (.agg #[.int .i64 (R.chain x xs).a, .int .i64 (R.chain x xs).b, .int .i64 (R.chain x xs).c, .int .i64 (R.chain x xs).d])) (by simp [results, Try.results45, go_sem, c517, c518, c519, c520]) rfl ⟨rfl, BW⟩
set_option maxHeartbeats 8000000 in
set_option maxRecDepth 20000 in
theorem chain_nil (x : Mz) (w : World) :
    Calls Try.prog 45 #[mv x, .slice none 0 0] w (fun e w' => e = .returned (mv x) ∧ Below w.heap.size w w') := by
  have BW : Below w.heap.size w w := Below.refl _ _
  obtain ⟨V2, e3, hb4, K5, -, z1⟩ := alloc_new w [.int .i64 x.a, .int .i64 x.b, .int .i64 x.c, .int .i64 x.d] 71
  replace BW := BW.trans (hb4.mono BW.size)
  clear hb4
  obtain ⟨V7, e8, hb9, K10, Z11, z6⟩ := alloc_new V2 [.int .i64 0, .int .i64 0, .int .i64 0, .int .i64 0] 71
  rw [z1] at K10 Z11 z6
  have n12 : w.heap.size ≠ w.heap.size + 1 := Nat.ne_of_lt (z1 ▸ K5.lt)
  have g13 : w.heap.size ≤ w.heap.size + 1 := z1 ▸ BW.size
  replace K5 := K5.on hb9
  replace BW := BW.trans (hb9.mono BW.size)
  clear hb9
  obtain ⟨V14, e15, hb16, K17, Z18, -⟩ := alloc_new V7 [.int .i64 x.a, .int .i64 x.b, .int .i64 x.c, .int .i64 x.d] 71
  rw [z6] at K17 Z18
  have n19 : w.heap.size ≠ w.heap.size + 1 + 1 := Nat.ne_of_lt (z6 ▸ K5.lt)
  have n20 : w.heap.size + 1 ≠ w.heap.size + 1 + 1 := Nat.ne_of_lt (z6 ▸ K10.lt)
  have g21 : w.heap.size ≤ w.heap.size + 1 + 1 := z6 ▸ BW.size
  replace K10 := K10.on hb16
  replace Z11 := Z11.on hb16
  replace BW := BW.trans (hb16.mono BW.size)
  clear hb16
  clear z1 z6
  go_enter Try.func45, Try.ntmps45
  go_wp2_with fail
  rw [← e3, ← e8, ← e15]
  clear e3 e8 e15
  go_wp2_with fail
  go_wp2_with fail
  refine wp_loop_rounds 1 ?_
  rw [rounds_succ]
  obtain ⟨c22, c23, c24, c25⟩ := K10.c4
  obtain ⟨c26, c27, c28, c29⟩ := Z11.f4
  obtain ⟨c30, c31, c32, c33⟩ := K17.c4
  obtain ⟨V34, hk36⟩ : ∃ V34, V34 = V14.setCells (w.heap.size + 1) 0 [.int .i64 x.a, .int .i64 x.b, .int .i64 x.c, .int .i64 x.d] := ⟨_, rfl⟩
  have e35 := hk36
  simp only [World.setCells, Nat.zero_add, Nat.reduceAdd] at e35
  have hk37 := Kept.overE hk36 K10 rfl (by simp)
  replace K10 := K10.overE hk36 rfl
  replace BW := Below.putE BW hk36 g13
  clear hk36 hk37
  go_wp2_with fail
  clear c22 c23 c24 c25 c26 c27 c28 c29 c30 c31 c32 c33
  rw [← e35]
  clear e35
  obtain ⟨c38, c39, c40, c41⟩ := K10.c4
  exact bodyPost_ret (v := (.agg #[.int .i64 x.a, .int .i64 x.b, .int .i64 x.c, .int .i64 x.d])) (by simp [results, Try.results45, go_sem, c38, c39, c40, c41]) rfl ⟨rfl, BW⟩
theorem chain_any {R : Rg} (hR : Hid (R = rt)) {x : Mz} {xs : List Mz} {B : Nat} {e : TypeId} {v : Value} {w : World} {y : Mz} (h : LRow 4 w B e v xs.length (xs.flatMap mcv)) (hy : R.chain x xs = y) :
    Calls Try.prog 45 #[mv x, v] w (fun e w' => e = .returned (mv y) ∧ Below w.heap.size w w') := by
  subst hy
  cases xs with
  | nil =>
    obtain ⟨_, ⟨rfl, _⟩ | ⟨g, cap, cur, rfl, h3, h4, h5, h6, h7, h8⟩⟩ := h
    · exact chain_nil x w
    · exact chain0 hR x [] g cap w (Array.getElem?_eq_some_iff.1 h4).1 h5 (by simpa [maxLen] using h6) ⟨(Array.getElem?_eq_some_iff.1 h4).1, fun i v e => by simp at e⟩
  | cons m r =>
    obtain ⟨g, cap, rfl, h1, h2, h3, h4⟩ := h.box (by simp)
    exact chain0 hR x (m :: r) g cap w h4.lt h1 (by simpa [maxLen] using h2) h4
theorem powT {R : Rg} (hR : Hid (R = rt)) {x y z : Mz} {n : Nat} {w : World} (hn : n < 18446744073709551616) (h : R.pow x y n = z) : Calls Try.prog 44 #[mv x, mv y, .int .u64 (n : Nat)] w (fun e w' => e = .returned (mv z) ∧ Below w.heap.size w w') := h ▸ power0 hR x y n hn w
end Go.Proofs.Ytgoackkfjieahaa.T
