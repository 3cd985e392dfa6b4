/-
  What frac's parse answers of any text. Conditions: texts no longer than 65536 bytes; a variable of the library's own holds some integer.
-/
import Derived.Test.YtobbedcaeffbaaaGreatDoorFps
import Derived.Deep.RegionHeld3
import Derived.Deep.DeepCutAuto
import Derived.BigRegion
namespace Go.Proofs.YtobbedcaeffbaaaGreatDoor
open Go.RowKit Nb
theorem cmpI_is0 (X Y : Int) : (cmpI X Y == 0) = decide (X = Y) := by
  rcases Int.lt_trichotomy X Y with h | h | h
  · rw [cmpI_lt h]; simp; omega
  · rw [cmpI_eq h]; simp [h]
  · rw [cmpI_gt h]; simp; omega
theorem cmp_one_gt {Y : Int} (h : 1 < Y) : ¬ cmpI Y 1 ≤ 0 := by rw [cmpI_gt h]; decide
theorem cmp_one_le {Y : Int} (h : ¬ 1 < Y) : cmpI Y 1 ≤ 0 := by
  rcases Int.lt_or_eq_of_le (Int.not_lt.1 h) with h | h
  · rw [cmpI_lt h]; decide
  · rw [cmpI_eq h]; decide
section
variable {l a b : List UInt8}
theorem fr_no (h : Lib.cut l [47] = (a, b, false)) (k : IsNum a) : IsFr l := by unfold IsFr; rw [h]; simpa using k
theorem is_no (h : Lib.cut l [47] = (a, b, false)) (k : IsFr l) : IsNum a := by unfold IsFr at k; rw [h] at k; simpa using k
theorem frv_no (h : Lib.cut l [47] = (a, b, false)) : frV l = Rat.divInt (numV a) 1 := by unfold frV; rw [h]; simp
theorem is_yes (h : Lib.cut l [47] = (a, b, true)) (k : IsFr l) : IsNum a ∧ IsNum b ∧ 1 < numV b ∧ Nat.gcd (numV a).natAbs (numV b).natAbs = 1 := by unfold IsFr at k; rw [h] at k; simpa using k
theorem frv_yes (h : Lib.cut l [47] = (a, b, true)) : frV l = Rat.divInt (numV a) (numV b) := by unfold frV; rw [h]; simp
theorem fr_yes {Z Y : Int} (h : Lib.cut l [47] = (a, b, true)) (ka : IsNum a) (kb : IsNum b) (e1 : Z = numV a) (e2 : Y = numV b) (h1 : 1 < Y) (k : ((Rat.divInt Z Y).den : Int) = Y) : IsFr l := by
  subst e1 e2
  unfold IsFr; rw [h]
  simp only [if_true]
  exact ⟨ka, kb, h1, (den_one h1).1 k⟩
theorem den_of_fr {Z Y : Int} (h : Lib.cut l [47] = (a, b, true)) (k : IsFr l) (e1 : Z = numV a) (e2 : Y = numV b) : ((Rat.divInt Z Y).den : Int) = Y := by
  subst e1 e2
  have := is_yes h k
  exact (den_one this.2.2.1).2 this.2.2.2
end
theorem den_call {n m : Bool} {A B : Option Addr} {l c k d : Nat} {W : World} : Calls Tryz.prog 186 #[frq n A l c m B k d] W (fun e w' => e = .returned (big m B k d) ∧ Below W.heap.size W w') := by
  go_enter Tryz.func186, Tryz.ntmps186
  go_wp2
  exact bodyPost_ret (v := big m B k d) (by simp [results, Tryz.results186, go_sem]) rfl ⟨rfl, by go_grown⟩
set_option maxHeartbeats 4000000 in
set_option maxRecDepth 100000 in
theorem parse_any {s : ByteArray} {w : World} (hs : s.size ≤ 65536) (hM : Mxl w) :
    Calls Tryz.prog 69 #[.string s] w (fun e w' => ∃ (g : Fv) (ok : Bool), e = .returned (.tuple #[fv g, .bool ok]) ∧ (ok = true → IsFr s.data.toList ∧ Fq w' (frV s.data.toList) g maxLen ∧ g.xs.length ≤ 65536 ∧ g.ds.length ≤ 65536) ∧ (ok = false → ¬ IsFr s.data.toList) ∧ Below w.heap.size w w') := by
  have HS := Lib.hid hs
  have HM := Lib.hid hM
  clear hs hM
  have BW : Below w.heap.size w w := Below.refl _ _
  obtain ⟨V1, e2, hb3, K4, Z5, -⟩ := alloc_new w [.bool false, .slice none 0 0, .bool false, .slice none 0 0] 100
  have g6 : w.heap.size ≤ w.heap.size := BW.size
  replace BW := BW.trans (hb3.mono BW.size)
  clear hb3
  go_enter Tryz.func69, Tryz.ntmps69
  go_wp2_with fail
  rw [← e2]
  clear e2
  refine (cut_call HS.out (mxl_below HM.out BW)).mono ?_
  rintro _ w7 ⟨a, b, fd, rfl, hcut, hab, hb⟩
  replace K4 := K4.on hb
  replace Z5 := Z5.on hb
  replace BW := BW.trans (hb.mono BW.size)
  clear hb
  have HC := Lib.hid (And.intro hcut hab)
  clear hcut hab
  go_wp2_with fail
  refine (lparse_n HC.out.2.1).mono ?_
  rintro _ w8 ⟨n, V, zs, k, ok, Z, rfl, hk, hZ, X, lx, hb⟩
  replace K4 := K4.on hb
  replace Z5 := Z5.on hb
  replace BW := BW.trans (hb.mono BW.size)
  clear hb
  have HX := Lib.hid (And.intro hk (And.intro hZ lx))
  clear hk hZ lx
  obtain ⟨V9, e10, hb11, K12, -, -⟩ := alloc_new w8 [.bool n, .slice V zs.length k] 98
  have n13 : w.heap.size ≠ w8.heap.size := Nat.ne_of_lt (K4.lt)
  replace K4 := K4.on hb11
  replace Z5 := Z5.on hb11
  replace X := X.kp (Kept.of hb11)
  replace BW := BW.trans (hb11.mono BW.size)
  clear hb11
  go_wp2_with fail
  rw [← e10]
  clear e10
  generalize w8.heap.size = b14 at *
  refine (lof_n (by omega) (by omega)).mono ?_
  rintro _ w15 ⟨on, oA, oz, oc, rfl, O, hb⟩
  replace K4 := K4.on hb
  replace K12 := K12.on hb
  replace Z5 := Z5.on hb
  replace X := X.kp (Kept.of hb)
  replace BW := BW.trans (hb.mono BW.size)
  clear hb
  have lo := O.len
  replace O := O.mono (C' := maxLen) (by unfold maxLen; omega)
  obtain rfl : on = false := O.pos (G := 1)
  have HO := Lib.hid lo
  clear lo
  cases fd
  · have hcut : Lib.cut s.data.toList [47] = (a.data.toList, b.data.toList, false) := HC.out.1
    have HD := Lib.hid hcut
    clear hcut
    obtain ⟨V16, e17, hb18, K19, -, -⟩ := alloc_new w15 [.bool false, .slice oA oz.length oc] 98
    have n20 : w.heap.size ≠ w15.heap.size := Nat.ne_of_lt (K4.lt)
    replace K4 := K4.on hb18
    replace K12 := K12.on hb18
    replace Z5 := Z5.on hb18
    replace X := X.kp (Kept.of hb18)
    replace O := O.kp (Kept.of hb18)
    replace BW := BW.trans (hb18.mono BW.size)
    clear hb18
    obtain ⟨c21, c22⟩ := K12.c2
    rw [e17] at c21 c22
    go_wp2_with fail
    clear c21 c22
    rw [← e17]
    clear e17
    generalize w15.heap.size = b23 at *
    refine (ratio_g Z 1 n V oA zs oz k oc 65536 _ X O (by omega) HX.out.2.2 (by have := HO.out; omega) (by omega)).mono ?_
    rintro _ w24 ⟨rn, rA, rx, rc, rB, rd, re, rfl, Q, l1, l2, hb⟩
    replace K4 := K4.on hb
    replace K12 := K12.on hb
    replace K19 := K19.on hb
    replace Z5 := Z5.on hb
    replace X := X.kp (Kept.of hb)
    replace O := O.kp (Kept.of hb)
    replace BW := BW.trans (hb.mono BW.size)
    clear hb
    have HL := Lib.hid (And.intro l1 l2)
    clear l1 l2
    obtain ⟨c25, c26, c27, c28⟩ := K4.c4
    obtain ⟨c29, c30, c31, c32⟩ := Z5.f4
    obtain ⟨V33, hk35⟩ : ∃ V33, V33 = w24.setCells (w.heap.size) 0 [.bool rn, .slice rA rx.length rc, .bool false, .slice rB rd.length re] := ⟨_, rfl⟩
    have e34 := hk35
    simp only [World.setCells, Nat.zero_add, Nat.reduceAdd] at e34
    have hk36 := Kept.overE hk35 K4 rfl (by simp)
    replace K4 := K4.overE hk35 rfl
    replace K12 := K12.awayE hk35 n13.symm
    replace K19 := K19.awayE hk35 n20.symm
    replace Z5 := Z5.putE hk35
    replace X := X.kp hk36
    replace O := O.kp hk36
    replace Q := Q.kp hk36
    replace BW := Below.putE BW hk35 g6
    clear hk35 hk36
    go_wp2_with fail
    clear c25 c26 c27 c28 c29 c30 c31 c32
    rw [← e34]
    clear e34
    obtain ⟨c37, c38, c39, c40⟩ := K4.c4
    exact bodyPost_ret (v := .tuple #[fv ⟨rn, rA, rx, rc, false, rB, rd, re⟩, .bool ok]) (by simp [results, Tryz.results69, go_sem, c37, c38, c39, c40]) rfl ⟨⟨rn, rA, rx, rc, false, rB, rd, re⟩, ok, rfl, fun h => ⟨fr_no HD.out (HX.out.1.1 h), ⟨rfl, by rw [frv_no HD.out, ← HX.out.2.1 h]; exact Q⟩, HL.out⟩, fun h g => (by rw [h] at HX; exact absurd (HX.out.1.2 (is_no HD.out g)) (by decide)), BW⟩
  · have hcut : Lib.cut s.data.toList [47] = (a.data.toList, b.data.toList, true) := HC.out.1
    have HD := Lib.hid hcut
    clear hcut
    obtain ⟨V16, e17, hb18, K19, -, -⟩ := alloc_new w15 [.bool false, .slice oA oz.length oc] 98
    have n20 : w.heap.size ≠ w15.heap.size := Nat.ne_of_lt (K4.lt)
    replace K4 := K4.on hb18
    replace K12 := K12.on hb18
    replace Z5 := Z5.on hb18
    replace X := X.kp (Kept.of hb18)
    replace O := O.kp (Kept.of hb18)
    replace BW := BW.trans (hb18.mono BW.size)
    clear hb18
    go_wp2_with fail
    rw [← e17]
    clear e17
    generalize w15.heap.size = b21 at *
    refine (lparse_n HC.out.2.2).mono ?_
    rintro _ w22 ⟨m, U, ys, l, ok2, Y, rfl, hk2, hY, Y1, ly, hb⟩
    replace K4 := K4.on hb
    replace K12 := K12.on hb
    replace K19 := K19.on hb
    replace Z5 := Z5.on hb
    replace X := X.kp (Kept.of hb)
    replace O := O.kp (Kept.of hb)
    replace BW := BW.trans (hb.mono BW.size)
    clear hb
    have HY := Lib.hid (And.intro hk2 (And.intro hY ly))
    clear hk2 hY ly
    cases ok
    · obtain ⟨V23, e24, hb25, K26, -, -⟩ := alloc_new w22 [.bool m, .slice U ys.length l] 98
      have n27 : w.heap.size ≠ w22.heap.size := Nat.ne_of_lt (K4.lt)
      replace K4 := K4.on hb25
      replace K12 := K12.on hb25
      replace K19 := K19.on hb25
      replace Z5 := Z5.on hb25
      replace X := X.kp (Kept.of hb25)
      replace O := O.kp (Kept.of hb25)
      replace Y1 := Y1.kp (Kept.of hb25)
      replace BW := BW.trans (hb25.mono BW.size)
      clear hb25
      obtain ⟨c28, c29, c30, c31⟩ := K4.c4
      obtain ⟨c32, c33, c34, c35⟩ := Z5.f4
      rw [e24] at c28 c29 c30 c31 c32 c33 c34 c35
      obtain ⟨V36, hk38⟩ : ∃ V36, V36 = V23.setCells (w.heap.size) 0 [.bool false, .slice none 0 0, .bool false, .slice none 0 0] := ⟨_, rfl⟩
      have e37 := hk38
      simp only [World.setCells, Nat.zero_add, Nat.reduceAdd] at e37
      have hk39 := Kept.overE hk38 K4 rfl (by simp)
      replace K4 := K4.overE hk38 rfl
      replace K12 := K12.awayE hk38 n13.symm
      replace K19 := K19.awayE hk38 n20.symm
      replace K26 := K26.awayE hk38 n27.symm
      replace Z5 := Z5.putE hk38
      replace X := X.kp hk39
      replace O := O.kp hk39
      replace Y1 := Y1.kp hk39
      replace BW := Below.putE BW hk38 g6
      clear hk38 hk39
      go_wp2_with fail
      clear c28 c29 c30 c31 c32 c33 c34 c35
      rw [← e24, ← e37]
      clear e24 e37
      generalize w22.heap.size = b40 at *
      obtain ⟨c41, c42, c43, c44⟩ := K4.c4
      exact bodyPost_ret (v := .tuple #[.agg #[.bool false, .slice none 0 0, .bool false, .slice none 0 0], .bool false]) (by simp [results, Tryz.results69, go_sem, c41, c42, c43, c44]) rfl ⟨fv0, false, rfl, (fun h => by cases h), fun _ g => absurd (HX.out.1.2 (is_yes HD.out g).1) (by decide), BW⟩
    · cases ok2
      · obtain ⟨V23, e24, hb25, K26, -, -⟩ := alloc_new w22 [.bool m, .slice U ys.length l] 98
        have n27 : w.heap.size ≠ w22.heap.size := Nat.ne_of_lt (K4.lt)
        replace K4 := K4.on hb25
        replace K12 := K12.on hb25
        replace K19 := K19.on hb25
        replace Z5 := Z5.on hb25
        replace X := X.kp (Kept.of hb25)
        replace O := O.kp (Kept.of hb25)
        replace Y1 := Y1.kp (Kept.of hb25)
        replace BW := BW.trans (hb25.mono BW.size)
        clear hb25
        obtain ⟨c28, c29, c30, c31⟩ := K4.c4
        obtain ⟨c32, c33, c34, c35⟩ := Z5.f4
        rw [e24] at c28 c29 c30 c31 c32 c33 c34 c35
        obtain ⟨V36, hk38⟩ : ∃ V36, V36 = V23.setCells (w.heap.size) 0 [.bool false, .slice none 0 0, .bool false, .slice none 0 0] := ⟨_, rfl⟩
        have e37 := hk38
        simp only [World.setCells, Nat.zero_add, Nat.reduceAdd] at e37
        have hk39 := Kept.overE hk38 K4 rfl (by simp)
        replace K4 := K4.overE hk38 rfl
        replace K12 := K12.awayE hk38 n13.symm
        replace K19 := K19.awayE hk38 n20.symm
        replace K26 := K26.awayE hk38 n27.symm
        replace Z5 := Z5.putE hk38
        replace X := X.kp hk39
        replace O := O.kp hk39
        replace Y1 := Y1.kp hk39
        replace BW := Below.putE BW hk38 g6
        clear hk38 hk39
        go_wp2_with fail
        clear c28 c29 c30 c31 c32 c33 c34 c35
        rw [← e24, ← e37]
        clear e24 e37
        generalize w22.heap.size = b40 at *
        obtain ⟨c41, c42, c43, c44⟩ := K4.c4
        exact bodyPost_ret (v := .tuple #[.agg #[.bool false, .slice none 0 0, .bool false, .slice none 0 0], .bool false]) (by simp [results, Tryz.results69, go_sem, c41, c42, c43, c44]) rfl ⟨fv0, false, rfl, (fun h => by cases h), fun _ g => absurd (HY.out.1.2 (is_yes HD.out g).2.1) (by decide), BW⟩
      · obtain ⟨V23, e24, hb25, K26, -, -⟩ := alloc_new w22 [.bool m, .slice U ys.length l] 98
        have n27 : w.heap.size ≠ w22.heap.size := Nat.ne_of_lt (K4.lt)
        replace K4 := K4.on hb25
        replace K12 := K12.on hb25
        replace K19 := K19.on hb25
        replace Z5 := Z5.on hb25
        replace X := X.kp (Kept.of hb25)
        replace O := O.kp (Kept.of hb25)
        replace Y1 := Y1.kp (Kept.of hb25)
        replace BW := BW.trans (hb25.mono BW.size)
        clear hb25
        obtain ⟨c28, c29⟩ := K19.c2
        rw [e24] at c28 c29
        go_wp2_with fail
        clear c28 c29
        rw [← e24]
        clear e24
        generalize w22.heap.size = b30 at *
        refine (lcmp_n Y1 O (by have := HY.out.2.2; omega) (by have := HO.out; omega)).mono ?_
        rintro _ w31 ⟨rfl, hb⟩
        replace K4 := K4.on hb
        replace K12 := K12.on hb
        replace K19 := K19.on hb
        replace K26 := K26.on hb
        replace Z5 := Z5.on hb
        replace X := X.kp (Kept.of hb)
        replace O := O.kp (Kept.of hb)
        replace Y1 := Y1.kp (Kept.of hb)
        replace BW := BW.trans (hb.mono BW.size)
        clear hb
        by_cases h1 : 1 < Y
        · have hc := cmp_one_gt h1
          obtain rfl : m = false := (Y1.eq (Y := ((Y.toNat : Nat) : Int)) (by omega)).pos
          have H1 := Lib.hid h1
          clear h1
          obtain ⟨c32, c33⟩ := K12.c2
          obtain ⟨c34, c35⟩ := K26.c2
          go_wp2_with fail
          clear c32 c33 c34 c35
          refine (ratio_g Z Y n V U zs ys k l 65536 _ X Y1 (by have := H1.out; omega) HX.out.2.2 HY.out.2.2 (by omega)).mono ?_
          rintro _ w36 ⟨rn, rA, rx, rc, rB, rd, re, rfl, Q, l1, l2, hb⟩
          replace K4 := K4.on hb
          replace K12 := K12.on hb
          replace K19 := K19.on hb
          replace K26 := K26.on hb
          replace Z5 := Z5.on hb
          replace X := X.kp (Kept.of hb)
          replace O := O.kp (Kept.of hb)
          replace Y1 := Y1.kp (Kept.of hb)
          replace BW := BW.trans (hb.mono BW.size)
          clear hb
          have HL := Lib.hid (And.intro l1 l2)
          clear l1 l2
          obtain ⟨z, hz⟩ : ∃ z : Bool, decide (((Rat.divInt Z Y).den : Int) = Y) = z := ⟨_, rfl⟩
          have hzc : (cmpI ((Rat.divInt Z Y).den : Int) Y == 0) = z := by rw [← hz]; exact cmpI_is0 _ _
          have HZ := Lib.hid hz
          clear hz
          obtain ⟨V37, e38, hb39, K40, -, -⟩ := alloc_new w36 [.bool rn, .slice rA rx.length rc, .bool false, .slice rB rd.length re] 100
          have n41 : w.heap.size ≠ w36.heap.size := Nat.ne_of_lt (K4.lt)
          replace K4 := K4.on hb39
          replace K12 := K12.on hb39
          replace K19 := K19.on hb39
          replace K26 := K26.on hb39
          replace Z5 := Z5.on hb39
          replace X := X.kp (Kept.of hb39)
          replace O := O.kp (Kept.of hb39)
          replace Y1 := Y1.kp (Kept.of hb39)
          replace Q := Q.kp (Kept.of hb39)
          replace BW := BW.trans (hb39.mono BW.size)
          clear hb39
          go_wp2_with fail
          rw [← e38]
          clear e38
          generalize w36.heap.size = b42 at *
          refine wp_region_noPanic ?_
          have hb : Below V37.heap.size V37 V37.drew := (Below.refl _ _).drew
          replace K4 := K4.on hb
          replace K12 := K12.on hb
          replace K19 := K19.on hb
          replace K26 := K26.on hb
          replace K40 := K40.on hb
          replace Z5 := Z5.on hb
          replace X := X.kp (Kept.of hb)
          replace O := O.kp (Kept.of hb)
          replace Y1 := Y1.kp (Kept.of hb)
          replace Q := Q.kp (Kept.of hb)
          replace BW := BW.trans (hb.mono BW.size)
          clear hb
          refine wp_region_held_drew (S := (fun wx => Cs wx (b30) 0 [.bool false, .slice U ys.length l] ∧ Cs wx (b42) 0 [.bool rn, .slice rA rx.length rc, .bool false, .slice rB rd.length re])) (by kernel_rfl) (by exact ⟨K26.cs, K40.cs⟩) (fun hHeld => ?_)
          generalize V37.drew = Vd43 at *
          refine pT 0 ?_
          (try simp only [p0, p1, p2, p3])
          refine pT 1 ?_
          (try simp only [p0, p1, p2, p3])
          refine pT 3 ?_
          (try simp only [p0, p1, p2, p3])
          refine pR1 2 (fun K hK => ?_)
          go_simp
          (go_at_call 186; with_reducible refine (den_call).mono ?_)
          rintro _ w44 ⟨rfl, hb⟩
          (try go_wp2_with fail)
          replace K4 := K4.on hb
          replace K12 := K12.on hb
          replace K19 := K19.on hb
          replace K26 := K26.on hb
          replace K40 := K40.on hb
          replace Z5 := Z5.on hb
          replace X := X.kp (Kept.of hb)
          replace O := O.kp (Kept.of hb)
          replace Y1 := Y1.kp (Kept.of hb)
          replace Q := Q.kp (Kept.of hb)
          replace BW := BW.trans (hb.mono BW.size)
          clear hb
          refine hK.out _ _ (by exact ⟨K26.cs, K40.cs⟩) (fun hHeld => ?_)
          clear hK
          (try simp only [p0, p1, p2, p3])
          refine pR1 4 (fun K hK => ?_)
          go_simp
          (go_at_call 179; with_reducible refine (lcmp_n Q.y Y1 (by have := HL.out; omega) (by have := HY.out.2.2; omega)).mono ?_)
          rintro _ w45 ⟨rfl, hb⟩
          (try go_wp2_with fail)
          replace K4 := K4.on hb
          replace K12 := K12.on hb
          replace K19 := K19.on hb
          replace K26 := K26.on hb
          replace K40 := K40.on hb
          replace Z5 := Z5.on hb
          replace X := X.kp (Kept.of hb)
          replace O := O.kp (Kept.of hb)
          replace Y1 := Y1.kp (Kept.of hb)
          replace Q := Q.kp (Kept.of hb)
          replace BW := BW.trans (hb.mono BW.size)
          clear hb
          refine hK.out _ _ (by exact ⟨K26.cs, K40.cs⟩) (fun hHeld => ?_)
          clear hK
          (try simp only [p0, p1, p2, p3])
          refine pT 5 ?_
          (try simp only [p0, p1, p2, p3])
          refine pR1 6 (fun K hK => ?_)
          obtain ⟨c46, c47, c48, c49⟩ := K4.c4
          obtain ⟨c50, c51, c52, c53⟩ := Z5.f4
          go_simp
          clear c46 c47 c48 c49 c50 c51 c52 c53
          obtain ⟨V54, hk56⟩ : ∃ V54, V54 = w45.setCells (w.heap.size) 0 [.bool rn, .slice rA rx.length rc, .bool false, .slice rB rd.length re] := ⟨_, rfl⟩
          have e55 := hk56
          simp only [World.setCells, Nat.zero_add, Nat.reduceAdd] at e55
          have hk57 := Kept.overE hk56 K4 rfl (by simp)
          replace K4 := K4.overE hk56 rfl
          replace K12 := K12.awayE hk56 n13.symm
          replace K19 := K19.awayE hk56 n20.symm
          replace K26 := K26.awayE hk56 n27.symm
          replace K40 := K40.awayE hk56 n41.symm
          replace Z5 := Z5.putE hk56
          replace X := X.kp hk57
          replace O := O.kp hk57
          replace Y1 := Y1.kp hk57
          replace Q := Q.kp hk57
          replace BW := Below.putE BW hk56 g6
          clear hk56 hk57
          rw [← e55]
          clear e55
          refine hK.out _ _ (by exact ⟨K26.cs, K40.cs⟩) (fun hHeld => ?_)
          clear hK
          (try simp only [p0, p1, p2, p3])
          refine pT 7 ?_
          (try simp only [p0, p1, p2, p3])
          refine wpAnyH_done (by kernel_rfl) (NoPanic.normal ?_) _
          go_wp2
          obtain ⟨c58, c59, c60, c61⟩ := K4.c4
          exact bodyPost_ret (v := .tuple #[fv ⟨rn, rA, rx, rc, false, rB, rd, re⟩, .bool z]) (by simp [results, Tryz.results69, go_sem, c58, c59, c60, c61]) rfl ⟨⟨rn, rA, rx, rc, false, rB, rd, re⟩, z, rfl, fun h => ⟨fr_yes HD.out (HX.out.1.1 (by trivial)) (HY.out.1.1 (by trivial)) (HX.out.2.1 (by trivial)) (HY.out.2.1 (by trivial)) H1.out (of_decide_eq_true (HZ.out.trans h)), ⟨rfl, by rw [frv_yes HD.out, ← HX.out.2.1 (by trivial), ← HY.out.2.1 (by trivial)]; exact Q⟩, HL.out⟩, fun h g => of_decide_eq_false (HZ.out.trans h) (den_of_fr HD.out g (HX.out.2.1 (by trivial)) (HY.out.2.1 (by trivial))), BW⟩
        · have hc := cmp_one_le h1
          have H1 := Lib.hid h1
          clear h1
          obtain ⟨c32, c33, c34, c35⟩ := K4.c4
          obtain ⟨c36, c37, c38, c39⟩ := Z5.f4
          obtain ⟨V40, hk42⟩ : ∃ V40, V40 = w31.setCells (w.heap.size) 0 [.bool false, .slice none 0 0, .bool false, .slice none 0 0] := ⟨_, rfl⟩
          have e41 := hk42
          simp only [World.setCells, Nat.zero_add, Nat.reduceAdd] at e41
          have hk43 := Kept.overE hk42 K4 rfl (by simp)
          replace K4 := K4.overE hk42 rfl
          replace K12 := K12.awayE hk42 n13.symm
          replace K19 := K19.awayE hk42 n20.symm
          replace K26 := K26.awayE hk42 n27.symm
          replace Z5 := Z5.putE hk42
          replace X := X.kp hk43
          replace O := O.kp hk43
          replace Y1 := Y1.kp hk43
          replace BW := Below.putE BW hk42 g6
          clear hk42 hk43
          go_wp2_with fail
          clear c32 c33 c34 c35 c36 c37 c38 c39
          rw [← e41]
          clear e41
          obtain ⟨c44, c45, c46, c47⟩ := K4.c4
          exact bodyPost_ret (v := .tuple #[.agg #[.bool false, .slice none 0 0, .bool false, .slice none 0 0], .bool false]) (by simp [results, Tryz.results69, go_sem, c44, c45, c46, c47]) rfl ⟨fv0, false, rfl, (fun h => by cases h), fun _ g => absurd (is_yes HD.out g).2.2.1 (by rw [← HY.out.2.1 (by trivial)]; exact Int.not_lt.2 H1.out), BW⟩
end Go.Proofs.YtobbedcaeffbaaaGreatDoor
