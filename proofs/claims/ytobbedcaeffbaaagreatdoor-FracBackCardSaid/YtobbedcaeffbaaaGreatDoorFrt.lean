/-
  What frac.Root returns of a square: its root that is not below nought. Conditions: fractions that may be.
-/
import Derived.Test.YtobbedcaeffbaaaGreatDoorFp2
import Derived.Test.YtobbedcaeffbaaaGreatDoorFfl
import Derived.Test.YtobbedcaeffbaaaGreatDoorBk0
import Derived.Deep.RegionHeld3
import Derived.Deep.DeepCutAuto
import Derived.BigRegion
namespace Go.Proofs.YtobbedcaeffbaaaGreatDoor
open Go.RowKit Nb
theorem sq_lt {a b : Nat} (h : a < b) : a * a < b * b := Nat.mul_lt_mul_of_lt_of_lt h h
theorem root_of_square {X r : Nat} (h1 : r * r ≤ X * X) (h2 : X * X < (r + 1) * (r + 1)) : r = X := by
  rcases Nat.lt_trichotomy r X with h | h | h
  · have := Nat.mul_le_mul h h
    simp only [Nat.succ_eq_add_one] at this
    omega
  · exact h
  · have := sq_lt h; omega
theorem wroot_sq {W : World} {A : Option Addr} {xs : List Nat} {c a : Nat} (h : Lm W false A xs c) (hX : val W32 xs = a * a) :
    Calls Tryz.prog 78 #[big false A xs.length c] W (fun e w' => ∃ (V : Option Addr) (ls : List Nat) (k : Nat), e = .returned (.tuple #[big false V ls.length k, .bool true, .int .i64 0]) ∧ Lm w' false V ls k ∧ val W32 ls = a ∧ Below W.heap.size W w') := by
  refine (wroot_any A xs c (a * a) W h hX).mono ?_
  rintro e w' ⟨V, ls, k, r, rfl, hl, hv, h1, h2, hb⟩
  obtain rfl := root_of_square h1 h2
  exact ⟨V, ls, k, by simp, hl, hv, hb⟩
set_option maxHeartbeats 4000000 in
set_option maxRecDepth 20000 in
theorem r_root_sq {x : Rat} {f : Fv} {w : World} (hx : 0 ≤ x.num) (L : Ff w (x * x) f) :
    Calls Tryz.prog 20 #[fv f] w (fun e w' => ∃ g : Fv, e = .returned (.tuple #[fv g, .bool true, .int .i64 0]) ∧ Ff w' x g ∧ Below w.heap.size w w') := by
  have OK0 := L.okv
  have R := L.fx
  obtain ⟨n, A, xs, c, m, B, ds, d⟩ := f
  obtain ⟨hm, HL⟩ := L
  obtain rfl : m = false := hm
  obtain ⟨hN, hD⟩ := HL
  obtain ⟨e1, e2⟩ := sq_parts x
  rw [e1] at hN
  rw [e2] at hD
  obtain ⟨a, ha⟩ : ∃ a : Nat, x.num = (a : Int) := ⟨x.num.natAbs, by omega⟩
  rw [ha, ← Int.natCast_mul] at hN
  obtain rfl : n = false := hN.pos
  have vN : val W32 xs = a * a := Int.ofNat_inj.1 hN.v
  have vD : val W32 ds = x.den * x.den := Int.ofNat_inj.1 hD.v
  have N := hN.lm
  have D := hD.lm
  have OK := Lib.hid OK0
  have HV := Lib.hid (And.intro vN vD)
  have HX := Lib.hid (show sv false a = x.num from ha.symm)
  clear hN hD e1 e2 ha vN vD OK0 hx
  have BW : Below w.heap.size w w := Below.refl _ _
  obtain ⟨V2, e3, hb4, K5, -, z1⟩ := alloc_new w [.bool false, .slice A xs.length c, .bool false, .slice B ds.length d] 27
  replace R := R.kp (Kept.of hb4)
  replace N := N.kp (Kept.of hb4)
  replace D := D.kp (Kept.of hb4)
  replace BW := BW.trans (hb4.mono BW.size)
  clear hb4
  obtain ⟨V6, e7, hb8, K9, Z10, -⟩ := alloc_new V2 [.bool false, .slice none 0 0, .bool false, .slice none 0 0] 27
  rw [z1] at K9 Z10
  have n11 : w.heap.size ≠ w.heap.size + 1 := Nat.ne_of_lt (z1 ▸ K5.lt)
  have g12 : w.heap.size ≤ w.heap.size + 1 := z1 ▸ BW.size
  replace K5 := K5.on hb8
  replace R := R.kp (Kept.of hb8)
  replace N := N.kp (Kept.of hb8)
  replace D := D.kp (Kept.of hb8)
  replace BW := BW.trans (hb8.mono BW.size)
  clear hb8
  clear z1
  go_enter Tryz.func20, Tryz.ntmps20
  go_wp2_with fail
  rw [← e3, ← e7]
  clear e3 e7
  refine (r_check R).mono ?_
  rintro _ w13 ⟨rfl, hb⟩
  replace K5 := K5.on hb
  replace K9 := K9.on hb
  replace Z10 := Z10.on hb
  replace R := R.kp (Kept.of hb)
  replace N := N.kp (Kept.of hb)
  replace D := D.kp (Kept.of hb)
  replace BW := BW.trans (hb.mono BW.size)
  clear hb
  rw [chkv_ok OK.out]
  obtain ⟨c14, c15, c16, c17⟩ := K5.c4
  go_wp2_with fail
  clear c14 c15 c16 c17
  refine (wroot_sq N HV.out.1).mono ?_
  rintro _ w18 ⟨V, ls, k, rfl, N1, v1, hb⟩
  replace K5 := K5.on hb
  replace K9 := K9.on hb
  replace Z10 := Z10.on hb
  replace R := R.kp (Kept.of hb)
  replace N := N.kp (Kept.of hb)
  replace D := D.kp (Kept.of hb)
  replace BW := BW.trans (hb.mono BW.size)
  clear hb
  obtain ⟨V19, e20, hb21, K22, -, -⟩ := alloc_new w18 [.bool false, .slice V ls.length k] 25
  have n23 : w.heap.size + 1 ≠ w18.heap.size := Nat.ne_of_lt (K9.lt)
  replace K5 := K5.on hb21
  replace K9 := K9.on hb21
  replace Z10 := Z10.on hb21
  replace R := R.kp (Kept.of hb21)
  replace N := N.kp (Kept.of hb21)
  replace D := D.kp (Kept.of hb21)
  replace N1 := N1.kp (Kept.of hb21)
  replace BW := BW.trans (hb21.mono BW.size)
  clear hb21
  obtain ⟨c24, c25, c26, c27⟩ := K5.c4
  rw [e20] at c24 c25 c26 c27
  go_wp2_with fail
  clear c24 c25 c26 c27
  rw [← e20]
  clear e20
  generalize w18.heap.size = b28 at *
  refine (wroot_sq D HV.out.2).mono ?_
  rintro _ w29 ⟨U, rs, l, rfl, N2, v2, hb⟩
  replace K5 := K5.on hb
  replace K9 := K9.on hb
  replace K22 := K22.on hb
  replace Z10 := Z10.on hb
  replace R := R.kp (Kept.of hb)
  replace N := N.kp (Kept.of hb)
  replace D := D.kp (Kept.of hb)
  replace N1 := N1.kp (Kept.of hb)
  replace BW := BW.trans (hb.mono BW.size)
  clear hb
  obtain ⟨V30, e31, hb32, K33, -, -⟩ := alloc_new w29 [.bool false, .slice U rs.length l] 25
  have n34 : w.heap.size + 1 ≠ w29.heap.size := Nat.ne_of_lt (K9.lt)
  replace K5 := K5.on hb32
  replace K9 := K9.on hb32
  replace K22 := K22.on hb32
  replace Z10 := Z10.on hb32
  replace R := R.kp (Kept.of hb32)
  replace N := N.kp (Kept.of hb32)
  replace D := D.kp (Kept.of hb32)
  replace N1 := N1.kp (Kept.of hb32)
  replace N2 := N2.kp (Kept.of hb32)
  replace BW := BW.trans (hb32.mono BW.size)
  clear hb32
  obtain ⟨c35, c36⟩ := K22.c2
  rw [e31] at c35 c36
  obtain ⟨c37, c38, c39, c40⟩ := K9.c4
  obtain ⟨c41, c42, c43, c44⟩ := Z10.f4
  rw [e31] at c37 c38 c39 c40 c41 c42 c43 c44
  obtain ⟨V45, hk47⟩ : ∃ V45, V45 = V30.setCells (w.heap.size + 1) 0 [.bool false, .slice V ls.length k, .bool false, .slice U rs.length l] := ⟨_, rfl⟩
  have e46 := hk47
  simp only [World.setCells, Nat.zero_add, Nat.reduceAdd] at e46
  have hk48 := Kept.overE hk47 K9 rfl (by simp)
  replace K5 := K5.awayE hk47 n11
  replace K9 := K9.overE hk47 rfl
  replace K22 := K22.awayE hk47 n23.symm
  replace K33 := K33.awayE hk47 n34.symm
  replace Z10 := Z10.putE hk47
  replace R := R.kp hk48
  replace N := N.kp hk48
  replace D := D.kp hk48
  replace N1 := N1.kp hk48
  replace N2 := N2.kp hk48
  replace BW := Below.putE BW hk47 g12
  clear hk47 hk48
  go_wp2_with fail
  clear c35 c36 c37 c38 c39 c40 c41 c42 c43 c44
  rw [← e31, ← e46]
  clear e31 e46
  generalize w29.heap.size = b49 at *
  obtain ⟨c50, c51, c52, c53⟩ := K9.c4
  exact bodyPost_ret (v := .tuple #[fv ⟨false, V, ls, k, false, U, rs, l⟩, .bool true, .int .i64 0]) (by simp [results, Tryz.results20, go_sem, c50, c51, c52, c53]) rfl ⟨⟨false, V, ls, k, false, U, rs, l⟩, rfl, ⟨rfl, ⟨⟨N1, by rw [v1]; exact HX.out⟩, ⟨N2, by rw [v2]; rfl⟩⟩⟩, BW⟩
end Go.Proofs.YtobbedcaeffbaaaGreatDoor
