/-
  What frac's parse calls: strings.Cut at a stroke, large.Parse of any text, Den and Cmp of what it reads. Conditions: texts no longer than 65536 bytes; a variable of the library's own holds some integer.
-/
import Derived.Test.YtobbedcaeffbaaaGreatDoorFp2
import Derived.Test.YtobbedcaeffbaaaGreatDoorGrt
import Derived.Test.YtobbedcaeffbaaaGreatDoorFfl
import Derived.Test.YtobbedcaeffbaaaGreatDoorBk0
import Derived.Test.YtobbedcaeffbaaaGreatDoorShelf
namespace Go.Proofs.YtobbedcaeffbaaaGreatDoor
open Go.RowKit Nb
/-- The library's own variable holds some integer. -/
def Mxl (w : World) : Prop := 3 < w.heap.size ∧ ∃ m, w.cell? ⟨3, 0, none⟩ = some (.int .i64 m)
theorem mxl_below {w w' : World} (h : Mxl w) (hb : Below w.heap.size w w') : Mxl w' := by
  obtain ⟨h1, m, h2⟩ := h
  exact ⟨Nat.lt_of_lt_of_le h1 hb.size, m, (hb.cell (p := ⟨_, 0, none⟩) h1).trans h2⟩
theorem cut_call {s : ByteArray} {w : World} (hs : s.size ≤ 65536) (hM : Mxl w) :
    Calls Tryz.prog 184 #[.string s, .string ⟨#[47]⟩] w (fun e w' => ∃ (a b : ByteArray) (d : Bool), e = .returned (.tuple #[.string a, .string b, .bool d]) ∧ Lib.cut s.data.toList [47] = (a.data.toList, b.data.toList, d) ∧ (a.size ≤ 65536 ∧ b.size ≤ 65536) ∧ Below w.heap.size w w') := by
  obtain ⟨_, m, hm⟩ := hM
  refine (Tryz.strings_Cut s ⟨#[47]⟩ m w (by omega) hm).mono ?_
  rintro e w' ⟨rfl, n, rfl⟩
  refine ⟨_, _, _, rfl, rfl, ?_, below_drewN (Below.refl _ _) n⟩
  have hl : s.data.toList.length = s.size := by simp
  rcases cut_cases s.data.toList with ⟨a, b, h1, h2⟩ | h1
  · have h3 : Lib.cut s.data.toList (⟨#[47]⟩ : ByteArray).data.toList = (a, b, true) := by rw [h2]; exact cut_yes h1
    rw [h3]
    rw [h2] at hl
    simp at hl
    exact ⟨by show a.length ≤ 65536; omega, by show b.length ≤ 65536; omega⟩
  · have h3 : Lib.cut s.data.toList (⟨#[47]⟩ : ByteArray).data.toList = (s.data.toList, [], false) := cut_no h1
    rw [h3]
    exact ⟨by show s.data.toList.length ≤ 65536; omega, by show 0 ≤ 65536; omega⟩
theorem lparse_n {s : ByteArray} {w : World} (hs : s.size ≤ 65536) :
    Calls Tryz.prog 185 #[.string s] w (fun e w' => ∃ (n : Bool) (V : Option Addr) (zs : List Nat) (k : Nat) (ok : Bool) (Z : Int), e = .returned (.tuple #[big n V zs.length k, .bool ok]) ∧
      (ok = true ↔ IsNum s.data.toList) ∧ (ok = true → Z = numV s.data.toList) ∧ Nw w' Z maxLen n V zs k ∧ zs.length ≤ 65536 ∧ Below w.heap.size w w') := by
  have hll : s.data.toList.length = s.size := by simp
  refine (lparse_any s w (by omega)).mono ?_
  rintro e w' ⟨n, V, zs, k, ok, rfl, ⟨rfl, h1, h2, h3, h4⟩ | ⟨rfl, h1, rfl, rfl, rfl, rfl⟩, hb⟩
  · exact ⟨n, V, zs, k, true, _, rfl, ⟨fun _ => h1, fun _ => rfl⟩, fun _ => rfl, ⟨h2, h4⟩, by omega, hb⟩
  · exact ⟨false, none, [], 0, false, 0, rfl, ⟨fun h => (by cases h), fun h => absurd h h1⟩, fun h => (by cases h), ⟨⟨Sl.none_, Dig.nil _, fun h => absurd rfl h, fun _ => rfl, Nat.le_refl _, Nat.zero_le _⟩, rfl⟩, by simp, hb⟩
theorem den_one {X Y : Int} (hY : 1 < Y) : ((Rat.divInt X Y).den : Int) = Y ↔ Nat.gcd X.natAbs Y.natAbs = 1 := by
  have h1 : Int.gcd Y X = Nat.gcd X.natAbs Y.natAbs := Nat.gcd_comm _ _
  have hg : 0 < Nat.gcd X.natAbs Y.natAbs := Nat.gcd_pos_of_pos_right _ (by omega)
  rw [Rat.den_divInt, if_neg (by omega), h1]
  generalize Nat.gcd X.natAbs Y.natAbs = g at *
  constructor
  · intro h
    have h2 : Y.natAbs / g = Y.natAbs := by omega
    have h3 := Nat.div_mul_le_self Y.natAbs g
    rw [h2] at h3
    rcases Nat.lt_or_ge g 2 with k | k
    · omega
    · have := Nat.mul_le_mul_left Y.natAbs k; omega
  · rintro rfl
    rw [Nat.div_one]; omega
theorem lcmp_n {W : World} {X Y : Int} {C D : Nat} {n m : Bool} {A B : Option Addr} {xs ys : List Nat} {c d : Nat} (h : Nw W X C n A xs c) (k : Nw W Y D m B ys d) (hx : xs.length ≤ 1000000) (hy : ys.length ≤ 1000000) :
    Calls Tryz.prog 179 #[big n A xs.length c, big m B ys.length d] W (fun e w' => e = .returned (.int .i64 (cmpI X Y)) ∧ Below W.heap.size W w') := by
  have := lcmp_any n m A B xs ys c d W h.bg.sl k.bg.sl h.bg.dig k.bg.dig h.bg.norm k.bg.norm (by omega) (by omega) (fun hn => bg_pos h.bg hn) (fun hn => bg_pos k.bg hn)
  rw [h.v, k.v] at this
  exact this
end Go.Proofs.YtobbedcaeffbaaaGreatDoor
