/-
  What whole.Sign, whole.Bits and whole.Int64 return. No conditions but that the lists are lists of limbs.
-/
import Derived.Test.YtdfbakdfakijbaaOf2
import Derived.Test.YtdfbakdfakijbaaI64
namespace Go.Proofs.Ytdfbakdfakijbaa
open Go.RowKit Nb

theorem ok_neg {neg : Bool} {ls : List Nat} (h : Ok neg ls) : (neg && decide (0 < (pack ls).length)) = neg := by
  cases neg
  · rfl
  · have : ls ≠ [] := fun e => by have := h.sign e; simp at this
    have h2 : 0 < ls.length := List.length_pos_iff.2 this
    have h3 := pack_length ls
    simp; omega
theorem ok_nil {neg : Bool} {ls : List Nat} (h : Ok neg ls) (e : pack ls = []) : neg = false := by
  apply h.sign
  have h3 := pack_length ls
  rw [e] at h3
  apply List.eq_nil_of_length_eq_zero
  simp at h3; omega
theorem sgn_pack (neg : Bool) (ls : List Nat) : sgn neg (pack ls) = sgn neg ls := by
  unfold sgn
  have h3 := pack_length ls
  by_cases h0 : ls.length = 0
  · have h4 : (pack ls).length = 0 := by omega
    rw [h0, h4]
  · have h4 : ¬ (pack ls).length = 0 := by omega
    simp only [h0, h4, if_false]

/-- The first half of each: Check says yes, then From. Afterwards the number lies in words at g. -/
theorem head_facts {w w1 : World} {neg : Bool} {A : Option Addr} {ls : List Nat} {c : Nat} (hr : Sl .u32 w w.heap.size A ls)
    (hb1 : Below (w.alloc (.cells #[.bool neg, .slice A ls.length c] 24)).heap.size (w.alloc (.cells #[.bool neg, .slice A ls.length c] 24)) w1) :
    w1.cell? ⟨w.heap.size, 0, none⟩ = some (.bool neg) ∧ w1.cell? ⟨w.heap.size, 1, none⟩ = some (.slice A ls.length c) ∧ Below w.heap.size w w1 ∧ Sl .u32 w1 w1.heap.size A ls ∧ w.heap.size < w1.heap.size := by
  have hbw : Below w.heap.size w w1 := by refine Below.trans ?_ (hb1.mono (by go_size)); go_grown
  refine ⟨by rw [hb1.cell (by go_size)]; go_cell, by rw [hb1.cell (by go_size)]; go_cell, hbw, (hr.below hbw).more hbw.size, ?_⟩
  have := hb1.size
  simp at this; omega

set_option maxHeartbeats 400000 in
theorem wsign_ok (neg : Bool) (A : Option Addr) (ls : List Nat) (c : Nat) (w : World) (hr : Sl .u32 w w.heap.size A ls) (hd : Dig W32 ls) (ho : Ok neg ls) :
    Calls Try.prog 10 #[big neg A ls.length c] w fun e w' => e = .returned (.int .i64 (sgn neg ls)) ∧ Below w.heap.size w w' := by
  have hlen := ho.len
  have hpl : (pack ls).length ≤ 1024 := by rw [pack_length]; omega
  go_enter Try.func10, Try.ntmps10
  go_wp2_with fail
  refine (check_ok neg A ls c _ (by exact ((hr.alloc (Nat.le_refl _) _).more (by go_size))) ho).mono ?_
  rintro e w1 ⟨rfl, hb1⟩
  obtain ⟨a0, a1, hbw, hs1, hz1⟩ := head_facts hr hb1
  go_wp2_with fail
  refine (from_any neg A ls c _ hs1 hd (by omega)).mono ?_
  rw [ok_neg ho]
  rintro e w2 ⟨g, rfl, hrow, hg, hb2⟩
  go_wp2_with fail
  refine (sign_any neg _ (pack ls) _ _ (by omega)).mono ?_
  rw [sgn_pack]
  rintro e w3 ⟨rfl, hb3⟩
  go_wp2
  go_ret
  exact ⟨rfl, hbw.trans ((hb2.mono (by omega)).trans (hb3.mono (by have := hb2.size; omega)))⟩

set_option maxHeartbeats 400000 in
theorem wbits_ok (neg : Bool) (A : Option Addr) (ls : List Nat) (c : Nat) (w : World) (hr : Sl .u32 w w.heap.size A ls) (hd : Dig W32 ls) (ho : Ok neg ls) :
    Calls Try.prog 12 #[big neg A ls.length c] w fun e w' => e = .returned (.int .i64 (bitLen (val W32 ls))) ∧ Below w.heap.size w w' := by
  have hlen := ho.len
  have hpl : (pack ls).length ≤ 1024 := by rw [pack_length]; omega
  have hbl : lenL (pack ls) = bitLen (val W32 ls) := by rw [lenL_val (dig_pack hd) (norm_pack ho.norm), val_pack]
  have HB := Lib.hid hbl; clear hbl
  go_enter Try.func12, Try.ntmps12
  go_wp2_with fail
  refine (check_ok neg A ls c _ (by exact ((hr.alloc (Nat.le_refl _) _).more (by go_size))) ho).mono ?_
  rintro e w1 ⟨rfl, hb1⟩
  obtain ⟨a0, a1, hbw, hs1, hz1⟩ := head_facts hr hb1
  go_wp2_with fail
  refine (from_any neg A ls c _ hs1 hd (by omega)).mono ?_
  rw [ok_neg ho]
  rintro e w2 ⟨g, rfl, hrow, hg, hb2⟩
  go_wp2_with fail
  refine (bits_any neg _ (pack ls) _ _ (hrow.sl hrow.lt) (dig_pack hd) (by omega)).mono ?_
  rw [HB.out]
  rintro e w3 ⟨rfl, hb3⟩
  go_wp2
  go_ret
  exact ⟨rfl, hbw.trans ((hb2.mono (by omega)).trans (hb3.mono (by have := hb2.size; omega)))⟩

set_option maxHeartbeats 400000 in
theorem wint64_yes (neg : Bool) (A : Option Addr) (ls : List Nat) (c : Nat) (w : World) (hr : Sl .u32 w w.heap.size A ls) (hd : Dig W32 ls) (ho : Ok neg ls)
    (z : Int) (hz : z = sv neg (val W32 ls)) (h0 : -9223372036854775808 ≤ z) (h1 : z ≤ 9223372036854775807) :
    Calls Try.prog 7 #[big neg A ls.length c] w fun e w' => e = .returned (.tuple #[.int .i64 z, .bool true]) ∧ Below w.heap.size w w' := by
  have hlen := ho.len
  have hpl : (pack ls).length ≤ 1024 := by rw [pack_length]; omega
  rw [← val_pack] at hz
  have HZ := Lib.hid hz; clear hz
  go_enter Try.func7, Try.ntmps7
  go_wp2_with fail
  refine (check_ok neg A ls c _ (by exact ((hr.alloc (Nat.le_refl _) _).more (by go_size))) ho).mono ?_
  rintro e w1 ⟨rfl, hb1⟩
  obtain ⟨a0, a1, hbw, hs1, hz1⟩ := head_facts hr hb1
  go_wp2_with fail
  refine (from_any neg A ls c _ hs1 hd (by omega)).mono ?_
  rw [ok_neg ho]
  rintro e w2 ⟨g, rfl, hrow, hg, hb2⟩
  go_wp2_with fail
  refine (lint64_yes neg _ (pack ls) _ _ (hrow.sl hrow.lt) (dig_pack hd) (norm_pack ho.norm) (by omega) (ok_nil ho) z HZ.out h0 h1).mono ?_
  rintro e w3 ⟨rfl, hb3⟩
  go_wp2
  go_ret2
  exact ⟨rfl, hbw.trans ((hb2.mono (by omega)).trans (hb3.mono (by have := hb2.size; omega)))⟩

set_option maxHeartbeats 400000 in
theorem wint64_no (neg : Bool) (A : Option Addr) (ls : List Nat) (c : Nat) (w : World) (hr : Sl .u32 w w.heap.size A ls) (hd : Dig W32 ls) (ho : Ok neg ls)
    (hz : sv neg (val W32 ls) < -9223372036854775808 ∨ 9223372036854775807 < sv neg (val W32 ls)) :
    Calls Try.prog 7 #[big neg A ls.length c] w fun e w' => e = .returned (.tuple #[.int .i64 0, .bool false]) ∧ Below w.heap.size w w' := by
  have hlen := ho.len
  have hpl : (pack ls).length ≤ 1024 := by rw [pack_length]; omega
  rw [← val_pack] at hz
  have HZ := Lib.hid hz; clear hz
  go_enter Try.func7, Try.ntmps7
  go_wp2_with fail
  refine (check_ok neg A ls c _ (by exact ((hr.alloc (Nat.le_refl _) _).more (by go_size))) ho).mono ?_
  rintro e w1 ⟨rfl, hb1⟩
  obtain ⟨a0, a1, hbw, hs1, hz1⟩ := head_facts hr hb1
  go_wp2_with fail
  refine (from_any neg A ls c _ hs1 hd (by omega)).mono ?_
  rw [ok_neg ho]
  rintro e w2 ⟨g, rfl, hrow, hg, hb2⟩
  go_wp2_with fail
  refine (lint64_no neg _ (pack ls) _ _ (hrow.sl hrow.lt) (dig_pack hd) (by omega) HZ.out).mono ?_
  rintro e w3 ⟨rfl, hb3⟩
  go_wp2
  go_ret2
  exact ⟨rfl, hbw.trans ((hb2.mono (by omega)).trans (hb3.mono (by have := hb2.size; omega)))⟩
end Go.Proofs.Ytdfbakdfakijbaa
