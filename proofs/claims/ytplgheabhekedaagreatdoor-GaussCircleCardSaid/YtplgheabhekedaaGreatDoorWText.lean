/-
  What whole.Text returns of a number other than nought that may be: its digits. No conditions but that it may be, and that the table of powers lies where it lies.
-/
import Derived.Test.YtplgheabhekedaaGreatDoorWh
namespace Go.Proofs.YtplgheabhekedaaGreatDoor
open Go.RowKit Nb

set_option maxHeartbeats 1000000 in
theorem wtext_pos (neg : Bool) (A : Option Addr) (ls : List Nat) (c : Nat) (w : World) (hr : Sl .u32 w w.heap.size A ls) (hd : Dig W32 ls) (ho : Ok neg ls) (hpos : 0 < ls.length) (htab : Tab w) :
    Calls Tryz.prog 152 #[big neg A ls.length c] w fun e w' => e = .returned (.tuple #[.string ⟨((if neg then [45] else []) ++ Lib.decDigits (val W32 ls)).toArray⟩, .int .i64 0]) ∧ Below w.heap.size w w' := by
  obtain ⟨z, hz⟩ : ∃ z : ByteArray, ⟨((if neg then [45] else []) ++ Lib.decDigits (val W32 ls)).toArray⟩ = z := ⟨_, rfl⟩
  rw [hz]
  have HZ := Lib.hid hz
  clear hz
  have hlen := ho.len
  have hpl : (pack ls).length ≤ 1024 := by rw [pack_length]; omega
  have hpp : 0 < (pack ls).length := by rw [pack_length]; omega
  have HB := Lib.hid (And.intro (norm_pack ho.norm) (val_pack ls))
  have HT := Lib.hid htab
  clear htab
  go_enter Tryz.func152, Tryz.ntmps152
  go_wp2_with fail
  refine (check_ok neg A ls c _ (by exact ((hr.alloc (Nat.le_refl _) _).more (by go_size))) ho).mono ?_
  rintro e w1 ⟨rfl, hb1⟩
  obtain ⟨a0, a1, hbw, hs1, hz1⟩ := head_facts hr hb1
  go_wp2_with fail
  refine (from_any neg A ls c _ hs1 hd (by omega)).mono ?_
  rw [ok_neg ho]
  rintro e w2 ⟨g, rfl, hrow, hg, hb2⟩
  have hb12 := hbw.trans (hb2.mono hbw.size)
  have tb := tab_below HT.out hb12
  go_wp2_with fail
  refine (ltext_pos neg _ (pack ls) _ _ (sl_row hrow) (dig_pack hd) HB.out.1 (by omega) hpp tb).mono ?_
  rw [HB.out.2]
  rw [HZ.out]
  rintro e w3 ⟨rfl, hb3⟩
  go_wp2
  go_ret2
  exact ⟨rfl, hb12.trans (hb3.mono hb12.size)⟩
end Go.Proofs.YtplgheabhekedaaGreatDoor
