/-
  What the statements' own helpers and the gate of package whole return: may a number be, are two the same. No conditions but that the lists are lists of limbs.
-/
import Derived.Test.YtplgheabhekedaaGreatDoorCmp
import Derived.Test.YtplgheabhekedaaGreatDoorMid
namespace Go.Proofs.YtplgheabhekedaaGreatDoor
open Go.RowKit Nb

abbrev W32 : Nat := 4294967296
/-- May a number be (what Check asks)? -/
structure Ok (neg : Bool) (ls : List Nat) : Prop where
  len : ls.length ≤ 2048
  norm : Norm ls
  sign : ls = [] → neg = false

set_option maxHeartbeats 400000 in
set_option maxRecDepth 100000 in
theorem check_ok (neg : Bool) (A : Option Addr) (ls : List Nat) (c : Nat) (w : World) (hr : Sl .u32 w w.heap.size A ls) (ho : Ok neg ls) :
    Calls Tryz.prog 104 #[big neg A ls.length c] w fun e w' => e = .returned (.int .i64 0) ∧ Below w.heap.size w w' := by
  have hlen := ho.len
  rcases hn : ls.length with _ | j
  · have hneg : neg = false := ho.sign (List.eq_nil_of_length_eq_zero hn)
    subst hneg
    clear ho hr hlen hn
    go_enter Tryz.func104, Tryz.ntmps104
    go_wp2
    go_ret
    exact ⟨rfl, by go_grown⟩
  · obtain ⟨ad, rfl, hb, hcell⟩ := hr.at_ (i := j) (by omega)
    have hz := (norm_iff (xs := ls) (by omega)).1 ho.norm
    simp only [hn, Nat.add_sub_cancel] at hz
    have hbz : (((ls[j] : Nat) : Int) == 0) = false := by simp; omega
    have hj : j + 1 ≤ 2048 := by omega
    generalize ls[j] = x at *
    clear ho hr hlen hn hz
    go_enter Tryz.func104, Tryz.ntmps104
    go_wp2
    go_ret
    exact ⟨rfl, by go_grown⟩

set_option maxHeartbeats 400000 in
set_option maxRecDepth 100000 in
theorem check_bad (neg : Bool) (A : Option Addr) (ls : List Nat) (c : Nat) (w : World) (hr : Sl .u32 w w.heap.size A ls) (hl : ls.length * 4 ≤ 140737488351232) (ho : ¬ Ok neg ls) :
    Calls Tryz.prog 104 #[big neg A ls.length c] w fun e w' => e = .returned (.int .i64 1) ∧ Below w.heap.size w w' := by
  by_cases hlen : ls.length ≤ 2048
  · rcases hn : ls.length with _ | j
    · have hneg : neg = true := by
        cases neg
        · exact absurd ⟨hlen, by rw [List.eq_nil_of_length_eq_zero hn]; exact Norm.nil, fun _ => rfl⟩ ho
        · rfl
      subst hneg
      clear ho hr hlen hn hl
      go_enter Tryz.func104, Tryz.ntmps104
      go_wp2
      go_ret
      exact ⟨rfl, by go_grown⟩
    · obtain ⟨ad, rfl, hb, hcell⟩ := hr.at_ (i := j) (by omega)
      have hz : ls[j] = 0 := by
        rcases Nat.eq_zero_or_pos ls[j] with h | h
        · exact h
        · refine absurd ⟨hlen, (norm_iff (xs := ls) (by omega)).2 ?_, fun e => by subst e; simp at hn⟩ ho
          simp only [hn, Nat.add_sub_cancel]; omega
      rw [hz] at hcell
      have hj : j + 1 ≤ 2048 := by omega
      clear ho hr hlen hn hz hl
      go_enter Tryz.func104, Tryz.ntmps104
      go_wp2
      go_ret
      exact ⟨rfl, by go_grown⟩
  · generalize ls.length = n at *
    clear ho hr
    go_enter Tryz.func104, Tryz.ntmps104
    go_wp2
    go_ret
    exact ⟨rfl, by go_grown⟩

set_option maxHeartbeats 400000 in
theorem same_yes (neg : Bool) (A B : Option Addr) (ls : List Nat) (c d : Nat) (w : World) (hr : Sl .u32 w w.heap.size A ls) (hs : Sl .u32 w w.heap.size B ls) (hl : ls.length * 4 ≤ 140737488351232) :
    Calls Tryz.prog 66 #[big neg A ls.length c, big neg B ls.length d] w fun e w' => e = .returned (.bool true) ∧ Below w.heap.size w w' := by
  go_enter Tryz.func66, Tryz.ntmps66
  go_wp2
  have hW : ∃ W : World, W = ((w.alloc (Obj.cells #[Value.bool neg, Value.slice A ls.length c] 24)).alloc (Obj.cells #[Value.bool neg, Value.slice B ls.length d] 24)) ∧ Below w.heap.size w W ∧
      W.cell? ⟨w.heap.size, 1, none⟩ = some (.slice A ls.length c) ∧ W.cell? ⟨w.heap.size + 1, 1, none⟩ = some (.slice B ls.length d) := by
    refine ⟨_, rfl, by go_grown, ?_, ?_⟩ <;> go_cell
  obtain ⟨W, hW, hb, c1, c2⟩ := hW
  rw [← hW]
  clear hW
  go_loopw [5] (fun iv wr => ∃ k : Nat, k ≤ ls.length ∧ iv = .int .i64 k ∧ Qu W wr) (fun iv _ => ls.length - (intOf iv).toNat)
  case atStart => exact ⟨0, Nat.zero_le _, rfl, Qu.refl _⟩
  case round =>
    obtain ⟨k, hk, rfl, hqu⟩ := hrel
    rw [← hqu.cell] at c1 c2
    by_cases hlt : k < ls.length
    · obtain ⟨ad, rfl, hb1, h1⟩ := (hr.below hb).at_ hlt
      obtain ⟨bd, rfl, hb2, h2⟩ := (hs.below hb).at_ hlt
      rw [← hqu.cell] at h1 h2
      have hji : (k : Int) < (ls.length : Int) := by omega
      go_wp2
      go_quiet (fail)
      go_wp2
      go_roundw
      case rel => exact ⟨k + 1, by omega, by go_num, hqu.drew _⟩
      case measure => simp [intOf]; omega
    · go_wp2
      go_ret
      exact ⟨rfl, hb.trans (hqu.below _)⟩
end Go.Proofs.YtplgheabhekedaaGreatDoor
