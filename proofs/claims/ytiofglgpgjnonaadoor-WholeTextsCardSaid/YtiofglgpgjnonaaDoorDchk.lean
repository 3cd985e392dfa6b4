/-
  What the document's own Check, Long, told and Text's gate return. No conditions but that the lists are lists of limbs.
-/
import Derived.Test.YtiofglgpgjnonaaDoorDleft
namespace Go.Proofs.YtiofglgpgjnonaaDoor
open Go.RowKit Nb

set_option maxHeartbeats 400000 in
set_option maxRecDepth 100000 in
theorem rcheck_ok (neg : Bool) (A : Option Addr) (ls : List Nat) (c : Nat) (w : World) (hr : Sl .u32 w w.heap.size A ls) (ho : Ok neg ls) :
    Calls Tryd.prog 42 #[big neg A ls.length c] w fun e w' => e = .returned (.int .i64 0) ∧ Below w.heap.size w w' := by
  have hlen := ho.len
  rcases hn : ls.length with _ | j
  · have hneg : neg = false := ho.sign (List.eq_nil_of_length_eq_zero hn)
    subst hneg
    clear ho hr hlen hn
    go_enter Tryd.func42, Tryd.ntmps42
    go_wp2
    go_ret
    exact ⟨rfl, by go_grown⟩
  · obtain ⟨ad, rfl, hb, hcell⟩ := hr.at_ (i := j) (by omega)
    have hz := (norm_iff (xs := ls) (by omega)).1 ho.norm
    simp only [hn, Nat.add_sub_cancel] at hz
    have hbz : (((ls[j] : Nat) : Int) == 0) = false := by simp; omega
    have hj : j + 1 ≤ 2048 := by omega
    generalize ls[j] = x at *
    clear ho hr hlen hn hz
    go_enter Tryd.func42, Tryd.ntmps42
    go_wp2
    go_ret
    exact ⟨rfl, by go_grown⟩

set_option maxHeartbeats 400000 in
set_option maxRecDepth 100000 in
theorem rcheck_bad (neg : Bool) (A : Option Addr) (ls : List Nat) (c : Nat) (w : World) (hr : Sl .u32 w w.heap.size A ls) (hl : ls.length * 4 ≤ 140737488351232) (ho : ¬ Ok neg ls) :
    Calls Tryd.prog 42 #[big neg A ls.length c] w fun e w' => e = .returned (.int .i64 1) ∧ Below w.heap.size w w' := by
  by_cases hlen : ls.length ≤ 2048
  · rcases hn : ls.length with _ | j
    · have hneg : neg = true := by
        cases neg
        · exact absurd ⟨hlen, by rw [List.eq_nil_of_length_eq_zero hn]; exact Norm.nil, fun _ => rfl⟩ ho
        · rfl
      subst hneg
      clear ho hr hlen hn hl
      go_enter Tryd.func42, Tryd.ntmps42
      go_wp2
      go_ret
      exact ⟨rfl, by go_grown⟩
    · obtain ⟨ad, rfl, hb, hcell⟩ := hr.at_ (i := j) (by omega)
      have hz : ls[j] = 0 := by
        rcases Nat.eq_zero_or_pos ls[j] with h | h
        · exact h
        · refine absurd ⟨hlen, (norm_iff (xs := ls) (by omega)).2 ?_, fun e => by subst e; simp at hn⟩ ho
          simp only [hn, Nat.add_sub_cancel]; omega
      rw [hz] at hcell
      have hj : j + 1 ≤ 2048 := by omega
      clear ho hr hlen hn hz hl
      go_enter Tryd.func42, Tryd.ntmps42
      go_wp2
      go_ret
      exact ⟨rfl, by go_grown⟩
  · generalize ls.length = n at *
    clear ho hr
    go_enter Tryd.func42, Tryd.ntmps42
    go_wp2
    go_ret
    exact ⟨rfl, by go_grown⟩

set_option maxHeartbeats 400000 in
theorem rlong_any (neg : Bool) (A : Option Addr) (n c : Nat) (b : Bool) (w : World) (hl : n * 4 ≤ 140737488351232) (hb : b = decide (2048 < n)) :
    Calls Tryd.prog 79 #[big neg A n c] w fun e w' => e = .returned (.bool b) ∧ Below w.heap.size w w' := by
  by_cases h : 2048 < n
  · obtain rfl : b = true := by rw [hb]; simp [h]
    have hi : decide ((2048 : Int) < (n : Int)) = true := by simp; omega
    clear hb
    go_enter Tryd.func79, Tryd.ntmps79
    go_wp2
    go_ret
    exact ⟨rfl, by go_grown⟩
  · obtain rfl : b = false := by rw [hb]; simp [h]
    have hi : decide ((2048 : Int) < (n : Int)) = false := by simp; omega
    clear hb
    go_enter Tryd.func79, Tryd.ntmps79
    go_wp2
    go_ret
    exact ⟨rfl, by go_grown⟩

set_option maxHeartbeats 800000 in
theorem rtold_any (neg : Bool) (A : Option Addr) (n c : Nat) (w : World) (hl : n * 4 ≤ 140737488351232) :
    Calls Tryd.prog 45 #[big neg A n c] w fun e w' => (n ≤ 2048 ∧ e = .returned (.tuple #[big neg A n c, .int .i64 0]) ∨ 2048 < n ∧ e = .returned (.tuple #[big false none 0 0, .int .i64 4])) ∧ Below w.heap.size w w' := by
  have HL := Lib.hid (fun W => rlong_any neg A n c (decide (2048 < n)) W hl rfl)
  by_cases h : 2048 < n
  · have hd : decide (2048 < n) = true := by simp; omega
    rw [hd] at HL
    have H := Lib.hid h
    clear hd h
    go_enter Tryd.func45, Tryd.ntmps45
    go_wp2_with fail
    have hb0 : Below w.heap.size w ((w.alloc (.cells #[.bool neg, .slice A n c] 24)).alloc (.cells #[.bool false, .slice none 0 0] 24)) := by go_grown
    refine (HL.out _).mono ?_
    rintro e w1 ⟨rfl, hb1⟩
    have hb := hb0.trans (hb1.mono hb0.size)
    have c0 := (hb1.cell (p := ⟨w.heap.size + 1, 0, none⟩) (by show w.heap.size + 1 < _; simp; try omega)).trans (show ((w.alloc (.cells #[.bool neg, .slice A n c] 24)).alloc (.cells #[.bool false, .slice none 0 0] 24)).cell? ⟨w.heap.size + 1, 0, none⟩ = some (.bool false) from by go_cell)
    have c1 := (hb1.cell (p := ⟨w.heap.size + 1, 1, none⟩) (by show w.heap.size + 1 < _; simp; try omega)).trans (show ((w.alloc (.cells #[.bool neg, .slice A n c] 24)).alloc (.cells #[.bool false, .slice none 0 0] 24)).cell? ⟨w.heap.size + 1, 1, none⟩ = some (.slice none 0 0) from by go_cell)
    have f0 := (hb1.frozen (p := ⟨w.heap.size + 1, 0, none⟩) (by show w.heap.size + 1 < _; simp; try omega)).trans (show ((w.alloc (.cells #[.bool neg, .slice A n c] 24)).alloc (.cells #[.bool false, .slice none 0 0] 24)).frozen? ⟨w.heap.size + 1, 0, none⟩ = false from by go_cell)
    have f1 := (hb1.frozen (p := ⟨w.heap.size + 1, 1, none⟩) (by show w.heap.size + 1 < _; simp; try omega)).trans (show ((w.alloc (.cells #[.bool neg, .slice A n c] 24)).alloc (.cells #[.bool false, .slice none 0 0] 24)).frozen? ⟨w.heap.size + 1, 1, none⟩ = false from by go_cell)
    go_wp2
    exact bodyPost_ret (v := .tuple #[big false none 0 0, .int .i64 4]) (by simp [results, Tryd.results45, go_sem, c0, c1]) rfl ⟨.inr ⟨H.out, rfl⟩, (hb.setCell (p := ⟨w.heap.size + 1, 0, none⟩) (Nat.le_succ _) _).setCell (p := ⟨w.heap.size + 1, 1, none⟩) (Nat.le_succ _) _⟩
  · have hd : decide (2048 < n) = false := by simp; omega
    rw [hd] at HL
    have H := Lib.hid h
    clear hd h
    go_enter Tryd.func45, Tryd.ntmps45
    go_wp2_with fail
    have hb0 : Below w.heap.size w ((w.alloc (.cells #[.bool neg, .slice A n c] 24)).alloc (.cells #[.bool false, .slice none 0 0] 24)) := by go_grown
    refine (HL.out _).mono ?_
    rintro e w1 ⟨rfl, hb1⟩
    have hb := hb0.trans (hb1.mono hb0.size)
    have c0 := (hb1.cell (p := ⟨w.heap.size + 1, 0, none⟩) (by show w.heap.size + 1 < _; simp; try omega)).trans (show ((w.alloc (.cells #[.bool neg, .slice A n c] 24)).alloc (.cells #[.bool false, .slice none 0 0] 24)).cell? ⟨w.heap.size + 1, 0, none⟩ = some (.bool false) from by go_cell)
    have c1 := (hb1.cell (p := ⟨w.heap.size + 1, 1, none⟩) (by show w.heap.size + 1 < _; simp; try omega)).trans (show ((w.alloc (.cells #[.bool neg, .slice A n c] 24)).alloc (.cells #[.bool false, .slice none 0 0] 24)).cell? ⟨w.heap.size + 1, 1, none⟩ = some (.slice none 0 0) from by go_cell)
    have f0 := (hb1.frozen (p := ⟨w.heap.size + 1, 0, none⟩) (by show w.heap.size + 1 < _; simp; try omega)).trans (show ((w.alloc (.cells #[.bool neg, .slice A n c] 24)).alloc (.cells #[.bool false, .slice none 0 0] 24)).frozen? ⟨w.heap.size + 1, 0, none⟩ = false from by go_cell)
    have f1 := (hb1.frozen (p := ⟨w.heap.size + 1, 1, none⟩) (by show w.heap.size + 1 < _; simp; try omega)).trans (show ((w.alloc (.cells #[.bool neg, .slice A n c] 24)).alloc (.cells #[.bool false, .slice none 0 0] 24)).frozen? ⟨w.heap.size + 1, 1, none⟩ = false from by go_cell)
    have d0 := (hb1.cell (p := ⟨w.heap.size, 0, none⟩) (by show w.heap.size < _; simp; try omega)).trans (show ((w.alloc (.cells #[.bool neg, .slice A n c] 24)).alloc (.cells #[.bool false, .slice none 0 0] 24)).cell? ⟨w.heap.size, 0, none⟩ = some (.bool neg) from by go_cell)
    have d1 := (hb1.cell (p := ⟨w.heap.size, 1, none⟩) (by show w.heap.size < _; simp; try omega)).trans (show ((w.alloc (.cells #[.bool neg, .slice A n c] 24)).alloc (.cells #[.bool false, .slice none 0 0] 24)).cell? ⟨w.heap.size, 1, none⟩ = some (.slice A n c) from by go_cell)
    go_wp2
    exact bodyPost_ret (v := .tuple #[big neg A n c, .int .i64 0]) (by simp [results, Tryd.results45, go_sem, c0, c1]) rfl ⟨.inl ⟨by have := H.out; omega, rfl⟩, (hb.setCell (p := ⟨w.heap.size + 1, 0, none⟩) (Nat.le_succ _) _).setCell (p := ⟨w.heap.size + 1, 1, none⟩) (Nat.le_succ _) _⟩
end Go.Proofs.YtiofglgpgjnonaaDoor
