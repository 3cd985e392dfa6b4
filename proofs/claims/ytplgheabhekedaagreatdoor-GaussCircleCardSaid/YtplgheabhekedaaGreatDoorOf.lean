/-
  What large.Of and whole.Of return, and the document's own Of: the number of 64 bits. No conditions.
-/
import Derived.Test.YtplgheabhekedaaGreatDoorBig
namespace Go.Proofs.YtplgheabhekedaaGreatDoor
open Go.RowKit Nb

def ofL (n : Int) : List Nat := trimL [n.natAbs]
theorem ofL_dig {n : Int} (h0 : -9223372036854775808 ≤ n) (h1 : n ≤ 9223372036854775807) : Dig W64 (ofL n) := dig_trimL (Dig.one (show n.natAbs < 18446744073709551616 by omega))
theorem ofL_norm (n : Int) : Norm (ofL n) := norm_trimL _
theorem ofL_val (n : Int) : val W64 (ofL n) = n.natAbs := by rw [ofL, val_trimL]; simp [val]
theorem ofL_len (n : Int) : (ofL n).length ≤ 1 := trimL_len _
theorem ofL_pos {n : Int} (h : n ≠ 0) : 0 < (ofL n).length := by
  rcases Nat.eq_zero_or_pos (ofL n).length with h0 | h0
  · have := ofL_val n
    rw [List.eq_nil_of_length_eq_zero h0] at this
    simp [val] at this; omega
  · exact h0

set_option maxHeartbeats 400000 in
theorem large_of_any (n : Int) (w : World) (h0 : -9223372036854775808 ≤ n) (h1 : n ≤ 9223372036854775807) :
    Calls Tryz.prog 111 #[.int .i64 n] w fun e w' => ∃ g, e = .returned (big (decide (n < 0)) (some ⟨g, 0, none⟩) (ofL n).length 1) ∧
      Sl .u64 w' w'.heap.size (some ⟨g, 0, none⟩) (ofL n) ∧ w.heap.size ≤ g ∧ Below w.heap.size w w' := by
  have hsl : ∀ (W : World) (g m : Nat), g = W.heap.size → Sl .u64 (W.alloc (.cells #[.int .u64 m] 182)) (W.alloc (.cells #[.int .u64 m] 182)).heap.size (some ⟨g, 0, none⟩) [m] := fun W g m hg => by
    have h : Row .u64 (W.alloc (.cells #[.int .u64 m] 182)) W.heap.size 182 [m] := heap_alloc_new W _
    subst hg
    exact h.sl h.lt
  have hln := ofL_len n
  by_cases hneg : n < 0
  · have hpos := ofL_pos (n := n) (by omega)
    have hd : decide (n < 0) = true := by simpa using hneg
    rw [hd]
    clear hd
    unfold ofL at *
    generalize hm : n.natAbs = m at *
    have hab : IntKind.u64.wrap (-IntKind.u64.wrap n) = (m : Nat) := by rw [IntKind.wrap_u64, IntKind.wrap_u64]; omega
    clear hm
    generalize hL : (trimL [m]).length = L at *
    have HL := Lib.hid hL; clear hL
    go_enter Tryz.func111, Tryz.ntmps111
    go_wp2_with fail
    refine (trim_any (some ⟨w.heap.size + 1, 0, none⟩) [m] 1 _ (by exact (hsl _ _ _ (by simp))) (by simp) (by unfold maxLen; omega)).mono ?_
    rw [HL.out]
    rintro e w1 ⟨rfl, rfl⟩
    go_wp2_with fail
    refine (made_any _ _ _ _ _ (by unfold maxLen; omega)).mono ?_; rintro e w2 ⟨rfl, hb2⟩
    have e0 : w2.cell? ⟨w.heap.size, 0, none⟩ = some (.bool false) := by rw [hb2.cell (by go_size)]; go_cell
    have e1 : w2.cell? ⟨w.heap.size, 1, none⟩ = some (.slice none 0 0) := by rw [hb2.cell (by go_size)]; go_cell
    have f0 : w2.frozen? ⟨w.heap.size, 0, none⟩ = false := by rw [hb2.frozen (by go_size)]; simp
    have f1 : w2.frozen? ⟨w.heap.size, 1, none⟩ = false := by rw [hb2.frozen (by go_size)]; simp
    have hs2 : Row .u64 w2 (w.heap.size + 1) 182 [m] := by
      have h : Row .u64 ((w.alloc (.cells #[.bool false, .slice none 0 0] 85)).alloc (.cells #[.int .u64 m] 182)) (w.alloc (.cells #[.bool false, .slice none 0 0] 85)).heap.size 182 [m] := heap_alloc_new _ _
      have h2 := h.below hb2 h.lt
      simpa using h2
    have hb3 : Below w.heap.size w w2 := by refine Below.trans ?_ (hb2.mono (by go_size)); go_grown
    have hz2 : w.heap.size + 1 < w2.heap.size := by have := hb2.size; simp at this; omega
    go_wp2
    refine bodyPost_ret (v := big true (some ⟨w.heap.size + 1, 0, none⟩) L 1) (by simp [results, Tryz.results111, go_sem, e0, e1]) rfl ?_
    refine ⟨w.heap.size + 1, rfl, ?_, by omega, (hb3.setCell (by simp) _).setCell (by simp) _⟩
    exact sl_trimL (((hs2.far (by simp) _).far (by simp) _).sl (by simp; omega))
  · have hd : decide (n < 0) = false := by simpa using hneg
    have hn0 : 0 ≤ n := by omega
    rw [hd]
    clear hd
    unfold ofL at *
    generalize hm : n.natAbs = m at *
    have hab : IntKind.u64.wrap n = (m : Nat) := by rw [IntKind.wrap_u64]; omega
    clear hm
    generalize hL : (trimL [m]).length = L at *
    have HL := Lib.hid hL; clear hL
    go_enter Tryz.func111, Tryz.ntmps111
    go_wp2_with fail
    refine (trim_any (some ⟨w.heap.size + 1, 0, none⟩) [m] 1 _ (by exact (hsl _ _ _ (by simp))) (by simp) (by unfold maxLen; omega)).mono ?_
    rw [HL.out]
    rintro e w1 ⟨rfl, rfl⟩
    go_wp2_with fail
    refine (made_any _ _ _ _ _ (by unfold maxLen; omega)).mono ?_; rintro e w2 ⟨rfl, hb2⟩
    have e0 : w2.cell? ⟨w.heap.size, 0, none⟩ = some (.bool false) := by rw [hb2.cell (by go_size)]; go_cell
    have e1 : w2.cell? ⟨w.heap.size, 1, none⟩ = some (.slice none 0 0) := by rw [hb2.cell (by go_size)]; go_cell
    have f0 : w2.frozen? ⟨w.heap.size, 0, none⟩ = false := by rw [hb2.frozen (by go_size)]; simp
    have f1 : w2.frozen? ⟨w.heap.size, 1, none⟩ = false := by rw [hb2.frozen (by go_size)]; simp
    have hs2 : Row .u64 w2 (w.heap.size + 1) 182 [m] := by
      have h : Row .u64 ((w.alloc (.cells #[.bool false, .slice none 0 0] 85)).alloc (.cells #[.int .u64 m] 182)) (w.alloc (.cells #[.bool false, .slice none 0 0] 85)).heap.size 182 [m] := heap_alloc_new _ _
      have h2 := h.below hb2 h.lt
      simpa using h2
    have hb3 : Below w.heap.size w w2 := by refine Below.trans ?_ (hb2.mono (by go_size)); go_grown
    have hz2 : w.heap.size + 1 < w2.heap.size := by have := hb2.size; simp at this; omega
    go_wp2
    refine bodyPost_ret (v := big false (some ⟨w.heap.size + 1, 0, none⟩) L 1) (by simp [results, Tryz.results111, go_sem, e0, e1]) rfl ?_
    refine ⟨w.heap.size + 1, rfl, ?_, by omega, (hb3.setCell (by simp) _).setCell (by simp) _⟩
    exact sl_trimL (((hs2.far (by simp) _).far (by simp) _).sl (by simp; omega))
end Go.Proofs.YtplgheabhekedaaGreatDoor
