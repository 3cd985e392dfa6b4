/-
  What whole.Of returns, and the document's own Of: the limbs of a number of 64 bits. No conditions.
-/
import Derived.Test.YtdfbakdfakijbaaRef
namespace Go.Proofs.Ytdfbakdfakijbaa
open Go.RowKit Nb

/-- The limbs of a number of 64 bits. -/
def ofI (n : Int) : List Nat := unpack (ofL n)
section
variable {n : Int} (h0 : -9223372036854775808 ≤ n) (h1 : n ≤ 9223372036854775807)
include h0 h1
theorem ofI_val : val W32 (ofI n) = n.natAbs := by rw [ofI, val_unpack (ofL_dig h0 h1) (ofL_norm n), ofL_val]
theorem ofI_norm : Norm (ofI n) := norm_unpack (ofL_dig h0 h1) (ofL_norm n)
theorem ofI_len : (ofI n).length ≤ 2 := by
  rw [ofI, unpack_length]
  have h := lenL_le (ofL_dig h0 h1)
  have := ofL_len n
  unfold limbsL; omega
theorem ofI_two : trimL [n.natAbs % 4294967296, n.natAbs / 4294967296] = ofI n := by
  refine norm_inj (B := W32) (by decide) (dig_trimL ?_) (dig_unpack _) (norm_trimL _) (ofI_norm h0 h1) ?_
  · intro x hx
    simp at hx
    show x < 4294967296
    omega
  · rw [ofI_val h0 h1, val_trimL]
    simp [val, W32]; omega
theorem ofI_pos (h : n ≠ 0) : 0 < (ofI n).length := by
  rcases Nat.eq_zero_or_pos (ofI n).length with h2 | h2
  · have := ofI_val h0 h1
    rw [List.eq_nil_of_length_eq_zero h2] at this
    simp [val] at this; omega
  · exact h2
theorem ofI_neg : (decide (n < 0) && decide (0 < (ofI n).length)) = decide (n < 0) := by
  by_cases h : n < 0
  · have := ofI_pos h0 h1 (by omega)
    simp [h, this]
  · simp [h]
theorem ofI_ok : Ok (decide (n < 0)) (ofI n) := by
  refine ⟨by have := ofI_len h0 h1; omega, ofI_norm h0 h1, fun h => ?_⟩
  have := ofI_val h0 h1
  rw [h] at this
  simp [val] at this
  simp; omega
end
theorem ofI_dig (n : Int) : Dig W32 (ofI n) := dig_unpack _

set_option maxHeartbeats 400000 in
theorem of_any (n : Int) (w : World) (h0 : -9223372036854775808 ≤ n) (h1 : n ≤ 9223372036854775807) :
    Calls Try.prog 5 #[.int .i64 n] w fun e w' => ∃ A c, e = .returned (big (decide (n < 0)) A (ofI n).length c) ∧ Sl .u32 w' w'.heap.size A (ofI n) ∧ (ofI n).length ≤ c ∧ c ≤ 2 ∧ Below w.heap.size w w' := by
  have hln := ofI_len h0 h1
  go_enter Try.func5, Try.ntmps5
  go_wp2_with fail
  refine (large_of_any n _ h0 h1).mono ?_
  rintro e w1 ⟨g, rfl, hs1, hg1, hb1⟩
  have hll := ofL_len n
  go_wp2_with fail
  refine (int_any (decide (n < 0)) (some ⟨g, 0, none⟩) (ofL n) 1 _ hs1 (ofL_dig h0 h1) (ofL_norm n) (by omega)).mono ?_
  rintro e w2 ⟨g2, rfl, hr2, hg2, hb2⟩
  have hs := hb1.size
  simp at hs hg1
  have hb12 := hb1.trans (hb2.mono hb1.size)
  have e0 : w2.cell? ⟨w.heap.size, 0, none⟩ = some (.bool false) := by rw [hb12.cell (by go_size)]; go_cell
  have e1 : w2.cell? ⟨w.heap.size, 1, none⟩ = some (.slice none 0 0) := by rw [hb12.cell (by go_size)]; go_cell
  have f0 : w2.frozen? ⟨w.heap.size, 0, none⟩ = false := by rw [hb12.frozen (by go_size)]; simp
  have f1 : w2.frozen? ⟨w.heap.size, 1, none⟩ = false := by rw [hb12.frozen (by go_size)]; simp
  have hb3 : Below w.heap.size w w2 := by refine Below.trans ?_ (hb12.mono (by go_size)); go_grown
  go_wp2
  refine bodyPost_ret (v := big (decide (n < 0)) (some ⟨g2, 0, none⟩) (ofI n).length (ofI n).length) (by simp [results, Try.results5, go_sem, e0, e1, ofI]) rfl ?_
  exact ⟨some ⟨g2, 0, none⟩, (ofI n).length, rfl, ((hr2.far (by simp; omega) _).far (by simp; omega) _).sl (by have := hr2.lt; simp; omega), by omega, by omega, (hb3.setCell (by simp) _).setCell (by simp) _⟩

set_option maxHeartbeats 400000 in
theorem rof_any (n : Int) (w : World) (h0 : -9223372036854775808 ≤ n) (h1 : n ≤ 9223372036854775807) :
    Calls Try.prog 6 #[.int .i64 n] w fun e w' => ∃ A c, e = .returned (big (decide (n < 0)) A (ofI n).length c) ∧ Sl .u32 w' w'.heap.size A (ofI n) ∧ (ofI n).length ≤ c ∧ c ≤ 2 ∧ Below w.heap.size w w' := by
  have htwo := ofI_two h0 h1
  have hneg := ofI_neg h0 h1
  have hln := ofI_len h0 h1
  have hrow : ∀ (W : World) (g a b : Nat), g = W.heap.size → Row .u32 (W.alloc (.cells #[.int .u32 a, .int .u32 b] 43)) g 43 [a, b] := fun W g a b hg => by
    subst hg
    exact heap_alloc_new W _
  generalize hm : n.natAbs = m at *
  have hdec : decide (n < 0) = true ∧ IntKind.u64.wrap (-IntKind.u64.wrap n) = (m : Nat) ∨ decide (n < 0) = false ∧ IntKind.u64.wrap n = (m : Nat) := by
    by_cases h : n < 0
    · exact .inl ⟨by simpa using h, by rw [IntKind.wrap_u64, IntKind.wrap_u64]; omega⟩
    · exact .inr ⟨by simpa using h, by rw [IntKind.wrap_u64]; omega⟩
  have hmb : (m : Int) ≤ 9223372036854775808 := by omega
  have hd1 : ((m : Int) % 4294967296) = ((m % 4294967296 : Nat) : Int) := by omega
  have hd2 : ((m : Int) / 4294967296) = ((m / 4294967296 : Nat) : Int) := by omega
  have hd3 : m / 4294967296 < 4294967296 := by omega
  generalize m % 4294967296 = a at *
  generalize m / 4294967296 = b at *
  have HT := Lib.hid htwo; clear htwo
  have HN := Lib.hid hneg; clear hneg hm
  rcases hdec with ⟨hdn, hw⟩ | ⟨hdn, hw⟩
  all_goals rw [hdn] at HN ⊢
  · have hneg : n < 0 := of_decide_eq_true hdn
    clear hdn
    go_enter Try.func6, Try.ntmps6
    go_wp2_with fail
    refine (signed_any true (some ⟨w.heap.size + 1, 0, none⟩) [a, b] 2 _ (by exact ((hrow _ (w.heap.size + 1) a b (by simp)).sl (by simp))) (by simp) (by omega)).mono ?_
    rw [HT.out, HN.out]
    rintro e w1 ⟨A, c, rfl, hA, hb1⟩
    have e0 : w1.cell? ⟨w.heap.size, 0, none⟩ = some (.bool false) := by rw [hb1.cell (by go_size)]; go_cell
    have e1 : w1.cell? ⟨w.heap.size, 1, none⟩ = some (.slice none 0 0) := by rw [hb1.cell (by go_size)]; go_cell
    have f0 : w1.frozen? ⟨w.heap.size, 0, none⟩ = false := by rw [hb1.frozen (by go_size)]; simp
    have f1 : w1.frozen? ⟨w.heap.size, 1, none⟩ = false := by rw [hb1.frozen (by go_size)]; simp
    have hb3 : Below w.heap.size w w1 := by refine Below.trans ?_ (hb1.mono (by go_size)); go_grown
    have hs := hb1.size
    simp at hs
    have hr1 : Row .u32 w1 (w.heap.size + 1) 43 [a, b] := (hrow (w.alloc (.cells #[.bool false, .slice none 0 0] 24)) (w.heap.size + 1) a b (by simp)).below hb1 (by simp)
    have HA := Lib.hid hA; clear hA
    go_wp2
    refine bodyPost_ret (v := big true A (ofI n).length c) (by simp [results, Try.results6, go_sem, e0, e1]) rfl ?_
    refine ⟨A, c, rfl, ?_, ?_, ?_, (hb3.setCell (by simp) _).setCell (by simp) _⟩
    · rcases HA.out with ⟨_, rfl, rfl⟩ | ⟨h2, rfl, rfl⟩
      · rw [← HT.out]
        exact sl_trimL (((hr1.far (by simp) _).far (by simp) _).sl (by simp; omega))
      · rw [List.eq_nil_of_length_eq_zero h2]
        exact Sl.none_
    · rcases HA.out with ⟨_, rfl, rfl⟩ | ⟨h2, rfl, rfl⟩
      · exact hln
      · omega
    · rcases HA.out with ⟨_, rfl, rfl⟩ | ⟨h2, rfl, rfl⟩ <;> omega
  · have hneg : ¬ n < 0 := of_decide_eq_false hdn
    have hneg' : 0 ≤ n := by omega
    clear hdn
    go_enter Try.func6, Try.ntmps6
    go_wp2_with fail
    refine (signed_any false (some ⟨w.heap.size + 1, 0, none⟩) [a, b] 2 _ (by exact ((hrow _ (w.heap.size + 1) a b (by simp)).sl (by simp))) (by simp) (by omega)).mono ?_
    rw [HT.out, HN.out]
    rintro e w1 ⟨A, c, rfl, hA, hb1⟩
    have e0 : w1.cell? ⟨w.heap.size, 0, none⟩ = some (.bool false) := by rw [hb1.cell (by go_size)]; go_cell
    have e1 : w1.cell? ⟨w.heap.size, 1, none⟩ = some (.slice none 0 0) := by rw [hb1.cell (by go_size)]; go_cell
    have f0 : w1.frozen? ⟨w.heap.size, 0, none⟩ = false := by rw [hb1.frozen (by go_size)]; simp
    have f1 : w1.frozen? ⟨w.heap.size, 1, none⟩ = false := by rw [hb1.frozen (by go_size)]; simp
    have hb3 : Below w.heap.size w w1 := by refine Below.trans ?_ (hb1.mono (by go_size)); go_grown
    have hs := hb1.size
    simp at hs
    have hr1 : Row .u32 w1 (w.heap.size + 1) 43 [a, b] := (hrow (w.alloc (.cells #[.bool false, .slice none 0 0] 24)) (w.heap.size + 1) a b (by simp)).below hb1 (by simp)
    have HA := Lib.hid hA; clear hA
    go_wp2
    refine bodyPost_ret (v := big false A (ofI n).length c) (by simp [results, Try.results6, go_sem, e0, e1]) rfl ?_
    refine ⟨A, c, rfl, ?_, ?_, ?_, (hb3.setCell (by simp) _).setCell (by simp) _⟩
    · rcases HA.out with ⟨_, rfl, rfl⟩ | ⟨h2, rfl, rfl⟩
      · rw [← HT.out]
        exact sl_trimL (((hr1.far (by simp) _).far (by simp) _).sl (by simp; omega))
      · rw [List.eq_nil_of_length_eq_zero h2]
        exact Sl.none_
    · rcases HA.out with ⟨_, rfl, rfl⟩ | ⟨h2, rfl, rfl⟩
      · exact hln
      · omega
    · rcases HA.out with ⟨_, rfl, rfl⟩ | ⟨h2, rfl, rfl⟩ <;> omega
end Go.Proofs.Ytdfbakdfakijbaa
