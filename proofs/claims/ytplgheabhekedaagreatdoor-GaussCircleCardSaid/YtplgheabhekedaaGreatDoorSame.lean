/-
  What the statements' own equality and condition return: are two numbers the same, may three be. No conditions but that the lists are lists of limbs.
-/
import Derived.Test.YtplgheabhekedaaGreatDoorWh
namespace Go.Proofs.YtplgheabhekedaaGreatDoor
open Go.RowKit Nb

theorem take_same {xs ys : List Nat} {k : Nat} (h : xs.take k = ys.take k) (hk : k < xs.length) (hl : xs.length = ys.length) (he : xs[k] = ys[k]'(hl ▸ hk)) : xs.take (k + 1) = ys.take (k + 1) := by
  rw [List.take_succ_eq_append_getElem hk, List.take_succ_eq_append_getElem (hl ▸ hk), h, he]
theorem same_all {xs ys : List Nat} {k : Nat} (h : xs.take k = ys.take k) (hk : xs.length ≤ k) (hl : xs.length = ys.length) : xs = ys := by
  rwa [List.take_of_length_le hk, List.take_of_length_le (hl ▸ hk)] at h

set_option maxHeartbeats 1000000 in
theorem same_any (n1 n2 : Bool) (A B : Option Addr) (xs ys : List Nat) (c d : Nat) (w : World) (hr : Sl .u32 w w.heap.size A xs) (hs : Sl .u32 w w.heap.size B ys) (hl : xs.length * 4 ≤ 140737488351232) (hk : ys.length * 4 ≤ 140737488351232) :
    Calls Tryz.prog 66 #[big n1 A xs.length c, big n2 B ys.length d] w fun e w' => e = .returned (.bool (decide (n1 = n2 ∧ xs = ys))) ∧ Below w.heap.size w w' := by
  by_cases hn : n1 = n2
  · subst hn
    by_cases hlen : xs.length = ys.length
    · have hyes : ∀ k, xs.take k = ys.take k → xs.length ≤ k → decide (n1 = n1 ∧ xs = ys) = true := fun k h h2 => by simp [same_all h h2 hlen]
      have hno : ∀ k (hk : k < xs.length) (hk2 : k < ys.length), xs[k] ≠ ys[k] → decide (n1 = n1 ∧ xs = ys) = false := fun k hk hk2 h => by
        rw [decide_eq_false_iff_not]; rintro ⟨_, rfl⟩; exact h rfl
      generalize decide (n1 = n1 ∧ xs = ys) = r at *
      have HY := Lib.hid hyes
      have HN := Lib.hid hno
      clear hyes hno
      rw [← hlen]
      have HL := Lib.hid hlen
      clear hlen hk
      go_enter Tryz.func66, Tryz.ntmps66
      go_wp2
      have hW : ∃ W : World, W = ((w.alloc (Obj.cells #[Value.bool n1, Value.slice A xs.length c] 24)).alloc (Obj.cells #[Value.bool n1, Value.slice B xs.length d] 24)) ∧ Below w.heap.size w W ∧
          W.cell? ⟨w.heap.size, 1, none⟩ = some (.slice A xs.length c) ∧ W.cell? ⟨w.heap.size + 1, 1, none⟩ = some (.slice B xs.length d) := by
        refine ⟨_, rfl, by go_grown, ?_, ?_⟩ <;> go_cell
      obtain ⟨W, hW, hb, c1, c2⟩ := hW
      rw [← hW]
      clear hW
      go_loopw [5] (fun iv wr => ∃ k : Nat, k ≤ xs.length ∧ iv = .int .i64 k ∧ Qu W wr ∧ xs.take k = ys.take k) (fun iv _ => xs.length - (intOf iv).toNat)
      case atStart => exact ⟨0, Nat.zero_le _, rfl, Qu.refl _, rfl⟩
      case round =>
        obtain ⟨k, hk2, rfl, hqu, htk⟩ := hrel
        have HT := Lib.hid htk
        clear htk
        rw [← hqu.cell] at c1 c2
        by_cases hlt : k < xs.length
        · have hlt2 : k < ys.length := HL.out ▸ hlt
          obtain ⟨ad, rfl, hb1, h1⟩ := (hr.below hb).at_ hlt
          obtain ⟨bd, rfl, hb2, h2⟩ := (hs.below hb).at_ hlt2
          rw [← hqu.cell] at h1 h2
          have hji : (k : Int) < (xs.length : Int) := by omega
          by_cases he : xs[k] = ys[k]
          · have HE := Lib.hid (take_same HT.out hlt HL.out he)
            rw [← he] at h2
            clear he
            go_wp2
            go_quiet (fail)
            go_wp2
            go_roundw
            case rel => exact ⟨k + 1, by omega, by go_num, hqu.drew _, HE.out⟩
            case measure => simp [intOf]; omega
          · have HE := Lib.hid (HN.out k hlt hlt2 he)
            obtain ⟨x, hx⟩ : ∃ x : Nat, xs[k] = x := ⟨_, rfl⟩
            obtain ⟨y, hy⟩ : ∃ y : Nat, ys[k] = y := ⟨_, rfl⟩
            rw [hx] at h1 he
            rw [hy] at h2 he
            clear hx hy
            have hxy : ¬ (x : Int) = (y : Int) := by omega
            go_wp2
            go_quiet (fail)
            go_wp2
            go_ret
            exact ⟨by rw [HE.out]; rfl, hb.trans ((hqu.drew _).below _)⟩
        · have HE := Lib.hid (HY.out k HT.out (by omega))
          go_wp2
          go_ret
          exact ⟨by rw [HE.out]; rfl, hb.trans (hqu.below _)⟩
    · have hv : decide (n1 = n1 ∧ xs = ys) = false := by rw [decide_eq_false_iff_not]; rintro ⟨_, rfl⟩; exact hlen rfl
      rw [hv]
      have hle : ¬ (xs.length : Int) = (ys.length : Int) := by omega
      clear hv
      go_enter Tryz.func66, Tryz.ntmps66
      go_wp2
      go_ret
      exact ⟨rfl, by go_grown⟩
  · have hv : decide (n1 = n2 ∧ xs = ys) = false := by rw [decide_eq_false_iff_not]; rintro ⟨h, _⟩; exact hn h
    rw [hv]
    clear hv
    go_enter Tryz.func66, Tryz.ntmps66
    go_wp2
    go_ret
    exact ⟨rfl, by go_grown⟩
end Go.Proofs.YtplgheabhekedaaGreatDoor
