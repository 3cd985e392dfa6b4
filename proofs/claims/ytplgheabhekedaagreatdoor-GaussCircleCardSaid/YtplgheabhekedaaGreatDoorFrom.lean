/-
  What large.From returns: the number in words of 64 bits. No conditions but that the lists are lists of limbs.
-/
import Derived.Test.YtplgheabhekedaaGreatDoorLow
import Derived.Deep.QuietTactic
import Derived.BigQuiet
import Derived.Deep.LoopGhost
import Derived.StillTailTactics
namespace Go.Proofs.YtplgheabhekedaaGreatDoor
open Go.RowKit Nb

theorem info_u64 : (Tryz.prog.info? 182).map (fun i => (i.zero, i.size, i.bytes)) = some (some (.int .u64 0), 1, 8) := by kernel_rfl
theorem info_u32 : (Tryz.prog.info? 171).map (fun i => (i.zero, i.size, i.bytes)) = some (some (.int .u32 0), 1, 4) := by kernel_rfl

set_option maxHeartbeats 400000 in
theorem from_any (neg : Bool) (A : Option Addr) (ls : List Nat) (c : Nat) (w : World) (hr : Sl .u32 w w.heap.size A ls) (hd : Dig 4294967296 ls) (hl : ls.length * 4 ≤ 140737488351232) :
    Calls Tryz.prog 105 #[big neg A ls.length c] w fun e w' => ∃ g, e = .returned (big (neg && decide (0 < (pack ls).length)) (some ⟨g, 0, none⟩) (pack ls).length (pack ls).length) ∧
      Row .u64 w' g 182 (pack ls) ∧ w.heap.size ≤ g ∧ Below w.heap.size w w' := by
  go_enter Tryz.func105, Tryz.ntmps105
  go_wp2_with (at_make; refine wpList_make_row _ rfl _ _ 83 rfl 182 .u64 8 Tryz.underlying83 info_u64 _ _ _ _ ((ls.length + 1) / 2) rfl rfl (by omega) (by omega) (by omega) (by unfold maxLen; omega) ?_
               intro w1 hrow hbel
               have hbw : Below w.heap.size w w1 := by refine Below.trans ?_ (hbel.mono (by go_size)); go_grown
               have c0 : w1.cell? ⟨w.heap.size, 0, none⟩ = some (.bool neg) := by rw [hbel.cell (by go_size)]; go_cell
               have c1 : w1.cell? ⟨w.heap.size, 1, none⟩ = some (.slice A ls.length c) := by rw [hbel.cell (by go_size)]; go_cell
               have d0 : w1.cell? ⟨w.heap.size + 1, 0, none⟩ = some (.bool false) := by rw [hbel.cell (by go_size)]; go_cell
               have d1 : w1.cell? ⟨w.heap.size + 1, 1, none⟩ = some (.slice none 0 0) := by rw [hbel.cell (by go_size)]; go_cell
               have f0 : w1.frozen? ⟨w.heap.size + 1, 0, none⟩ = false := by rw [hbel.frozen (by go_size)]; simp
               have f1 : w1.frozen? ⟨w.heap.size + 1, 1, none⟩ = false := by rw [hbel.frozen (by go_size)]; simp
               have hrow1 : Row .u64 w1 (w.heap.size + 1 + 1) 182 (packG (upto ls 0) ((ls.length + 1) / 2)) := by rw [packG_zero]; simpa using hrow
               clear hrow hbel)
  go_loopw [15] (fun iv wr => ∃ k : Nat, k ≤ ls.length ∧ iv = .int .i64 k ∧ Row .u64 wr (w.heap.size + 1 + 1) 182 (packG (upto ls k) ((ls.length + 1) / 2)) ∧ Below (w.heap.size + 1 + 1) w1 wr) (fun iv _ => ls.length - (intOf iv).toNat)
  case atStart => exact ⟨0, Nat.zero_le _, rfl, hrow1, Below.refl _ _⟩
  case round =>
    obtain ⟨k, hk, rfl, hrow, hbr⟩ := hrel
    rw [← hbr.cell (by go_size)] at c0 c1 d0 d1
    rw [← hbr.frozen (by go_size)] at f0 f1
    by_cases hlt : k < ls.length
    · obtain ⟨ad, rfl, hb1, h1⟩ := (hr.below hbw).at_ hlt
      rw [← hbr.cell (by omega)] at h1
      have hji : (k : Int) < (ls.length : Int) := by omega
      have hl2 : k / 2 < (ls.length + 1) / 2 := by omega
      have gf := hrow.frozen (k / 2)
      have gc := hrow.cell (i := k / 2) (by rw [packG_length]; exact hl2)
      have hx := hd.get hlt
      rcases Nat.mod_two_eq_zero_or_one k with he | he
      · obtain ⟨hset, hget⟩ := packG_even ls hlt hl2 he
        rw [hget] at gc
        have hm : (k : Int) % 2 = 0 := by omega
        have hor : bits .or .u64 (0 : Int) (ls[k] : Nat) = (ls[k] : Nat) := by
          have := u64_or_nat 0 ls[k] (by decide) (by omega)
          simpa using this
        generalize ls[k] = x at *
        have HS := Lib.hid hset; clear hset hget
        have HX : (x : Int) ≤ 18446744073709551615 := by omega
        go_wp2
        go_region
        go_wp2
        go_roundw
        case rel => exact ⟨k + 1, by omega, by go_num, by rw [HS.out]; exact (hrow.drew1).set_ _ _, (hbr.drew).setCell (by simp) _⟩
        case measure => simp [intOf]; omega
      · obtain ⟨hset, hget⟩ := packG_odd ls hlt hl2 he
        rw [hget] at gc
        have hm : (k : Int) % 2 = 1 := by omega
        have hy := hd.get (k := k - 1) (by omega)
        have hor : bits .or .u64 ((ls[k - 1] : Nat) : Int) ((ls[k] : Nat) * 4294967296) = ((ls[k - 1] + 4294967296 * ls[k] : Nat) : Int) := by
          have h1 := u64_or_nat ls[k - 1] (ls[k] * 4294967296) (by omega) (by omega)
          have h2 := nat_join 32 (ls[k] * 4294967296) ls[k - 1] (by simp) hy
          rw [Nat.or_comm] at h2
          rw [h2] at h1
          rw [Nat.add_comm, Nat.mul_comm]
          simpa using h1
        have HO := Lib.hid hor; clear hor
        generalize ls[k] = x at *
        generalize ls[k - 1] = y at *
        have HS := Lib.hid hset; clear hset hget
        have HX : (x : Int) ≤ 4294967295 := by omega
        have HY : (y : Int) ≤ 4294967295 := by omega
        go_wp2
        go_region
        go_wp2
        go_roundw
        case rel => exact ⟨k + 1, by omega, by go_num, by rw [HS.out]; have h := (hrow.drew1).set_ (k / 2) (y + 4294967296 * x); rw [← HO.out] at h; exact h, (hbr.drew).setCell (by simp) _⟩
        case measure => simp [intOf]; omega
    · have hlt0 := hrow.lt
      go_wp2_with (go_at_call 146; refine (made_any _ _ _ _ _ (by unfold maxLen; omega)).mono ?_; rintro e w2 ⟨rfl, hb2⟩
                   have e0 := (hb2.cell (p := ⟨w.heap.size + 1, 0, none⟩) (by go_size)).trans d0
                   have e1 := (hb2.cell (p := ⟨w.heap.size + 1, 1, none⟩) (by go_size)).trans d1
                   have g0 := (hb2.frozen (p := ⟨w.heap.size + 1, 0, none⟩) (by go_size)).trans f0
                   have g1 := (hb2.frozen (p := ⟨w.heap.size + 1, 1, none⟩) (by go_size)).trans f1)
      refine bodyPost_ret (v := big (neg && decide (1 ≤ ls.length)) (some ⟨w.heap.size + 1 + 1, 0, none⟩) ((ls.length + 1) / 2) ((ls.length + 1) / 2)) (by simp [results, Tryz.results105, go_sem, e0, e1]) rfl ?_
      have hkl : k = ls.length := by omega
      subst hkl
      rw [upto_all] at hrow
      refine ⟨w.heap.size + 1 + 1, ?_, ?_, ?_, ?_⟩
      · rw [pack_length, show decide (0 < (ls.length + 1) / 2) = decide (1 ≤ ls.length) from decide_eq_decide.2 (by omega)]
      · exact ((hrow.below hb2 hlt0).far (by simp) _).far (by simp) _
      · omega
      · exact (((hbw.trans (hbr.mono (by omega))).trans (hb2.mono (by omega))).setCell (by simp) _).setCell (by simp) _
end Go.Proofs.YtplgheabhekedaaGreatDoor
