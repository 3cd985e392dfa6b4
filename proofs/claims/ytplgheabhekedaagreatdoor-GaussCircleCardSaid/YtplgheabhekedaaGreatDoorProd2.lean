/-
  What large.product returns: the product of two lists of words. No conditions but that the lists are lists of words.
-/
import Derived.Test.YtplgheabhekedaaGreatDoorProd
namespace Go.Proofs.YtplgheabhekedaaGreatDoor
open Go.RowKit Nb

theorem Words.nil {w : World} {C : Nat} {w' : World} (hb : Below w.heap.size w w') : Words w 0 C (.returned (.slice none 0 0)) w' :=
  ⟨none, [], 0, rfl, Sl.none_, Dig.nil _, Norm.nil, rfl, Nat.le_refl _, Nat.zero_le _, hb⟩
theorem replicate_split {n k : Nat} (h : k < n) : List.replicate (n - k) 0 = 0 :: List.replicate (n - (k + 1)) 0 := by
  rw [show n - k = n - (k + 1) + 1 by omega, List.replicate_succ]

set_option maxHeartbeats 800000 in
theorem product_nil (A B : Option Addr) (n m c d : Nat) (w : World) (h : n = 0 ∨ m = 0) :
    Calls Tryz.prog 155 #[.slice A n c, .slice B m d] w (Words w 0 0) := by
  rcases Nat.eq_zero_or_pos n with rfl | hn
  · clear h
    go_enter Tryz.func155, Tryz.ntmps155
    go_wp2
    go_ret
    exact Words.nil (Below.refl _ _)
  · obtain rfl : m = 0 := by omega
    clear h
    go_enter Tryz.func155, Tryz.ntmps155
    go_wp2
    go_ret
    exact Words.nil (Below.refl _ _)

set_option maxHeartbeats 800000 in
theorem product_pos (A B : Option Addr) (xs ys : List Nat) (c d : Nat) (w : World) (hx : Sl .u64 w w.heap.size A xs) (hy : Sl .u64 w w.heap.size B ys) (dx : Dig W64 xs) (dy : Dig W64 ys)
    (hl : (xs.length + ys.length) * 8 ≤ 140737488351232) (hn : 0 < xs.length) (hm : 0 < ys.length) :
    Calls Tryz.prog 155 #[.slice A xs.length c, .slice B ys.length d] w (Words w (val W64 xs * val W64 ys) (xs.length + ys.length)) := by
  have hn0 : ((xs.length : Int) == 0) = false := beq_false_of_ne (by omega)
  have hm0 : ((ys.length : Int) == 0) = false := beq_false_of_ne (by omega)
  go_enter Tryz.func155, Tryz.ntmps155
  go_wp2_with (at_make; refine wpList_make_row _ rfl _ _ 83 rfl 182 .u64 8 Tryz.underlying83 info_u64 _ _ _ _ (xs.length + ys.length) rfl rfl (by omega) (by omega) (by omega) (by unfold maxLen; omega) ?_
               intro w1 hrow1 hbel1)
  have hg : w.heap.size < w1.heap.size := hrow1.lt
  go_loopw [24] (fun iv wr => ∃ (k : Nat) (ms : List Nat), k ≤ ys.length ∧ iv = .int .i64 k ∧ ms.length = xs.length + k ∧ Dig W64 ms ∧ val W64 ms = val W64 xs * val W64 (ys.take k) ∧
      Row .u64 wr w.heap.size 182 (ms ++ List.replicate (ys.length - k) 0) ∧ Upd w.heap.size w1 wr) (fun iv _ => ys.length - (intOf iv).toNat)
  case atStart => exact ⟨0, List.replicate xs.length 0, Nat.zero_le _, rfl, by simp, Dig.replicate (by decide) _, by rw [val_replicate]; simp [val], by rw [List.replicate_append_replicate]; simpa using hrow1, Upd.refl _ _⟩
  case round =>
    obtain ⟨k, ms, hk', rfl, hml, hmd, hv, hrow, hu⟩ := hrel
    have HM := Lib.hid hml; clear hml
    have HV := Lib.hid hv; clear hv
    by_cases hlt : k < ys.length
    · obtain ⟨bd, rfl, hb2, h2⟩ := ((hy.below hbel1).upd hu (Nat.le_refl _)).at_ hlt
      have hq := dy.get hlt
      have hty := val_take_succ W64 hlt
      generalize ys[k] = q at *
      have hal : (ms.take k).length = k := by rw [List.length_take]; have := HM.out; omega
      have hbl : (ms.drop k).length = xs.length := by rw [List.length_drop]; have := HM.out; omega
      have hsp := val_take_drop W64 ms k (by have := HM.out; omega)
      have hrow2 : Row .u64 wr w.heap.size 182 (ms.take k ++ (ms.drop k ++ List.replicate (ys.length - k) 0)) := by rw [← List.append_assoc, List.take_append_drop]; exact hrow
      have hAT := addTimes_any w.heap.size k (ms.take k) (ms.drop k) (List.replicate (ys.length - k) 0) xs A (xs.length + ys.length - k) c q wr hal hrow2 ((hx.below hbel1).upd hu (Nat.le_refl _)) hbl.symm (by rw [hbl]; omega) (hmd.drop k) dx hq (by rw [hbl]; omega)
      rw [hbl] at hAT
      have HAT := Lib.hid hAT
      have HAL := Lib.hid hal
      have HTY := Lib.hid hty
      have HSP := Lib.hid hsp
      clear hAT hal hbl hty hsp hrow2 hrow
      have hji : (k : Int) < (ys.length : Int) := by omega
      have hi1 : (k : Int) + (xs.length : Int) ≤ (xs.length : Int) + (ys.length : Int) := by omega
      have hne : ¬ (xs.length + ys.length = k) := by omega
      go_wp2_with fail
      refine (HAT.out).mono ?_
      rintro e w3 ⟨b', o, rfl, hbl', hbd, ho, hbv, hrow3, hu3⟩
      rw [replicate_split hlt] at hrow3
      have hpl : (ms.take k ++ b').length = k + xs.length := by rw [List.length_append, HAL.out, hbl']
      have hrow4 : Row .u64 w3 w.heap.size 182 ((ms.take k ++ b') ++ (0 :: List.replicate (ys.length - (k + 1)) 0)) := by rw [List.append_assoc]; exact hrow3
      have gf := hrow4.frozen (k + xs.length)
      have gc := hrow4.cell (i := k + xs.length) (by rw [List.length_append, hpl]; simp)
      have hgz : ((ms.take k ++ b') ++ (0 :: List.replicate (ys.length - (k + 1)) 0))[k + xs.length]'(by rw [List.length_append, hpl]; simp) = 0 := by
        rw [List.getElem_append_right (by rw [hpl]; exact Nat.le_refl _)]
        simp only [hpl, Nat.sub_self, List.getElem_cons_zero]
      rw [hgz] at gc
      have hset : ((ms.take k ++ b') ++ (0 :: List.replicate (ys.length - (k + 1)) 0)).set (k + xs.length) o = (ms.take k ++ b' ++ [o]) ++ List.replicate (ys.length - (k + 1)) 0 := by
        rw [List.set_append_right _ _ (by rw [hpl]; exact Nat.le_refl _), hpl, Nat.sub_self, List.set_cons_zero, List.append_assoc _ [o]]; rfl
      have hrs := hrow4.set_ (k + xs.length) o
      rw [hset] at hrs
      have hval : val W64 (ms.take k ++ b' ++ [o]) = val W64 xs * val W64 (ys.take (k + 1)) := by
        rw [val_snoc, hpl, val_append, HAL.out, HTY.out, Nat.mul_add, ← HV.out, HSP.out, Nat.pow_add, Nat.mul_assoc, Nat.add_assoc, ← Nat.mul_add, hbv, Nat.mul_add, ← Nat.add_assoc]
        congr 1
        grind
      have hdg : Dig W64 (ms.take k ++ b' ++ [o]) := dig_snoc ((hmd.take k).append hbd) ho
      have hln : (ms.take k ++ b' ++ [o]).length = xs.length + (k + 1) := by rw [List.length_append, hpl]; simp; omega
      have HVL := Lib.hid hval
      have HLN := Lib.hid hln
      have HRS := Lib.hid hrs
      clear hgz hset hrs hval hln hpl hrow3 hrow4 hbv hbl'
      have hi2 : (k : Int) + (xs.length : Int) < (xs.length : Int) + (ys.length : Int) := by omega
      go_wp2
      go_roundw
      case rel => exact ⟨k + 1, _, by omega, by go_num, HLN.out, hdg, HVL.out, HRS.out, (hu.trans hu3).setCell _ _⟩
      case measure => simp [intOf]; omega
    · obtain rfl : k = ys.length := by omega
      rw [Nat.sub_self, List.replicate_zero, List.append_nil] at hrow
      have hsz : w.heap.size < wr.heap.size := hrow.lt
      have h1 := HV.out
      rw [List.take_length] at h1
      have HV1 := Lib.hid h1
      have hsl := hrow.sl hsz
      have hT := trim_any (some ⟨w.heap.size, 0, none⟩) ms (xs.length + ys.length) wr hsl (by have := HM.out; omega) (by unfold maxLen; omega)
      rw [HM.out] at hT
      have HT := Lib.hid hT
      have hb4 : Below w.heap.size w wr := hbel1.trans (hu.below (Nat.le_refl _))
      clear hT h1
      go_wp2_with fail
      refine (HT.out).mono ?_
      rintro e w5 ⟨rfl, rfl⟩
      go_wp2_with fail
      go_ret
      have hln := trimL_len ms
      rw [HM.out] at hln
      exact ⟨_, _, _, rfl, sl_trimL hsl, dig_trimL hmd, norm_trimL _, by rw [val_trimL, HV1.out], hln, Nat.le_refl _, hb4⟩

theorem product_any (A B : Option Addr) (xs ys : List Nat) (c d : Nat) (w : World) (hx : Sl .u64 w w.heap.size A xs) (hy : Sl .u64 w w.heap.size B ys) (dx : Dig W64 xs) (dy : Dig W64 ys)
    (hl : (xs.length + ys.length) * 8 ≤ 140737488351232) :
    Calls Tryz.prog 155 #[.slice A xs.length c, .slice B ys.length d] w (Words w (val W64 xs * val W64 ys) (xs.length + ys.length)) := by
  by_cases h : 0 < xs.length ∧ 0 < ys.length
  · exact product_pos A B xs ys c d w hx hy dx dy hl h.1 h.2
  · have h0 : val W64 xs * val W64 ys = 0 := by
      rcases Nat.eq_zero_or_pos xs.length with h1 | h1
      · rw [List.eq_nil_of_length_eq_zero h1]; simp [val]
      · rw [List.eq_nil_of_length_eq_zero (show ys.length = 0 by omega)]; simp [val]
    rw [h0]
    exact (product_nil A B xs.length ys.length c d w (by omega)).mono fun _ _ h => h.mono (Nat.zero_le _)
end Go.Proofs.YtplgheabhekedaaGreatDoor
