/-
  What large.difference, large.addTimes and large.product return: the difference and the product of two lists of words. No conditions but that the lists are lists of words, of a difference that the second is not above the first.
-/
import Derived.Test.YtplgheabhekedaaGreatDoorSum
import Derived.Test.YtplgheabhekedaaGreatDoorShelf
namespace Go.Proofs.YtplgheabhekedaaGreatDoor
open Go.RowKit Nb

theorem val_take_more (B : Nat) (ys : List Nat) {k : Nat} (h : ys.length ≤ k) : val B (ys.take (k + 1)) = val B (ys.take k) + B ^ k * 0 := by
  rw [List.take_of_length_le (by omega), List.take_of_length_le h]; omega

set_option maxHeartbeats 800000 in
/-- x less y, which is not above it. -/
theorem difference_any (A B : Option Addr) (xs ys : List Nat) (c d : Nat) (w : World) (hx : Sl .u64 w w.heap.size A xs) (hy : Sl .u64 w w.heap.size B ys) (dx : Dig W64 xs) (dy : Dig W64 ys)
    (hl : xs.length * 8 ≤ 140737488351232) (hk : ys.length ≤ xs.length) (hle : val W64 ys ≤ val W64 xs) :
    Calls Tryz.prog 157 #[.slice A xs.length c, .slice B ys.length d] w (Words w (val W64 xs - val W64 ys) xs.length) := by
  go_enter Tryz.func157, Tryz.ntmps157
  go_wp2_with (at_make; refine wpList_make_row _ rfl _ _ 83 rfl 182 .u64 8 Tryz.underlying83 info_u64 _ _ _ _ xs.length rfl rfl (by omega) (by omega) (by omega) (by unfold maxLen; omega) ?_
               intro w1 hrow1 hbel1)
  have hg : w.heap.size < w1.heap.size := hrow1.lt
  have HLE := Lib.hid hle
  clear hle
  go_loopw [6, 14] (fun cv iv wr => ∃ (k o : Nat) (ds : List Nat), k ≤ xs.length ∧ iv = .int .i64 k ∧ cv = .int .u64 o ∧ o ≤ 1 ∧ ds.length = k ∧ Dig W64 ds ∧ val W64 ds + val W64 (ys.take k) = val W64 (xs.take k) + W64 ^ k * o ∧
      Row .u64 wr w.heap.size 182 (ds ++ (List.replicate xs.length 0).drop k) ∧ Upd w.heap.size w1 wr) (fun _ iv _ => xs.length - (intOf iv).toNat)
  case atStart => exact ⟨0, 0, [], Nat.zero_le _, rfl, rfl, by omega, rfl, Dig.nil _, by simp [val], by simpa using hrow1, Upd.refl _ _⟩
  case round =>
    obtain ⟨k, o, ds, hk', rfl, rfl, ho, hdl, hdd, he, hrow, hu⟩ := hrel
    have HD := Lib.hid hdl; clear hdl
    have HE := Lib.hid he; clear he
    by_cases hlt : k < xs.length
    · have hlr : k < (List.replicate xs.length 0).length := by simpa using hlt
      obtain ⟨ad, rfl, hb1, h1⟩ := ((hx.below hbel1).upd hu (Nat.le_refl _)).at_ hlt
      have gf := hrow.frozen k
      have gc := hrow.cell (i := k) (by have := HD.out; simp; omega)
      have hxx := dx.get hlt
      rw [fill_get ds _ HD.out hlr] at gc
      have hrs := fun v => hrow.set_ k v
      have hset := fun v => fill_put ds (List.replicate xs.length 0) v HD.out hlr
      have hji : (k : Int) < (xs.length : Int) := by omega
      by_cases hky : k < ys.length
      · obtain ⟨bd, rfl, hb2, h2⟩ := ((hy.below hbel1).upd hu (Nat.le_refl _)).at_ hky
        have hyy := dy.get hky
        have hjy : (k : Int) < (ys.length : Int) := by omega
        have hty : ∀ V T, V + (val W64 (ys.take k) + W64 ^ k * ys[k]) = val W64 (xs.take k) + W64 ^ k * xs[k] + T → V + val W64 (ys.take (k + 1)) = val W64 (xs.take (k + 1)) + T := fun V T h => by
          rw [val_take_succ W64 hlt, val_take_succ W64 hky]; exact h
        have hstep := fun v o' => step_sub (v := v) (c' := o') (x := xs[k]) (y := ys[k]) HE.out HD.out
        generalize xs[k] = x at *
        generalize ys[k] = y at *
        obtain ⟨v, o', hsub, hv, ho', hvo⟩ := sub64_ex x y o hxx hyy ho
        have hrs' := hrs v
        rw [hset v] at hrs'
        have hst' := hty _ _ (hstep v o' hvo)
        have HS := Lib.hid hst'
        have HR := Lib.hid hrs'
        clear hset hrs hstep hty hst' hrs' hvo hxx hyy
        go_wp2
        go_roundw
        case rel => exact ⟨k + 1, o', ds ++ [v], by omega, by go_num, rfl, ho', by have := HD.out; simp; omega, dig_snoc hdd hv, HS.out, HR.out, hu.setCell _ _⟩
        case measure => simp [intOf]; omega
      · have hty : ∀ V T, V + (val W64 (ys.take k) + W64 ^ k * 0) = val W64 (xs.take k) + W64 ^ k * xs[k] + T → V + val W64 (ys.take (k + 1)) = val W64 (xs.take (k + 1)) + T := fun V T h => by
          rw [val_take_succ W64 hlt, val_take_more W64 ys (by omega)]; exact h
        have hstep := fun v o' => step_sub (v := v) (c' := o') (x := xs[k]) (y := 0) HE.out HD.out
        have hjy : (ys.length : Int) ≤ (k : Int) := by omega
        have hyy : 0 < W64 := by decide
        generalize xs[k] = x at *
        obtain ⟨v, o', hsub, hv, ho', hvo⟩ := sub64_ex x 0 o hxx hyy ho
        have hrs' := hrs v
        rw [hset v] at hrs'
        have hst' := hty _ _ (hstep v o' hvo)
        have HS := Lib.hid hst'
        have HR := Lib.hid hrs'
        have hsub' : ∀ w, (callFunc 175 #[.int .u64 x, .int .u64 0, .int .u64 o]).run Tryz.prog w = .ok (.value (.tuple #[.int .u64 v, .int .u64 o'])) w := hsub
        clear hsub
        clear hset hrs hstep hty hst' hrs' hvo hxx hyy
        go_wp2
        go_roundw
        case rel => exact ⟨k + 1, o', ds ++ [v], by omega, by go_num, rfl, ho', by have := HD.out; simp; omega, dig_snoc hdd hv, HS.out, HR.out, hu.setCell _ _⟩
        case measure => simp [intOf]; omega
    · obtain rfl : k = xs.length := by omega
      have hnil : (List.replicate xs.length 0).drop xs.length = [] := by simp
      rw [hnil, List.append_nil] at hrow
      have hsz : w.heap.size < wr.heap.size := hrow.lt
      have hval : val W64 ds = val W64 xs - val W64 ys := by
        have h1 := HE.out
        rw [List.take_length, List.take_of_length_le hk] at h1
        have h2 := val_lt hdd
        rw [HD.out] at h2
        have h3 : o = 0 := by
          rcases (show o = 0 ∨ o = 1 by omega) with h | h
          · exact h
          · subst h; rw [Nat.mul_one] at h1
            have := HLE.out
            omega
        subst h3
        omega
      have hsl := hrow.sl hsz
      have hT := trim_any (some ⟨w.heap.size, 0, none⟩) ds xs.length wr hsl (by have := HD.out; omega) (by unfold maxLen; omega)
      rw [HD.out] at hT
      have HT := Lib.hid hT
      have HV := Lib.hid hval
      have hb4 : Below w.heap.size w wr := hbel1.trans (hu.below (Nat.le_refl _))
      clear hT hval
      go_wp2_with fail
      refine (HT.out).mono ?_
      rintro e w5 ⟨rfl, rfl⟩
      go_wp2_with fail
      go_ret
      have hln := trimL_len ds
      rw [HD.out] at hln
      exact ⟨_, _, _, rfl, sl_trimL hsl, dig_trimL hdd, norm_trimL _, by rw [val_trimL, HV.out], hln, Nat.le_refl _, hb4⟩
end Go.Proofs.YtplgheabhekedaaGreatDoor
