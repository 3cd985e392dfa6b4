/-
  What the document's own plain functions on limbs return: trim, signed, short. Conditions: that the lists are lists of limbs; that the divisor is not nought.
-/
import Derived.Test.YtiofglgpgjnonaaDoorBig
import Derived.Test.YtiofglgpgjnonaaDoorTwin
import Derived.Test.YtiofglgpgjnonaaDoorCarry
namespace Go.Proofs.YtiofglgpgjnonaaDoor
open Go.RowKit Nb

set_option maxHeartbeats 400000 in
theorem rtrim_any (A : Option Addr) (ls : List Nat) (c : Nat) (w : World) (hr : Sl .u32 w w.heap.size A ls) (hl : ls.length ≤ c) (hc : c ≤ maxLen) :
    Calls Tryd.prog 75 #[.slice A ls.length c] w fun e w' => e = .returned (.slice A (trimL ls).length c) ∧ w = w' := by
  unfold maxLen at hc
  go_enter Tryd.func75, Tryd.ntmps75
  go_wp2
  go_loop [0] (fun x => ∃ k : Nat, k ≤ ls.length ∧ x = .slice A k c ∧ trimL ls = trimL (ls.take k)) (fun x => match x with | .slice _ n _ => n | _ => 0)
  case atStart => exact ⟨ls.length, Nat.le_refl _, rfl, by rw [List.take_length]⟩
  case round =>
    obtain ⟨k, hk, rfl, ht⟩ := hrel
    have HT := Lib.hid ht; clear ht
    rcases k with _ | j
    · go_wp2
      go_ret
      exact ⟨by rw [HT.out]; rfl, rfl⟩
    · obtain ⟨ad, rfl, hb, hcell⟩ := hr.at_ (i := j) (by omega)
      have hts := take_succ' (xs := ls) (k := j) (by omega)
      by_cases hz : ls[j] = 0
      · rw [hz] at hts hcell
        have HS := Lib.hid hts; clear hts hz
        go_wp2
        go_round
        case rel => exact ⟨j, by omega, by simp, by rw [HT.out, HS.out, trimL_snoc_zero]⟩
        case measure => simp
      · have hts2 := trimL_snoc (ls.take j) hz
        have hln : (ls.take j ++ [ls[j]]).length = j + 1 := by simp; omega
        have HS := Lib.hid hts; clear hts
        have HS2 := Lib.hid hts2; clear hts2
        have HLn := Lib.hid hln; clear hln
        go_wp2
        go_ret
        exact ⟨by rw [HT.out, HS.out, HS2.out, HLn.out]; rfl, rfl⟩

/-- A new list of limbs that tells a number. -/
def Limbs (w : World) (V C : Nat) (v : Value) (w' : World) : Prop := ∃ (A : Option Addr) (zs : List Nat) (c : Nat), v = .slice A zs.length c ∧ Sl .u32 w' w'.heap.size A zs ∧ Dig W32 zs ∧ Norm zs ∧ val W32 zs = V ∧ zs.length ≤ c ∧ c ≤ C ∧ Below w.heap.size w w'

set_option maxHeartbeats 800000 in
theorem short_any (A : Option Addr) (xs : List Nat) (c y : Nat) (w : World) (hx : Sl .u32 w w.heap.size A xs) (dx : Dig W32 xs) (hy : 0 < y) (hy2 : y ≤ 4294967295) (hb : xs.length * 4 ≤ 140737488351232) :
    Calls Tryd.prog 74 #[.slice A xs.length c, .int .u32 y] w fun e w' => ∃ v, e = .returned (.tuple #[v, .int .u32 (val W32 xs % y : Nat)]) ∧ Limbs w (val W32 xs / y) xs.length v w' := by
  go_enter Tryd.func74, Tryd.ntmps74
  go_wp2_with (at_make; refine wpList_make_row _ rfl _ _ 22 rfl 54 .u32 4 Tryd.underlying22 info_u32 _ _ _ _ xs.length rfl rfl (by omega) (by omega) (by omega) (by unfold maxLen; omega) ?_
               intro w1 hrow1 hbel1)
  obtain ⟨zs, hzs⟩ : ∃ zs, List.replicate xs.length 0 = zs := ⟨_, rfl⟩
  have hzl : zs.length = xs.length := by rw [← hzs]; simp
  rw [hzs] at hrow1
  have HL := Lib.hid hzl
  clear hzl hzs
  go_loopw [7, 8] (fun rv iv wr => ∃ (k r : Nat) (q : Int) (qs : List Nat), k ≤ xs.length ∧ iv = .int .i64 q ∧ q + 1 = k ∧ rv = .int .u64 r ∧ r < y ∧ qs.length = xs.length - k ∧ Dig W32 qs ∧ val W32 qs * y + r = val W32 (xs.drop k) ∧
      Row .u32 wr w.heap.size 54 (zs.take k ++ qs) ∧ Below w.heap.size w wr) (fun _ iv _ => (intOf iv + 1).toNat)
  case atStart => exact ⟨xs.length, 0, xs.length - 1, [], Nat.le_refl _, rfl, by omega, rfl, hy, by simp, Dig.nil _, by simp [val], by rw [← HL.out, List.take_length, List.append_nil]; exact hrow1, hbel1⟩
  case round =>
    obtain ⟨k, r, q, qs, hk, rfl, hq, rfl, hr, hql, hqd, he, hrow, hbel⟩ := hrel
    have HQ := Lib.hid hql; clear hql
    have HE := Lib.hid he; clear he
    rcases k with _ | j
    · obtain rfl : q = -1 := by omega
      clear hq
      rw [List.take_zero, List.nil_append] at hrow
      have h1 := HE.out
      rw [List.drop_zero, Nat.mul_comm] at h1
      have h2 : val W32 xs / y = val W32 qs := by rw [← h1, Nat.mul_add_div hy, Nat.div_eq_of_lt hr]; rfl
      have h3 : val W32 xs % y = r := by rw [← h1, Nat.mul_add_mod, Nat.mod_eq_of_lt hr]
      have H2 := Lib.hid h2
      have H3 := Lib.hid h3
      clear h1 h2 h3
      have hT : Calls Tryd.prog 75 #[.slice (some ⟨w.heap.size, 0, none⟩) xs.length xs.length] wr fun e w' => e = .returned (.slice (some ⟨w.heap.size, 0, none⟩) (trimL qs).length xs.length) ∧ wr = w' := by
        have := rtrim_any (some ⟨w.heap.size, 0, none⟩) qs xs.length wr (hrow.sl hrow.lt) (by have := HQ.out; omega) (by unfold maxLen; omega)
        rw [HQ.out] at this
        exact this
      have HT := Lib.hid hT
      clear hT
      go_wp2_with fail
      refine (HT.out).mono ?_
      rintro e w5 ⟨rfl, rfl⟩
      go_wp2_with fail
      go_ret2
      have hqT := trimL_len qs
      rw [HQ.out] at hqT
      exact ⟨.slice (some ⟨w.heap.size, 0, none⟩) (trimL qs).length xs.length, by rw [H3.out]; rfl, _, _, _, rfl, sl_trimL (hrow.sl hrow.lt), dig_trimL hqd, norm_trimL _, by rw [val_trimL, H2.out], by omega, Nat.le_refl _, hbel⟩
    · obtain rfl : q = j := by omega
      clear hq
      have hjz : j < zs.length := by have := HL.out; omega
      have hjx : j < xs.length := by omega
      have hlen : j < (zs.take (j + 1) ++ qs).length := by simp; omega
      have gf := hrow.frozen j
      have gc := hrow.cell hlen
      rw [down_get zs qs hjz hlen] at gc
      obtain ⟨ad, rfl, _, h1⟩ := (hx.below hbel).at_ hjx
      have hxx := dx.get hjx
      have hstep := fun q' r' => step_quo (q := q') (r' := r') (x := xs[j]) HE.out
      rw [← val_drop_pred W32 hjx] at hstep
      have hset := fun v => down_put zs qs v hjz
      have hrs := fun v => hrow.set_ j v
      have hbs := fun v : Nat => hbel.setCell (p := ⟨w.heap.size, j, none⟩) (Nat.le_refl _) (.int .u32 v)
      generalize xs[j] = x at *
      generalize zs[j] = z at *
      have hxx' : x < 4294967296 := hxx
      have hqr : (r * W32 + x) / y * y + (r * W32 + x) % y = r * W32 + x := by rw [Nat.mul_comm]; exact Nat.div_add_mod _ _
      have hq1 : (r * W32 + x) / y < 4294967296 := quo_lt hr hxx
      have hq2 : (r * W32 + x) % y < y := Nat.mod_lt _ hy
      have hi1 : ((r : Int) * 4294967296 + (x : Int)) / (y : Int) = (((r * W32 + x) / y : Nat) : Int) := by simp [W32]
      have hi2 : ((r : Int) * 4294967296 + (x : Int)) % (y : Int) = (((r * W32 + x) % y : Nat) : Int) := by simp [W32]
      obtain ⟨Q, hQ⟩ : ∃ Q, (r * W32 + x) / y = Q := ⟨_, rfl⟩
      obtain ⟨R, hR⟩ : ∃ R, (r * W32 + x) % y = R := ⟨_, rfl⟩
      rw [hQ] at hqr hq1 hi1
      rw [hR] at hqr hq2 hi2
      have hst' := hstep Q R hqr
      have hrs' := hrs Q
      have hbs' := hbs Q
      rw [hset Q] at hrs'
      have HS := Lib.hid hst'
      have HR := Lib.hid hrs'
      have HB := Lib.hid hbs'
      clear hstep hset hrs hbs hst' hrs' hbs' hqr hQ hR hlen hrow hx hxx
      have hji : (j : Int) < (xs.length : Int) := by omega
      go_wp2_with fail
      go_roundw
      case rel => exact ⟨j, R, _, Q :: qs, by omega, rfl, by omega, congrArg _ hi2, hq2, by have := HQ.out; simp; omega, dig_cons hq1 hqd, HS.out, HR.out, HB.out⟩
      case measure => simp [intOf]
end Go.Proofs.YtiofglgpgjnonaaDoor
