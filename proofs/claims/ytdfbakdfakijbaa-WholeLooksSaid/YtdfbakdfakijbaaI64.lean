/-
  What large.Int.Int64 returns. No conditions but that the lists are lists of words without noughts at the end.
-/
import Derived.Test.YtdfbakdfakijbaaBig
namespace Go.Proofs.Ytdfbakdfakijbaa
open Go.RowKit Nb

/-- What a sign and a size are worth. -/
def sv (neg : Bool) (v : Nat) : Int := if neg then -(v : Int) else v

set_option maxHeartbeats 400000 in
theorem lint64_yes (neg : Bool) (A : Option Addr) (ws : List Nat) (c : Nat) (w : World) (hr : Sl .u64 w w.heap.size A ws) (hd : Dig W64 ws) (hn : Norm ws) (hl : ws.length * 8 ≤ 140737488351232)
    (hs : ws = [] → neg = false) (z : Int) (hz : z = sv neg (val W64 ws)) (h0 : -9223372036854775808 ≤ z) (h1 : z ≤ 9223372036854775807) :
    Calls Try.prog 28 #[big neg A ws.length c] w fun e w' => e = .returned (.tuple #[.int .i64 z, .bool true]) ∧ Below w.heap.size w w' := by
  rcases hln : ws.length with _ | j
  · have e : ws = [] := List.eq_nil_of_length_eq_zero hln
    have hneg := hs e
    subst e hneg
    obtain rfl : z = 0 := by rw [hz]; rfl
    clear hz hln hl hr
    go_enter Try.func28, Try.ntmps28
    go_wp2
    go_ret2
    exact ⟨rfl, by go_grown⟩
  · have hge := norm_ge (B := W64) hn (by omega)
    rcases j with _ | j
    · obtain ⟨ad, rfl, hb, hcell⟩ := hr.at_ (i := 0) (by omega)
      have ha : ad.add 0 = ad := by simp [Addr.add]
      rw [ha] at hb hcell
      clear ha
      have hv := val_last (B := W64) hln
      simp only [List.take_zero, val_nil, Nat.pow_zero, Nat.one_mul, Nat.zero_add] at hv
      have hzz := (norm_iff (xs := ws) (by omega)).1 hn
      simp only [hln, Nat.add_sub_cancel] at hzz
      have hx : ws[0] < 18446744073709551616 := hd.get (by omega)
      rw [hv] at hz
      generalize ws[0] = x at *
      clear hge hv hn hd hs hr hl hln
      rcases neg with _ | _
      · have hz2 : z = x := hz
        have hw : IntKind.i64.wrap (x : Int) = z := by rw [IntKind.wrap_i64]; omega
        have hw2 : wrap64 (x : Int) = z := by rw [← hw]; exact (IntWalk.i64_left _).symm
        have hz0 : 0 ≤ z := by omega
        clear hz hz2 hzz hx
        go_enter Try.func28, Try.ntmps28
        go_wp2
        go_ret2
        exact ⟨rfl, by go_grown⟩
      · have hz2 : z = -(x : Int) := hz
        have hw : IntKind.i64.wrap (-IntKind.i64.wrap (x : Int)) = z := by rw [IntKind.wrap_i64, IntKind.wrap_i64]; omega
        have hw2 : wrap64 (-wrap64 (x : Int)) = z := by rw [← hw]; simp only [IntWalk.i64_left]
        have hz0 : z < 0 := by omega
        clear hz hz2 hzz hx
        go_enter Try.func28, Try.ntmps28
        go_wp2
        go_ret2
        exact ⟨by rw [← hw2]; rfl, by go_grown⟩
    · exfalso
      rw [hln] at hge
      have h2 : (18446744073709551616 : Nat) ^ 1 ≤ 18446744073709551616 ^ (j + 1 + 1 - 1) := Nat.pow_le_pow_right (by decide) (by omega)
      have h3 : 18446744073709551616 ≤ val W64 ws := Nat.le_trans (Nat.le_trans (by decide) h2) hge
      unfold sv at hz
      split at hz <;> omega

set_option maxHeartbeats 400000 in
theorem lint64_no (neg : Bool) (A : Option Addr) (ws : List Nat) (c : Nat) (w : World) (hr : Sl .u64 w w.heap.size A ws) (hd : Dig W64 ws) (hl : ws.length * 8 ≤ 140737488351232)
    (hz : sv neg (val W64 ws) < -9223372036854775808 ∨ 9223372036854775807 < sv neg (val W64 ws)) :
    Calls Try.prog 28 #[big neg A ws.length c] w fun e w' => e = .returned (.tuple #[.int .i64 0, .bool false]) ∧ Below w.heap.size w w' := by
  rcases hln : ws.length with _ | j
  · exfalso
    have e : ws = [] := List.eq_nil_of_length_eq_zero hln
    subst e
    revert hz; cases neg <;> simp [sv, val]
  · obtain ⟨ad, rfl, hb, hcell⟩ := hr.at_ (i := 0) (by omega)
    have ha : ad.add 0 = ad := by simp [Addr.add]
    rw [ha] at hb hcell
    clear ha
    rcases j with _ | j
    · have hv := val_last (B := W64) hln
      simp only [List.take_zero, val_nil, Nat.pow_zero, Nat.one_mul, Nat.zero_add] at hv
      have hx : ws[0] < 18446744073709551616 := hd.get (by omega)
      rw [hv] at hz
      generalize ws[0] = x at *
      clear hv hd hr hl hln
      rcases neg with _ | _
      · have hz2 : 9223372036854775807 < x := by unfold sv at hz; simp at hz; omega
        have hw2 : wrap64 (x : Int) < 0 := by rw [← IntWalk.i64_left, IntKind.wrap_i64]; omega
        clear hz hx hz2
        go_enter Try.func28, Try.ntmps28
        go_wp2
        go_ret2
        exact ⟨rfl, by go_grown⟩
      · have hz2 : 9223372036854775808 < x := by unfold sv at hz; simp at hz; omega
        have hw2 : 0 ≤ wrap64 (-wrap64 (x : Int)) := by rw [← IntWalk.i64_left, IntKind.wrap_i64, ← IntWalk.i64_left, IntKind.wrap_i64]; omega
        have hw3 : decide (wrap64 (-wrap64 (x : Int)) < 0) = false := by simpa using hw2
        clear hz hx hz2
        go_enter Try.func28, Try.ntmps28
        go_wp2
        go_ret2
        exact ⟨rfl, by go_grown⟩
    · have hj : j + 2 ≤ 17592186043904 := by omega
      generalize ws[0] = x at *
      clear hz hd hr hl hln
      rcases neg with _ | _
      · go_enter Try.func28, Try.ntmps28
        go_wp2
        go_ret2
        exact ⟨rfl, by go_grown⟩
      · go_enter Try.func28, Try.ntmps28
        go_wp2
        go_ret2
        exact ⟨rfl, by go_grown⟩
end Go.Proofs.Ytdfbakdfakijbaa
