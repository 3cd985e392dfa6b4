/-
  Digits in words of 32 and 64 bits: how they are packed, what large's low, mid, compare, From and Of return, how two lie in two blocks. Conditions: that numbers are no longer than memory.
-/
import Derived.Test.YtjamfkafgfpobaaGreatNums
import Derived.Test.YtjamfkafgfpobaaGreatBase
import Derived.Test.YtjamfkafgfpobaaGreatLen
import Derived.Deep.QuietTactic
import Derived.BigQuiet
import Derived.Deep.LoopGhost
import Derived.Laws.Externs
import Derived.StillTailTactics
namespace Go.Proofs.YtjamfkafgfpobaaGreat
open Nb
theorem bitLen_le64 (x : Nat) (hx : x < 18446744073709551616) : bitLen x ≤ 64 := by
  have := bitLen_spec x
  rcases Nat.lt_or_ge 64 (bitLen x) with h | h
  · have h2 := Nat.pow_le_pow_right (n := 2) (by omega) (show 64 ≤ bitLen x - 1 by omega)
    have : x ≠ 0 := by intro e; subst e; revert h; decide
    omega
  · omega
theorem bitLen_pos {x : Nat} (hx : x ≠ 0) : 0 < bitLen x := by unfold bitLen; rw [if_neg hx]; omega
theorem bitLen_le_iff {x k : Nat} : bitLen x ≤ k ↔ x < 2 ^ k := by
  have h := bitLen_spec x
  constructor
  · intro hk
    have := Nat.pow_le_pow_right (n := 2) (by omega) hk
    omega
  · intro hk
    rcases Nat.lt_or_ge k (bitLen x) with h1 | h1
    · have h2 := Nat.pow_le_pow_right (n := 2) (by omega) (show k ≤ bitLen x - 1 by omega)
      have : x ≠ 0 := by intro e; subst e; revert h1; simp [bitLen]
      omega
    · exact h1
/-- The length in binary digits is the only number between whose powers of two it lies. -/
theorem bitLen_eq {x k : Nat} (h1 : x < 2 ^ k) (h2 : k = 0 ∨ 2 ^ (k - 1) ≤ x) : bitLen x = k := by
  have h3 := bitLen_le_iff.2 h1
  rcases h2 with h2 | h2
  · omega
  · rcases Nat.lt_or_ge (bitLen x) k with h4 | h4
    · have := bitLen_le_iff.1 (show bitLen x ≤ k - 1 by omega)
      omega
    · omega
/-- How many binary digits a list of words has. -/
def lenL (ls : List Nat) : Nat := if h : ls.length = 0 then 0 else 64 * (ls.length - 1) + bitLen (ls[ls.length - 1]'(by omega))
theorem lenL_pos {ls : List Nat} {j : Nat} (h : ls.length = j + 1) : lenL ls = 64 * j + bitLen (ls[j]'(by omega)) := by
  unfold lenL
  rw [dif_neg (by omega)]
  simp only [h, Nat.add_sub_cancel]
theorem val_last {B : Nat} {xs : List Nat} {j : Nat} (h : xs.length = j + 1) : val B xs = val B (xs.take j) + B ^ j * xs[j] := by
  have h3 := val_take_succ B (xs := xs) (k := j) (by omega)
  rw [← h, List.take_length] at h3
  exact h3
theorem pow64 (j : Nat) : (18446744073709551616 : Nat) ^ j = 2 ^ (64 * j) := by
  rw [show (18446744073709551616 : Nat) = 2 ^ 64 from by decide, ← Nat.pow_mul]
/-- Of digits of b binary places: the length of the whole by that of the last one. -/
theorem bitLen_val {b : Nat} {xs : List Nat} (hd : Dig (2 ^ b) xs) {j : Nat} (h : xs.length = j + 1) (hz : xs[j] ≠ 0) : bitLen (val (2 ^ b) xs) = b * j + bitLen xs[j] := by
  have h1 := val_lt (hd.take j)
  rw [List.length_take, Nat.min_eq_left (by omega), ← Nat.pow_mul] at h1
  have h2 := bitLen_spec xs[j]
  rw [val_last h, ← Nat.pow_mul]
  have hp := bitLen_pos hz
  generalize xs[j] = x at *
  apply bitLen_eq
  · rw [Nat.pow_add]
    have h3 : 2 ^ (b * j) * (x + 1) ≤ 2 ^ (b * j) * 2 ^ bitLen x := Nat.mul_le_mul_left _ h2.1
    rw [Nat.mul_add] at h3
    omega
  · right
    rw [show b * j + bitLen x - 1 = b * j + (bitLen x - 1) by omega, Nat.pow_add]
    have h3 : 2 ^ (b * j) * 2 ^ (bitLen x - 1) ≤ 2 ^ (b * j) * x := Nat.mul_le_mul_left _ (h2.2 hz)
    omega
theorem lenL_val {ws : List Nat} (hd : Dig 18446744073709551616 ws) (hn : Norm ws) : lenL ws = bitLen (val 18446744073709551616 ws) := by
  rcases h : ws.length with _ | j
  · have : ws = [] := List.eq_nil_of_length_eq_zero h
    subst this; rfl
  · have hz := (norm_iff (xs := ws) (by omega)).1 hn
    simp only [h, Nat.add_sub_cancel] at hz
    rw [lenL_pos h]
    have := bitLen_val (b := 64) hd h hz
    exact this.symm
/-! ### Words in limbs -/
def limbsL (ws : List Nat) : Nat := (lenL ws + 31) / 32
def unpack (ws : List Nat) : List Nat := (List.range (limbsL ws)).map fun i => ws.getD (i / 2) 0 / 4294967296 ^ (i % 2) % 4294967296
theorem unpack_length (ws : List Nat) : (unpack ws).length = limbsL ws := by simp [unpack]
theorem unpack_get (ws : List Nat) {i : Nat} (h : i < (unpack ws).length) : (unpack ws)[i] = ws.getD (i / 2) 0 / 4294967296 ^ (i % 2) % 4294967296 := by simp [unpack]
theorem dig_unpack (ws : List Nat) : Dig 4294967296 (unpack ws) := by
  intro x hx
  simp only [unpack, List.mem_map] at hx
  obtain ⟨i, _, rfl⟩ := hx
  exact Nat.mod_lt _ (by decide)
theorem limbs_bounds {ws : List Nat} (hd : Dig 18446744073709551616 ws) {j : Nat} (h : ws.length = j + 1) (hz : ws[j] ≠ 0) :
    (ws[j] < 4294967296 ∧ limbsL ws = 2 * j + 1) ∨ (4294967296 ≤ ws[j] ∧ limbsL ws = 2 * j + 2) := by
  unfold limbsL
  rw [lenL_pos h]
  have h1 := bitLen_pos hz
  have h2 := bitLen_le64 ws[j] (hd.get (by omega))
  have h3 := @bitLen_le_iff ws[j] 32
  rw [show (2 : Nat) ^ 32 = 4294967296 from by decide] at h3
  rcases Nat.lt_or_ge ws[j] 4294967296 with h4 | h4
  · have := h3.2 h4
    exact .inl ⟨h4, by omega⟩
  · have : ¬ bitLen ws[j] ≤ 32 := fun h5 => by have := h3.1 h5; omega
    exact .inr ⟨h4, by omega⟩
theorem pack_unpack {ws : List Nat} (hd : Dig 18446744073709551616 ws) (hn : Norm ws) : pack (unpack ws) = ws := by
  rcases h : ws.length with _ | j
  · have : ws = [] := List.eq_nil_of_length_eq_zero h
    subst this; rfl
  · have hz := (norm_iff (xs := ws) (by omega)).1 hn
    simp only [h, Nat.add_sub_cancel] at hz
    have hb := limbs_bounds hd h hz
    have hl := unpack_length ws
    apply List.ext_getElem
    · rw [pack_length, hl]; omega
    · intro i h1 h2
      have hg : ws.getD i 0 = ws[i] := by rw [List.getD_eq_getElem?_getD, List.getElem?_eq_getElem h2]; rfl
      have hdi := hd.get h2
      rw [show (pack (unpack ws))[i] = (unpack ws).getD (2 * i) 0 + 4294967296 * (unpack ws).getD (2 * i + 1) 0 from packG_get _ _ _ _]
      have e1 : (unpack ws).getD (2 * i) 0 = ws[i] % 4294967296 := by
        rw [List.getD_eq_getElem?_getD, List.getElem?_eq_getElem (by omega), Option.getD_some, unpack_get, show 2 * i / 2 = i by omega, show 2 * i % 2 = 0 by omega, hg]
        simp
      rw [e1]
      by_cases hc : 2 * i + 1 < limbsL ws
      · have e2 : (unpack ws).getD (2 * i + 1) 0 = ws[i] / 4294967296 := by
          rw [List.getD_eq_getElem?_getD, List.getElem?_eq_getElem (by omega), Option.getD_some, unpack_get, show (2 * i + 1) / 2 = i by omega, show (2 * i + 1) % 2 = 1 by omega, hg]
          simp; omega
        rw [e2]; omega
      · have e2 : (unpack ws).getD (2 * i + 1) 0 = 0 := by
          rw [List.getD_eq_getElem?_getD, List.getElem?_eq_none (by omega)]; rfl
        rw [e2]
        obtain rfl : i = j := by omega
        omega
theorem val_unpack {ws : List Nat} (hd : Dig 18446744073709551616 ws) (hn : Norm ws) : val 4294967296 (unpack ws) = val 18446744073709551616 ws := by
  have h := val_pack (unpack ws)
  rw [pack_unpack hd hn] at h
  exact h.symm
theorem norm_unpack {ws : List Nat} (hd : Dig 18446744073709551616 ws) (hn : Norm ws) : Norm (unpack ws) := by
  rcases h : ws.length with _ | j
  · have : ws = [] := List.eq_nil_of_length_eq_zero h
    subst this; exact Norm.nil
  · have hz := (norm_iff (xs := ws) (by omega)).1 hn
    simp only [h, Nat.add_sub_cancel] at hz
    have hb := limbs_bounds hd h hz
    have hl := unpack_length ws
    have hg : ws.getD j 0 = ws[j] := by rw [List.getD_eq_getElem?_getD, List.getElem?_eq_getElem (by omega)]; rfl
    have hdi := hd.get (k := j) (by omega)
    rw [norm_iff (by omega), unpack_get]
    rw [hl]
    rcases hb with ⟨h1, h2⟩ | ⟨h1, h2⟩
    · rw [h2, show (2 * j + 1 - 1) / 2 = j by omega, show (2 * j + 1 - 1) % 2 = 0 by omega, hg]
      simp; omega
    · rw [h2, show (2 * j + 2 - 1) / 2 = j by omega, show (2 * j + 2 - 1) % 2 = 1 by omega, hg]
      simp; omega
/-- A list that is filled from below. -/
theorem fill_set (us : List Nat) {k : Nat} (hk : k < us.length) : (us.take k ++ List.replicate (us.length - k) 0).set k us[k] = us.take (k + 1) ++ List.replicate (us.length - (k + 1)) 0 := by
  rw [List.set_append_right _ _ (by simp; omega)]
  have e : us.length - k = us.length - (k + 1) + 1 := by omega
  rw [e, List.replicate_succ, List.length_take, Nat.min_eq_left (by omega), Nat.sub_self, List.set_cons_zero, take_succ' hk, List.append_assoc]
  rfl
theorem fill_end (us : List Nat) : us.take us.length ++ List.replicate (us.length - us.length) 0 = us := by simp
theorem fill_len (us : List Nat) {k : Nat} (hk : k ≤ us.length) : (us.take k ++ List.replicate (us.length - k) 0).length = us.length := by simp; omega
end Go.Proofs.YtjamfkafgfpobaaGreat
namespace Go.Proofs.YtjamfkafgfpobaaGreat
open Go.RowKit Nb
def trimL (ls : List Nat) : List Nat := (ls.reverse.dropWhile (· == 0)).reverse
theorem trimL_snoc_zero (ls : List Nat) : trimL (ls ++ [0]) = trimL ls := by simp [trimL]
theorem trimL_snoc (ls : List Nat) {x : Nat} (h : x ≠ 0) : trimL (ls ++ [x]) = ls ++ [x] := by simp [trimL, h]
theorem trimL_all (ls : List Nat) : ∃ n, ls = trimL ls ++ List.replicate n 0 ∧ Norm (trimL ls) := by
  generalize hk : ls.length = k
  induction k generalizing ls with
  | zero => have : ls = [] := List.eq_nil_of_length_eq_zero hk
            subst this; exact ⟨0, rfl, Norm.nil⟩
  | succ k ih =>
    have hne : ls ≠ [] := by intro e; subst e; simp at hk
    have e := List.dropLast_concat_getLast hne
    by_cases h0 : ls.getLast hne = 0
    · obtain ⟨n, h1, h2⟩ := ih ls.dropLast (by simp; omega)
      have ht : trimL ls = trimL ls.dropLast := by
        have := trimL_snoc_zero ls.dropLast
        rw [h0] at e
        rw [e] at this
        exact this
      refine ⟨n + 1, ?_, by rw [ht]; exact h2⟩
      rw [ht, List.replicate_succ', ← List.append_assoc, ← h1, ← h0, e]
    · have ht : trimL ls = ls := by
        have := trimL_snoc ls.dropLast h0
        rw [e] at this
        exact this
      exact ⟨0, by rw [ht]; simp, by rw [ht]; exact fun _ => h0⟩
theorem norm_trimL (ls : List Nat) : Norm (trimL ls) := (trimL_all ls).choose_spec.2
theorem val_trimL (B : Nat) (ls : List Nat) : val B (trimL ls) = val B ls := by
  obtain ⟨n, h, _⟩ := trimL_all ls
  rw [congrArg (val B) h, val_append, val_replicate]; simp
theorem trimL_len (ls : List Nat) : (trimL ls).length ≤ ls.length := by
  obtain ⟨n, h, _⟩ := trimL_all ls
  have := congrArg List.length h
  rw [List.length_append] at this
  omega
theorem trimL_take (ls : List Nat) : ls.take (trimL ls).length = trimL ls := by
  obtain ⟨n, h, _⟩ := trimL_all ls
  have := congrArg (List.take (trimL ls).length) h
  rw [List.take_append_of_le_length (Nat.le_refl _), List.take_length] at this
  exact this
theorem dig_trimL {B : Nat} {ls : List Nat} (h : Dig B ls) : Dig B (trimL ls) := by rw [← trimL_take]; exact h.take _
theorem sl_trimL {k : IntKind} {w : World} {B : Nat} {A : Option Addr} {ls : List Nat} (h : Sl k w B A ls) : Sl k w B A (trimL ls) := by rw [← trimL_take]; exact h.take _
set_option maxHeartbeats 400000 in
theorem trim_any (A : Option Addr) (ls : List Nat) (c : Nat) (w : World) (hr : Sl .u64 w w.heap.size A ls) (hl : ls.length ≤ c) (hc : c ≤ maxLen) :
    Calls Tryz.prog 129 #[.slice A ls.length c] w fun e w' => e = .returned (.slice A (trimL ls).length c) ∧ w = w' := by
  unfold maxLen at hc
  go_enter Tryz.func129, Tryz.ntmps129
  go_wp2
  go_loop [0] (fun x => ∃ k : Nat, k ≤ ls.length ∧ x = .slice A k c ∧ trimL ls = trimL (ls.take k)) (fun x => match x with | .slice _ n _ => n | _ => 0)
  case atStart => exact ⟨ls.length, Nat.le_refl _, rfl, by rw [List.take_length]⟩
  case round =>
    obtain ⟨k, hk, rfl, ht⟩ := hrel
    have HT := Lib.hid ht; clear ht
    rcases k with _ | j
    · go_wp2
      go_ret
      exact ⟨by rw [HT.out]; rfl, rfl⟩
    · obtain ⟨ad, rfl, hb, hcell⟩ := hr.at_ (i := j) (by omega)
      have hts := take_succ' (xs := ls) (k := j) (by omega)
      by_cases hz : ls[j] = 0
      · rw [hz] at hts hcell
        have HS := Lib.hid hts; clear hts hz
        go_wp2
        go_round
        case rel => exact ⟨j, by omega, by simp, by rw [HT.out, HS.out, trimL_snoc_zero]⟩
        case measure => simp
      · have hts2 := trimL_snoc (ls.take j) hz
        have hln : (ls.take j ++ [ls[j]]).length = j + 1 := by simp; omega
        have HS := Lib.hid hts; clear hts
        have HS2 := Lib.hid hts2; clear hts2
        have HLn := Lib.hid hln; clear hln
        go_wp2
        go_ret
        exact ⟨by rw [HT.out, HS.out, HS2.out, HLn.out]; rfl, rfl⟩
/-- A struct of a sign and a list, as large.Int and api.Int are. -/
abbrev big (neg : Bool) (A : Option Addr) (n c : Nat) : Value := .agg #[.bool neg, .slice A n c]
set_option maxHeartbeats 400000 in
theorem made_any (neg : Bool) (A : Option Addr) (n c : Nat) (w : World) (hn : n ≤ maxLen) :
    Calls Tryz.prog 118 #[.bool neg, .slice A n c] w fun e w' => e = .returned (big (neg && decide (0 < n)) A n c) ∧ Below w.heap.size w w' := by
  unfold maxLen at hn
  rcases neg with _ | _
  · go_enter Tryz.func118, Tryz.ntmps118
    go_wp2
    go_returns
    exact ⟨rfl, by go_grown⟩
  · rcases n with _ | n
    · go_enter Tryz.func118, Tryz.ntmps118
      go_wp2
      go_returns
      exact ⟨rfl, by go_grown⟩
    · go_enter Tryz.func118, Tryz.ntmps118
      go_wp2
      go_returns
      exact ⟨by simp, by go_grown⟩
theorem len64_any (x : Nat) (w : World) (hx : x < 18446744073709551616) :
    Calls Tryz.prog 157 #[.int .u64 x] w fun e w' => e = .returned (.int .i64 (bitLen x)) ∧ w = w' :=
  (len64_int x w (by omega) (by omega)).mono fun _ _ h => ⟨h.1, h.2.symm⟩
end Go.Proofs.YtjamfkafgfpobaaGreat
namespace Go.Proofs.YtjamfkafgfpobaaGreat
open Go.RowKit Nb
set_option maxHeartbeats 400000 in
theorem length_any (A : Option Addr) (ls : List Nat) (c : Nat) (w : World) (hr : Sl .u64 w w.heap.size A ls) (hd : Dig 18446744073709551616 ls) (hl : ls.length * 8 ≤ 140737488351232) :
    Calls Tryz.prog 156 #[.slice A ls.length c] w fun e w' => e = .returned (.int .i64 (lenL ls)) ∧ w = w' := by
  rcases hn : ls.length with _ | j
  · have e : lenL ls = 0 := by unfold lenL; rw [dif_pos hn]
    have HN := Lib.hid hn; clear hn
    have HE := Lib.hid e; clear e
    go_enter Tryz.func156, Tryz.ntmps156
    go_wp2
    go_ret
    exact ⟨by rw [HE.out]; rfl, rfl⟩
  · obtain ⟨ad, rfl, hb, hcell⟩ := hr.at_ (i := j) (by omega)
    have e := lenL_pos hn
    have hbd : ls[j] < 18446744073709551616 := hd.get (by omega)
    have hb64 := bitLen_le64 _ hbd
    have hx := len64_any ls[j] w hbd
    have hj : j * 8 ≤ 140737488351232 := by omega
    generalize ls[j] = x at *
    have HB := Lib.hid hbd; clear hbd
    have HX := Lib.hid hx; clear hx
    have HN := Lib.hid hn; clear hn
    have HE := Lib.hid e; clear e hl hd
    go_enter Tryz.func156, Tryz.ntmps156
    go_wp2_with (go_at_call 157; refine (HX.out).mono ?_; rintro e w' ⟨rfl, rfl⟩)
    go_ret
    exact ⟨by rw [HE.out]; simp, rfl⟩
end Go.Proofs.YtjamfkafgfpobaaGreat
namespace Go.Proofs.YtjamfkafgfpobaaGreat
open Go.RowKit Nb
def cmpI (x y : Int) : Int := if x < y then -1 else if y < x then 1 else 0
theorem cmpI_lt {x y : Int} (h : x < y) : cmpI x y = -1 := if_pos h
theorem cmpI_gt {x y : Int} (h : y < x) : cmpI x y = 1 := by unfold cmpI; rw [if_neg (by omega), if_pos h]
theorem cmpI_eq {x y : Int} (h : x = y) : cmpI x y = 0 := by unfold cmpI; rw [if_neg (by omega), if_neg (by omega)]
theorem cmpI_ne {x y : Nat} (h : x ≠ y) : (cmpI x y == 0) = false := by
  unfold cmpI; split <;> first | rfl | (split <;> first | rfl | omega)
set_option maxHeartbeats 400000 in
theorem cmp_int (x y : Int) (w : World) :
    Calls Tryz.prog 131 #[.int .i64 x, .int .i64 y] w fun e w' => e = .returned (.int .i64 (cmpI x y)) ∧ w = w' := by
  rcases Int.lt_trichotomy x y with h | h | h
  · have E := Lib.hid (cmpI_lt h)
    go_enter Tryz.func131, Tryz.ntmps131
    go_wp2
    go_ret
    exact ⟨by rw [E.out]; rfl, rfl⟩
  · subst h
    have E := Lib.hid (cmpI_eq (rfl : x = x))
    go_enter Tryz.func131, Tryz.ntmps131
    go_wp2
    go_ret
    exact ⟨by rw [E.out]; rfl, rfl⟩
  · have E := Lib.hid (cmpI_gt h)
    have hn : ¬ x < y := by omega
    go_enter Tryz.func131, Tryz.ntmps131
    go_wp2
    go_ret
    exact ⟨by rw [E.out]; rfl, rfl⟩
set_option maxHeartbeats 400000 in
theorem cmp_u64 (x y : Nat) (w : World) :
    Calls Tryz.prog 132 #[.int .u64 x, .int .u64 y] w fun e w' => e = .returned (.int .i64 (cmpI x y)) ∧ w = w' := by
  rcases Int.lt_trichotomy (x : Int) (y : Int) with h | h | h
  · have E := Lib.hid (cmpI_lt h)
    go_enter Tryz.func132, Tryz.ntmps132
    go_wp2
    go_ret
    exact ⟨by rw [E.out]; rfl, rfl⟩
  · obtain rfl : x = y := by omega
    have E := Lib.hid (cmpI_eq (rfl : (x : Int) = x))
    clear h
    go_enter Tryz.func132, Tryz.ntmps132
    go_wp2
    go_ret
    exact ⟨by rw [E.out]; rfl, rfl⟩
  · have E := Lib.hid (cmpI_gt h)
    have hn : ¬ (x : Int) < y := by omega
    go_enter Tryz.func132, Tryz.ntmps132
    go_wp2
    go_ret
    exact ⟨by rw [E.out]; rfl, rfl⟩
theorem cmp_u64q (x y : Nat) (w : World) :
    Calls Tryz.prog 132 #[.int .u64 x, .int .u64 y] w fun e w' => e = .returned (.int .i64 (cmpI x y)) ∧ w' = w := (cmp_u64 x y w).mono fun _ _ h => ⟨h.1, h.2.symm⟩
abbrev W64 : Nat := 18446744073709551616
set_option maxHeartbeats 400000 in
/-- Lists of unlike lengths: the lengths decide. -/
theorem compare_len (A B : Option Addr) (xs ys : List Nat) (c d : Nat) (w : World) (hl : xs.length * 8 ≤ 140737488351232) (_hk : ys.length * 8 ≤ 140737488351232) (hne : xs.length ≠ ys.length) :
    Calls Tryz.prog 120 #[.slice A xs.length c, .slice B ys.length d] w fun e w' => e = .returned (.int .i64 (cmpI xs.length ys.length)) ∧ w = w' := by
  have hc : (cmpI xs.length ys.length == 0) = false := by
    unfold cmpI; split <;> first | rfl | (split <;> first | rfl | omega)
  go_enter Tryz.func120, Tryz.ntmps120
  go_wp2_with (go_at_call 131; refine (cmp_int _ _ _).mono ?_; rintro e w' ⟨rfl, rfl⟩)
  go_rounds 1
  go_ret
  exact ⟨rfl, rfl⟩
/-- What the lists' values are, the highest unlike digit deciding. -/
theorem cmpI_top {xs ys : List Nat} (hx : Dig W64 xs) (hy : Dig W64 ys) (hl : xs.length = ys.length) {j : Nat} (h1 : j < xs.length) (h2 : j < ys.length) (hd : xs.drop (j + 1) = ys.drop (j + 1)) (hne : xs[j] ≠ ys[j]) :
    cmpI (xs[j] : Nat) (ys[j] : Nat) = cmpI (val W64 xs : Nat) (val W64 ys : Nat) := by
  rcases Nat.lt_or_gt_of_ne hne with h | h
  · rw [cmpI_lt (by omega), cmpI_lt]
    have := val_top hl (k := j + 1) (by omega) hd (cmp_dig hx hy h1 h2 h)
    omega
  · rw [cmpI_gt (by omega), cmpI_gt]
    have := val_top hl.symm (k := j + 1) (by omega) hd.symm (cmp_dig hy hx h2 h1 h)
    omega
set_option maxHeartbeats 400000 in
/-- Lists of one length. -/
theorem compare_same (A B : Option Addr) (xs ys : List Nat) (c d : Nat) (w : World) (hr : Sl .u64 w w.heap.size A xs) (hs : Sl .u64 w w.heap.size B ys) (hx : Dig W64 xs) (hy : Dig W64 ys)
    (hl : xs.length * 8 ≤ 140737488351232) (he : xs.length = ys.length) :
    Calls Tryz.prog 120 #[.slice A xs.length c, .slice B xs.length d] w fun e w' => e = .returned (.int .i64 (cmpI (val W64 xs : Nat) (val W64 ys : Nat))) ∧ Qu w w' := by
  have HE := Lib.hid he; clear he
  have H0 := Lib.hid (cmpI_eq (rfl : (xs.length : Int) = xs.length))
  go_enter Tryz.func120, Tryz.ntmps120
  go_wp2_with (go_at_call 131; refine (cmp_int _ _ _).mono ?_; rw [H0.out]; rintro e w' ⟨rfl, rfl⟩)
  go_loopw [5, 6] (fun cv i wr => ∃ (k : Nat) (z q : Int), k ≤ xs.length ∧ i = .int .i64 q ∧ q + 1 = k ∧ cv = .int .i64 z ∧ (z = 0 ∧ xs.drop k = ys.drop k ∨ (z == 0) = false ∧ z = cmpI (val W64 xs : Nat) (val W64 ys : Nat)) ∧ Qu w wr)
    (fun _ i _ => (intOf i + 1).toNat)
  case atStart => exact ⟨xs.length, 0, xs.length - 1, Nat.le_refl _, rfl, by omega, rfl, .inl ⟨rfl, by rw [List.drop_length, HE.out, List.drop_length]⟩, Qu.refl _⟩
  case round =>
    obtain ⟨k, z, q, hk, rfl, hq, rfl, ⟨rfl, hd⟩ | ⟨hz, hv⟩, hqu⟩ := hrel
    · have HD := Lib.hid hd; clear hd
      rcases k with _ | j
      · obtain rfl : q = -1 := by omega
        clear hq
        go_wp2
        go_ret
        exact ⟨by rw [cmpI_eq (by have := HD.out; simp at this; rw [this])]; rfl, hqu⟩
      · obtain rfl : q = j := by omega
        clear hq
        have hj : j < ys.length := by have := HE.out; omega
        obtain ⟨ad, rfl, hb, hcell⟩ := hr.at_ (i := j) (by omega)
        rw [← hqu.cell] at hcell
        obtain ⟨bd, rfl, hb', hcell'⟩ := hs.at_ (i := j) hj
        rw [← hqu.cell] at hcell'
        by_cases heq : xs[j] = ys[j]
        · have hdj : xs.drop j = ys.drop j := by
            rw [List.drop_eq_getElem_cons (by omega), List.drop_eq_getElem_cons hj, HD.out, heq]
          rw [heq] at hcell
          have HDJ := Lib.hid hdj; clear hdj heq
          have hjx : j < xs.length := by omega
          have hji : (j : Int) < (xs.length : Int) := by omega
          have H1 := Lib.hid (cmpI_eq (rfl : ((ys[j] : Nat) : Int) = ys[j]))
          go_wp2
          go_quiet ((go_at_call 132; exact Calls.quiet_of_same (cmp_u64q _ _ _)))
          go_wp2
          go_roundw
          case rel => exact ⟨j, _, _, by omega, rfl, by omega, rfl, .inl ⟨H1.out, HDJ.out⟩, hqu.drew _⟩
          case measure => simp [intOf]
        · have H1 := Lib.hid (cmpI_top hx hy HE.out (by omega) hj HD.out heq)
          have H2 := Lib.hid (cmpI_ne heq)
          have hjx : j < xs.length := by omega
          have hji : (j : Int) < (xs.length : Int) := by omega
          clear heq
          go_wp2
          go_quiet ((go_at_call 132; exact Calls.quiet_of_same (cmp_u64q _ _ _)))
          go_wp2
          go_roundw
          case rel => exact ⟨j, _, _, by omega, rfl, by omega, rfl, .inr ⟨H2.out, H1.out⟩, hqu.drew _⟩
          case measure => simp [intOf]
    · have HV := Lib.hid hv; clear hv
      go_wp2
      go_ret
      exact ⟨by rw [← HV.out]; rfl, hqu⟩
/-- Lists without noughts at the end: what they are worth decides. -/
theorem compare_any (A B : Option Addr) (xs ys : List Nat) (c d : Nat) (w : World) (hr : Sl .u64 w w.heap.size A xs) (hs : Sl .u64 w w.heap.size B ys) (hx : Dig W64 xs) (hy : Dig W64 ys) (nx : Norm xs) (ny : Norm ys)
    (hl : xs.length * 8 ≤ 140737488351232) (hk : ys.length * 8 ≤ 140737488351232) :
    Calls Tryz.prog 120 #[.slice A xs.length c, .slice B ys.length d] w fun e w' => e = .returned (.int .i64 (cmpI (val W64 xs : Nat) (val W64 ys : Nat))) ∧ Qu w w' := by
  by_cases he : xs.length = ys.length
  · have h := compare_same A B xs ys c d w hr hs hx hy hl he
    rw [← he]
    exact h
  · refine (compare_len A B xs ys c d w hl hk he).mono fun e w' ⟨h1, h2⟩ => ⟨?_, h2 ▸ Qu.refl _⟩
    rw [h1]
    rcases Nat.lt_or_gt_of_ne he with h | h
    · have := cmp_len (B := W64) (by decide) hx ny h
      rw [cmpI_lt (by omega), cmpI_lt (by omega)]
    · have := cmp_len (B := W64) (by decide) hy nx h
      rw [cmpI_gt (by omega), cmpI_gt (by omega)]
end Go.Proofs.YtjamfkafgfpobaaGreat
namespace Go.Proofs.YtjamfkafgfpobaaGreat
open Go.RowKit Nb
/-- One block alone has changed. -/
structure Upd (g : Nat) (w w' : World) : Prop where
  os : w'.os = w.os
  tape : w'.tape = w.tape
  output : w'.output = w.output
  size : w'.heap.size = w.heap.size
  block : ∀ k, k ≠ g → w'.heap[k]? = w.heap[k]?
theorem Upd.refl (g : Nat) (w : World) : Upd g w w := ⟨rfl, rfl, rfl, rfl, fun _ _ => rfl⟩
theorem Upd.trans {g : Nat} {a b c : World} (h : Upd g a b) (k : Upd g b c) : Upd g a c :=
  ⟨k.os.trans h.os, k.tape.trans h.tape, k.output.trans h.output, k.size.trans h.size, fun i hi => (k.block i hi).trans (h.block i hi)⟩
theorem Upd.setCell {g : Nat} {a w : World} (h : Upd g a w) (i : Nat) (u : Value) : Upd g a (w.setCell ⟨g, i, none⟩ u) :=
  ⟨h.os, h.tape, h.output, by simpa using h.size, fun k hk => (Below.heap_setCell w _ u k hk).trans (h.block k hk)⟩
theorem Upd.drew {g : Nat} {a w : World} (h : Upd g a w) : Upd g a w.drew := ⟨h.os, h.tape, h.output, h.size, h.block⟩
theorem Upd.drewN {g : Nat} {a w : World} (h : Upd g a w) (n : Nat) : Upd g a (w.drewN n) := ⟨h.os, h.tape, h.output, h.size, h.block⟩
theorem Upd.cell {g : Nat} {w w' : World} (h : Upd g w w') {p : Addr} (hp : p.block ≠ g) : w'.cell? p = w.cell? p := World.cell?_of_block (w := w) (h.block p.block hp)
theorem Upd.frozen {g : Nat} {w w' : World} (h : Upd g w w') {p : Addr} (hp : p.block ≠ g) : w'.frozen? p = w.frozen? p := World.frozen?_of_block (w := w) (h.block p.block hp)
theorem Upd.below {g B : Nat} {w w' : World} (h : Upd g w w') (hB : B ≤ g) : Below B w w' := ⟨h.os, h.tape, h.output, by rw [h.size]; exact Nat.le_refl _, fun k hk => h.block k (by omega)⟩
theorem Row.upd {k : IntKind} {w w' : World} {g g' : Nat} {e : TypeId} {xs : List Nat} (h : Row k w g e xs) (hu : Upd g' w w') (hne : g ≠ g') : Row k w' g e xs := (hu.block g hne).trans h
theorem Sl.upd {k : IntKind} {w w' : World} {g B : Nat} {A : Option Addr} {ls : List Nat} (h : Sl k w B A ls) (hu : Upd g w w') (hB : B ≤ g) : Sl k w' B A ls := h.keep fun p hp => hu.cell (by omega)
theorem add64_ex (x y c : Nat) (hx : x < W64) (hy : y < W64) (hc : c ≤ 1) : ∃ d o : Nat, (∀ w, (callFunc 146 #[.int .u64 x, .int .u64 y, .int .u64 c]).run Tryz.prog w = .ok (.value (.tuple #[.int .u64 d, .int .u64 o])) w) ∧ d < W64 ∧ o ≤ 1 ∧ d + W64 * o = x + y + c := by
  refine ⟨(x + y + c) % W64, (x + y + c) / W64, fun w => ?_, Nat.mod_lt _ (by decide), ?_, Nat.mod_add_div _ _⟩
  · rw [run_callFunc_extern Tryz.func146 (by kernel_rfl) (by kernel_rfl) (by kernel_rfl) (e := add64Entry) (by kernel_rfl), run_add64 x y c (by omega) (by omega) (by omega) (by omega)]
    simp only [Result.andThen]
    congr 5 <;> simp [W64]
  · have : (x + y + c) / W64 < 2 := Nat.div_lt_of_lt_mul (by omega)
    omega
def sub64E : Array Value → Sem Value := fun args => do
  let (x, y, b) ← Extern.MathBitsCarry.three "Sub64" args
  pure (Extern.MathBitsCarry.pair ((x + Extern.MathBitsCarry.m64 - y - b) % Extern.MathBitsCarry.m64) (if x < y + b then 1 else 0))
theorem run_sub64E (x y b : Nat) (hb : b ≤ 1) (w : World) :
    (sub64E #[.int .u64 x, .int .u64 y, .int .u64 b]).run Tryz.prog w =
      .ok (.tuple #[.int .u64 (((x + 18446744073709551616 - y - b) % 18446744073709551616 : Nat) : Int), .int .u64 ((if x < y + b then 1 else 0 : Nat) : Int)]) w := by
  have : b = 0 ∨ b = 1 := by omega
  rcases this with rfl | rfl <;> rfl
theorem sub64_ex (x y c : Nat) (hx : x < W64) (hy : y < W64) (hc : c ≤ 1) : ∃ d o : Nat, (∀ w, (callFunc 143 #[.int .u64 x, .int .u64 y, .int .u64 c]).run Tryz.prog w = .ok (.value (.tuple #[.int .u64 d, .int .u64 o])) w) ∧ d < W64 ∧ o ≤ 1 ∧ d + y + c = x + W64 * o := by
  refine ⟨(x + W64 - y - c) % W64, if x < y + c then 1 else 0, fun w => ?_, Nat.mod_lt _ (by decide), ?_, ?_⟩
  · rw [run_callFunc_extern Tryz.func143 (by kernel_rfl) (by kernel_rfl) (by kernel_rfl) (e := sub64E) (by kernel_rfl), run_sub64E x y c hc]
    rfl
  · split <;> omega
  · simp only [W64] at *
    split <;> omega
set_option maxHeartbeats 400000 in
/-- y is added to z, which has as many words. -/
theorem putBack_any (g off : Nat) (pre zs post ys : List Nat) (A : Option Addr) (c d : Nat) (w : World) (hoff : pre.length = off) (hz : Row .u64 w g 160 (pre ++ (zs ++ post))) (hy : Sl .u64 w g A ys)
    (hl : ys.length = zs.length) (dz : Dig W64 zs) (dy : Dig W64 ys) (hb : (off + zs.length) * 8 ≤ 140737488351232) :
    Calls Tryz.prog 142 #[.slice (some ⟨g, off, none⟩) zs.length c, .slice A ys.length d] w fun e w' => ∃ (zs' : List Nat) (o : Nat), e = .returned (.int .u64 o) ∧ zs'.length = zs.length ∧ Dig W64 zs' ∧ o ≤ 1 ∧
      val W64 zs' + W64 ^ zs.length * o = val W64 zs + val W64 ys ∧ Row .u64 w' g 160 (pre ++ (zs' ++ post)) ∧ Upd g w w' := by
  have HL := Lib.hid hl
  have HO := Lib.hid hoff
  have hyl : ys.length * 8 ≤ 140737488351232 := by omega
  clear hl hoff
  go_enter Tryz.func142, Tryz.ntmps142
  go_wp2
  go_loopw [4, 9] (fun cv iv wr => ∃ (k o : Nat) (ds : List Nat), k ≤ ys.length ∧ iv = .int .i64 k ∧ cv = .int .u64 o ∧ o ≤ 1 ∧ ds.length = k ∧ Dig W64 ds ∧ val W64 ds + W64 ^ k * o = val W64 (zs.take k) + val W64 (ys.take k) ∧
      Row .u64 wr g 160 (pre ++ ((ds ++ zs.drop k) ++ post)) ∧ Upd g w wr) (fun _ iv _ => ys.length - (intOf iv).toNat)
  case atStart => exact ⟨0, 0, [], Nat.zero_le _, rfl, rfl, by omega, rfl, Dig.nil _, by simp [val], by simpa using hz, Upd.refl _ _⟩
  case round =>
    obtain ⟨k, o, ds, hk, rfl, rfl, ho, hdl, hdd, he, hrow, hu⟩ := hrel
    have HD := Lib.hid hdl; clear hdl
    have HE := Lib.hid he; clear he
    by_cases hlt : k < ys.length
    · have hkz : k < zs.length := by have := HL.out; omega
      obtain ⟨ad, rfl, hb1, h1⟩ := (hy.upd hu (Nat.le_refl _)).at_ hlt
      have gf := hrow.frozen (off + k)
      have gc := hrow.cell (i := off + k) (by have := HO.out; have := HD.out; simp; omega)
      have hx := dz.get hkz
      have hyy := dy.get hlt
      have hgz : (pre ++ ((ds ++ zs.drop k) ++ post))[off + k]'(by have := HO.out; have := HD.out; simp; omega) = zs[k] := by
        have h := get_mid pre (ds ++ zs.drop k) post (k := k) (by rw [fill_length ds zs HD.out (by omega)]; exact hkz) (by have := HD.out; simp; omega)
        rw [fill_get ds zs HD.out hkz] at h
        rw [← h]
        congr 1
        rw [HO.out]
      rw [hgz] at gc
      have hset : ∀ v : Nat, (pre ++ ((ds ++ zs.drop k) ++ post)).set (off + k) v = pre ++ (((ds ++ [v]) ++ zs.drop (k + 1)) ++ post) := fun v => by
        have h := set_mid pre (ds ++ zs.drop k) post (k := k) v (by rw [fill_length ds zs HD.out (by omega)]; exact hkz)
        rw [fill_put ds zs v HD.out hkz] at h
        rw [← h]
        congr 1
        rw [HO.out]
      have hrs := fun v => hrow.set_ (off + k) v
      have hstep := fun v o' => step_up (v := v) (c' := o') (t := zs[k] + ys[k]) HE.out HD.out
      have hty : val W64 (zs.take (k + 1)) + val W64 (ys.take (k + 1)) = val W64 (zs.take k) + val W64 (ys.take k) + W64 ^ k * (zs[k] + ys[k]) := by
        rw [val_take_succ W64 hkz, val_take_succ W64 hlt, Nat.mul_add]; omega
      generalize zs[k] = x at *
      generalize ys[k] = y at *
      obtain ⟨v, o', hadd, hv, ho', hvo⟩ := add64_ex x y o hx hyy ho
      have hrs' := hrs v
      rw [hset v] at hrs'
      have hst' := hstep v o' (by rw [hvo])
      rw [← hty] at hst'
      have HS := Lib.hid hst'
      have HR := Lib.hid hrs'
      have HV := Lib.hid hvo
      clear hgz hset hrs hstep hty hst' hrs' hvo hx hyy
      have hji : (k : Int) < (ys.length : Int) := by omega
      go_wp2
      go_roundw
      case rel => exact ⟨k + 1, o', ds ++ [v], by omega, by go_num, rfl, ho', by have := HD.out; simp; omega, dig_snoc hdd hv, HS.out, HR.out, hu.setCell _ _⟩
      case measure => simp [intOf]; omega
    · obtain rfl : k = ys.length := by omega
      go_wp2
      go_ret
      have h1 := HE.out
      rw [List.take_length, HL.out, List.take_length] at h1
      have h2 : zs.drop ys.length = [] := by rw [HL.out, List.drop_length]
      rw [h2, List.append_nil] at hrow
      exact ⟨ds, o, rfl, by rw [HD.out, HL.out], hdd, ho, h1, hrow, hu⟩
end Go.Proofs.YtjamfkafgfpobaaGreat
namespace Go.Proofs.YtjamfkafgfpobaaGreat
open Go.RowKit Nb
theorem info_u64 : (Tryz.prog.info? 160).map (fun i => (i.zero, i.size, i.bytes)) = some (some (.int .u64 0), 1, 8) := by kernel_rfl
theorem info_u32 : (Tryz.prog.info? 143).map (fun i => (i.zero, i.size, i.bytes)) = some (some (.int .u32 0), 1, 4) := by kernel_rfl
set_option maxHeartbeats 400000 in
theorem from_any (neg : Bool) (A : Option Addr) (ls : List Nat) (c : Nat) (w : World) (hr : Sl .u32 w w.heap.size A ls) (hd : Dig 4294967296 ls) (hl : ls.length * 4 ≤ 140737488351232) :
    Calls Tryz.prog 90 #[big neg A ls.length c] w fun e w' => ∃ g, e = .returned (big (neg && decide (0 < (pack ls).length)) (some ⟨g, 0, none⟩) (pack ls).length (pack ls).length) ∧
      Row .u64 w' g 160 (pack ls) ∧ w.heap.size ≤ g ∧ Below w.heap.size w w' := by
  go_enter Tryz.func90, Tryz.ntmps90
  go_wp2_with (at_make; refine wpList_make_row _ rfl _ _ 70 rfl 160 .u64 8 Tryz.underlying70 info_u64 _ _ _ _ ((ls.length + 1) / 2) rfl rfl (by omega) (by omega) (by omega) (by unfold maxLen; omega) ?_
               intro w1 hrow hbel
               have hbw : Below w.heap.size w w1 := by refine Below.trans ?_ (hbel.mono (by go_size)); go_grown
               have c0 : w1.cell? ⟨w.heap.size, 0, none⟩ = some (.bool neg) := by rw [hbel.cell (by go_size)]; go_cell
               have c1 : w1.cell? ⟨w.heap.size, 1, none⟩ = some (.slice A ls.length c) := by rw [hbel.cell (by go_size)]; go_cell
               have d0 : w1.cell? ⟨w.heap.size + 1, 0, none⟩ = some (.bool false) := by rw [hbel.cell (by go_size)]; go_cell
               have d1 : w1.cell? ⟨w.heap.size + 1, 1, none⟩ = some (.slice none 0 0) := by rw [hbel.cell (by go_size)]; go_cell
               have f0 : w1.frozen? ⟨w.heap.size + 1, 0, none⟩ = false := by rw [hbel.frozen (by go_size)]; simp
               have f1 : w1.frozen? ⟨w.heap.size + 1, 1, none⟩ = false := by rw [hbel.frozen (by go_size)]; simp
               have hrow1 : Row .u64 w1 (w.heap.size + 1 + 1) 160 (packG (upto ls 0) ((ls.length + 1) / 2)) := by rw [packG_zero]; simpa using hrow
               clear hrow hbel)
  go_loopw [15] (fun iv wr => ∃ k : Nat, k ≤ ls.length ∧ iv = .int .i64 k ∧ Row .u64 wr (w.heap.size + 1 + 1) 160 (packG (upto ls k) ((ls.length + 1) / 2)) ∧ Below (w.heap.size + 1 + 1) w1 wr) (fun iv _ => ls.length - (intOf iv).toNat)
  case atStart => exact ⟨0, Nat.zero_le _, rfl, hrow1, Below.refl _ _⟩
  case round =>
    obtain ⟨k, hk, rfl, hrow, hbr⟩ := hrel
    rw [← hbr.cell (by go_size)] at c0 c1 d0 d1
    rw [← hbr.frozen (by go_size)] at f0 f1
    by_cases hlt : k < ls.length
    · obtain ⟨ad, rfl, hb1, h1⟩ := (hr.below hbw).at_ hlt
      rw [← hbr.cell (by omega)] at h1
      have hji : (k : Int) < (ls.length : Int) := by omega
      have hl2 : k / 2 < (ls.length + 1) / 2 := by omega
      have gf := hrow.frozen (k / 2)
      have gc := hrow.cell (i := k / 2) (by rw [packG_length]; exact hl2)
      have hx := hd.get hlt
      rcases Nat.mod_two_eq_zero_or_one k with he | he
      · obtain ⟨hset, hget⟩ := packG_even ls hlt hl2 he
        rw [hget] at gc
        have hm : (k : Int) % 2 = 0 := by omega
        have hor : bits .or .u64 (0 : Int) (ls[k] : Nat) = (ls[k] : Nat) := by
          have := u64_or_nat 0 ls[k] (by decide) (by omega)
          simpa using this
        generalize ls[k] = x at *
        have HS := Lib.hid hset; clear hset hget
        have HX : (x : Int) ≤ 18446744073709551615 := by omega
        go_wp2
        go_region
        go_wp2
        go_roundw
        case rel => exact ⟨k + 1, by omega, by go_num, by rw [HS.out]; exact (hrow.drew1).set_ _ _, (hbr.drew).setCell (by simp) _⟩
        case measure => simp [intOf]; omega
      · obtain ⟨hset, hget⟩ := packG_odd ls hlt hl2 he
        rw [hget] at gc
        have hm : (k : Int) % 2 = 1 := by omega
        have hy := hd.get (k := k - 1) (by omega)
        have hor : bits .or .u64 ((ls[k - 1] : Nat) : Int) ((ls[k] : Nat) * 4294967296) = ((ls[k - 1] + 4294967296 * ls[k] : Nat) : Int) := by
          have h1 := u64_or_nat ls[k - 1] (ls[k] * 4294967296) (by omega) (by omega)
          have h2 := nat_join 32 (ls[k] * 4294967296) ls[k - 1] (by simp) hy
          rw [Nat.or_comm] at h2
          rw [h2] at h1
          rw [Nat.add_comm, Nat.mul_comm]
          simpa using h1
        have HO := Lib.hid hor; clear hor
        generalize ls[k] = x at *
        generalize ls[k - 1] = y at *
        have HS := Lib.hid hset; clear hset hget
        have HX : (x : Int) ≤ 4294967295 := by omega
        have HY : (y : Int) ≤ 4294967295 := by omega
        go_wp2
        go_region
        go_wp2
        go_roundw
        case rel => exact ⟨k + 1, by omega, by go_num, by rw [HS.out]; have h := (hrow.drew1).set_ (k / 2) (y + 4294967296 * x); rw [← HO.out] at h; exact h, (hbr.drew).setCell (by simp) _⟩
        case measure => simp [intOf]; omega
    · have hlt0 := hrow.lt
      go_wp2_with (go_at_call 118; refine (made_any _ _ _ _ _ (by unfold maxLen; omega)).mono ?_; rintro e w2 ⟨rfl, hb2⟩
                   have e0 := (hb2.cell (p := ⟨w.heap.size + 1, 0, none⟩) (by go_size)).trans d0
                   have e1 := (hb2.cell (p := ⟨w.heap.size + 1, 1, none⟩) (by go_size)).trans d1
                   have g0 := (hb2.frozen (p := ⟨w.heap.size + 1, 0, none⟩) (by go_size)).trans f0
                   have g1 := (hb2.frozen (p := ⟨w.heap.size + 1, 1, none⟩) (by go_size)).trans f1)
      refine bodyPost_ret (v := big (neg && decide (1 ≤ ls.length)) (some ⟨w.heap.size + 1 + 1, 0, none⟩) ((ls.length + 1) / 2) ((ls.length + 1) / 2)) (by simp [results, Tryz.results90, go_sem, e0, e1]) rfl ?_
      have hkl : k = ls.length := by omega
      subst hkl
      rw [upto_all] at hrow
      refine ⟨w.heap.size + 1 + 1, ?_, ?_, ?_, ?_⟩
      · rw [pack_length, show decide (0 < (ls.length + 1) / 2) = decide (1 ≤ ls.length) from decide_eq_decide.2 (by omega)]
      · exact ((hrow.below hb2 hlt0).far (by simp) _).far (by simp) _
      · omega
      · exact (((hbw.trans (hbr.mono (by omega))).trans (hb2.mono (by omega))).setCell (by simp) _).setCell (by simp) _
end Go.Proofs.YtjamfkafgfpobaaGreat
namespace Go.Proofs.YtjamfkafgfpobaaGreat
open Go.RowKit Nb
set_option maxHeartbeats 400000 in
theorem bits_any (neg : Bool) (A : Option Addr) (ls : List Nat) (c : Nat) (w : World) (hr : Sl .u64 w w.heap.size A ls) (hd : Dig W64 ls) (hl : ls.length * 8 ≤ 140737488351232) :
    Calls Tryz.prog 144 #[big neg A ls.length c] w fun e w' => e = .returned (.int .i64 (lenL ls)) ∧ Below w.heap.size w w' := by
  have hx := length_any A ls c (w.alloc (.cells #[.bool neg, .slice A ls.length c] 72)) ((hr.alloc (Nat.le_refl _) _).more (by simp)) hd hl
  have HX := Lib.hid hx; clear hx
  go_enter Tryz.func144, Tryz.ntmps144
  go_wp2_with (go_at_call 156; refine (HX.out).mono ?_; rintro e w' ⟨rfl, rfl⟩)
  go_ret
  exact ⟨rfl, by go_grown⟩
theorem lenL_le {ls : List Nat} (hd : Dig W64 ls) : lenL ls ≤ 64 * ls.length := by
  rcases h : ls.length with _ | j
  · unfold lenL; rw [dif_pos h]; omega
  · rw [lenL_pos h]
    have := bitLen_le64 ls[j] (hd.get (by omega))
    omega
set_option maxHeartbeats 400000 in
theorem limbs_any (neg : Bool) (A : Option Addr) (ls : List Nat) (c : Nat) (w : World) (hr : Sl .u64 w w.heap.size A ls) (hd : Dig W64 ls) (hl : ls.length * 8 ≤ 140737488351232) :
    Calls Tryz.prog 127 #[big neg A ls.length c] w fun e w' => e = .returned (.int .i64 (limbsL ls)) ∧ Below w.heap.size w w' := by
  have hx := bits_any neg A ls c (w.alloc (.cells #[.bool neg, .slice A ls.length c] 72)) ((hr.alloc (Nat.le_refl _) _).more (by simp)) hd hl
  have HX := Lib.hid hx; clear hx
  have hb := lenL_le hd
  have hb2 : lenL ls ≤ 1125899906809856 := by omega
  clear hb
  go_enter Tryz.func127, Tryz.ntmps127
  go_wp2_with (go_at_call 144; refine (HX.out).mono ?_; rintro e w' ⟨rfl, hb1⟩)
  go_ret
  exact ⟨by simp [limbsL], (show Below w.heap.size w _ by go_grown).trans (hb1.mono (by go_size))⟩
/-- The sign of a number. -/
def sgn (neg : Bool) (ls : List Nat) : Int := if neg then -1 else if ls.length = 0 then 0 else 1
set_option maxHeartbeats 400000 in
theorem sign_any (neg : Bool) (A : Option Addr) (ls : List Nat) (c : Nat) (w : World) (hl : ls.length * 8 ≤ 140737488351232) :
    Calls Tryz.prog 112 #[big neg A ls.length c] w fun e w' => e = .returned (.int .i64 (sgn neg ls)) ∧ Below w.heap.size w w' := by
  rcases neg with _ | _
  · unfold sgn
    rcases hn : ls.length with _ | j
    · clear hn
      go_enter Tryz.func112, Tryz.ntmps112
      go_wp2
      go_ret
      exact ⟨rfl, by go_grown⟩
    · have hj : j + 1 ≤ 140737488351232 := by omega
      clear hn hl
      go_enter Tryz.func112, Tryz.ntmps112
      go_wp2
      go_ret
      exact ⟨by simp; omega, by go_grown⟩
  · go_enter Tryz.func112, Tryz.ntmps112
    go_wp2
    go_ret
    exact ⟨rfl, by go_grown⟩
set_option maxHeartbeats 400000 in
theorem int_any (neg : Bool) (A : Option Addr) (ws : List Nat) (c : Nat) (w : World) (hr : Sl .u64 w w.heap.size A ws) (hd : Dig W64 ws) (_hn : Norm ws) (hl : ws.length * 8 ≤ 140737488351232) :
    Calls Tryz.prog 116 #[big neg A ws.length c] w fun e w' => ∃ g, e = .returned (big neg (some ⟨g, 0, none⟩) (unpack ws).length (unpack ws).length) ∧
      Row .u32 w' g 143 (unpack ws) ∧ w.heap.size ≤ g ∧ Below w.heap.size w w' := by
  have hb := lenL_le hd
  have hul := unpack_length ws
  have hul2 : (unpack ws).length ≤ 35184372087808 := by rw [hul]; unfold limbsL; omega
  have hx := limbs_any neg A ws c ((w.alloc (.cells #[.bool neg, .slice A ws.length c] 72)).alloc (.cells #[.bool false, .slice none 0 0] 27)) (((hr.alloc (Nat.le_refl _) _).alloc (by go_size) _).more (by go_size)) hd hl
  rw [← hul] at hx
  have HX := Lib.hid hx; clear hx
  have HU := Lib.hid hul; clear hul hb
  have hz : List.replicate (unpack ws).length 0 = (unpack ws).take 0 ++ List.replicate ((unpack ws).length - 0) 0 := by simp
  have HZ := Lib.hid hz; clear hz
  go_enter Tryz.func116, Tryz.ntmps116
  go_wp2_with (first
    | (go_at_call 127; refine (HX.out).mono ?_; rintro e w0 ⟨rfl, hb0⟩
       have a0 : w0.cell? ⟨w.heap.size, 0, none⟩ = some (.bool neg) := by rw [hb0.cell (by go_size)]; go_cell
       have a1 : w0.cell? ⟨w.heap.size, 1, none⟩ = some (.slice A ws.length c) := by rw [hb0.cell (by go_size)]; go_cell
       have b0 : w0.cell? ⟨w.heap.size + 1, 0, none⟩ = some (.bool false) := by rw [hb0.cell (by go_size)]; go_cell
       have b1 : w0.cell? ⟨w.heap.size + 1, 1, none⟩ = some (.slice none 0 0) := by rw [hb0.cell (by go_size)]; go_cell
       have g0 : w0.frozen? ⟨w.heap.size + 1, 0, none⟩ = false := by rw [hb0.frozen (by go_size)]; simp
       have g1 : w0.frozen? ⟨w.heap.size + 1, 1, none⟩ = false := by rw [hb0.frozen (by go_size)]; simp
       have hbw0 : Below w.heap.size w w0 := by refine Below.trans ?_ (hb0.mono (by go_size)); go_grown
       have hsz : w.heap.size + 1 + 1 ≤ w0.heap.size := by have := hb0.size; simpa using this
       clear hb0)
    | (at_make; refine wpList_make_row _ rfl _ _ 25 rfl 143 .u32 4 Tryz.underlying25 info_u32 _ _ _ _ (unpack ws).length rfl rfl (by omega) (by omega) (by omega) (by unfold maxLen; omega) ?_
       intro w1 hrow hbel
       have c0 := (hbel.cell (p := ⟨w.heap.size, 0, none⟩) (by go_size)).trans a0
       have c1 := (hbel.cell (p := ⟨w.heap.size, 1, none⟩) (by go_size)).trans a1
       have d0 := (hbel.cell (p := ⟨w.heap.size + 1, 0, none⟩) (by go_size)).trans b0
       have d1 := (hbel.cell (p := ⟨w.heap.size + 1, 1, none⟩) (by go_size)).trans b1
       have f0 := (hbel.frozen (p := ⟨w.heap.size + 1, 0, none⟩) (by go_size)).trans g0
       have f1 := (hbel.frozen (p := ⟨w.heap.size + 1, 1, none⟩) (by go_size)).trans g1
       have hbw := hbw0.trans (hbel.mono hbw0.size)
       rw [HZ.out] at hrow))
  generalize hG : w0.heap.size = G at *
  have HG := Lib.hid hG; clear hG
  go_loopw [10] (fun iv wr => ∃ k : Nat, k ≤ (unpack ws).length ∧ iv = .int .i64 k ∧ Row .u32 wr G 143 ((unpack ws).take k ++ List.replicate ((unpack ws).length - k) 0) ∧ Below G w1 wr) (fun iv _ => (unpack ws).length - (intOf iv).toNat)
  case atStart => exact ⟨0, Nat.zero_le _, rfl, hrow, Below.refl _ _⟩
  case round =>
    obtain ⟨k, hk, rfl, hrow, hbr⟩ := hrel
    rw [← hbr.cell (by go_size)] at c0 c1 d0 d1
    rw [← hbr.frozen (by go_size)] at f0 f1
    by_cases hlt : k < (unpack ws).length
    · have hset := fill_set (unpack ws) hlt
      have hug := unpack_get ws hlt
      have hkw : k / 2 < ws.length := by
        have h1 := HU.out
        have h2 := lenL_le hd
        unfold limbsL at h1
        omega
      have hgd : ws.getD (k / 2) 0 = ws[k / 2] := by rw [List.getD_eq_getElem?_getD, List.getElem?_eq_getElem hkw]; rfl
      rw [hgd] at hug
      obtain ⟨ad, rfl, hb1, h1⟩ := (hr.below hbw).at_ hkw
      rw [← hbr.cell (by omega)] at h1
      have hfl := fill_len (unpack ws) (k := k) (by omega)
      have gf := hrow.frozen k
      have gc := hrow.cell (i := k) (by rw [hfl]; exact hlt)
      have hx : ws[k / 2] < 18446744073709551616 := hd.get hkw
      have hji : (k : Int) < ((unpack ws).length : Int) := by omega
      have hjw : (k : Int) / 2 < (ws.length : Int) := by omega
      generalize ((unpack ws).take k ++ List.replicate ((unpack ws).length - k) 0)[k]'(by rw [hfl]; exact hlt) = old at *
      generalize ws[k / 2] = x at *
      have HS := Lib.hid hset; clear hset hfl hgd
      have HX : (x : Int) ≤ 18446744073709551615 := by omega
      rcases Nat.mod_two_eq_zero_or_one k with he | he
      · have hm : (k : Int) % 2 = 0 := by omega
        rw [he] at hug
        have HUG := Lib.hid hug; clear hug he hx
        go_wp2
        go_roundw
        case rel =>
          refine ⟨k + 1, by omega, by go_num, ?_, hbr.setCell (by simp) _⟩
          rw [← HS.out]
          have h := hrow.set_ k (unpack ws)[k]
          rw [show (((unpack ws)[k] : Nat) : Int) = (x : Int) % 4294967296 by rw [HUG.out]; simp] at h
          exact h
        case measure => simp [intOf]; omega
      · have hm : (k : Int) % 2 = 1 := by omega
        rw [he] at hug
        have HUG := Lib.hid hug; clear hug he hx
        go_wp2
        go_roundw
        case rel =>
          refine ⟨k + 1, by omega, by go_num, ?_, hbr.setCell (by simp) _⟩
          rw [← HS.out]
          have h := hrow.set_ k (unpack ws)[k]
          rw [show (((unpack ws)[k] : Nat) : Int) = (x : Int) / 4294967296 by rw [HUG.out]; simp; omega] at h
          exact h
        case measure => simp [intOf]; omega
    · go_wp2
      have hkl : k = (unpack ws).length := by omega
      subst hkl
      rw [fill_end] at hrow
      refine bodyPost_ret (v := big neg (some ⟨G, 0, none⟩) (unpack ws).length (unpack ws).length) (by simp [results, Tryz.results116, go_sem, d0, d1]) rfl ?_
      refine ⟨G, rfl, (hrow.far (by simp; omega) _).far (by simp; omega) _, by omega, ?_⟩
      exact ((hbw.trans (hbr.mono (by omega))).setCell (by simp) _).setCell (by simp) _
end Go.Proofs.YtjamfkafgfpobaaGreat
namespace Go.Proofs.YtjamfkafgfpobaaGreat
open Go.RowKit Nb
abbrev W32 : Nat := 4294967296
/-- May a number be (what Check asks)? -/
structure Ok (neg : Bool) (ls : List Nat) : Prop where
  len : ls.length ≤ 2048
  norm : Norm ls
  sign : ls = [] → neg = false
set_option maxHeartbeats 400000 in
set_option maxRecDepth 100000 in
theorem check_ok (neg : Bool) (A : Option Addr) (ls : List Nat) (c : Nat) (w : World) (hr : Sl .u32 w w.heap.size A ls) (ho : Ok neg ls) :
    Calls Tryz.prog 111 #[big neg A ls.length c] w fun e w' => e = .returned (.int .i64 0) ∧ Below w.heap.size w w' := by
  have hlen := ho.len
  rcases hn : ls.length with _ | j
  · have hneg : neg = false := ho.sign (List.eq_nil_of_length_eq_zero hn)
    subst hneg
    clear ho hr hlen hn
    go_enter Tryz.func111, Tryz.ntmps111
    go_wp2
    go_ret
    exact ⟨rfl, by go_grown⟩
  · obtain ⟨ad, rfl, hb, hcell⟩ := hr.at_ (i := j) (by omega)
    have hz := (norm_iff (xs := ls) (by omega)).1 ho.norm
    simp only [hn, Nat.add_sub_cancel] at hz
    have hbz : (((ls[j] : Nat) : Int) == 0) = false := by simp; omega
    have hj : j + 1 ≤ 2048 := by omega
    generalize ls[j] = x at *
    clear ho hr hlen hn hz
    go_enter Tryz.func111, Tryz.ntmps111
    go_wp2
    go_ret
    exact ⟨rfl, by go_grown⟩
set_option maxHeartbeats 400000 in
set_option maxRecDepth 100000 in
theorem check_bad (neg : Bool) (A : Option Addr) (ls : List Nat) (c : Nat) (w : World) (hr : Sl .u32 w w.heap.size A ls) (hl : ls.length * 4 ≤ 140737488351232) (ho : ¬ Ok neg ls) :
    Calls Tryz.prog 111 #[big neg A ls.length c] w fun e w' => e = .returned (.int .i64 1) ∧ Below w.heap.size w w' := by
  by_cases hlen : ls.length ≤ 2048
  · rcases hn : ls.length with _ | j
    · have hneg : neg = true := by
        cases neg
        · exact absurd ⟨hlen, by rw [List.eq_nil_of_length_eq_zero hn]; exact Norm.nil, fun _ => rfl⟩ ho
        · rfl
      subst hneg
      clear ho hr hlen hn hl
      go_enter Tryz.func111, Tryz.ntmps111
      go_wp2
      go_ret
      exact ⟨rfl, by go_grown⟩
    · obtain ⟨ad, rfl, hb, hcell⟩ := hr.at_ (i := j) (by omega)
      have hz : ls[j] = 0 := by
        rcases Nat.eq_zero_or_pos ls[j] with h | h
        · exact h
        · refine absurd ⟨hlen, (norm_iff (xs := ls) (by omega)).2 ?_, fun e => by subst e; simp at hn⟩ ho
          simp only [hn, Nat.add_sub_cancel]; omega
      rw [hz] at hcell
      have hj : j + 1 ≤ 2048 := by omega
      clear ho hr hlen hn hz hl
      go_enter Tryz.func111, Tryz.ntmps111
      go_wp2
      go_ret
      exact ⟨rfl, by go_grown⟩
  · generalize ls.length = n at *
    clear ho hr
    go_enter Tryz.func111, Tryz.ntmps111
    go_wp2
    go_ret
    exact ⟨rfl, by go_grown⟩
end Go.Proofs.YtjamfkafgfpobaaGreat
namespace Go.Proofs.YtjamfkafgfpobaaGreat
open Go.RowKit Nb
def ofL (n : Int) : List Nat := trimL [n.natAbs]
theorem ofL_dig {n : Int} (h0 : -9223372036854775808 ≤ n) (h1 : n ≤ 9223372036854775807) : Dig W64 (ofL n) := dig_trimL (Dig.one (show n.natAbs < 18446744073709551616 by omega))
theorem ofL_norm (n : Int) : Norm (ofL n) := norm_trimL _
theorem ofL_val (n : Int) : val W64 (ofL n) = n.natAbs := by rw [ofL, val_trimL]; simp [val]
theorem ofL_len (n : Int) : (ofL n).length ≤ 1 := trimL_len _
theorem ofL_pos {n : Int} (h : n ≠ 0) : 0 < (ofL n).length := by
  rcases Nat.eq_zero_or_pos (ofL n).length with h0 | h0
  · have := ofL_val n
    rw [List.eq_nil_of_length_eq_zero h0] at this
    simp [val] at this; omega
  · exact h0
set_option maxHeartbeats 400000 in
theorem large_of_any (n : Int) (w : World) (h0 : -9223372036854775808 ≤ n) (h1 : n ≤ 9223372036854775807) :
    Calls Tryz.prog 115 #[.int .i64 n] w fun e w' => ∃ g, e = .returned (big (decide (n < 0)) (some ⟨g, 0, none⟩) (ofL n).length 1) ∧
      Sl .u64 w' w'.heap.size (some ⟨g, 0, none⟩) (ofL n) ∧ w.heap.size ≤ g ∧ Below w.heap.size w w' := by
  have hsl : ∀ (W : World) (g m : Nat), g = W.heap.size → Sl .u64 (W.alloc (.cells #[.int .u64 m] 160)) (W.alloc (.cells #[.int .u64 m] 160)).heap.size (some ⟨g, 0, none⟩) [m] := fun W g m hg => by
    have h : Row .u64 (W.alloc (.cells #[.int .u64 m] 160)) W.heap.size 160 [m] := heap_alloc_new W _
    subst hg
    exact h.sl h.lt
  have hln := ofL_len n
  by_cases hneg : n < 0
  · have hpos := ofL_pos (n := n) (by omega)
    have hd : decide (n < 0) = true := by simpa using hneg
    rw [hd]
    clear hd
    unfold ofL at *
    generalize hm : n.natAbs = m at *
    have hab : IntKind.u64.wrap (-IntKind.u64.wrap n) = (m : Nat) := by rw [IntKind.wrap_u64, IntKind.wrap_u64]; omega
    clear hm
    generalize hL : (trimL [m]).length = L at *
    have HL := Lib.hid hL; clear hL
    go_enter Tryz.func115, Tryz.ntmps115
    go_wp2_with fail
    refine (trim_any (some ⟨w.heap.size + 1, 0, none⟩) [m] 1 _ (by exact (hsl _ _ _ (by simp))) (by simp) (by unfold maxLen; omega)).mono ?_
    rw [HL.out]
    rintro e w1 ⟨rfl, rfl⟩
    go_wp2_with fail
    refine (made_any _ _ _ _ _ (by unfold maxLen; omega)).mono ?_; rintro e w2 ⟨rfl, hb2⟩
    have e0 : w2.cell? ⟨w.heap.size, 0, none⟩ = some (.bool false) := by rw [hb2.cell (by go_size)]; go_cell
    have e1 : w2.cell? ⟨w.heap.size, 1, none⟩ = some (.slice none 0 0) := by rw [hb2.cell (by go_size)]; go_cell
    have f0 : w2.frozen? ⟨w.heap.size, 0, none⟩ = false := by rw [hb2.frozen (by go_size)]; simp
    have f1 : w2.frozen? ⟨w.heap.size, 1, none⟩ = false := by rw [hb2.frozen (by go_size)]; simp
    have hs2 : Row .u64 w2 (w.heap.size + 1) 160 [m] := by
      have h : Row .u64 ((w.alloc (.cells #[.bool false, .slice none 0 0] 72)).alloc (.cells #[.int .u64 m] 160)) (w.alloc (.cells #[.bool false, .slice none 0 0] 72)).heap.size 160 [m] := heap_alloc_new _ _
      have h2 := h.below hb2 h.lt
      simpa using h2
    have hb3 : Below w.heap.size w w2 := by refine Below.trans ?_ (hb2.mono (by go_size)); go_grown
    have hz2 : w.heap.size + 1 < w2.heap.size := by have := hb2.size; simp at this; omega
    go_wp2
    refine bodyPost_ret (v := big true (some ⟨w.heap.size + 1, 0, none⟩) L 1) (by simp [results, Tryz.results115, go_sem, e0, e1]) rfl ?_
    refine ⟨w.heap.size + 1, rfl, ?_, by omega, (hb3.setCell (by simp) _).setCell (by simp) _⟩
    exact sl_trimL (((hs2.far (by simp) _).far (by simp) _).sl (by simp; omega))
  · have hd : decide (n < 0) = false := by simpa using hneg
    have hn0 : 0 ≤ n := by omega
    rw [hd]
    clear hd
    unfold ofL at *
    generalize hm : n.natAbs = m at *
    have hab : IntKind.u64.wrap n = (m : Nat) := by rw [IntKind.wrap_u64]; omega
    clear hm
    generalize hL : (trimL [m]).length = L at *
    have HL := Lib.hid hL; clear hL
    go_enter Tryz.func115, Tryz.ntmps115
    go_wp2_with fail
    refine (trim_any (some ⟨w.heap.size + 1, 0, none⟩) [m] 1 _ (by exact (hsl _ _ _ (by simp))) (by simp) (by unfold maxLen; omega)).mono ?_
    rw [HL.out]
    rintro e w1 ⟨rfl, rfl⟩
    go_wp2_with fail
    refine (made_any _ _ _ _ _ (by unfold maxLen; omega)).mono ?_; rintro e w2 ⟨rfl, hb2⟩
    have e0 : w2.cell? ⟨w.heap.size, 0, none⟩ = some (.bool false) := by rw [hb2.cell (by go_size)]; go_cell
    have e1 : w2.cell? ⟨w.heap.size, 1, none⟩ = some (.slice none 0 0) := by rw [hb2.cell (by go_size)]; go_cell
    have f0 : w2.frozen? ⟨w.heap.size, 0, none⟩ = false := by rw [hb2.frozen (by go_size)]; simp
    have f1 : w2.frozen? ⟨w.heap.size, 1, none⟩ = false := by rw [hb2.frozen (by go_size)]; simp
    have hs2 : Row .u64 w2 (w.heap.size + 1) 160 [m] := by
      have h : Row .u64 ((w.alloc (.cells #[.bool false, .slice none 0 0] 72)).alloc (.cells #[.int .u64 m] 160)) (w.alloc (.cells #[.bool false, .slice none 0 0] 72)).heap.size 160 [m] := heap_alloc_new _ _
      have h2 := h.below hb2 h.lt
      simpa using h2
    have hb3 : Below w.heap.size w w2 := by refine Below.trans ?_ (hb2.mono (by go_size)); go_grown
    have hz2 : w.heap.size + 1 < w2.heap.size := by have := hb2.size; simp at this; omega
    go_wp2
    refine bodyPost_ret (v := big false (some ⟨w.heap.size + 1, 0, none⟩) L 1) (by simp [results, Tryz.results115, go_sem, e0, e1]) rfl ?_
    refine ⟨w.heap.size + 1, rfl, ?_, by omega, (hb3.setCell (by simp) _).setCell (by simp) _⟩
    exact sl_trimL (((hs2.far (by simp) _).far (by simp) _).sl (by simp; omega))
end Go.Proofs.YtjamfkafgfpobaaGreat
