/-
  What the document's own plain functions return: trim, signed, Of, Sign, Bits. No conditions but that the lists are lists of limbs.
-/
import Derived.Test.YtdfbakdfakijbaaOf
import Derived.Test.YtdfbakdfakijbaaTwin
namespace Go.Proofs.Ytdfbakdfakijbaa
open Go.RowKit Nb

set_option maxHeartbeats 400000 in
theorem rtrim_any (A : Option Addr) (ls : List Nat) (c : Nat) (w : World) (hr : Sl .u32 w w.heap.size A ls) (hl : ls.length ≤ c) (hc : c ≤ maxLen) :
    Calls Try.prog 38 #[.slice A ls.length c] w fun e w' => e = .returned (.slice A (trimL ls).length c) ∧ w = w' := by
  unfold maxLen at hc
  go_enter Try.func38, Try.ntmps38
  go_wp2
  go_loop [0] (fun x => ∃ k : Nat, k ≤ ls.length ∧ x = .slice A k c ∧ trimL ls = trimL (ls.take k)) (fun x => match x with | .slice _ n _ => n | _ => 0)
  case atStart => exact ⟨ls.length, Nat.le_refl _, rfl, by rw [List.take_length]⟩
  case round =>
    obtain ⟨k, hk, rfl, ht⟩ := hrel
    have HT := Lib.hid ht; clear ht
    rcases k with _ | j
    · go_wp2
      go_ret
      exact ⟨by rw [HT.out]; rfl, rfl⟩
    · obtain ⟨ad, rfl, hb, hcell⟩ := hr.at_ (i := j) (by omega)
      have hts := take_succ' (xs := ls) (k := j) (by omega)
      by_cases hz : ls[j] = 0
      · rw [hz] at hts hcell
        have HS := Lib.hid hts; clear hts hz
        go_wp2
        go_round
        case rel => exact ⟨j, by omega, by simp, by rw [HT.out, HS.out, trimL_snoc_zero]⟩
        case measure => simp
      · have hts2 := trimL_snoc (ls.take j) hz
        have hln : (ls.take j ++ [ls[j]]).length = j + 1 := by simp; omega
        have HS := Lib.hid hts; clear hts
        have HS2 := Lib.hid hts2; clear hts2
        have HLn := Lib.hid hln; clear hln
        go_wp2
        go_ret
        exact ⟨by rw [HT.out, HS.out, HS2.out, HLn.out]; rfl, rfl⟩


theorem bits_pow (x i : Nat) : x / 2 ^ i / 2 = x / 2 ^ (i + 1) := by rw [Nat.div_div_eq_div_mul, Nat.pow_succ]

set_option maxHeartbeats 400000 in
theorem signed_any (neg : Bool) (A : Option Addr) (ls : List Nat) (c : Nat) (w : World) (hr : Sl .u32 w w.heap.size A ls) (hl : ls.length ≤ c) (hc : c * 4 ≤ 140737488351232) :
    Calls Try.prog 26 #[.bool neg, .slice A ls.length c] w fun e w' => ∃ A' c', e = .returned (big (neg && decide (0 < (trimL ls).length)) A' (trimL ls).length c') ∧
      (0 < (trimL ls).length ∧ A' = A ∧ c' = c ∨ (trimL ls).length = 0 ∧ A' = none ∧ c' = 0) ∧ Below w.heap.size w w' := by
  have hx := rtrim_any A ls c (w.alloc (.cells #[.bool false, .slice none 0 0] 24)) ((hr.alloc (Nat.le_refl _) _).more (by simp)) hl (by unfold maxLen; omega)
  have HX := Lib.hid hx; clear hx
  have hln := trimL_len ls
  rcases hn : (trimL ls).length with _ | n
  · rw [hn] at HX
    go_enter Try.func26, Try.ntmps26
    go_wp2_with (go_at_call 38; refine (HX.out).mono ?_; rintro e w' ⟨rfl, rfl⟩)
    refine bodyPost_ret (v := big false none 0 0) (by simp [results, Try.results26, go_sem]) rfl ?_
    exact ⟨none, 0, by simp, by simp, by go_grown⟩
  · rw [hn] at HX
    have hn2 : n + 1 ≤ c := by omega
    clear hn hln hl
    go_enter Try.func26, Try.ntmps26
    go_wp2_with (go_at_call 38; refine (HX.out).mono ?_; rintro e w' ⟨rfl, rfl⟩)
    refine bodyPost_ret (v := big neg A (n + 1) c) (by simp [results, Try.results26, go_sem]) rfl ?_
    exact ⟨A, c, by simp, by simp, by go_grown⟩

/-- The sign, as the document's own function has it. -/
def rsgn (neg : Bool) (ls : List Nat) : Int := if ls.length = 0 then 0 else if neg then -1 else 1
theorem rsgn_ok {neg : Bool} {ls : List Nat} (h : Ok neg ls) : rsgn neg ls = sgn neg ls := by
  unfold rsgn sgn
  by_cases h0 : ls.length = 0
  · rw [if_pos h0, h.sign (List.eq_nil_of_length_eq_zero h0), if_pos h0]; rfl
  · rw [if_neg h0, if_neg h0]

set_option maxHeartbeats 400000 in
theorem rsign_any (neg : Bool) (A : Option Addr) (ls : List Nat) (c : Nat) (w : World) (hl : ls.length * 4 ≤ 140737488351232) :
    Calls Try.prog 11 #[big neg A ls.length c] w fun e w' => e = .returned (.int .i64 (rsgn neg ls)) ∧ Below w.heap.size w w' := by
  unfold rsgn
  rcases hn : ls.length with _ | j
  · clear hn hl
    go_enter Try.func11, Try.ntmps11
    go_wp2
    go_ret
    exact ⟨rfl, by go_grown⟩
  · have hj : j + 1 ≤ 140737488351232 := by omega
    clear hn hl
    rcases neg with _ | _
    · go_enter Try.func11, Try.ntmps11
      go_wp2
      go_ret
      exact ⟨rfl, by go_grown⟩
    · go_enter Try.func11, Try.ntmps11
      go_wp2
      go_ret
      exact ⟨rfl, by go_grown⟩

set_option maxHeartbeats 400000 in
theorem rbits_any (neg : Bool) (A : Option Addr) (ls : List Nat) (c : Nat) (w : World) (hr : Sl .u32 w w.heap.size A ls) (hd : Dig W32 ls) (hn : Norm ls) (hl : ls.length * 4 ≤ 140737488351232) :
    Calls Try.prog 13 #[big neg A ls.length c] w fun e w' => e = .returned (.int .i64 (bitLen (val W32 ls))) ∧ Below w.heap.size w w' := by
  rcases hln : ls.length with _ | j
  · have e : ls = [] := List.eq_nil_of_length_eq_zero hln
    subst e
    clear hln hl hr
    go_enter Try.func13, Try.ntmps13
    go_wp2
    go_ret
    exact ⟨rfl, by go_grown⟩
  · obtain ⟨ad, rfl, hb, hcell⟩ := hr.at_ (i := j) (by omega)
    have hz := (norm_iff (xs := ls) (by omega)).1 hn
    simp only [hln, Nat.add_sub_cancel] at hz
    have hv := bitLen_val (b := 32) hd hln hz
    have hv2 : (bitLen (val W32 ls) : Int) = 32 * j + bitLen ls[j] := by
      have : bitLen (val W32 ls) = 32 * j + bitLen ls[j] := hv
      omega
    have hj : j + 1 ≤ 35184372087808 := by omega
    have hx : ls[j] < 4294967296 := hd.get (by omega)
    have hbl : bitLen ls[j] ≤ 32 := bitLen_le_iff.2 hx
    have HV := Lib.hid hv2
    generalize ls[j] = x at *
    clear hv hv2 hz hn hr hl hln hd
    go_enter Try.func13, Try.ntmps13
    go_wp2
    go_loop [3, 4] (fun nv tv => ∃ i : Nat, i ≤ bitLen x ∧ nv = .int .i64 (32 * (j : Int) + i) ∧ tv = .int .u32 (x / 2 ^ i : Nat)) (fun nv _ => (32 * (j : Int) + bitLen x - intOf nv).toNat)
    case atStart => exact ⟨0, by omega, by simp, by simp⟩
    case round =>
      obtain ⟨i, hi, rfl, rfl⟩ := hrel
      have hp := bits_pow x i
      have hle := Nat.div_le_self x (2 ^ i)
      by_cases hc : x / 2 ^ i = 0
      · have : x < 2 ^ i := by
          rcases Nat.lt_or_ge x (2 ^ i) with h | h
          · exact h
          · have := Nat.div_pos h (Nat.two_pow_pos i); omega
        have := bitLen_le_iff.2 this
        obtain rfl : i = bitLen x := by omega
        rw [hc]
        clear hp hle hc this
        go_wp2
        go_ret
        exact ⟨by rw [HV.out]; rfl, by go_grown⟩
      · have hi2 : i < bitLen x := by
          rcases Nat.lt_or_ge i (bitLen x) with h | h
          · exact h
          · have := bitLen_le_iff.1 h
            exact absurd (Nat.div_eq_of_lt this) hc
        generalize x / 2 ^ i = y at *
        have HP := Lib.hid hp; clear hp
        have hy : y < 4294967296 := by omega
        go_wp2
        go_round
        case rel => exact ⟨i + 1, by omega, by go_num, by rw [← HP.out]; rfl⟩
        case measure => simp [intOf]; omega
end Go.Proofs.Ytdfbakdfakijbaa
