/-
  What the functions on lists of words return. No conditions but that the lists are lists of words.
-/
import Derived.Test.YtplgheabhekedaaGreatDoorBase
import Derived.Test.YtplgheabhekedaaGreatDoorLen
import Derived.Test.YtplgheabhekedaaGreatDoorPack
namespace Go.Proofs.YtplgheabhekedaaGreatDoor
open Go.RowKit Nb

def trimL (ls : List Nat) : List Nat := (ls.reverse.dropWhile (· == 0)).reverse
theorem trimL_snoc_zero (ls : List Nat) : trimL (ls ++ [0]) = trimL ls := by simp [trimL]
theorem trimL_snoc (ls : List Nat) {x : Nat} (h : x ≠ 0) : trimL (ls ++ [x]) = ls ++ [x] := by simp [trimL, h]
theorem trimL_nil : trimL [] = [] := rfl
theorem trimL_all (ls : List Nat) : ∃ n, ls = trimL ls ++ List.replicate n 0 ∧ Norm (trimL ls) := by
  generalize hk : ls.length = k
  induction k generalizing ls with
  | zero => have : ls = [] := List.eq_nil_of_length_eq_zero hk
            subst this; exact ⟨0, rfl, Norm.nil⟩
  | succ k ih =>
    have hne : ls ≠ [] := by intro e; subst e; simp at hk
    have e := List.dropLast_concat_getLast hne
    by_cases h0 : ls.getLast hne = 0
    · obtain ⟨n, h1, h2⟩ := ih ls.dropLast (by simp; omega)
      have ht : trimL ls = trimL ls.dropLast := by
        have := trimL_snoc_zero ls.dropLast
        rw [h0] at e
        rw [e] at this
        exact this
      refine ⟨n + 1, ?_, by rw [ht]; exact h2⟩
      rw [ht, List.replicate_succ', ← List.append_assoc, ← h1, ← h0, e]
    · have ht : trimL ls = ls := by
        have := trimL_snoc ls.dropLast h0
        rw [e] at this
        exact this
      exact ⟨0, by rw [ht]; simp, by rw [ht]; exact fun _ => h0⟩
theorem norm_trimL (ls : List Nat) : Norm (trimL ls) := (trimL_all ls).choose_spec.2
theorem val_trimL (B : Nat) (ls : List Nat) : val B (trimL ls) = val B ls := by
  obtain ⟨n, h, _⟩ := trimL_all ls
  rw [congrArg (val B) h, val_append, val_replicate]; simp
theorem trimL_len (ls : List Nat) : (trimL ls).length ≤ ls.length := by
  obtain ⟨n, h, _⟩ := trimL_all ls
  have := congrArg List.length h
  rw [List.length_append] at this
  omega
theorem trimL_take (ls : List Nat) : ls.take (trimL ls).length = trimL ls := by
  obtain ⟨n, h, _⟩ := trimL_all ls
  have := congrArg (List.take (trimL ls).length) h
  rw [List.take_append_of_le_length (Nat.le_refl _), List.take_length] at this
  exact this
theorem dig_trimL {B : Nat} {ls : List Nat} (h : Dig B ls) : Dig B (trimL ls) := by rw [← trimL_take]; exact h.take _
theorem trimL_norm {ls : List Nat} (h : Norm ls) : trimL ls = ls := by
  rcases List.eq_nil_or_concat ls with rfl | ⟨l, x, rfl⟩
  · rfl
  · have := h (by simp)
    simp at this
    rw [List.concat_eq_append, trimL_snoc l this]
theorem sl_trimL {k : IntKind} {w : World} {B : Nat} {A : Option Addr} {ls : List Nat} (h : Sl k w B A ls) : Sl k w B A (trimL ls) := by rw [← trimL_take]; exact h.take _

set_option maxHeartbeats 400000 in
theorem trim_any (A : Option Addr) (ls : List Nat) (c : Nat) (w : World) (hr : Sl .u64 w w.heap.size A ls) (hl : ls.length ≤ c) (hc : c ≤ maxLen) :
    Calls Tryz.prog 150 #[.slice A ls.length c] w fun e w' => e = .returned (.slice A (trimL ls).length c) ∧ w = w' := by
  unfold maxLen at hc
  go_enter Tryz.func150, Tryz.ntmps150
  go_wp2
  go_loop [0] (fun x => ∃ k : Nat, k ≤ ls.length ∧ x = .slice A k c ∧ trimL ls = trimL (ls.take k)) (fun x => match x with | .slice _ n _ => n | _ => 0)
  case atStart => exact ⟨ls.length, Nat.le_refl _, rfl, by rw [List.take_length]⟩
  case round =>
    obtain ⟨k, hk, rfl, ht⟩ := hrel
    have HT := Lib.hid ht; clear ht
    rcases k with _ | j
    · go_wp2
      go_ret
      exact ⟨by rw [HT.out]; rfl, rfl⟩
    · obtain ⟨ad, rfl, hb, hcell⟩ := hr.at_ (i := j) (by omega)
      have hts := take_succ' (xs := ls) (k := j) (by omega)
      by_cases hz : ls[j] = 0
      · rw [hz] at hts hcell
        have HS := Lib.hid hts; clear hts hz
        go_wp2
        go_round
        case rel => exact ⟨j, by omega, by simp, by rw [HT.out, HS.out, trimL_snoc_zero]⟩
        case measure => simp
      · have hts2 := trimL_snoc (ls.take j) hz
        have hln : (ls.take j ++ [ls[j]]).length = j + 1 := by simp; omega
        have HS := Lib.hid hts; clear hts
        have HS2 := Lib.hid hts2; clear hts2
        have HLn := Lib.hid hln; clear hln
        go_wp2
        go_ret
        exact ⟨by rw [HT.out, HS.out, HS2.out, HLn.out]; rfl, rfl⟩

/-- A struct of a sign and a list, as large.Int and api.Int are. -/
abbrev big (neg : Bool) (A : Option Addr) (n c : Nat) : Value := .agg #[.bool neg, .slice A n c]

set_option maxHeartbeats 400000 in
theorem made_any (neg : Bool) (A : Option Addr) (n c : Nat) (w : World) (hn : n ≤ maxLen) :
    Calls Tryz.prog 146 #[.bool neg, .slice A n c] w fun e w' => e = .returned (big (neg && decide (0 < n)) A n c) ∧ Below w.heap.size w w' := by
  unfold maxLen at hn
  rcases neg with _ | _
  · go_enter Tryz.func146, Tryz.ntmps146
    go_wp2
    go_returns
    exact ⟨rfl, by go_grown⟩
  · rcases n with _ | n
    · go_enter Tryz.func146, Tryz.ntmps146
      go_wp2
      go_returns
      exact ⟨rfl, by go_grown⟩
    · go_enter Tryz.func146, Tryz.ntmps146
      go_wp2
      go_returns
      exact ⟨by simp, by go_grown⟩

theorem len64_any (x : Nat) (w : World) (hx : x < 18446744073709551616) :
    Calls Tryz.prog 195 #[.int .u64 x] w fun e w' => e = .returned (.int .i64 (bitLen x)) ∧ w = w' :=
  (len64_int x w (by omega) (by omega)).mono fun _ _ h => ⟨h.1, h.2.symm⟩
end Go.Proofs.YtplgheabhekedaaGreatDoor
