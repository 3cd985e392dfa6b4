/-
  What the statements' own condition returns of one, two, three numbers: may they be. No conditions but that the lists are lists of limbs.
-/
import Derived.Test.YtchfnkfdopbflaaDoorSame
namespace Go.Proofs.YtchfnkfdopbflaaDoor
open Go.RowKit Nb

/-- What the condition looks at, of one number. -/
inductive Kind (w : World) : Bool → Option Addr → Nat → Bool → Prop
  | nought (A : Option Addr) : Kind w false A 0 true
  | bare (A : Option Addr) : Kind w true A 0 false
  | good (n : Bool) (ad : Addr) (j x : Nat) : (j : Int) ≤ 2047 → w.cell? (ad.add j) = some (.int .u32 x) → (((x : Int) == 0) = false) → Kind w n (some ad) (j + 1) true
  | bad (n : Bool) (ad : Addr) (j : Nat) : (j : Int) ≤ 2047 → w.cell? (ad.add j) = some (.int .u32 (0 : Nat)) → Kind w n (some ad) (j + 1) false
  | long (n : Bool) (A : Option Addr) (l : Nat) : 2048 < (l : Int) → Kind w n A l false

theorem kind_of (neg : Bool) (A : Option Addr) (ls : List Nat) (w : World) (B : Nat) (hr : Sl .u32 w B A ls) (b : Bool) (hb : b = true ↔ Ok neg ls) : Kind w neg A ls.length b := by
  by_cases ho : Ok neg ls
  · rw [hb.2 ho]
    have hlen := ho.len
    rcases hn : ls.length with _ | j
    · rw [ho.sign (List.eq_nil_of_length_eq_zero hn)]; exact .nought A
    · obtain ⟨ad, rfl, hb, hcell⟩ := hr.at_ (i := j) (by omega)
      have hz := (norm_iff (xs := ls) (by omega)).1 ho.norm
      simp only [hn, Nat.add_sub_cancel] at hz
      exact .good neg ad j _ (by omega) hcell (by simp; omega)
  · have hb2 : b = false := by cases b; rfl; exact absurd (hb.1 rfl) ho
    rw [hb2]
    by_cases hlen : ls.length ≤ 2048
    · rcases hn : ls.length with _ | j
      · have hneg : neg = true := by
          cases neg
          · exact absurd ⟨hlen, by rw [List.eq_nil_of_length_eq_zero hn]; exact Norm.nil, fun _ => rfl⟩ ho
          · rfl
        rw [hneg]; exact .bare A
      · obtain ⟨ad, rfl, hb, hcell⟩ := hr.at_ (i := j) (by omega)
        have hz : ls[j] = 0 := by
          rcases Nat.eq_zero_or_pos ls[j] with h | h
          · exact h
          · refine absurd ⟨hlen, (norm_iff (xs := ls) (by omega)).2 ?_, fun e => by subst e; simp at hn⟩ ho
            simp only [hn, Nat.add_sub_cancel]; omega
        rw [hz] at hcell
        exact .bad neg ad j (by omega) hcell
    · exact .long neg A _ (by omega)

set_option maxHeartbeats 4000000 in
set_option maxRecDepth 100000 in
theorem may_1 (g l : Nat) (n0 : Bool) (A0 : Option Addr) (l0 c0 : Nat) (b0 : Bool) (w : World) (k0 : Kind w n0 A0 l0 b0) (p0 : w.cell? ⟨g, 0, none⟩ = some (.bool n0)) (q0 : w.cell? ⟨g, 1, none⟩ = some (.slice A0 l0 c0)) :
    Calls Tryd.prog 21 #[.slice (some ⟨g, 0, none⟩) 1 l] w fun e w' => e = .returned (.bool (b0)) ∧ Below w.heap.size w w' := by
  go_enter Tryd.func21, Tryd.ntmps21
  obtain ⟨wo, hwo⟩ : ∃ wo : World, wo = w := ⟨_, rfl⟩
  go_wp2
  go_loopw [3] (fun iv wr => ∃ k : Nat, k ≤ 1 ∧ iv = .int .i64 k ∧ wr = w ∧ (0 < k → b0 = true)) (fun iv _ => 1 - (intOf iv).toNat)
  case atStart => exact ⟨0, Nat.zero_le _, rfl, rfl, fun h => absurd h (by omega)⟩
  case round =>
    obtain ⟨k, hk, rfl, rfl, e0⟩ := hrel
    rcases k with _ | k
    · clear hwo
      cases k0 with
      | nought A =>
        go_wp2
        go_roundw
        case rel => exact ⟨1, by omega, by go_num, by first | rfl | trivial, by first | trivial | exact fun _ => rfl | exact fun h => absurd h (by omega)⟩
        case measure => simp [intOf]
      | bare A =>
        go_wp2
        go_ret
        exact ⟨by simp, Below.refl _ _⟩
      | good n ad j x h1 h2 h3 =>
        go_wp2
        go_roundw
        case rel => exact ⟨1, by omega, by go_num, by first | rfl | trivial, by first | trivial | exact fun _ => rfl | exact fun h => absurd h (by omega)⟩
        case measure => simp [intOf]
      | bad n ad j h1 h2 =>
        go_wp2
        go_ret
        exact ⟨by simp, Below.refl _ _⟩
      | long n A l h1 =>
        go_wp2
        go_ret
        exact ⟨by simp, Below.refl _ _⟩
    · obtain rfl : k = 0 := by omega
      obtain rfl := e0 (by omega)
      go_wp2
      go_ret
      exact ⟨by simp, Below.refl _ _⟩

set_option maxHeartbeats 4000000 in
set_option maxRecDepth 100000 in
theorem may_2 (g l : Nat) (n0 : Bool) (A0 : Option Addr) (l0 c0 : Nat) (b0 : Bool) (n1 : Bool) (A1 : Option Addr) (l1 c1 : Nat) (b1 : Bool) (w : World) (k0 : Kind w n0 A0 l0 b0) (k1 : Kind w n1 A1 l1 b1) (p0 : w.cell? ⟨g, 0, none⟩ = some (.bool n0)) (q0 : w.cell? ⟨g, 1, none⟩ = some (.slice A0 l0 c0)) (p1 : w.cell? ⟨g, 2, none⟩ = some (.bool n1)) (q1 : w.cell? ⟨g, 3, none⟩ = some (.slice A1 l1 c1)) :
    Calls Tryd.prog 21 #[.slice (some ⟨g, 0, none⟩) 2 l] w fun e w' => e = .returned (.bool (b0 && b1)) ∧ Below w.heap.size w w' := by
  go_enter Tryd.func21, Tryd.ntmps21
  obtain ⟨wo, hwo⟩ : ∃ wo : World, wo = w := ⟨_, rfl⟩
  go_wp2
  go_loopw [3] (fun iv wr => ∃ k : Nat, k ≤ 2 ∧ iv = .int .i64 k ∧ wr = w ∧ (0 < k → b0 = true) ∧ (1 < k → b1 = true)) (fun iv _ => 2 - (intOf iv).toNat)
  case atStart => exact ⟨0, Nat.zero_le _, rfl, rfl, fun h => absurd h (by omega), fun h => absurd h (by omega)⟩
  case round =>
    obtain ⟨k, hk, rfl, rfl, e0, e1⟩ := hrel
    rcases k with _ | _ | k
    · clear hwo
      cases k0 with
      | nought A =>
        go_wp2
        go_roundw
        case rel => exact ⟨1, by omega, by go_num, by first | rfl | trivial, by first | trivial | exact fun _ => rfl | exact fun h => absurd h (by omega), by first | trivial | exact fun _ => rfl | exact fun h => absurd h (by omega)⟩
        case measure => simp [intOf]
      | bare A =>
        go_wp2
        go_ret
        exact ⟨by simp, Below.refl _ _⟩
      | good n ad j x h1 h2 h3 =>
        go_wp2
        go_roundw
        case rel => exact ⟨1, by omega, by go_num, by first | rfl | trivial, by first | trivial | exact fun _ => rfl | exact fun h => absurd h (by omega), by first | trivial | exact fun _ => rfl | exact fun h => absurd h (by omega)⟩
        case measure => simp [intOf]
      | bad n ad j h1 h2 =>
        go_wp2
        go_ret
        exact ⟨by simp, Below.refl _ _⟩
      | long n A l h1 =>
        go_wp2
        go_ret
        exact ⟨by simp, Below.refl _ _⟩
    · clear hwo
      obtain rfl := e0 (by omega)
      cases k1 with
      | nought A =>
        go_wp2
        go_roundw
        case rel => exact ⟨2, by omega, by go_num, by first | rfl | trivial, by first | trivial | exact fun _ => rfl | exact fun h => absurd h (by omega), by first | trivial | exact fun _ => rfl | exact fun h => absurd h (by omega)⟩
        case measure => simp [intOf]
      | bare A =>
        go_wp2
        go_ret
        exact ⟨by simp, Below.refl _ _⟩
      | good n ad j x h1 h2 h3 =>
        go_wp2
        go_roundw
        case rel => exact ⟨2, by omega, by go_num, by first | rfl | trivial, by first | trivial | exact fun _ => rfl | exact fun h => absurd h (by omega), by first | trivial | exact fun _ => rfl | exact fun h => absurd h (by omega)⟩
        case measure => simp [intOf]
      | bad n ad j h1 h2 =>
        go_wp2
        go_ret
        exact ⟨by simp, Below.refl _ _⟩
      | long n A l h1 =>
        go_wp2
        go_ret
        exact ⟨by simp, Below.refl _ _⟩
    · obtain rfl : k = 0 := by omega
      obtain rfl := e0 (by omega)
      obtain rfl := e1 (by omega)
      go_wp2
      go_ret
      exact ⟨by simp, Below.refl _ _⟩

set_option maxHeartbeats 4000000 in
set_option maxRecDepth 100000 in
theorem may_3 (g l : Nat) (n0 : Bool) (A0 : Option Addr) (l0 c0 : Nat) (b0 : Bool) (n1 : Bool) (A1 : Option Addr) (l1 c1 : Nat) (b1 : Bool) (n2 : Bool) (A2 : Option Addr) (l2 c2 : Nat) (b2 : Bool) (w : World) (k0 : Kind w n0 A0 l0 b0) (k1 : Kind w n1 A1 l1 b1) (k2 : Kind w n2 A2 l2 b2) (p0 : w.cell? ⟨g, 0, none⟩ = some (.bool n0)) (q0 : w.cell? ⟨g, 1, none⟩ = some (.slice A0 l0 c0)) (p1 : w.cell? ⟨g, 2, none⟩ = some (.bool n1)) (q1 : w.cell? ⟨g, 3, none⟩ = some (.slice A1 l1 c1)) (p2 : w.cell? ⟨g, 4, none⟩ = some (.bool n2)) (q2 : w.cell? ⟨g, 5, none⟩ = some (.slice A2 l2 c2)) :
    Calls Tryd.prog 21 #[.slice (some ⟨g, 0, none⟩) 3 l] w fun e w' => e = .returned (.bool (b0 && b1 && b2)) ∧ Below w.heap.size w w' := by
  go_enter Tryd.func21, Tryd.ntmps21
  obtain ⟨wo, hwo⟩ : ∃ wo : World, wo = w := ⟨_, rfl⟩
  go_wp2
  go_loopw [3] (fun iv wr => ∃ k : Nat, k ≤ 3 ∧ iv = .int .i64 k ∧ wr = w ∧ (0 < k → b0 = true) ∧ (1 < k → b1 = true) ∧ (2 < k → b2 = true)) (fun iv _ => 3 - (intOf iv).toNat)
  case atStart => exact ⟨0, Nat.zero_le _, rfl, rfl, fun h => absurd h (by omega), fun h => absurd h (by omega), fun h => absurd h (by omega)⟩
  case round =>
    obtain ⟨k, hk, rfl, rfl, e0, e1, e2⟩ := hrel
    rcases k with _ | _ | _ | k
    · clear hwo
      cases k0 with
      | nought A =>
        go_wp2
        go_roundw
        case rel => exact ⟨1, by omega, by go_num, by first | rfl | trivial, by first | trivial | exact fun _ => rfl | exact fun h => absurd h (by omega), by first | trivial | exact fun _ => rfl | exact fun h => absurd h (by omega), by first | trivial | exact fun _ => rfl | exact fun h => absurd h (by omega)⟩
        case measure => simp [intOf]
      | bare A =>
        go_wp2
        go_ret
        exact ⟨by simp, Below.refl _ _⟩
      | good n ad j x h1 h2 h3 =>
        go_wp2
        go_roundw
        case rel => exact ⟨1, by omega, by go_num, by first | rfl | trivial, by first | trivial | exact fun _ => rfl | exact fun h => absurd h (by omega), by first | trivial | exact fun _ => rfl | exact fun h => absurd h (by omega), by first | trivial | exact fun _ => rfl | exact fun h => absurd h (by omega)⟩
        case measure => simp [intOf]
      | bad n ad j h1 h2 =>
        go_wp2
        go_ret
        exact ⟨by simp, Below.refl _ _⟩
      | long n A l h1 =>
        go_wp2
        go_ret
        exact ⟨by simp, Below.refl _ _⟩
    · clear hwo
      obtain rfl := e0 (by omega)
      cases k1 with
      | nought A =>
        go_wp2
        go_roundw
        case rel => exact ⟨2, by omega, by go_num, by first | rfl | trivial, by first | trivial | exact fun _ => rfl | exact fun h => absurd h (by omega), by first | trivial | exact fun _ => rfl | exact fun h => absurd h (by omega), by first | trivial | exact fun _ => rfl | exact fun h => absurd h (by omega)⟩
        case measure => simp [intOf]
      | bare A =>
        go_wp2
        go_ret
        exact ⟨by simp, Below.refl _ _⟩
      | good n ad j x h1 h2 h3 =>
        go_wp2
        go_roundw
        case rel => exact ⟨2, by omega, by go_num, by first | rfl | trivial, by first | trivial | exact fun _ => rfl | exact fun h => absurd h (by omega), by first | trivial | exact fun _ => rfl | exact fun h => absurd h (by omega), by first | trivial | exact fun _ => rfl | exact fun h => absurd h (by omega)⟩
        case measure => simp [intOf]
      | bad n ad j h1 h2 =>
        go_wp2
        go_ret
        exact ⟨by simp, Below.refl _ _⟩
      | long n A l h1 =>
        go_wp2
        go_ret
        exact ⟨by simp, Below.refl _ _⟩
    · clear hwo
      obtain rfl := e0 (by omega)
      obtain rfl := e1 (by omega)
      cases k2 with
      | nought A =>
        go_wp2
        go_roundw
        case rel => exact ⟨3, by omega, by go_num, by first | rfl | trivial, by first | trivial | exact fun _ => rfl | exact fun h => absurd h (by omega), by first | trivial | exact fun _ => rfl | exact fun h => absurd h (by omega), by first | trivial | exact fun _ => rfl | exact fun h => absurd h (by omega)⟩
        case measure => simp [intOf]
      | bare A =>
        go_wp2
        go_ret
        exact ⟨by simp, Below.refl _ _⟩
      | good n ad j x h1 h2 h3 =>
        go_wp2
        go_roundw
        case rel => exact ⟨3, by omega, by go_num, by first | rfl | trivial, by first | trivial | exact fun _ => rfl | exact fun h => absurd h (by omega), by first | trivial | exact fun _ => rfl | exact fun h => absurd h (by omega), by first | trivial | exact fun _ => rfl | exact fun h => absurd h (by omega)⟩
        case measure => simp [intOf]
      | bad n ad j h1 h2 =>
        go_wp2
        go_ret
        exact ⟨by simp, Below.refl _ _⟩
      | long n A l h1 =>
        go_wp2
        go_ret
        exact ⟨by simp, Below.refl _ _⟩
    · obtain rfl : k = 0 := by omega
      obtain rfl := e0 (by omega)
      obtain rfl := e1 (by omega)
      obtain rfl := e2 (by omega)
      go_wp2
      go_ret
      exact ⟨by simp, Below.refl _ _⟩
end Go.Proofs.YtchfnkfdopbflaaDoor
