/-
  Words for the statements on one and two numbers: the gate, a mark that says yes, quotients. No conditions.
-/
import Derived.Test.YtchfnkfdopbflaaDoorRing1
import Derived.Test.YtchfnkfdopbflaaDoorGate
import Derived.Test.YtchfnkfdopbflaaDoorBws
namespace Go.Proofs.YtchfnkfdopbflaaDoor
open Go.RowKit Nb

theorem raw_two {w : World} {n1 n2 : Bool} {A B : Option Addr} {xs ys : List Nat} {c d : Nat} (hr : Sl .u32 w w.heap.size A xs) (hs : Sl .u32 w w.heap.size B ys) :
    ∃ W : World, W = ((w.alloc (.cells #[.bool n1, .slice A xs.length c] 24)).alloc (.cells #[.bool n2, .slice B ys.length d] 24)) ∧ Below w.heap.size w W ∧ W.heap.size = w.heap.size + 1 + 1 ∧
      Raw w W w.heap.size n1 A xs c ∧ Raw w W (w.heap.size + 1) n2 B ys d := by
  refine ⟨_, rfl, by go_grown, by go_size, ⟨by go_size, by go_cell, by go_cell, ?_⟩, ⟨by go_size, by go_cell, by go_cell, ?_⟩⟩
  · exact (((hr.alloc (Nat.le_refl _) _).alloc (by go_size) _).more (by go_size))
  · exact (((hs.alloc (Nat.le_refl _) _).alloc (by go_size) _).more (by go_size))
theorem raw_one {w : World} {n1 : Bool} {A : Option Addr} {xs : List Nat} {c : Nat} (hr : Sl .u32 w w.heap.size A xs) :
    ∃ W : World, W = (w.alloc (.cells #[.bool n1, .slice A xs.length c] 24)) ∧ Below w.heap.size w W ∧ W.heap.size = w.heap.size + 1 ∧ Raw w W w.heap.size n1 A xs c := by
  refine ⟨_, rfl, by go_grown, by go_size, ⟨by go_size, by go_cell, by go_cell, ?_⟩⟩
  exact ((hr.alloc (Nat.le_refl _) _).more (by go_size))
/-- A mark that says yes. -/
structure Mk (W : World) (p : Nat) : Prop where
  lt : p < W.heap.size
  on_ : W.cell? ⟨p, 0, none⟩ = some (.bool true)
  fr : W.frozen? ⟨p, 0, none⟩ = false
theorem Mk.on {W W' : World} {p : Nat} (h : Mk W p) (hb : Below W.heap.size W W') : Mk W' p := ⟨Nat.lt_of_lt_of_le h.lt hb.size, (hb.cell (p := ⟨p, 0, none⟩) h.lt).trans h.on_, (hb.frozen (p := ⟨p, 0, none⟩) h.lt).trans h.fr⟩
theorem Mk.new (W : World) : Mk (W.alloc (.cells #[.bool true] 4)) W.heap.size := ⟨by simp, by go_cell, World.frozen?_alloc_new _ _ _ _⟩
section
variable {W : World} {p : Nat} {m1 m2 : Bool} {V1 V2 : Option Addr} {l1 l2 : List Nat} {k1 k2 : Nat} {Z1 Z2 : Int}
theorem Mk.sum (h : Mk W p) (h1 : Lm W m1 V1 l1 k1) (h2 : Lm W m2 V2 l2 k2) (e1 : sv m1 (val W32 l1) = Z1) (e2 : sv m2 (val W32 l2) = Z2) (hF : Fits (Z1 + Z2)) :
    Calls Tryd.prog 24 #[big m1 V1 l1.length k1, big m2 V2 l2.length k2, .pointer (some ⟨p, 0, none⟩)] W (One W (Z1 + Z2)) := by
  subst e1; subst e2
  exact sum_ok m1 m2 V1 V2 l1 l2 k1 k2 p W h1 h2 h.lt h.on_ h.fr hF
theorem Mk.times (h : Mk W p) (h1 : Lm W m1 V1 l1 k1) (h2 : Lm W m2 V2 l2 k2) (e1 : sv m1 (val W32 l1) = Z1) (e2 : sv m2 (val W32 l2) = Z2) (hF : Fits (Z1 * Z2)) :
    Calls Tryd.prog 23 #[big m1 V1 l1.length k1, big m2 V2 l2.length k2, .pointer (some ⟨p, 0, none⟩)] W (One W (Z1 * Z2)) := by
  subst e1; subst e2
  exact times_ok m1 m2 V1 V2 l1 l2 k1 k2 p W h1 h2 h.lt h.on_ h.fr hF
end
theorem ok_size {n : Bool} {ls : List Nat} (h : Ok n ls) : Ok false ls := ⟨h.len, h.norm, fun _ => rfl⟩
theorem Lm.size_ {W : World} {n : Bool} {A : Option Addr} {ls : List Nat} {c : Nat} (h : Lm W n A ls c) : Lm W false A ls c := ⟨h.sl, h.dig, ok_size h.ok⟩
theorem fits_lm {n : Bool} {ls : List Nat} (hd : Dig W32 ls) (ho : Ok n ls) : Fits (sv n (val W32 ls)) := (fitk_sv (n := n) hd).fits ho.len
theorem fits_abs {Z U : Int} (h : Fits Z) (hle : U.natAbs ≤ Z.natAbs) : Fits U := Nat.lt_of_le_of_lt hle h
/-- What is left: below the divisor in size; with the number's sign. -/
theorem rem_size {n1 n2 m : Bool} {xs ys ms : List Nat} (h : sv m (val W32 ms) = (sv n1 (val W32 xs)).tmod (sv n2 (val W32 ys))) : val W32 ms = val W32 xs % val W32 ys := by
  rw [← sv_rem n1 n2] at h
  have := congrArg Int.natAbs h
  rwa [sv_abs, sv_abs] at this
theorem rem_sign {n1 n2 m : Bool} {xs ys ms : List Nat} (h : sv m (val W32 ms) = (sv n1 (val W32 xs)).tmod (sv n2 (val W32 ys))) (hne : val W32 ms ≠ 0) : m = n1 := by
  have hv := rem_size h
  rw [← sv_rem n1 n2, ← hv] at h
  have hp : (0 : Int) < (val W32 ms : Nat) := by omega
  generalize ((val W32 ms : Nat) : Int) = v at *
  cases m <;> cases n1 <;> simp [sv] at h ⊢ <;> omega
theorem quo_le (X Y : Int) : (X.tdiv Y * Y).natAbs ≤ X.natAbs := by
  rw [Int.natAbs_mul, Int.natAbs_tdiv]
  exact Nat.div_mul_le_self _ _
theorem quo_back (X Y : Int) : X.tdiv Y * Y + X.tmod Y = X := by
  rw [Int.mul_comm]; exact Int.mul_tdiv_add_tmod X Y
end Go.Proofs.YtchfnkfdopbflaaDoor
