/-
  Numbers that are handed to a statement, boxed: before it is known whether they may be. No conditions.
-/
import Derived.Test.YtchfnkfdopbflaaDoorTri
import Derived.Test.YtchfnkfdopbflaaDoorAlive
namespace Go.Proofs.YtchfnkfdopbflaaDoor
open Go.RowKit Nb

/-- Three numbers handed in, boxed; the gate of a statement. -/
structure Raw (w W : World) (p : Nat) (n : Bool) (A : Option Addr) (ls : List Nat) (c : Nat) : Prop where
  lt : p < W.heap.size
  c0 : W.cell? ⟨p, 0, none⟩ = some (.bool n)
  c1 : W.cell? ⟨p, 1, none⟩ = some (.slice A ls.length c)
  sl : Sl .u32 W W.heap.size A ls
theorem Raw.on {w W W' : World} {p : Nat} {n : Bool} {A : Option Addr} {ls : List Nat} {c : Nat} (h : Raw w W p n A ls c) (hb : Below W.heap.size W W') : Raw w W' p n A ls c :=
  ⟨Nat.lt_of_lt_of_le h.lt hb.size, (hb.cell (p := ⟨p, 0, none⟩) h.lt).trans h.c0, (hb.cell (p := ⟨p, 1, none⟩) h.lt).trans h.c1, (h.sl.below hb).more hb.size⟩
theorem Raw.held {w W : World} {p : Nat} {n : Bool} {A : Option Addr} {ls : List Nat} {c : Nat} (h : Raw w W p n A ls c) (hd : Dig W32 ls) (ho : Ok n ls) : Held W p n A ls c := ⟨h.lt, h.c0, h.c1, ⟨h.sl, hd, ho⟩⟩
theorem is_bool (p : Prop) : ∃ b : Bool, b = true ↔ p := by
  by_cases h : p
  · exact ⟨true, by simp [h]⟩
  · exact ⟨false, by simp [h]⟩
theorem raw_three {w : World} {n1 n2 n3 : Bool} {A B C : Option Addr} {xs ys zs : List Nat} {c d e : Nat} (hr : Sl .u32 w w.heap.size A xs) (hs : Sl .u32 w w.heap.size B ys) (ht : Sl .u32 w w.heap.size C zs) :
    ∃ W : World, W = (((w.alloc (.cells #[.bool n1, .slice A xs.length c] 24)).alloc (.cells #[.bool n2, .slice B ys.length d] 24)).alloc (.cells #[.bool n3, .slice C zs.length e] 24)) ∧ Below w.heap.size w W ∧ W.heap.size = w.heap.size + 1 + 1 + 1 ∧
      Raw w W w.heap.size n1 A xs c ∧ Raw w W (w.heap.size + 1) n2 B ys d ∧ Raw w W (w.heap.size + 1 + 1) n3 C zs e := by
  refine ⟨_, rfl, by go_grown, by go_size, ⟨by go_size, by go_cell, by go_cell, ?_⟩, ⟨by go_size, by go_cell, by go_cell, ?_⟩, ⟨by go_size, by go_cell, by go_cell, ?_⟩⟩
  · exact ((((hr.alloc (Nat.le_refl _) _).alloc (by go_size) _).alloc (by go_size) _).more (by go_size))
  · exact ((((hs.alloc (Nat.le_refl _) _).alloc (by go_size) _).alloc (by go_size) _).more (by go_size))
  · exact ((((ht.alloc (Nat.le_refl _) _).alloc (by go_size) _).alloc (by go_size) _).more (by go_size))

end Go.Proofs.YtchfnkfdopbflaaDoor
