/-
  Words for a builder beside other memory: what it keeps, what keeps it. No conditions.
-/
import Derived.Test.YtghcoijinihlnaaGreatText1
import Derived.Test.YtghcoijinihlnaaGreatNums
import Derived.WalkSmall
import Derived.Lib.Repeat
namespace Go.Proofs.YtghcoijinihlnaaGreat
open Go.RowKit Nb
theorem heap_lt {w : World} {g : Nat} {o : Obj} (h : w.heap[g]? = some o) : g < w.heap.size := by
  rcases Nat.lt_or_ge g w.heap.size with hlt | hge
  · exact hlt
  · rw [Array.getElem?_eq_none hge] at h; cases h
theorem row_others {g b : Nat} {xs : List Nat} {rest : List Value} {w w' : World} (hr : RowV .u64 w g 58 xs rest) (hk : Lib.OthersKept 5 (some b) w w') (hne : g ≠ b) : RowV .u64 w' g 58 xs rest :=
  hk g _ hr (fun e => hne (Option.some.inj e)) (fun c fz e => by injection e with _ h; exact absurd h (by decide))
theorem strCells_of (l : List UInt8) : Lib.strCells ⟨l.toArray⟩ = Lib.byteCells l := by simp [Lib.strCells, Lib.byteCells]
theorem byteCells_append (l m : List UInt8) : Lib.byteCells (l ++ m) = Lib.byteCells l ++ Lib.byteCells m := by simp [Lib.byteCells]
theorem size_of (l : List UInt8) : (⟨l.toArray⟩ : ByteArray).size = l.length := by simp [ByteArray.size]
/-- The number that the highest groups tell. -/
theorem val_high {T : Nat} {gs : List Nat} {j : Nat} (hj : j < gs.length) : val T (gs.drop j) = gs[j] + T * val T (gs.drop (j + 1)) := by
  rw [List.drop_eq_getElem_cons hj, val_cons]
end Go.Proofs.YtghcoijinihlnaaGreat
