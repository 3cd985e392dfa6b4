/-
  What strconv.FormatUint returns at base 10: the decimal numeral. Condition: the table of powers of ten reads as the program's text lays it.
-/
import Derived.Test.YtghcoijinihlnaaGreatBuild
import Derived.Lib.AppendIntMem
import Derived.Lib.ItoaMem
namespace Go.Proofs.YtghcoijinihlnaaGreat
open Go.RowKit Go.Sort Nb
/-- The table that FormatUint reads. -/
abbrev Tab (w : World) : Prop := Lib.TabIs Tryz.prog w "internal/strconv.uint64pow10" .u64 Lib.pow10Tab
theorem below_grow (w : World) (os : Array Obj) : Below w.heap.size w (grow w os) :=
  ⟨rfl, rfl, rfl, by simp [grow], fun k hk => by show (w.heap ++ os)[k]? = _; rw [Array.getElem?_append_left hk]⟩
theorem Below.drewN' {B : Nat} {a w : World} (h : Below B a w) (n : Nat) : Below B a (w.drewN n) := ⟨h.os, h.tape, h.output, h.size, h.block⟩
end Go.Proofs.YtghcoijinihlnaaGreat
