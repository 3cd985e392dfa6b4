/-
  What large.Int.Text returns for a number that is not nought: its decimal numeral, with a sign ahead of what is below nought. Condition: the table of powers of ten reads as the program's text lays it.
-/
import Derived.Test.YtfhleccodbjfbaaTextM
import Derived.Deep.LoopGhost
namespace Go.Proofs.Ytfhleccodbjfbaa
open Go.RowKit Nb
theorem info_u64p : ∃ i0, Try.prog.info? 101 = some i0 ∧ i0.zero = some (.int .u64 0) ∧ i0.size = 1 ∧ i0.bytes = 8 := info_parts info_u64
theorem size_u64 : ∀ w, (Go.sizeOf 101).run Try.prog w = .ok 1 w := fun w => by kernel_rfl
end Go.Proofs.Ytfhleccodbjfbaa
