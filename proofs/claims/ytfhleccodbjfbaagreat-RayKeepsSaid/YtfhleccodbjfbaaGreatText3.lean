/-
  What large.Int.Text returns for a number that is not nought: its decimal numeral, with a sign ahead of what is below nought. Condition: the table of powers of ten reads as the program's text lays it.
-/
import Derived.Test.YtfhleccodbjfbaaGreatTextM
import Derived.Deep.LoopGhost
namespace Go.Proofs.YtfhleccodbjfbaaGreat
open Go.RowKit Nb
theorem info_u64p : ∃ i0, Tryz.prog.info? 169 = some i0 ∧ i0.zero = some (.int .u64 0) ∧ i0.size = 1 ∧ i0.bytes = 8 := info_parts info_u64
theorem size_u64 : ∀ w, (Go.sizeOf 169).run Tryz.prog w = .ok 1 w := fun w => by kernel_rfl
end Go.Proofs.YtfhleccodbjfbaaGreat
