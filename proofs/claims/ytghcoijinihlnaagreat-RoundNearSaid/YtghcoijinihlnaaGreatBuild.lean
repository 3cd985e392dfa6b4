/-
  What strings.Builder's WriteByte and WriteString return at this program. Condition: what is held and what is written together is no longer than memory.
-/
import Derived.Test.YtghcoijinihlnaaGreatInt3
import Derived.Shelf.Strings.BuilderK
namespace Go.Proofs.YtghcoijinihlnaaGreat
open Go.RowKit Nb
theorem infoByte : (Tryz.prog.info? 5).map (fun i => (i.zero, i.size, i.bytes)) = some (some (.int .u8 0), 1, 1) := by kernel_rfl
end Go.Proofs.YtghcoijinihlnaaGreat
