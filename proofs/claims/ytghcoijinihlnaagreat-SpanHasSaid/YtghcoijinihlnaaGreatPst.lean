/-
  The last step of a law's row, where the call has made memory of its own and turned nothing that was there. No conditions.
-/
import Derived.Test.YtghcoijinihlnaaGreatRows
import Derived.Below
import Derived.Handy
import Derived.ProofKit
import Derived.OpenShut
namespace Go.Proofs.YtghcoijinihlnaaGreat
open Go.ChangeShapes Go.WideShapes Go.ChangeAt Go.RowKit
end Go.Proofs.YtghcoijinihlnaaGreat
