/-
  Words for a builder beside other memory: what it keeps, what keeps it. No conditions.
-/
import Derived.Test.YtghcoijinihlnaaGreatText1
import Derived.Test.YtghcoijinihlnaaGreatNums
import Derived.WalkSmall
import Derived.Lib.Repeat
namespace Go.Proofs.YtghcoijinihlnaaGreat
open Go.RowKit Nb
end Go.Proofs.YtghcoijinihlnaaGreat
