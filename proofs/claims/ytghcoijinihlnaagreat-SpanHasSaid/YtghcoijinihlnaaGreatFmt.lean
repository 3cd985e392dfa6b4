/-
  What strconv.FormatUint returns at base 10: the decimal numeral. Condition: the table of powers of ten reads as the program's text lays it.
-/
import Derived.Test.YtghcoijinihlnaaGreatBuild
import Derived.Lib.AppendIntMem
import Derived.Lib.ItoaMem
namespace Go.Proofs.YtghcoijinihlnaaGreat
open Go.RowKit Go.Sort Nb
end Go.Proofs.YtghcoijinihlnaaGreat
