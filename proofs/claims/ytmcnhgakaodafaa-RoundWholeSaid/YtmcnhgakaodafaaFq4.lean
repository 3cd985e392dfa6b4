/-
 What the product of two fractions in words returns. Conditions: that they are fractions, and no longer than memory.
-/
import Derived.Test.YtmcnhgakaodafaaFqe
import Derived.Deep.RegionHeld3
import Derived.Deep.DeepCutAuto
import Derived.BigRegion
namespace Go.Proofs.Ytmcnhgakaodafaa
open Go.RowKit Nb
end Go.Proofs.Ytmcnhgakaodafaa
