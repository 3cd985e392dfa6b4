/-
  What the statements' own equality and condition return: are two numbers the same, may three be. No conditions but that the lists are lists of limbs.
-/
import Derived.Test.YtghcoijinihlnaaGreatWh
namespace Go.Proofs.YtghcoijinihlnaaGreat
open Go.RowKit Nb
end Go.Proofs.YtghcoijinihlnaaGreat
