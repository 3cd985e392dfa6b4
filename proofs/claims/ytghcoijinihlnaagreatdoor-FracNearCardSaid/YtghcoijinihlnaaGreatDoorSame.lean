/-
  What the statements' own equality and condition return: are two numbers the same, may three be. No conditions but that the lists are lists of limbs.
-/
import Derived.Test.YtghcoijinihlnaaGreatDoorWh
namespace Go.Proofs.YtghcoijinihlnaaGreatDoor
open Go.RowKit Nb
end Go.Proofs.YtghcoijinihlnaaGreatDoor
