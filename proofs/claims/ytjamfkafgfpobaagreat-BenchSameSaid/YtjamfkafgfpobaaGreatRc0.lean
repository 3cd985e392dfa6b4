/-
  Lists of cells of matrices and rays, as one name each. No conditions.
-/
import Derived.Test.YtjamfkafgfpobaaGreatRb
import Derived.Test.YtjamfkafgfpobaaGreatRlb
import Derived.Deep.RegionHeld3
import Derived.Deep.DeepCutAuto
import Derived.BigRegion
namespace Go.Proofs.YtjamfkafgfpobaaGreat
open Go.RowKit Nb
/-- The cells of a matrix, of a ray; noughts. -/
def mcs (m : Mv) : List Value := [.bool m.A.n, .slice m.A.A m.A.xs.length m.A.c, .bool m.A.m, .slice m.A.B m.A.ds.length m.A.d, .bool m.B.n, .slice m.B.A m.B.xs.length m.B.c, .bool m.B.m, .slice m.B.B m.B.ds.length m.B.d, .bool m.C.n, .slice m.C.A m.C.xs.length m.C.c, .bool m.C.m, .slice m.C.B m.C.ds.length m.C.d, .bool m.D.n, .slice m.D.A m.D.xs.length m.D.c, .bool m.D.m, .slice m.D.B m.D.ds.length m.D.d]
def ycs (m : Yv) : List Value := [.bool m.Y.n, .slice m.Y.A m.Y.xs.length m.Y.c, .bool m.Y.m, .slice m.Y.B m.Y.ds.length m.Y.d, .bool m.U.n, .slice m.U.A m.U.xs.length m.U.c, .bool m.U.m, .slice m.U.B m.U.ds.length m.U.d]
def zcs16 : List Value := [.bool false, .slice none 0 0, .bool false, .slice none 0 0, .bool false, .slice none 0 0, .bool false, .slice none 0 0, .bool false, .slice none 0 0, .bool false, .slice none 0 0, .bool false, .slice none 0 0, .bool false, .slice none 0 0]
def zcs8 : List Value := [.bool false, .slice none 0 0, .bool false, .slice none 0 0, .bool false, .slice none 0 0, .bool false, .slice none 0 0]
end Go.Proofs.YtjamfkafgfpobaaGreat
