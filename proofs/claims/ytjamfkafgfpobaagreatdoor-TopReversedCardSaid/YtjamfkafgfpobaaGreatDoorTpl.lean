/-
  What the rows list of package-level variables. No conditions.
-/
import Derived.Test.YtjamfkafgfpobaaGreatDoorTpo
import Derived.Test.YtjamfkafgfpobaaGreatDoorTextM
import Derived.Test.YtjamfkafgfpobaaGreatDoorRows
import Derived.LaidMore
import Derived.Stop.Joined
namespace Go.Proofs.YtjamfkafgfpobaaGreatDoor
open Go.ChangeShapes Go.WideShapes Go.ChangeAt Go.WideMaps Go.WideElems Go.RowKit Nb
abbrev laidL : List (String × DataW Unit) := [("math/bits.deBruijn32tab", Rows.laid_math_bits_deBruijn32tab), ("math/bits.deBruijn64tab", Rows.laid_math_bits_deBruijn64tab), ("internal/strconv.uint64pow10", Rows.laid_internal_strconv_uint64pow10)]
theorem tab_type : (Tryz.prog.globals[2]?).map (·.type) = some 209 := by kernel_rfl
theorem tab_data : (Rows.laid_internal_strconv_uint64pow10 : DataW Unit) = Lib.tabData .u64 Lib.pow10Tab := by kernel_rfl
theorem tab_cells : Tryz.prog.cellsOf 149 = 1 := by kernel_rfl
theorem tab_cells20 : Tryz.prog.cellsOf 209 = 20 := by kernel_rfl
theorem tab_of_laid {W : World} (h : laidMetH Tryz.prog laidL W) : Tab W := by
  rw [MakeChecks.laidMetH_plain _ _ _ (by kernel_rfl)] at h
  obtain ⟨ps, ⟨g0, t0, cs0, f0, p0, q0, hg0, ht0, hv0, hd0, ⟨g1, t1, cs1, f1, p1, q1, hg1, ht1, hv1, hd1, ⟨g2, t2, cs2, f2, p2, q2, hg2, ht2, hv2, hd2, _, _⟩, _⟩, _⟩, _, _⟩ := h
  obtain rfl := Option.some.inj (tab_index.symm.trans hg2)
  obtain rfl := Option.some.inj (tab_type.symm.trans ht2)
  rw [tab_data] at hd2
  show W.var? _ _ = _
  rw [hv2, ← Lib.cells_of_tab Tryz.underlying209 Tryz.underlying149 tab_cells tab_cells20 hd2]
theorem door_met (os : Os) (args : Array Value) : laidMetH Tryz.prog laidL ((World.doorLaid Tryz.prog 400 os).forCall (fun _ _ => 0) ⟨#[], args, []⟩).memory :=
  laidMetH_of_parts3 (fuel := 8) (laidMet_of_run' 8 (by kernel_rfl) (by kernel_rfl)) (by kernel_rfl) (by kernel_rfl)
end Go.Proofs.YtjamfkafgfpobaaGreatDoor
