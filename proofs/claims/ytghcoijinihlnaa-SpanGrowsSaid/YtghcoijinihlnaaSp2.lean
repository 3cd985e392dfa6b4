/-
  What span's Meet returns. Condition: floats of 64 bits.
-/
import Derived.Test.YtghcoijinihlnaaSp1
namespace Go.Proofs.Ytghcoijinihlnaa.Fl
open Go.RowKit Ieee
/-- What Meet tells. -/
def Meets (al ah bl bh : Nat) : Prop := Spn al ah ∧ Spn bl bh ∧ key (fmax al bl) ≤ key (fmin ah bh)
instance (al ah bl bh : Nat) : Decidable (Meets al ah bl bh) := by unfold Meets; infer_instance
def meetLo (al ah bl bh : Nat) : Nat := if Meets al ah bl bh then pls (fmax al bl) else 0
def meetHi (al ah bl bh : Nat) : Nat := if Meets al ah bl bh then pls (fmin ah bh) else 0
end Go.Proofs.Ytghcoijinihlnaa.Fl
