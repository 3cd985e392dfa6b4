/-
  SpanGrows returns true, whatever the four spans. Condition: floats of 64 bits.
-/
import Derived.Test.YtghcoijinihlnaaSpy
namespace Go.Proofs.Ytghcoijinihlnaa.Fl
open Go.RowKit Ieee

theorem grows_any (al ah bl bh cl ch dl dh : Nat) (w : World) (lal : al < 18446744073709551616) (lah : ah < 18446744073709551616) (lbl : bl < 18446744073709551616) (lbh : bh < 18446744073709551616) (lcl : cl < 18446744073709551616) (lch : ch < 18446744073709551616) (ldl : dl < 18446744073709551616) (ldh : dh < 18446744073709551616) :
    Calls Try.prog 3 #[spv al ah, spv bl bh, spv cl ch, spv dl dh] w fun e w' => e = .returned (.bool true) ∧ Below w.heap.size w w' := by
  by_cases hp : Spn al ah ∧ Spn cl ch
  · by_cases hq : Spn bl bh ∧ Spn dl dh
    · exact grows_yes al ah bl bh cl ch dl dh w lal lah lbl lbh lcl lch ldl ldh hp hq
    · exact grows_no2 al ah bl bh cl ch dl dh w lal lah lbl lbh lcl lch ldl ldh hp hq
  · exact grows_no1 al ah bl bh cl ch dl dh w lal lah lbl lbh lcl lch ldl ldh hp
end Go.Proofs.Ytghcoijinihlnaa.Fl
