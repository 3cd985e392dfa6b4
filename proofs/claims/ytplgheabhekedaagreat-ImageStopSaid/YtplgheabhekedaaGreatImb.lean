/-
  What image's both answers, in one fact. No conditions.
-/
import Derived.Test.YtplgheabhekedaaGreatIm2
namespace Go.Proofs.YtplgheabhekedaaGreat
open Go.RowKit Nb
theorem BothIs.kp {W W' : World} {x y : Rat} {f g : Fv} {e : Int} (h : BothIs W x y f g e) (k : Kept W W') : BothIs W' x y f g e := by
 rcases h with ⟨h1, h2, h3, h4, h5⟩ | h
 ·exact .inl ⟨h1, h2, h3, h4.kp k, h5.kp k⟩
 ·exact .inr h
def BothE (W : World) (p x y : Rat) (f g : Fv) (e : Int) : Prop := (p = 0 ∧ e = 3 ∧ f = fv0 ∧ g = fv0) ∨ (p ≠ 0 ∧ BothIs W x y f g e)
theorem BothE.kp {W W' : World} {p x y : Rat} {f g : Fv} {e : Int} (h : BothE W p x y f g e) (k : Kept W W') : BothE W' p x y f g e := by
 rcases h with h | ⟨h1, h2⟩
 ·exact .inl h
 ·exact .inr ⟨h1, h2.kp k⟩
theorem i_bothF {x y p : Rat} {a b : Fv} {C : Nat} {e0 : Int} {w : World} (h : (p = 0 ∧ e0 = 3 ∧ a = fv0 ∧ b = fv0) ∨ (p ≠ 0 ∧ e0 = 0 ∧ Fq w x a C ∧ Fq w y b C)) (hC : C ≤ 1759218604390) : Calls Tryz.prog 96 #[fv a, fv b, .int .i64 e0] w (fun e w' => ∃ (f g : Fv) (er : Int), e = .returned (.tuple #[fv f, fv g, .int .i64 er]) ∧ BothE w' p x y f g er ∧ Below w.heap.size w w') := i_bothE h hC
end Go.Proofs.YtplgheabhekedaaGreat
