/-
  Plain facts and contracts that hold in this seat: joined by program. Conditions: as each theorem states.
-/
import Derived.Test.YtghcoijinihlnaaGreatDoorFit
/-! ### Reck -/
namespace Go.Proofs.YtghcoijinihlnaaGreatDoor
open Go.RowKit Nb
theorem Two.put {w W : World} {p q r : Nat} {n1 n2 : Bool} {A B : Option Addr} {xs ys : List Nat} {l1 c l2 d : Nat} {X : Prop} (h : Two w W p q n1 n2 A B xs ys l1 c l2 d ∧ X) (hr : Rest W r) (hw : w.heap.size ≤ r) (hp : p ≠ r) (hq : q ≠ r) (u v : Value) :
    Two w ((W.setCell ⟨r, 0, none⟩ u).setCell ⟨r, 1, none⟩ v) p q n1 n2 A B xs ys l1 c l2 d ∧ ((W.setCell ⟨r, 0, none⟩ u).setCell ⟨r, 1, none⟩ v).cell? ⟨p, 0, none⟩ = some (.bool n1) ∧ ((W.setCell ⟨r, 0, none⟩ u).setCell ⟨r, 1, none⟩ v).cell? ⟨p, 1, none⟩ = some (.slice A l1 c) ∧ ((W.setCell ⟨r, 0, none⟩ u).setCell ⟨r, 1, none⟩ v).cell? ⟨q, 0, none⟩ = some (.bool n2) ∧ ((W.setCell ⟨r, 0, none⟩ u).setCell ⟨r, 1, none⟩ v).cell? ⟨q, 1, none⟩ = some (.slice B l2 d) := by
  have hk : ∀ (x : Nat) (j : Nat), x ≠ r → ((W.setCell ⟨r, 0, none⟩ u).setCell ⟨r, 1, none⟩ v).cell? ⟨x, j, none⟩ = W.cell? ⟨x, j, none⟩ := fun x j hx => by
    rw [World.cell?_setCell_other _ _ _ _ (fun e => hx (by injection e with a; exact a.symm)), World.cell?_setCell_other _ _ _ _ (fun e => hx (by injection e with a; exact a.symm))]
  have h2 : Two w ((W.setCell ⟨r, 0, none⟩ u).setCell ⟨r, 1, none⟩ v) p q n1 n2 A B xs ys l1 c l2 d :=
    ⟨(h.1.below.setCell hw _).setCell hw _, by simpa using h.1.lp, by simpa using h.1.lq, by simpa using h.1.sa.put hr u v, by simpa using h.1.sb.put hr u v, (hk _ _ hp).trans h.1.a0, (hk _ _ hp).trans h.1.a1, (hk _ _ hq).trans h.1.b0, (hk _ _ hq).trans h.1.b1⟩
  exact h2.all
/-- What is answered of two numbers: where both may be, what comes of them; else the refusal. -/
def Reck (w : World) (p : Prop) (Z : Int) (e : Ending) (w' : World) : Prop := ∃ (n : Bool) (V : Option Addr) (ls : List Nat) (k : Nat) (er : Int), e = .returned (.tuple #[big n V ls.length k, .int .i64 er]) ∧
  Lm w' n V ls k ∧ ((p ∧ Says Z n ls er) ∨ (¬ p ∧ er = 1 ∧ ls = [] ∧ n = false)) ∧ Below w.heap.size w w'
theorem Lm.laid {W : World} {r : Nat} {n : Bool} {V : Option Addr} {ls : List Nat} {k : Nat} (h : Lm W n V ls k) (hr : Rest W r) (u v : Value) : Lm ((W.setCell ⟨r, 0, none⟩ u).setCell ⟨r, 1, none⟩ v) n V ls k :=
  ⟨by simpa using h.sl.put hr u v, h.dig, h.ok⟩
theorem Rest.newI (W : World) : Rest (W.alloc (.cells #[.bool false, .slice none 0 0] 24)) W.heap.size :=
  ⟨by simp, by go_cell, by go_cell, World.frozen?_alloc_new _ _ _ _, World.frozen?_alloc_new _ _ _ _⟩
end Go.Proofs.YtghcoijinihlnaaGreatDoor
