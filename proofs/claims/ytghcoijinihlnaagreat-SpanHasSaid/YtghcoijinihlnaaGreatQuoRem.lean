/-
  Plain facts and contracts that hold in this seat: joined by program. Conditions: as each theorem states.
-/
import Derived.Test.YtghcoijinihlnaaGreatReck
/-! ### QuoRem -/
namespace Go.Proofs.YtghcoijinihlnaaGreat
open Go.RowKit Nb
theorem bcell {W w1 : World} (hb : Below W.heap.size W w1) : (∀ b o, b < W.heap.size → w1.cell? ⟨b, o, none⟩ = W.cell? ⟨b, o, none⟩) ∧ (∀ b o, b < W.heap.size → w1.frozen? ⟨b, o, none⟩ = W.frozen? ⟨b, o, none⟩) :=
  ⟨fun b o h => hb.cell (p := ⟨b, o, none⟩) h, fun b o h => hb.frozen (p := ⟨b, o, none⟩) h⟩
/-- Two numbers in words, in two cells of the call's own, and their limbs: what stays while more memory is made. -/
structure Both (w W : World) (p q : Nat) (n1 n2 : Bool) (A B : Option Addr) (xs ys : List Nat) (l1 c l2 d : Nat) : Prop where
  below : Below w.heap.size w W
  lp : p < W.heap.size
  lq : q < W.heap.size
  sa : Sl .u64 W W.heap.size A xs
  sb : Sl .u64 W W.heap.size B ys
  a0 : W.cell? ⟨p, 0, none⟩ = some (.bool n1)
  a1 : W.cell? ⟨p, 1, none⟩ = some (.slice A l1 c)
  b0 : W.cell? ⟨q, 0, none⟩ = some (.bool n2)
  b1 : W.cell? ⟨q, 1, none⟩ = some (.slice B l2 d)
section
variable {w W W' : World} {p q : Nat} {n1 n2 : Bool} {A B : Option Addr} {xs ys : List Nat} {l1 c l2 d : Nat} {X : Prop}
theorem Both.on (h : Both w W p q n1 n2 A B xs ys l1 c l2 d) (hb : Below W.heap.size W W') : Both w W' p q n1 n2 A B xs ys l1 c l2 d :=
  ⟨h.below.trans (hb.mono h.below.size), Nat.lt_of_lt_of_le h.lp hb.size, Nat.lt_of_lt_of_le h.lq hb.size, (h.sa.below hb).more hb.size, (h.sb.below hb).more hb.size,
   (hb.cell (p := ⟨p, 0, none⟩) h.lp).trans h.a0, (hb.cell (p := ⟨p, 1, none⟩) h.lp).trans h.a1, (hb.cell (p := ⟨q, 0, none⟩) h.lq).trans h.b0, (hb.cell (p := ⟨q, 1, none⟩) h.lq).trans h.b1⟩
theorem Both.all (h : Both w W p q n1 n2 A B xs ys l1 c l2 d) : Both w W p q n1 n2 A B xs ys l1 c l2 d ∧ W.cell? ⟨p, 0, none⟩ = some (.bool n1) ∧ W.cell? ⟨p, 1, none⟩ = some (.slice A l1 c) ∧ W.cell? ⟨q, 0, none⟩ = some (.bool n2) ∧ W.cell? ⟨q, 1, none⟩ = some (.slice B l2 d) :=
  ⟨h, h.a0, h.a1, h.b0, h.b1⟩
theorem Both.keep (h : Both w W p q n1 n2 A B xs ys l1 c l2 d ∧ X) (hb : Below W.heap.size W W') : Both w W' p q n1 n2 A B xs ys l1 c l2 d ∧ W'.cell? ⟨p, 0, none⟩ = some (.bool n1) ∧ W'.cell? ⟨p, 1, none⟩ = some (.slice A l1 c) ∧ W'.cell? ⟨q, 0, none⟩ = some (.bool n2) ∧ W'.cell? ⟨q, 1, none⟩ = some (.slice B l2 d) :=
  (h.1.on hb).all
theorem Both.sa' (h : Both w W p q n1 n2 A B xs ys l1 c l2 d ∧ X) : Sl .u64 W W.heap.size A xs := h.1.sa
theorem Both.sb' (h : Both w W p q n1 n2 A B xs ys l1 c l2 d ∧ X) : Sl .u64 W W.heap.size B ys := h.1.sb
theorem Both.below' (h : Both w W p q n1 n2 A B xs ys l1 c l2 d ∧ X) : Below w.heap.size w W := h.1.below
end
theorem Both.put {w W : World} {p q r : Nat} {n1 n2 : Bool} {A B : Option Addr} {xs ys : List Nat} {l1 c l2 d : Nat} {X : Prop} (h : Both w W p q n1 n2 A B xs ys l1 c l2 d ∧ X) (hr : Rest W r) (hw : w.heap.size ≤ r) (hp : p ≠ r) (hq : q ≠ r) (u v : Value) :
    Both w ((W.setCell ⟨r, 0, none⟩ u).setCell ⟨r, 1, none⟩ v) p q n1 n2 A B xs ys l1 c l2 d ∧ ((W.setCell ⟨r, 0, none⟩ u).setCell ⟨r, 1, none⟩ v).cell? ⟨p, 0, none⟩ = some (.bool n1) ∧ ((W.setCell ⟨r, 0, none⟩ u).setCell ⟨r, 1, none⟩ v).cell? ⟨p, 1, none⟩ = some (.slice A l1 c) ∧ ((W.setCell ⟨r, 0, none⟩ u).setCell ⟨r, 1, none⟩ v).cell? ⟨q, 0, none⟩ = some (.bool n2) ∧ ((W.setCell ⟨r, 0, none⟩ u).setCell ⟨r, 1, none⟩ v).cell? ⟨q, 1, none⟩ = some (.slice B l2 d) := by
  have hk : ∀ (x : Nat) (j : Nat), x ≠ r → ((W.setCell ⟨r, 0, none⟩ u).setCell ⟨r, 1, none⟩ v).cell? ⟨x, j, none⟩ = W.cell? ⟨x, j, none⟩ := fun x j hx => by
    rw [World.cell?_setCell_other _ _ _ _ (fun e => hx (by injection e with a; exact a.symm)), World.cell?_setCell_other _ _ _ _ (fun e => hx (by injection e with a; exact a.symm))]
  have h2 : Both w ((W.setCell ⟨r, 0, none⟩ u).setCell ⟨r, 1, none⟩ v) p q n1 n2 A B xs ys l1 c l2 d :=
    ⟨(h.1.below.setCell hw _).setCell hw _, by simpa using h.1.lp, by simpa using h.1.lq, by simpa using h.1.sa.put hr u v, by simpa using h.1.sb.put hr u v, (hk _ _ hp).trans h.1.a0, (hk _ _ hp).trans h.1.a1, (hk _ _ hq).trans h.1.b0, (hk _ _ hq).trans h.1.b1⟩
  exact h2.all
theorem Pair.drew {w Q W : World} {r s : Nat} (h : Pair w Q W r s) : Pair w Q W.drew r s := ⟨h.below.drew, h.more.drew, h.one.drew, h.two.drew⟩
section
variable {w1 W : World} {s t : Nat} {n m : Bool} {V U : Option Addr} {zs rs : List Nat} {k l C D : Nat}
end
theorem Rest.alloc {W : World} {s : Nat} (h : Rest W s) (e : Obj) : Rest (W.alloc e) s := h.on (by go_grown)
end Go.Proofs.YtghcoijinihlnaaGreat
