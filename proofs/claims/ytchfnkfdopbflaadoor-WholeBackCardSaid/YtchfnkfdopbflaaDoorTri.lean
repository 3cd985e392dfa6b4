/-
  Three numbers that may be, in cells: what stays while more memory is made. No conditions.
-/
import Derived.Test.YtchfnkfdopbflaaDoorFix
import Derived.Test.YtchfnkfdopbflaaDoorMay
namespace Go.Proofs.YtchfnkfdopbflaaDoor
open Go.RowKit Nb

structure Tri (w W : World) (p q r : Nat) (n1 n2 n3 : Bool) (A B C : Option Addr) (xs ys zs : List Nat) (c d e : Nat) : Prop where
  below : Below w.heap.size w W
  x : Held W p n1 A xs c
  y : Held W q n2 B ys d
  z : Held W r n3 C zs e
abbrev TriS (w W : World) (p q r : Nat) (n1 n2 n3 : Bool) (A B C : Option Addr) (xs ys zs : List Nat) (c d e : Nat) : Prop := Tri w W p q r n1 n2 n3 A B C xs ys zs c d e ∧ W.cell? ⟨p, 0, none⟩ = some (.bool n1) ∧ W.cell? ⟨p, 1, none⟩ = some (.slice A xs.length c) ∧ W.cell? ⟨q, 0, none⟩ = some (.bool n2) ∧ W.cell? ⟨q, 1, none⟩ = some (.slice B ys.length d) ∧ W.cell? ⟨r, 0, none⟩ = some (.bool n3) ∧ W.cell? ⟨r, 1, none⟩ = some (.slice C zs.length e)
section
variable {w W W' : World} {p q r : Nat} {n1 n2 n3 : Bool} {A B C : Option Addr} {xs ys zs : List Nat} {c d e : Nat} {X : Prop}
theorem Tri.on (h : Tri w W p q r n1 n2 n3 A B C xs ys zs c d e) (hb : Below W.heap.size W W') : Tri w W' p q r n1 n2 n3 A B C xs ys zs c d e := ⟨h.below.trans (hb.mono h.below.size), h.x.on hb, h.y.on hb, h.z.on hb⟩
theorem Tri.all (h : Tri w W p q r n1 n2 n3 A B C xs ys zs c d e) : TriS w W p q r n1 n2 n3 A B C xs ys zs c d e := ⟨h, h.x.c0, h.x.c1, h.y.c0, h.y.c1, h.z.c0, h.z.c1⟩
theorem Tri.keep (h : Tri w W p q r n1 n2 n3 A B C xs ys zs c d e ∧ X) (hb : Below W.heap.size W W') : TriS w W' p q r n1 n2 n3 A B C xs ys zs c d e := (h.1.on hb).all
theorem Tri.below' (h : Tri w W p q r n1 n2 n3 A B C xs ys zs c d e ∧ X) : Below w.heap.size w W := h.1.below
theorem Tri.x' (h : Tri w W p q r n1 n2 n3 A B C xs ys zs c d e ∧ X) : Lm W n1 A xs c := h.1.x.lm
theorem Tri.y' (h : Tri w W p q r n1 n2 n3 A B C xs ys zs c d e ∧ X) : Lm W n2 B ys d := h.1.y.lm
theorem Tri.z' (h : Tri w W p q r n1 n2 n3 A B C xs ys zs c d e ∧ X) : Lm W n3 C zs e := h.1.z.lm
end

/-- A number is told by its limbs. -/
theorem sv_inj {n1 n2 : Bool} {xs ys : List Nat} (o1 : Ok n1 xs) (o2 : Ok n2 ys) (d1 : Dig W32 xs) (d2 : Dig W32 ys) (h : sv n1 (val W32 xs) = sv n2 (val W32 ys)) : n1 = n2 ∧ xs = ys := by
  have hv : val W32 xs = val W32 ys := by
    have := congrArg Int.natAbs h
    rwa [sv_abs, sv_abs] at this
  have hxy : xs = ys := norm_inj (B := W32) (by decide) d1 d2 o1.norm o2.norm hv
  refine ⟨?_, hxy⟩
  subst hxy
  have hp1 := ok_vpos o1
  have hp2 := ok_vpos o2
  unfold sv at h
  cases n1 <;> cases n2 <;> simp_all <;> omega
theorem same_iff {n1 n2 : Bool} {xs ys : List Nat} (o1 : Ok n1 xs) (o2 : Ok n2 ys) (d1 : Dig W32 xs) (d2 : Dig W32 ys) : decide (n1 = n2 ∧ xs = ys) = decide (sv n1 (val W32 xs) = sv n2 (val W32 ys)) := by
  refine decide_eq_decide.2 ⟨?_, sv_inj o1 o2 d1 d2⟩
  rintro ⟨rfl, rfl⟩; rfl
/-- The sign is the comparison with nought. -/
theorem sgn_cmp {n : Bool} {ls : List Nat} (o : Ok n ls) (d : Dig W32 ls) : sgnV n ls = cmpI (sv n (val W32 ls)) 0 := by
  have hz := norm_zero (B := W32) (by decide) o.norm
  have hp := ok_vpos o
  unfold sgnV
  rw [if_pos o]
  by_cases h : ls = []
  · have h0 := hz.2 h
    have hn := o.sign h
    subst hn
    rw [cmpI_eq (by unfold sv; rw [h0]; rfl)]
    subst h; rfl
  · have h0 : val W32 ls ≠ 0 := fun e => h (hz.1 e)
    have hl : ¬ ls.length = 0 := fun e => h (List.eq_nil_of_length_eq_zero e)
    cases n
    · rw [cmpI_gt (by show (0 : Int) < ((val W32 ls : Nat) : Int); omega)]
      unfold sgn
      rw [if_neg (by decide), if_neg hl]
    · rw [cmpI_lt (by show -((val W32 ls : Nat) : Int) < 0; omega)]
      rfl
end Go.Proofs.YtchfnkfdopbflaaDoor
