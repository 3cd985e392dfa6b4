/-
  What the document's own Check, Sign, Bits and the statements' LeftInt return. No conditions but that the lists are lists of limbs.
-/
import Derived.Test.YtiofglgpgjnonaaDoorRsh
import Derived.Deep.RegionHeld3
namespace Go.Proofs.YtiofglgpgjnonaaDoor
open Go.RowKit Nb

/-- Twl numbers in two cells of the call's own, and their limbs: what stays while more memory is made. -/
structure Twl (w W : World) (p q : Nat) (n1 n2 : Bool) (A B : Option Addr) (xs ys : List Nat) (l1 c l2 d : Nat) : Prop where
  below : Below w.heap.size w W
  lp : p < W.heap.size
  lq : q < W.heap.size
  sa : Sl .u32 W W.heap.size A xs
  sb : Sl .u32 W W.heap.size B ys
  a0 : W.cell? ⟨p, 0, none⟩ = some (.bool n1)
  a1 : W.cell? ⟨p, 1, none⟩ = some (.slice A l1 c)
  b0 : W.cell? ⟨q, 0, none⟩ = some (.bool n2)
  b1 : W.cell? ⟨q, 1, none⟩ = some (.slice B l2 d)
section
variable {w W W' : World} {p q : Nat} {n1 n2 : Bool} {A B : Option Addr} {xs ys : List Nat} {l1 c l2 d : Nat} {X : Prop}
theorem Twl.on (h : Twl w W p q n1 n2 A B xs ys l1 c l2 d) (hb : Below W.heap.size W W') : Twl w W' p q n1 n2 A B xs ys l1 c l2 d :=
  ⟨h.below.trans (hb.mono h.below.size), Nat.lt_of_lt_of_le h.lp hb.size, Nat.lt_of_lt_of_le h.lq hb.size, (h.sa.below hb).more hb.size, (h.sb.below hb).more hb.size,
   (hb.cell (p := ⟨p, 0, none⟩) h.lp).trans h.a0, (hb.cell (p := ⟨p, 1, none⟩) h.lp).trans h.a1, (hb.cell (p := ⟨q, 0, none⟩) h.lq).trans h.b0, (hb.cell (p := ⟨q, 1, none⟩) h.lq).trans h.b1⟩
theorem Twl.all (h : Twl w W p q n1 n2 A B xs ys l1 c l2 d) : Twl w W p q n1 n2 A B xs ys l1 c l2 d ∧ W.cell? ⟨p, 0, none⟩ = some (.bool n1) ∧ W.cell? ⟨p, 1, none⟩ = some (.slice A l1 c) ∧ W.cell? ⟨q, 0, none⟩ = some (.bool n2) ∧ W.cell? ⟨q, 1, none⟩ = some (.slice B l2 d) :=
  ⟨h, h.a0, h.a1, h.b0, h.b1⟩
theorem Twl.keep (h : Twl w W p q n1 n2 A B xs ys l1 c l2 d ∧ X) (hb : Below W.heap.size W W') : Twl w W' p q n1 n2 A B xs ys l1 c l2 d ∧ W'.cell? ⟨p, 0, none⟩ = some (.bool n1) ∧ W'.cell? ⟨p, 1, none⟩ = some (.slice A l1 c) ∧ W'.cell? ⟨q, 0, none⟩ = some (.bool n2) ∧ W'.cell? ⟨q, 1, none⟩ = some (.slice B l2 d) :=
  (h.1.on hb).all
theorem Twl.sa' (h : Twl w W p q n1 n2 A B xs ys l1 c l2 d ∧ X) : Sl .u32 W W.heap.size A xs := h.1.sa
theorem Twl.sb' (h : Twl w W p q n1 n2 A B xs ys l1 c l2 d ∧ X) : Sl .u32 W W.heap.size B ys := h.1.sb
theorem Twl.below' (h : Twl w W p q n1 n2 A B xs ys l1 c l2 d ∧ X) : Below w.heap.size w W := h.1.below
/-- Both boxed. -/
theorem Twl.boxed (hr : Sl .u32 w w.heap.size A xs) (hs : Sl .u32 w w.heap.size B ys) :
    Twl w ((w.alloc (.cells #[.bool n1, .slice A l1 c] 24)).alloc (.cells #[.bool n2, .slice B l2 d] 24)) w.heap.size (w.heap.size + 1) n1 n2 A B xs ys l1 c l2 d := by
  refine ⟨by go_grown, by go_size, by go_size, ?_, ?_, by go_cell, by go_cell, by go_cell, by go_cell⟩
  · exact (((hr.alloc (Nat.le_refl _) _).alloc (by go_size) _).more (by go_size))
  · exact (((hs.alloc (Nat.le_refl _) _).alloc (by go_size) _).more (by go_size))
end

theorem sl_head {k : IntKind} {w : World} {B : Nat} {A : Option Addr} {ls ms : List Nat} (h : Sl k w B A (ls ++ ms)) : Sl k w B A ls := by
  have := h.take ls.length
  simpa using this
/-- What LeftInt reads: both numbers' cells, and the mark. -/
theorem Twl.marked {w W : World} {p q : Nat} {n1 n2 : Bool} {ad : Addr} {B : Option Addr} {xs ys : List Nat} {l1 c l2 d m : Nat} (h : Twl w W p q n1 n2 (some ad) B (xs ++ [m]) ys l1 c l2 d) :
    Twl w W p q n1 n2 (some ad) B (xs ++ [m]) ys l1 c l2 d ∧ W.cell? ⟨p, 0, none⟩ = some (.bool n1) ∧ W.cell? ⟨p, 1, none⟩ = some (.slice (some ad) l1 c) ∧ W.cell? ⟨q, 0, none⟩ = some (.bool n2) ∧ W.cell? ⟨q, 1, none⟩ = some (.slice B l2 d) ∧ W.cell? (ad.add xs.length) = some (.int .u32 m) := by
  refine ⟨h, h.a0, h.a1, h.b0, h.b1, ?_⟩
  obtain ⟨ad', e, _, hc⟩ := h.sa.at_ (i := xs.length) (by simp)
  injection e with e
  subst e
  simpa using hc
theorem Twl.markedOn {w W W' : World} {p q : Nat} {n1 n2 : Bool} {ad : Addr} {B : Option Addr} {xs ys : List Nat} {l1 c l2 d m : Nat} {X : Prop} (h : Twl w W p q n1 n2 (some ad) B (xs ++ [m]) ys l1 c l2 d ∧ X) (hb : Below W.heap.size W W') :
    Twl w W' p q n1 n2 (some ad) B (xs ++ [m]) ys l1 c l2 d ∧ W'.cell? ⟨p, 0, none⟩ = some (.bool n1) ∧ W'.cell? ⟨p, 1, none⟩ = some (.slice (some ad) l1 c) ∧ W'.cell? ⟨q, 0, none⟩ = some (.bool n2) ∧ W'.cell? ⟨q, 1, none⟩ = some (.slice B l2 d) ∧ W'.cell? (ad.add xs.length) = some (.int .u32 m) :=
  (h.1.on hb).marked

set_option maxHeartbeats 4000000 in
/-- A twin is left as it was made: the same limbs, and the mark behind them. -/
theorem left_any (neg : Bool) (A B : Option Addr) (ls : List Nat) (d : Nat) (w : World) (hr : Sl .u32 w w.heap.size A (ls ++ [7777])) (hs : Sl .u32 w w.heap.size B ls) (hl : ls.length * 4 ≤ 140737488351232) :
    Calls Tryd.prog 19 #[big neg A ls.length (ls.length + 1), big neg B ls.length d] w fun e w' => e = .returned (.bool true) ∧ Below w.heap.size w w' := by
  have hs1 : Sl .u32 w w.heap.size A ls := by have := hr.take ls.length; simpa using this
  have ht := Twl.boxed (n1 := neg) (n2 := neg) (l1 := ls.length) (c := ls.length + 1) (l2 := ls.length) (d := d) hr hs
  obtain ⟨ad, rfl, hb, hcell⟩ := hr.at_ (i := ls.length) (by simp)
  go_enter Tryd.func19, Tryd.ntmps19
  go_wp2_with fail
  generalize hW : ((w.alloc (.cells #[.bool neg, .slice (some ad) ls.length (ls.length + 1)] 24)).alloc (.cells #[.bool neg, .slice B ls.length d] 24)) = W at *
  clear hW
  have hall := ht.marked
  have hw1 : IntKind.i64.wrap ((ls.length : Int) + 1) = (ls.length : Int) + 1 := IntWalk.i64_in _ (by omega)
  have hw2 : 0 ≤ (ls.length : Int) + 1 := by omega
  have hw3 : ((ls.length : Int) + 1).toNat = ls.length + 1 := by omega
  have hgt : decide ((ls.length : Int) < (ls.length : Int) + 1) = true := by simp; omega
  have hle : (ls.length : Int) + 1 ≤ (ls.length : Int) + 1 := by omega
  have hl1 : ls.length < ls.length + 1 := by omega
  have hl2 : (ls.length : Int) < (ls.length : Int) + 1 := by omega
  have hl3 : (ls.length : Int) < ((ls.length + 1 : Nat) : Int) := by omega
  have HALL := Lib.hid hall
  clear hall hs1 hr hs hb hcell
  have hall := HALL.out
  go_region_held3 (fun w' => Twl w w' w.heap.size (w.heap.size + 1) neg neg (some ad) B (ls ++ [7777]) ls ls.length (ls.length + 1) ls.length d ∧ w'.cell? ⟨w.heap.size, 0, none⟩ = some (.bool neg) ∧ w'.cell? ⟨w.heap.size, 1, none⟩ = some (.slice (some ad) ls.length (ls.length + 1)) ∧ w'.cell? ⟨w.heap.size + 1, 0, none⟩ = some (.bool neg) ∧ w'.cell? ⟨w.heap.size + 1, 1, none⟩ = some (.slice B ls.length d) ∧ w'.cell? (ad.add ls.length) = some (.int .u32 (7777 : Nat)))
    (first | exact HALL.out | exact Twl.markedOn HALL.out ((Below.refl _ _).drew) | exact Twl.markedOn (by assumption) (by assumption) | exact Twl.markedOn (by assumption) ((Below.refl _ _).drew))
    (first
      | (go_at_call 25; refine (same_yes neg (some ad) B ls (ls.length + 1) d _ (sl_head (Twl.sa' (by assumption))) (Twl.sb' (by assumption)) hl).mono ?_; rintro e w' ⟨rfl, hb⟩))
  go_wp2
  go_ret
  exact ⟨rfl, Twl.below' (by assumption)⟩
end Go.Proofs.YtiofglgpgjnonaaDoor
