/-
  Plain facts and contracts that hold in this seat: joined by program. Conditions: as each theorem states.
-/
import Derived.Test.YtplgheabhekedaaGreatDoorReck
/-! ### QuoRem -/
namespace Go.Proofs.YtplgheabhekedaaGreatDoor
open Go.RowKit Nb
theorem bcell {W w1 : World} (hb : Below W.heap.size W w1) : (∀ b o, b < W.heap.size → w1.cell? ⟨b, o, none⟩ = W.cell? ⟨b, o, none⟩) ∧ (∀ b o, b < W.heap.size → w1.frozen? ⟨b, o, none⟩ = W.frozen? ⟨b, o, none⟩) :=
  ⟨fun b o h => hb.cell (p := ⟨b, o, none⟩) h, fun b o h => hb.frozen (p := ⟨b, o, none⟩) h⟩
/-- Two numbers in words, in two cells of the call's own, and their limbs: what stays while more memory is made. -/
structure Both (w W : World) (p q : Nat) (n1 n2 : Bool) (A B : Option Addr) (xs ys : List Nat) (l1 c l2 d : Nat) : Prop where
  below : Below w.heap.size w W
  lp : p < W.heap.size
  lq : q < W.heap.size
  sa : Sl .u64 W W.heap.size A xs
  sb : Sl .u64 W W.heap.size B ys
  a0 : W.cell? ⟨p, 0, none⟩ = some (.bool n1)
  a1 : W.cell? ⟨p, 1, none⟩ = some (.slice A l1 c)
  b0 : W.cell? ⟨q, 0, none⟩ = some (.bool n2)
  b1 : W.cell? ⟨q, 1, none⟩ = some (.slice B l2 d)
section
variable {w W W' : World} {p q : Nat} {n1 n2 : Bool} {A B : Option Addr} {xs ys : List Nat} {l1 c l2 d : Nat} {X : Prop}
theorem Both.on (h : Both w W p q n1 n2 A B xs ys l1 c l2 d) (hb : Below W.heap.size W W') : Both w W' p q n1 n2 A B xs ys l1 c l2 d :=
  ⟨h.below.trans (hb.mono h.below.size), Nat.lt_of_lt_of_le h.lp hb.size, Nat.lt_of_lt_of_le h.lq hb.size, (h.sa.below hb).more hb.size, (h.sb.below hb).more hb.size,
   (hb.cell (p := ⟨p, 0, none⟩) h.lp).trans h.a0, (hb.cell (p := ⟨p, 1, none⟩) h.lp).trans h.a1, (hb.cell (p := ⟨q, 0, none⟩) h.lq).trans h.b0, (hb.cell (p := ⟨q, 1, none⟩) h.lq).trans h.b1⟩
theorem Both.all (h : Both w W p q n1 n2 A B xs ys l1 c l2 d) : Both w W p q n1 n2 A B xs ys l1 c l2 d ∧ W.cell? ⟨p, 0, none⟩ = some (.bool n1) ∧ W.cell? ⟨p, 1, none⟩ = some (.slice A l1 c) ∧ W.cell? ⟨q, 0, none⟩ = some (.bool n2) ∧ W.cell? ⟨q, 1, none⟩ = some (.slice B l2 d) :=
  ⟨h, h.a0, h.a1, h.b0, h.b1⟩
theorem Both.keep (h : Both w W p q n1 n2 A B xs ys l1 c l2 d ∧ X) (hb : Below W.heap.size W W') : Both w W' p q n1 n2 A B xs ys l1 c l2 d ∧ W'.cell? ⟨p, 0, none⟩ = some (.bool n1) ∧ W'.cell? ⟨p, 1, none⟩ = some (.slice A l1 c) ∧ W'.cell? ⟨q, 0, none⟩ = some (.bool n2) ∧ W'.cell? ⟨q, 1, none⟩ = some (.slice B l2 d) :=
  (h.1.on hb).all
theorem Both.sa' (h : Both w W p q n1 n2 A B xs ys l1 c l2 d ∧ X) : Sl .u64 W W.heap.size A xs := h.1.sa
theorem Both.sb' (h : Both w W p q n1 n2 A B xs ys l1 c l2 d ∧ X) : Sl .u64 W W.heap.size B ys := h.1.sb
theorem Both.below' (h : Both w W p q n1 n2 A B xs ys l1 c l2 d ∧ X) : Below w.heap.size w W := h.1.below
end
theorem Both.put {w W : World} {p q r : Nat} {n1 n2 : Bool} {A B : Option Addr} {xs ys : List Nat} {l1 c l2 d : Nat} {X : Prop} (h : Both w W p q n1 n2 A B xs ys l1 c l2 d ∧ X) (hr : Rest W r) (hw : w.heap.size ≤ r) (hp : p ≠ r) (hq : q ≠ r) (u v : Value) :
    Both w ((W.setCell ⟨r, 0, none⟩ u).setCell ⟨r, 1, none⟩ v) p q n1 n2 A B xs ys l1 c l2 d ∧ ((W.setCell ⟨r, 0, none⟩ u).setCell ⟨r, 1, none⟩ v).cell? ⟨p, 0, none⟩ = some (.bool n1) ∧ ((W.setCell ⟨r, 0, none⟩ u).setCell ⟨r, 1, none⟩ v).cell? ⟨p, 1, none⟩ = some (.slice A l1 c) ∧ ((W.setCell ⟨r, 0, none⟩ u).setCell ⟨r, 1, none⟩ v).cell? ⟨q, 0, none⟩ = some (.bool n2) ∧ ((W.setCell ⟨r, 0, none⟩ u).setCell ⟨r, 1, none⟩ v).cell? ⟨q, 1, none⟩ = some (.slice B l2 d) := by
  have hk : ∀ (x : Nat) (j : Nat), x ≠ r → ((W.setCell ⟨r, 0, none⟩ u).setCell ⟨r, 1, none⟩ v).cell? ⟨x, j, none⟩ = W.cell? ⟨x, j, none⟩ := fun x j hx => by
    rw [World.cell?_setCell_other _ _ _ _ (fun e => hx (by injection e with a; exact a.symm)), World.cell?_setCell_other _ _ _ _ (fun e => hx (by injection e with a; exact a.symm))]
  have h2 : Both w ((W.setCell ⟨r, 0, none⟩ u).setCell ⟨r, 1, none⟩ v) p q n1 n2 A B xs ys l1 c l2 d :=
    ⟨(h.1.below.setCell hw _).setCell hw _, by simpa using h.1.lp, by simpa using h.1.lq, by simpa using h.1.sa.put hr u v, by simpa using h.1.sb.put hr u v, (hk _ _ hp).trans h.1.a0, (hk _ _ hp).trans h.1.a1, (hk _ _ hq).trans h.1.b0, (hk _ _ hq).trans h.1.b1⟩
  exact h2.all
theorem Pair.drew {w Q W : World} {r s : Nat} (h : Pair w Q W r s) : Pair w Q W.drew r s := ⟨h.below.drew, h.more.drew, h.one.drew, h.two.drew⟩
theorem fits_le {Z Y : Int} (h : Fits Z) (hle : Y.natAbs ≤ Z.natAbs) : Fits Y := Nat.lt_of_le_of_lt hle h
theorem ok_lt' {xs : List Nat} (hd : Dig W32 xs) (k : Nat) (hk : xs.length ≤ k) : val W32 xs < W32 ^ k := Nat.lt_of_lt_of_le (val_lt hd) (Nat.pow_le_pow_right (by decide) hk)
theorem ok_fits {n : Bool} {xs : List Nat} (hd : Dig W32 xs) (ho : Ok n xs) : Fits (sv n (val W32 xs)) := by
  unfold Fits; rw [sv_abs]; exact ok_lt' hd 2048 ho.len
theorem ok_unpack {n : Bool} {zs : List Nat} (dz : Dig W64 zs) (nz : Norm zs) (gz : zs = [] → n = false) (hf : Fits (sv n (val W64 zs))) : Ok n (unpack zs) := by
  refine ⟨?_, norm_unpack dz nz, fun h => gz ?_⟩
  · rw [unpack_length]
    refine (limbsL_le dz nz).2 ?_
    unfold Fits at hf; rwa [sv_abs] at hf
  · have hv := val_unpack dz nz
    rw [h] at hv
    exact (norm_zero (B := W64) (by decide) nz).1 (by simpa [val] using hv.symm)
theorem abs_quo (a b : Int) : (a.tdiv b).natAbs ≤ a.natAbs := Int.natAbs_tdiv_le_natAbs a b
theorem abs_rem (a b : Int) : (a.tmod b).natAbs ≤ a.natAbs := by rw [Int.natAbs_tmod]; exact Nat.mod_le _ _
/-- Both laid in new cells. -/
theorem both_end {w1 W : World} {s t : Nat} {n m : Bool} {V U : Option Addr} {zs rs : List Nat} {k l C D : Nat} (hb : Below w1.heap.size w1 W) (hs : Rest W s) (ht : Rest W t) (hne : s ≠ t) (h1 : Bg W n V zs k C) (h2 : Bg W m U rs l D) (ls : w1.heap.size ≤ s) (lt : w1.heap.size ≤ t) :
    Both w1 ((((W.setCell ⟨s, 0, none⟩ (.bool n)).setCell ⟨s, 1, none⟩ (.slice V zs.length k)).setCell ⟨t, 0, none⟩ (.bool m)).setCell ⟨t, 1, none⟩ (.slice U rs.length l)) s t n m V U zs rs zs.length k rs.length l := by
  have ht2 := ht.put (r := s) hne (.bool n) (.slice V zs.length k)
  have ca : ((W.setCell ⟨s, 0, none⟩ (.bool n)).setCell ⟨s, 1, none⟩ (.slice V zs.length k)).cell? ⟨s, 0, none⟩ = some (.bool n) := by
    rw [World.cell?_setCell_other _ _ _ _ (by simp)]
    have := hs.r0; have := hs.f0
    go_cell
  have cb : ((W.setCell ⟨s, 0, none⟩ (.bool n)).setCell ⟨s, 1, none⟩ (.slice V zs.length k)).cell? ⟨s, 1, none⟩ = some (.slice V zs.length k) := by
    have := hs.r1; have := hs.f1
    go_cell
  have hk : ∀ (X : World) (j : Nat) (u v : Value), ((X.setCell ⟨t, 0, none⟩ u).setCell ⟨t, 1, none⟩ v).cell? ⟨s, j, none⟩ = X.cell? ⟨s, j, none⟩ := fun X j u v => by
    rw [World.cell?_setCell_other _ _ _ _ (fun e => hne (by injection e with a; exact a.symm)), World.cell?_setCell_other _ _ _ _ (fun e => hne (by injection e with a; exact a.symm))]
  refine ⟨(((hb.setCell ls _).setCell ls _).setCell lt _).setCell lt _, by simpa using hs.lr, by simpa using ht.lr, ?_, ?_, (hk _ _ _ _).trans ca, (hk _ _ _ _).trans cb, ?_, ?_⟩
  · simpa using (h1.sl.put hs _ _).put ht2 _ _
  · simpa using (h2.sl.put hs _ _).put ht2 _ _
  · rw [World.cell?_setCell_other _ _ _ _ (by simp)]
    have := ht2.r0; have := ht2.f0
    go_cell
  · have := ht2.r1; have := ht2.f1
    go_cell
/-- Two numbers and what is refused. -/
def Reck2 (w : World) (p : Prop) (P : Bool → List Nat → Bool → List Nat → Int → Prop) (r0 : Int → Prop) (e : Ending) (w' : World) : Prop := ∃ (n : Bool) (V : Option Addr) (ls : List Nat) (k : Nat) (m : Bool) (U : Option Addr) (ms : List Nat) (l : Nat) (er : Int), e = .returned (.tuple #[big n V ls.length k, big m U ms.length l, .int .i64 er]) ∧
  Lm w' n V ls k ∧ Lm w' m U ms l ∧ ((p ∧ P n ls m ms er) ∨ (¬ p ∧ r0 er ∧ ls = [] ∧ n = false ∧ ms = [] ∧ m = false)) ∧ Below w.heap.size w w'
section
variable {w1 W : World} {s t : Nat} {n m : Bool} {V U : Option Addr} {zs rs : List Nat} {k l C D : Nat}
theorem both_new1 (hb : Below w1.heap.size w1 W) (h1 : Bg W n V zs k C) (h2 : Bg W m U rs l D) :
    Both w1 ((W.alloc (.cells #[.bool n, .slice V zs.length k] 85)).alloc (.cells #[.bool m, .slice U rs.length l] 85)) W.heap.size (W.heap.size + 1) n m V U zs rs zs.length k rs.length l :=
  ⟨(hb.alloc hb.size _).alloc (by have := hb.size; simp; omega) _, by simp; omega, by simp, (h1.below (by go_grown)).sl, (h2.below (by go_grown)).sl, by go_cell, by go_cell, by go_cell, by go_cell⟩
theorem both_new2 (hb : Below w1.heap.size w1 W) (h1 : Bg W n V zs k C) (h2 : Bg W m U rs l D) :
    Both w1 ((W.alloc (.cells #[.bool m, .slice U rs.length l] 85)).alloc (.cells #[.bool n, .slice V zs.length k] 85)) (W.heap.size + 1) W.heap.size n m V U zs rs zs.length k rs.length l :=
  ⟨(hb.alloc hb.size _).alloc (by have := hb.size; simp; omega) _, by simp, by simp; omega, (h1.below (by go_grown)).sl, (h2.below (by go_grown)).sl, by go_cell, by go_cell, by go_cell, by go_cell⟩
theorem put_self {W : World} {s : Nat} (hs : Rest W s) (u v : Value) : ((W.setCell ⟨s, 0, none⟩ u).setCell ⟨s, 1, none⟩ v).cell? ⟨s, 0, none⟩ = some u ∧ ((W.setCell ⟨s, 0, none⟩ u).setCell ⟨s, 1, none⟩ v).cell? ⟨s, 1, none⟩ = some v := by
  have a0 := hs.r0
  have a1 := hs.r1
  have a2 := hs.f0
  have a3 := hs.f1
  constructor
  · rw [World.cell?_setCell_other _ _ _ _ (by simp)]
    go_cell
  · go_cell
theorem both_old1 (hb : Below w1.heap.size w1 W) (hs : Rest W s) (ls : w1.heap.size ≤ s) (h1 : Bg W n V zs k C) (h2 : Bg W m U rs l D) :
    Both w1 (((W.setCell ⟨s, 0, none⟩ (.bool n)).setCell ⟨s, 1, none⟩ (.slice V zs.length k)).alloc (.cells #[.bool m, .slice U rs.length l] 85)) s W.heap.size n m V U zs rs zs.length k rs.length l := by
  have hlt := hs.lr
  have hc := put_self hs (.bool n) (.slice V zs.length k)
  have hz : ((W.setCell ⟨s, 0, none⟩ (.bool n)).setCell ⟨s, 1, none⟩ (.slice V zs.length k)).heap.size = W.heap.size := size_put _ _ _ _
  have q1 := h1.sl.put hs (.bool n) (.slice V zs.length k)
  have q2 := h2.sl.put hs (.bool n) (.slice V zs.length k)
  have hb2 := (hb.setCell (p := ⟨s, 0, none⟩) ls (.bool n)).setCell (p := ⟨s, 1, none⟩) ls (.slice V zs.length k)
  generalize ((W.setCell ⟨s, 0, none⟩ (.bool n)).setCell ⟨s, 1, none⟩ (.slice V zs.length k)) = X at *
  have HZ := Lib.hid hz
  refine ⟨hb2.alloc hb2.size _, by simp; omega, by simp; omega, ((q1.more (by omega)).alloc (Nat.le_refl _) _).more (by simp), ((q2.more (by omega)).alloc (Nat.le_refl _) _).more (by simp), ?_, ?_, ?_, ?_⟩
  · rw [World.cell?_alloc_lt _ _ _ (by show s < _; omega)]; exact hc.1
  · rw [World.cell?_alloc_lt _ _ _ (by show s < _; omega)]; exact hc.2
  · rw [← hz, World.cell?_alloc_new]; rfl
  · rw [← hz, World.cell?_alloc_new]; rfl
theorem both_old2 (hb : Below w1.heap.size w1 W) (ht : Rest W t) (lt : w1.heap.size ≤ t) (h1 : Bg W n V zs k C) (h2 : Bg W m U rs l D) :
    Both w1 (((W.setCell ⟨t, 0, none⟩ (.bool m)).setCell ⟨t, 1, none⟩ (.slice U rs.length l)).alloc (.cells #[.bool n, .slice V zs.length k] 85)) W.heap.size t n m V U zs rs zs.length k rs.length l := by
  have h := both_old1 hb ht lt h2 h1
  exact ⟨h.below, h.lq, h.lp, h.sb, h.sa, h.b0, h.b1, h.a0, h.a1⟩
end
theorem Rest.newE {W : World} {s : Nat} (h : s = W.heap.size) : Rest (W.alloc (.cells #[.bool false, .slice none 0 0] 85)) s := by subst h; exact Rest.new W
theorem Rest.alloc {W : World} {s : Nat} (h : Rest W s) (e : Obj) : Rest (W.alloc e) s := h.on (by go_grown)
end Go.Proofs.YtplgheabhekedaaGreatDoor
