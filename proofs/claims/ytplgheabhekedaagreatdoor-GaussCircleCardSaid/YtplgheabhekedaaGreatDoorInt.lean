/-
  What the operations of large.Int return: the opposite, the product. No conditions but that the numbers are numbers, and no longer than memory.
-/
import Derived.Test.YtplgheabhekedaaGreatDoorQuo
import Derived.Test.YtplgheabhekedaaGreatDoorBig
import Derived.Deep.RegionHeld3
namespace Go.Proofs.YtplgheabhekedaaGreatDoor
open Go.RowKit Nb

/-- What a sign and a size are worth. -/
def sv (neg : Bool) (v : Nat) : Int := if neg then -(v : Int) else v
/-- A number in words. -/
structure Bg (w : World) (neg : Bool) (A : Option Addr) (ls : List Nat) (c C : Nat) : Prop where
  sl : Sl .u64 w w.heap.size A ls
  dig : Dig W64 ls
  norm : Norm ls
  sign : ls = [] → neg = false
  len : ls.length ≤ c
  cap : c ≤ C
/-- It answers this number. -/
def Gives (w : World) (Z : Int) (C : Nat) (e : Ending) (w' : World) : Prop := ∃ (neg : Bool) (A : Option Addr) (zs : List Nat) (c : Nat), e = .returned (big neg A zs.length c) ∧ Bg w' neg A zs c C ∧ sv neg (val W64 zs) = Z ∧ Below w.heap.size w w'

section
variable {w w' : World} {neg : Bool} {A : Option Addr} {ls : List Nat} {c C C' : Nat}
theorem Bg.below (h : Bg w neg A ls c C) (hb : Below w.heap.size w w') : Bg w' neg A ls c C := ⟨(h.sl.below hb).more hb.size, h.dig, h.norm, h.sign, h.len, h.cap⟩
theorem Bg.mono (h : Bg w neg A ls c C) (hC : C ≤ C') : Bg w neg A ls c C' := ⟨h.sl, h.dig, h.norm, h.sign, h.len, Nat.le_trans h.cap hC⟩
theorem Gives.mono {Z : Int} {e : Ending} (h : Gives w Z C e w') (hC : C ≤ C') : Gives w Z C' e w' := by
  obtain ⟨n, A, zs, c, h1, h2, h3, h4⟩ := h
  exact ⟨n, A, zs, c, h1, h2.mono hC, h3, h4⟩
end
/-- A slice of numbers does not lie where something else does. -/
theorem Sl.keepAt {k : IntKind} {w : World} {B : Nat} {A : Option Addr} {ls : List Nat} (h : Sl k w B A ls) {p : Addr} {v : Value} (hv : w.cell? p = some v) (hne : ∀ n, v ≠ .int k n) (u : Value) : Sl k (w.setCell p u) B A ls := fun hn => by
  obtain ⟨ad, e, hb, hc⟩ := h hn
  refine ⟨ad, e, hb, fun j hj => ?_⟩
  rw [World.cell?_setCell_other _ _ _ _ (fun e => by
    have h1 := hc j hj
    rw [← e] at h1
    rw [hv] at h1
    exact hne _ (Option.some.inj h1))]
  exact hc j hj
theorem sv_made {neg : Bool} {zs : List Nat} : sv (neg && decide (0 < zs.length)) (val W64 zs) = sv neg (val W64 zs) := by
  rcases Nat.eq_zero_or_pos zs.length with h | h
  · rw [List.eq_nil_of_length_eq_zero h]; cases neg <;> rfl
  · simp [h]
theorem sign_made {neg : Bool} {zs : List Nat} : zs = [] → (neg && decide (0 < zs.length)) = false := fun h => by subst h; simp

/-- Two numbers in two cells of the call's own: what stays while more memory is made. -/
structure Duo (w W : World) (p q : Nat) (n1 n2 : Bool) (A B : Option Addr) (xs ys : List Nat) (l1 c l2 d : Nat) : Prop where
  below : Below w.heap.size w W
  lp : p < W.heap.size
  lq : q < W.heap.size
  sa : Sl .u64 W w.heap.size A xs
  sb : Sl .u64 W w.heap.size B ys
  a0 : W.cell? ⟨p, 0, none⟩ = some (.bool n1)
  a1 : W.cell? ⟨p, 1, none⟩ = some (.slice A l1 c)
  b0 : W.cell? ⟨q, 0, none⟩ = some (.bool n2)
  b1 : W.cell? ⟨q, 1, none⟩ = some (.slice B l2 d)
abbrev DuoS (w W : World) (p q : Nat) (n1 n2 : Bool) (A B : Option Addr) (xs ys : List Nat) (l1 c l2 d : Nat) : Prop := Duo w W p q n1 n2 A B xs ys l1 c l2 d ∧ W.cell? ⟨p, 0, none⟩ = some (.bool n1) ∧ W.cell? ⟨p, 1, none⟩ = some (.slice A l1 c) ∧ W.cell? ⟨q, 0, none⟩ = some (.bool n2) ∧ W.cell? ⟨q, 1, none⟩ = some (.slice B l2 d)
section
variable {w W W' : World} {p q r : Nat} {n1 n2 : Bool} {A B : Option Addr} {xs ys : List Nat} {l1 c l2 d : Nat} {X : Prop}
theorem Duo.on (h : Duo w W p q n1 n2 A B xs ys l1 c l2 d) (hb : Below W.heap.size W W') : Duo w W' p q n1 n2 A B xs ys l1 c l2 d :=
  ⟨h.below.trans (hb.mono h.below.size), Nat.lt_of_lt_of_le h.lp hb.size, Nat.lt_of_lt_of_le h.lq hb.size, h.sa.below (hb.mono h.below.size), h.sb.below (hb.mono h.below.size),
   (hb.cell (p := ⟨p, 0, none⟩) h.lp).trans h.a0, (hb.cell (p := ⟨p, 1, none⟩) h.lp).trans h.a1, (hb.cell (p := ⟨q, 0, none⟩) h.lq).trans h.b0, (hb.cell (p := ⟨q, 1, none⟩) h.lq).trans h.b1⟩
theorem Duo.all (h : Duo w W p q n1 n2 A B xs ys l1 c l2 d) : DuoS w W p q n1 n2 A B xs ys l1 c l2 d := ⟨h, h.a0, h.a1, h.b0, h.b1⟩
theorem Duo.keep (h : Duo w W p q n1 n2 A B xs ys l1 c l2 d ∧ X) (hb : Below W.heap.size W W') : DuoS w W' p q n1 n2 A B xs ys l1 c l2 d := (h.1.on hb).all
/-- A cell elsewhere is written. -/
theorem Duo.set (h : Duo w W p q n1 n2 A B xs ys l1 c l2 d) {a : Addr} (hw : w.heap.size ≤ a.block) (hp : p ≠ a.block) (hq : q ≠ a.block) (u : Value) : Duo w (W.setCell a u) p q n1 n2 A B xs ys l1 c l2 d :=
  ⟨h.below.setCell hw u, by simpa using h.lp, by simpa using h.lq, h.sa.setCell hw u, h.sb.setCell hw u,
   (World.cell?_setCell_other _ _ _ _ (fun e => hp (by rw [e]))).trans h.a0, (World.cell?_setCell_other _ _ _ _ (fun e => hp (by rw [e]))).trans h.a1, (World.cell?_setCell_other _ _ _ _ (fun e => hq (by rw [e]))).trans h.b0, (World.cell?_setCell_other _ _ _ _ (fun e => hq (by rw [e]))).trans h.b1⟩
theorem Duo.put (h : Duo w W p q n1 n2 A B xs ys l1 c l2 d ∧ X) (hw : w.heap.size ≤ r) (hp : p ≠ r) (hq : q ≠ r) (u v : Value) : DuoS w ((W.setCell ⟨r, 0, none⟩ u).setCell ⟨r, 1, none⟩ v) p q n1 n2 A B xs ys l1 c l2 d :=
  ((h.1.set (a := ⟨r, 0, none⟩) hw hp hq u).set (a := ⟨r, 1, none⟩) hw hp hq v).all
theorem Duo.sa' (h : Duo w W p q n1 n2 A B xs ys l1 c l2 d ∧ X) : Sl .u64 W W.heap.size A xs := h.1.sa.more h.1.below.size
theorem Duo.sb' (h : Duo w W p q n1 n2 A B xs ys l1 c l2 d ∧ X) : Sl .u64 W W.heap.size B ys := h.1.sb.more h.1.below.size
/-- Both boxed. -/
theorem Duo.boxed (hr : Sl .u64 w w.heap.size A xs) (hs : Sl .u64 w w.heap.size B ys) :
    Duo w ((w.alloc (.cells #[.bool n1, .slice A l1 c] 85)).alloc (.cells #[.bool n2, .slice B l2 d] 85)) w.heap.size (w.heap.size + 1) n1 n2 A B xs ys l1 c l2 d := by
  refine ⟨by go_grown, by go_size, by go_size, ?_, ?_, by go_cell, by go_cell, by go_cell, by go_cell⟩
  · exact (hr.alloc (Nat.le_refl _) _).alloc (by go_size) _
  · exact (hs.alloc (Nat.le_refl _) _).alloc (by go_size) _
end

/-- Room for an answer. -/
structure Rest (W : World) (r : Nat) : Prop where
  lr : r < W.heap.size
  r0 : W.cell? ⟨r, 0, none⟩ = some (.bool false)
  r1 : W.cell? ⟨r, 1, none⟩ = some (.slice none 0 0)
  f0 : W.frozen? ⟨r, 0, none⟩ = false
  f1 : W.frozen? ⟨r, 1, none⟩ = false
theorem Rest.on {W W' : World} {r : Nat} (h : Rest W r) (hb : Below W.heap.size W W') : Rest W' r :=
  ⟨Nat.lt_of_lt_of_le h.lr hb.size, (hb.cell (p := ⟨r, 0, none⟩) h.lr).trans h.r0, (hb.cell (p := ⟨r, 1, none⟩) h.lr).trans h.r1, (hb.frozen (p := ⟨r, 0, none⟩) h.lr).trans h.f0, (hb.frozen (p := ⟨r, 1, none⟩) h.lr).trans h.f1⟩
theorem Rest.drew {W : World} {r : Nat} (h : Rest W r) : Rest W.drew r := ⟨h.lr, h.r0, h.r1, h.f0, h.f1⟩
theorem Rest.new (W : World) : Rest (W.alloc (.cells #[.bool false, .slice none 0 0] 85)) W.heap.size :=
  ⟨by simp, by go_cell, by go_cell, World.frozen?_alloc_new _ _ _ _, World.frozen?_alloc_new _ _ _ _⟩
/-- The answer is laid: what is there then. -/
theorem Rest.laid {w W : World} {r : Nat} {n : Bool} {V : Option Addr} {zs : List Nat} {e C : Nat} (h : Rest W r) (hb : Below w.heap.size w W) (hw : w.heap.size ≤ r) (hz : Bg W n V zs e C) :
    Bg ((W.setCell ⟨r, 0, none⟩ (.bool n)).setCell ⟨r, 1, none⟩ (.slice V zs.length e)) n V zs e C ∧ Below w.heap.size w ((W.setCell ⟨r, 0, none⟩ (.bool n)).setCell ⟨r, 1, none⟩ (.slice V zs.length e)) := by
  refine ⟨⟨?_, hz.dig, hz.norm, hz.sign, hz.len, hz.cap⟩, (hb.setCell hw _).setCell hw _⟩
  have h1 := (hz.sl.keepAt h.r0 (by intro _ e; cases e) (.bool n))
  have h2 : (W.setCell ⟨r, 0, none⟩ (.bool n)).cell? ⟨r, 1, none⟩ = some (.slice none 0 0) := by rw [World.cell?_setCell_other _ _ _ _ (by simp)]; exact h.r1
  have h3 := h1.keepAt h2 (by intro _ e; cases e) (.slice V zs.length e)
  simpa using h3

set_option maxHeartbeats 4000000 in
/-- The product. -/
theorem lmul_any (n1 n2 : Bool) (A B : Option Addr) (xs ys : List Nat) (c d : Nat) (w : World) (hx : Sl .u64 w w.heap.size A xs) (hy : Sl .u64 w w.heap.size B ys) (dx : Dig W64 xs) (dy : Dig W64 ys)
    (hl : (xs.length + ys.length) * 8 ≤ 140737488351232) :
    Calls Tryz.prog 129 #[big n1 A xs.length c, big n2 B ys.length d] w (Gives w (sv n1 (val W64 xs) * sv n2 (val W64 ys)) (xs.length + ys.length)) := by
  have ht := Duo.boxed (n1 := n1) (n2 := n2) (l1 := xs.length) (c := c) (l2 := ys.length) (d := d) hx hy
  have hr := Rest.new ((w.alloc (.cells #[.bool n1, .slice A xs.length c] 85)).alloc (.cells #[.bool n2, .slice B ys.length d] 85))
  have hall := Duo.keep (W' := ((w.alloc (.cells #[.bool n1, .slice A xs.length c] 85)).alloc (.cells #[.bool n2, .slice B ys.length d] 85)).alloc (.cells #[.bool false, .slice none 0 0] 85)) (ht.all) (by go_grown)
  rw [show ((w.alloc (.cells #[.bool n1, .slice A xs.length c] 85)).alloc (.cells #[.bool n2, .slice B ys.length d] 85)).heap.size = w.heap.size + 1 + 1 by go_size] at hr
  clear ht
  go_enter Tryz.func129, Tryz.ntmps129
  go_wp2_with fail
  generalize hW : (((w.alloc (.cells #[.bool n1, .slice A xs.length c] 85)).alloc (.cells #[.bool n2, .slice B ys.length d] 85)).alloc (.cells #[.bool false, .slice none 0 0] 85)) = W at *
  clear hW
  go_region_held3 (fun W' => Duo w W' w.heap.size (w.heap.size + 1) n1 n2 A B xs ys xs.length c ys.length d ∧ W'.cell? ⟨w.heap.size, 0, none⟩ = some (.bool n1) ∧ W'.cell? ⟨w.heap.size, 1, none⟩ = some (.slice A xs.length c) ∧ W'.cell? ⟨w.heap.size + 1, 0, none⟩ = some (.bool n2) ∧ W'.cell? ⟨w.heap.size + 1, 1, none⟩ = some (.slice B ys.length d))
    (first | exact hall | exact Duo.keep hall ((Below.refl _ _).drew) | exact Duo.keep (by assumption) (by assumption) | exact Duo.keep (by assumption) ((Below.refl _ _).drew) | exact Duo.put (by assumption) (by omega) (by omega) (by omega) _ _)
    (first
      | (go_at_call 155; refine (product_any A B xs ys c d _ (Duo.sa' (by assumption)) (Duo.sb' (by assumption)) dx dy hl).mono ?_; rintro e w' ⟨V, zs, k, rfl, hs1, hd1, hn1, hv1, hk1, hk2, hb⟩
         have hr1 := (Rest.drew hr).on hb
         have hw1 := (hall.1.below.drew).trans (hb.mono hall.1.below.size))
      | (go_at_call 146; refine (made_any _ V zs.length k _ (by unfold maxLen; omega)).mono ?_; rintro e w2 ⟨rfl, hb2⟩
         have hr2 := hr1.on hb2
         have hw2 := hw1.trans (hb2.mono hw1.size)
         have g0 := hr2.r0
         have g1 := hr2.r1
         have g2 := hr2.f0
         have g3 := hr2.f1))
  have hB : Bg w2 (!(n1 == n2) && decide (0 < zs.length)) V zs k (xs.length + ys.length) := ⟨(hs1.below hb2).more hb2.size, hd1, hn1, sign_made, hk1, hk2⟩
  have hL := hr2.laid hw2 (by omega) hB
  go_wp2
  refine bodyPost_ret (v := big (!(n1 == n2) && decide (0 < zs.length)) V zs.length k) (by simp [results, Tryz.results129, go_sem, g0, g1]) rfl ⟨_, V, zs, k, rfl, hL.1, ?_, hL.2⟩
  rw [sv_made, hv1]
  cases n1 <;> cases n2 <;> simp [sv, Int.neg_mul, Int.mul_neg]
end Go.Proofs.YtplgheabhekedaaGreatDoor
