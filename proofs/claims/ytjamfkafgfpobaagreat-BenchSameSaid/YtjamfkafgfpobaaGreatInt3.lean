/-
  Plain facts and contracts that hold in this seat: joined by program. Conditions: as each theorem states.
-/
import Derived.Test.YtjamfkafgfpobaaGreatQuo
import Derived.Test.YtjamfkafgfpobaaGreatOf
import Derived.Deep.RegionHeld3
namespace Go.Proofs.YtjamfkafgfpobaaGreat
open Go.RowKit Nb
/-- What a sign and a size are worth. -/
def sv (neg : Bool) (v : Nat) : Int := if neg then -(v : Int) else v
/-- A number in words. -/
structure Bg (w : World) (neg : Bool) (A : Option Addr) (ls : List Nat) (c C : Nat) : Prop where
  sl : Sl .u64 w w.heap.size A ls
  dig : Dig W64 ls
  norm : Norm ls
  sign : ls = [] → neg = false
  len : ls.length ≤ c
  cap : ls.length ≤ C
  room : c ≤ maxLen
/-- It answers this number. -/
def Gives (w : World) (Z : Int) (C : Nat) (e : Ending) (w' : World) : Prop := ∃ (neg : Bool) (A : Option Addr) (zs : List Nat) (c : Nat), e = .returned (big neg A zs.length c) ∧ Bg w' neg A zs c C ∧ sv neg (val W64 zs) = Z ∧ Below w.heap.size w w'
section
variable {w w' : World} {neg : Bool} {A : Option Addr} {ls : List Nat} {c C C' : Nat}
theorem Bg.below (h : Bg w neg A ls c C) (hb : Below w.heap.size w w') : Bg w' neg A ls c C := ⟨(h.sl.below hb).more hb.size, h.dig, h.norm, h.sign, h.len, h.cap, h.room⟩
theorem Bg.mono (h : Bg w neg A ls c C) (hC : C ≤ C') : Bg w neg A ls c C' := ⟨h.sl, h.dig, h.norm, h.sign, h.len, Nat.le_trans h.cap hC, h.room⟩
theorem Gives.mono {Z : Int} {e : Ending} (h : Gives w Z C e w') (hC : C ≤ C') : Gives w Z C' e w' := by
  obtain ⟨n, A, zs, c, h1, h2, h3, h4⟩ := h
  exact ⟨n, A, zs, c, h1, h2.mono hC, h3, h4⟩
end
/-- A slice of numbers does not lie where something else does. -/
theorem Sl.keepAt {k : IntKind} {w : World} {B : Nat} {A : Option Addr} {ls : List Nat} (h : Sl k w B A ls) {p : Addr} {v : Value} (hv : w.cell? p = some v) (hne : ∀ n, v ≠ .int k n) (u : Value) : Sl k (w.setCell p u) B A ls := fun hn => by
  obtain ⟨ad, e, hb, hc⟩ := h hn
  refine ⟨ad, e, hb, fun j hj => ?_⟩
  rw [World.cell?_setCell_other _ _ _ _ (fun e => by
    have h1 := hc j hj
    rw [← e] at h1
    rw [hv] at h1
    exact hne _ (Option.some.inj h1))]
  exact hc j hj
theorem sv_made {neg : Bool} {zs : List Nat} : sv (neg && decide (0 < zs.length)) (val W64 zs) = sv neg (val W64 zs) := by
  rcases Nat.eq_zero_or_pos zs.length with h | h
  · rw [List.eq_nil_of_length_eq_zero h]; cases neg <;> rfl
  · simp [h]
theorem sign_made {neg : Bool} {zs : List Nat} : zs = [] → (neg && decide (0 < zs.length)) = false := fun h => by subst h; simp
/-- Two numbers in two cells of the call's own: what stays while more memory is made. -/
structure Duo (w W : World) (p q : Nat) (n1 n2 : Bool) (A B : Option Addr) (xs ys : List Nat) (l1 c l2 d : Nat) : Prop where
  below : Below w.heap.size w W
  lp : p < W.heap.size
  lq : q < W.heap.size
  sa : Sl .u64 W w.heap.size A xs
  sb : Sl .u64 W w.heap.size B ys
  a0 : W.cell? ⟨p, 0, none⟩ = some (.bool n1)
  a1 : W.cell? ⟨p, 1, none⟩ = some (.slice A l1 c)
  b0 : W.cell? ⟨q, 0, none⟩ = some (.bool n2)
  b1 : W.cell? ⟨q, 1, none⟩ = some (.slice B l2 d)
abbrev DuoS (w W : World) (p q : Nat) (n1 n2 : Bool) (A B : Option Addr) (xs ys : List Nat) (l1 c l2 d : Nat) : Prop := Duo w W p q n1 n2 A B xs ys l1 c l2 d ∧ W.cell? ⟨p, 0, none⟩ = some (.bool n1) ∧ W.cell? ⟨p, 1, none⟩ = some (.slice A l1 c) ∧ W.cell? ⟨q, 0, none⟩ = some (.bool n2) ∧ W.cell? ⟨q, 1, none⟩ = some (.slice B l2 d)
section
variable {w W W' : World} {p q r : Nat} {n1 n2 : Bool} {A B : Option Addr} {xs ys : List Nat} {l1 c l2 d : Nat} {X : Prop}
theorem Duo.on (h : Duo w W p q n1 n2 A B xs ys l1 c l2 d) (hb : Below W.heap.size W W') : Duo w W' p q n1 n2 A B xs ys l1 c l2 d :=
  ⟨h.below.trans (hb.mono h.below.size), Nat.lt_of_lt_of_le h.lp hb.size, Nat.lt_of_lt_of_le h.lq hb.size, h.sa.below (hb.mono h.below.size), h.sb.below (hb.mono h.below.size),
   (hb.cell (p := ⟨p, 0, none⟩) h.lp).trans h.a0, (hb.cell (p := ⟨p, 1, none⟩) h.lp).trans h.a1, (hb.cell (p := ⟨q, 0, none⟩) h.lq).trans h.b0, (hb.cell (p := ⟨q, 1, none⟩) h.lq).trans h.b1⟩
theorem Duo.all (h : Duo w W p q n1 n2 A B xs ys l1 c l2 d) : DuoS w W p q n1 n2 A B xs ys l1 c l2 d := ⟨h, h.a0, h.a1, h.b0, h.b1⟩
theorem Duo.keep (h : Duo w W p q n1 n2 A B xs ys l1 c l2 d ∧ X) (hb : Below W.heap.size W W') : DuoS w W' p q n1 n2 A B xs ys l1 c l2 d := (h.1.on hb).all
/-- A cell elsewhere is written. -/
theorem Duo.set (h : Duo w W p q n1 n2 A B xs ys l1 c l2 d) {a : Addr} (hw : w.heap.size ≤ a.block) (hp : p ≠ a.block) (hq : q ≠ a.block) (u : Value) : Duo w (W.setCell a u) p q n1 n2 A B xs ys l1 c l2 d :=
  ⟨h.below.setCell hw u, by simpa using h.lp, by simpa using h.lq, h.sa.setCell hw u, h.sb.setCell hw u,
   (World.cell?_setCell_other _ _ _ _ (fun e => hp (by rw [e]))).trans h.a0, (World.cell?_setCell_other _ _ _ _ (fun e => hp (by rw [e]))).trans h.a1, (World.cell?_setCell_other _ _ _ _ (fun e => hq (by rw [e]))).trans h.b0, (World.cell?_setCell_other _ _ _ _ (fun e => hq (by rw [e]))).trans h.b1⟩
theorem Duo.put (h : Duo w W p q n1 n2 A B xs ys l1 c l2 d ∧ X) (hw : w.heap.size ≤ r) (hp : p ≠ r) (hq : q ≠ r) (u v : Value) : DuoS w ((W.setCell ⟨r, 0, none⟩ u).setCell ⟨r, 1, none⟩ v) p q n1 n2 A B xs ys l1 c l2 d :=
  ((h.1.set (a := ⟨r, 0, none⟩) hw hp hq u).set (a := ⟨r, 1, none⟩) hw hp hq v).all
theorem Duo.sa' (h : Duo w W p q n1 n2 A B xs ys l1 c l2 d ∧ X) : Sl .u64 W W.heap.size A xs := h.1.sa.more h.1.below.size
theorem Duo.sb' (h : Duo w W p q n1 n2 A B xs ys l1 c l2 d ∧ X) : Sl .u64 W W.heap.size B ys := h.1.sb.more h.1.below.size
/-- Both boxed. -/
theorem Duo.boxed (hr : Sl .u64 w w.heap.size A xs) (hs : Sl .u64 w w.heap.size B ys) :
    Duo w ((w.alloc (.cells #[.bool n1, .slice A l1 c] 72)).alloc (.cells #[.bool n2, .slice B l2 d] 72)) w.heap.size (w.heap.size + 1) n1 n2 A B xs ys l1 c l2 d := by
  refine ⟨by go_grown, by go_size, by go_size, ?_, ?_, by go_cell, by go_cell, by go_cell, by go_cell⟩
  · exact (hr.alloc (Nat.le_refl _) _).alloc (by go_size) _
  · exact (hs.alloc (Nat.le_refl _) _).alloc (by go_size) _
end
/-- Room for an answer. -/
structure Rest (W : World) (r : Nat) : Prop where
  lr : r < W.heap.size
  r0 : W.cell? ⟨r, 0, none⟩ = some (.bool false)
  r1 : W.cell? ⟨r, 1, none⟩ = some (.slice none 0 0)
  f0 : W.frozen? ⟨r, 0, none⟩ = false
  f1 : W.frozen? ⟨r, 1, none⟩ = false
theorem Rest.on {W W' : World} {r : Nat} (h : Rest W r) (hb : Below W.heap.size W W') : Rest W' r :=
  ⟨Nat.lt_of_lt_of_le h.lr hb.size, (hb.cell (p := ⟨r, 0, none⟩) h.lr).trans h.r0, (hb.cell (p := ⟨r, 1, none⟩) h.lr).trans h.r1, (hb.frozen (p := ⟨r, 0, none⟩) h.lr).trans h.f0, (hb.frozen (p := ⟨r, 1, none⟩) h.lr).trans h.f1⟩
theorem Rest.drew {W : World} {r : Nat} (h : Rest W r) : Rest W.drew r := ⟨h.lr, h.r0, h.r1, h.f0, h.f1⟩
theorem Rest.new (W : World) : Rest (W.alloc (.cells #[.bool false, .slice none 0 0] 72)) W.heap.size :=
  ⟨by simp, by go_cell, by go_cell, World.frozen?_alloc_new _ _ _ _, World.frozen?_alloc_new _ _ _ _⟩
/-- The answer is laid: what is there then. -/
theorem Rest.laid {w W : World} {r : Nat} {n : Bool} {V : Option Addr} {zs : List Nat} {e C : Nat} (h : Rest W r) (hb : Below w.heap.size w W) (hw : w.heap.size ≤ r) (hz : Bg W n V zs e C) :
    Bg ((W.setCell ⟨r, 0, none⟩ (.bool n)).setCell ⟨r, 1, none⟩ (.slice V zs.length e)) n V zs e C ∧ Below w.heap.size w ((W.setCell ⟨r, 0, none⟩ (.bool n)).setCell ⟨r, 1, none⟩ (.slice V zs.length e)) := by
  refine ⟨⟨?_, hz.dig, hz.norm, hz.sign, hz.len, hz.cap, hz.room⟩, (hb.setCell hw _).setCell hw _⟩
  have h1 := (hz.sl.keepAt h.r0 (by intro _ e; cases e) (.bool n))
  have h2 : (W.setCell ⟨r, 0, none⟩ (.bool n)).cell? ⟨r, 1, none⟩ = some (.slice none 0 0) := by rw [World.cell?_setCell_other _ _ _ _ (by simp)]; exact h.r1
  have h3 := h1.keepAt h2 (by intro _ e; cases e) (.slice V zs.length e)
  simpa using h3
set_option maxHeartbeats 4000000 in
/-- The product. -/
theorem lmul_any (n1 n2 : Bool) (A B : Option Addr) (xs ys : List Nat) (c d : Nat) (w : World) (hx : Sl .u64 w w.heap.size A xs) (hy : Sl .u64 w w.heap.size B ys) (dx : Dig W64 xs) (dy : Dig W64 ys)
    (hl : (xs.length + ys.length) * 8 ≤ 140737488351232) :
    Calls Tryz.prog 88 #[big n1 A xs.length c, big n2 B ys.length d] w (Gives w (sv n1 (val W64 xs) * sv n2 (val W64 ys)) (xs.length + ys.length)) := by
  have ht := Duo.boxed (n1 := n1) (n2 := n2) (l1 := xs.length) (c := c) (l2 := ys.length) (d := d) hx hy
  have hr := Rest.new ((w.alloc (.cells #[.bool n1, .slice A xs.length c] 72)).alloc (.cells #[.bool n2, .slice B ys.length d] 72))
  have hall := Duo.keep (W' := ((w.alloc (.cells #[.bool n1, .slice A xs.length c] 72)).alloc (.cells #[.bool n2, .slice B ys.length d] 72)).alloc (.cells #[.bool false, .slice none 0 0] 72)) (ht.all) (by go_grown)
  rw [show ((w.alloc (.cells #[.bool n1, .slice A xs.length c] 72)).alloc (.cells #[.bool n2, .slice B ys.length d] 72)).heap.size = w.heap.size + 1 + 1 by go_size] at hr
  clear ht
  go_enter Tryz.func88, Tryz.ntmps88
  go_wp2_with fail
  generalize hW : (((w.alloc (.cells #[.bool n1, .slice A xs.length c] 72)).alloc (.cells #[.bool n2, .slice B ys.length d] 72)).alloc (.cells #[.bool false, .slice none 0 0] 72)) = W at *
  clear hW
  go_region_held3 (fun W' => Duo w W' w.heap.size (w.heap.size + 1) n1 n2 A B xs ys xs.length c ys.length d ∧ W'.cell? ⟨w.heap.size, 0, none⟩ = some (.bool n1) ∧ W'.cell? ⟨w.heap.size, 1, none⟩ = some (.slice A xs.length c) ∧ W'.cell? ⟨w.heap.size + 1, 0, none⟩ = some (.bool n2) ∧ W'.cell? ⟨w.heap.size + 1, 1, none⟩ = some (.slice B ys.length d))
    (first | exact hall | exact Duo.keep hall ((Below.refl _ _).drew) | exact Duo.keep (by assumption) (by assumption) | exact Duo.keep (by assumption) ((Below.refl _ _).drew) | exact Duo.put (by assumption) (by omega) (by omega) (by omega) _ _)
    (first
      | (go_at_call 119; refine (product_any A B xs ys c d _ (Duo.sa' (by assumption)) (Duo.sb' (by assumption)) dx dy hl).mono ?_; rintro e w' ⟨V, zs, k, rfl, hs1, hd1, hn1, hv1, hk1, hk2, hb⟩
         have hr1 := (Rest.drew hr).on hb
         have hw1 := (hall.1.below.drew).trans (hb.mono hall.1.below.size))
      | (go_at_call 118; refine (made_any _ V zs.length k _ (by unfold maxLen; omega)).mono ?_; rintro e w2 ⟨rfl, hb2⟩
         have hr2 := hr1.on hb2
         have hw2 := hw1.trans (hb2.mono hw1.size)
         have g0 := hr2.r0
         have g1 := hr2.r1
         have g2 := hr2.f0
         have g3 := hr2.f1))
  have hB : Bg w2 (!(n1 == n2) && decide (0 < zs.length)) V zs k (xs.length + ys.length) := ⟨(hs1.below hb2).more hb2.size, hd1, hn1, sign_made, hk1, Nat.le_trans hk1 hk2, Nat.le_trans hk2 (by unfold maxLen; omega)⟩
  have hL := hr2.laid hw2 (by omega) hB
  go_wp2
  refine bodyPost_ret (v := big (!(n1 == n2) && decide (0 < zs.length)) V zs.length k) (by simp [results, Tryz.results88, go_sem, g0, g1]) rfl ⟨_, V, zs, k, rfl, hL.1, ?_, hL.2⟩
  rw [sv_made, hv1]
  cases n1 <;> cases n2 <;> simp [sv, Int.neg_mul, Int.mul_neg]
end Go.Proofs.YtjamfkafgfpobaaGreat
namespace Go.Proofs.YtjamfkafgfpobaaGreat
open Go.RowKit Nb
section
variable {w W W' : World} {p q r : Nat} {n1 n2 : Bool} {A B : Option Addr} {xs ys : List Nat} {l1 c l2 d : Nat} {X : Prop}
theorem Duo.swap (h : Duo w W p q n1 n2 A B xs ys l1 c l2 d) (hp : w.heap.size ≤ p) (hq : w.heap.size ≤ q) (hne : p ≠ q) :
    Duo w ((((W.setCell ⟨p, 0, none⟩ (.bool n2)).setCell ⟨p, 1, none⟩ (.slice B l2 d)).setCell ⟨q, 0, none⟩ (.bool n1)).setCell ⟨q, 1, none⟩ (.slice A l1 c)) p q n2 n1 B A ys xs l2 d l1 c := by
  have c1 : ∀ (W : World) (a b : Addr) (u : Value), a ≠ b → (W.setCell a u).cell? b = W.cell? b := fun W a b u hab => World.cell?_setCell_other W a b u hab
  have s1 : ∀ (W : World) (a : Addr) (u v : Value), W.cell? a = some v → (W.setCell a u).cell? a = some u := fun W a u v hv => World.cell?_setCell_same W a u hv
  refine ⟨(((h.below.setCell hp _).setCell hp _).setCell hq _).setCell hq _, by simpa using h.lp, by simpa using h.lq, (((h.sb.setCell hp _).setCell hp _).setCell hq _).setCell hq _, (((h.sa.setCell hp _).setCell hp _).setCell hq _).setCell hq _, ?_, ?_, ?_, ?_⟩
  · rw [c1 _ _ _ _ (by first | (simp; done) | (simp; omega)), c1 _ _ _ _ (by first | (simp; done) | (simp; omega)), c1 _ _ _ _ (by simp)]; exact s1 _ _ _ _ h.a0
  · rw [c1 _ _ _ _ (by first | (simp; done) | (simp; omega)), c1 _ _ _ _ (by first | (simp; done) | (simp; omega))]; exact s1 _ _ _ _ ((c1 _ _ _ _ (by simp)).trans h.a1)
  · rw [c1 _ _ _ _ (by simp)]; exact s1 _ _ _ _ (((c1 _ _ _ _ (by first | (simp; done) | (simp; omega))).trans (c1 _ _ _ _ (by first | (simp; done) | (simp; omega)))).trans h.b0)
  · exact s1 _ _ _ _ ((((c1 _ _ _ _ (by simp)).trans (c1 _ _ _ _ (by first | (simp; done) | (simp; omega)))).trans (c1 _ _ _ _ (by first | (simp; done) | (simp; omega)))).trans h.b1)
end
theorem Rest.set {W : World} {r : Nat} (h : Rest W r) {a : Addr} (hne : a.block ≠ r) (u : Value) : Rest (W.setCell a u) r :=
  ⟨by simpa using h.lr, (World.cell?_setCell_other _ _ _ _ (fun e => hne (by rw [e]))).trans h.r0, (World.cell?_setCell_other _ _ _ _ (fun e => hne (by rw [e]))).trans h.r1,
   (World.frozen?_of_block (w := W) (Below.heap_setCell W a u r (Ne.symm hne))).trans h.f0, (World.frozen?_of_block (w := W) (Below.heap_setCell W a u r (Ne.symm hne))).trans h.f1⟩
theorem qu_n (w : World) (n : Nat) : Qu w (w.drewN n) := ⟨n, rfl⟩
theorem Rest.qu {W W' : World} {r : Nat} (h : Rest W r) (q : Qu W W') : Rest W' r := by
  obtain ⟨n, rfl⟩ := q
  exact ⟨h.lr, h.r0, h.r1, h.f0, h.f1⟩
set_option maxHeartbeats 4000000 in
theorem ladd_same (n : Bool) (A B : Option Addr) (xs ys : List Nat) (c d : Nat) (w : World) (hx : Sl .u64 w w.heap.size A xs) (hy : Sl .u64 w w.heap.size B ys) (dx : Dig W64 xs) (dy : Dig W64 ys) (hl : (xs.length + 1) * 8 ≤ 140737488351232) (hk : (ys.length + 1) * 8 ≤ 140737488351232) :
    Calls Tryz.prog 108 #[big n A xs.length c, big n B ys.length d] w (Gives w (sv n (val W64 xs) + sv n (val W64 ys)) (max xs.length ys.length + 1)) := by
  have ht := Duo.boxed (n1 := n) (n2 := n) (l1 := xs.length) (c := c) (l2 := ys.length) (d := d) hx hy
  have hr := Rest.new ((w.alloc (.cells #[.bool n, .slice A xs.length c] 72)).alloc (.cells #[.bool n, .slice B ys.length d] 72))
  have hall := Duo.keep (W' := (((w.alloc (.cells #[.bool n, .slice A xs.length c] 72)).alloc (.cells #[.bool n, .slice B ys.length d] 72)).alloc (.cells #[.bool false, .slice none 0 0] 72))) (ht.all) (by go_grown)
  rw [show ((w.alloc (.cells #[.bool n, .slice A xs.length c] 72)).alloc (.cells #[.bool n, .slice B ys.length d] 72)).heap.size = w.heap.size + 1 + 1 by go_size] at hr
  clear ht
  go_enter Tryz.func108, Tryz.ntmps108
  go_wp2_with fail
  generalize hW : (((w.alloc (.cells #[.bool n, .slice A xs.length c] 72)).alloc (.cells #[.bool n, .slice B ys.length d] 72)).alloc (.cells #[.bool false, .slice none 0 0] 72)) = W at *
  clear hW
  go_region_held3 (fun W' => Duo w W' w.heap.size (w.heap.size + 1) n n A B xs ys xs.length c ys.length d ∧ W'.cell? ⟨w.heap.size, 0, none⟩ = some (.bool n) ∧ W'.cell? ⟨w.heap.size, 1, none⟩ = some (.slice A xs.length c) ∧ W'.cell? ⟨w.heap.size + 1, 0, none⟩ = some (.bool n) ∧ W'.cell? ⟨w.heap.size + 1, 1, none⟩ = some (.slice B ys.length d))
    (first | exact hall | exact Duo.keep hall ((Below.refl _ _).drew) | exact Duo.keep (by assumption) (by assumption) | exact Duo.keep (by assumption) ((Below.refl _ _).drew) | exact Duo.put (by assumption) (by omega) (by omega) (by omega) _ _)
    (first
      | (go_at_call 125; refine (sum_any A B xs ys c d _ (Duo.sa' (by assumption)) (Duo.sb' (by assumption)) dx dy hl hk).mono ?_; rintro e w' ⟨V, zs, k, rfl, hs1, hd1, hn1, hv1, hk1, hk2, hb⟩
         have hr1 := (Rest.drew hr).on hb
         have hw1 := (hall.1.below.drew).trans (hb.mono hall.1.below.size))
      | (go_at_call 118; refine (made_any _ V zs.length k _ (by unfold maxLen; omega)).mono ?_; rintro e w2 ⟨rfl, hb2⟩
         have hr2 := hr1.on hb2
         have hw2 := hw1.trans (hb2.mono hw1.size)
         have g0 := hr2.r0
         have g1 := hr2.r1
         have g2 := hr2.f0
         have g3 := hr2.f1))
  have hB : Bg w2 (n && decide (0 < zs.length)) V zs k (max xs.length ys.length + 1) := ⟨(hs1.below hb2).more hb2.size, hd1, hn1, sign_made, hk1, by omega, by unfold maxLen; omega⟩
  have hL := hr2.laid hw2 (by omega) hB
  go_wp2
  refine bodyPost_ret (v := big (n && decide (0 < zs.length)) V zs.length k) (by simp [results, Tryz.results108, go_sem, g0, g1]) rfl ⟨_, V, zs, k, rfl, hL.1, ?_, hL.2⟩
  rw [sv_made, hv1]
  cases n <;> simp [sv] <;> omega
set_option maxHeartbeats 4000000 in
theorem ladd_more (n : Bool) (A B : Option Addr) (xs ys : List Nat) (c d : Nat) (w : World) (hx : Sl .u64 w w.heap.size A xs) (hy : Sl .u64 w w.heap.size B ys) (dx : Dig W64 xs) (dy : Dig W64 ys) (nx : Norm xs) (ny : Norm ys) (hl : (xs.length + 1) * 8 ≤ 140737488351232) (hk : (ys.length + 1) * 8 ≤ 140737488351232) (hge : val W64 ys ≤ val W64 xs) :
    Calls Tryz.prog 108 #[big n A xs.length c, big (!n) B ys.length d] w (Gives w (sv n (val W64 xs) + sv (!n) (val W64 ys)) (max xs.length ys.length + 1)) := by
  have hlen := norm_len_le (B := W64) (by decide) ny dx hge
  have hnb : (n == !n) = false := by cases n <;> rfl
  have ht := Duo.boxed (n1 := n) (n2 := (!n)) (l1 := xs.length) (c := c) (l2 := ys.length) (d := d) hx hy
  have hr := Rest.new ((w.alloc (.cells #[.bool n, .slice A xs.length c] 72)).alloc (.cells #[.bool (!n), .slice B ys.length d] 72))
  have hall := Duo.keep (W' := (((w.alloc (.cells #[.bool n, .slice A xs.length c] 72)).alloc (.cells #[.bool (!n), .slice B ys.length d] 72)).alloc (.cells #[.bool false, .slice none 0 0] 72))) (ht.all) (by go_grown)
  rw [show ((w.alloc (.cells #[.bool n, .slice A xs.length c] 72)).alloc (.cells #[.bool (!n), .slice B ys.length d] 72)).heap.size = w.heap.size + 1 + 1 by go_size] at hr
  clear ht
  go_enter Tryz.func108, Tryz.ntmps108
  go_wp2_with fail
  generalize hW : (((w.alloc (.cells #[.bool n, .slice A xs.length c] 72)).alloc (.cells #[.bool (!n), .slice B ys.length d] 72)).alloc (.cells #[.bool false, .slice none 0 0] 72)) = W at *
  clear hW
  have hcmp := compare_any A B xs ys c d W (Duo.sa' hall) (Duo.sb' hall) dx dy nx ny (by omega) (by omega)
  have hz := cmpI_ge (x := (val W64 xs : Nat)) (y := (val W64 ys : Nat)) (by omega)
  generalize cmpI (val W64 xs : Nat) (val W64 ys : Nat) = z at *
  have HC := Lib.hid hcmp
  clear hcmp
  refine (HC.out).mono ?_
  rintro e W1 ⟨rfl, hq⟩
  have hall1 := Duo.keep hall (hq.below _)
  have hr0 := hr.qu hq
  clear hall hr
  obtain ⟨hall, hr⟩ := And.intro hall1 hr0
  clear hall1 hr0
  go_wp2_with fail
  go_region_held3 (fun W' => Duo w W' w.heap.size (w.heap.size + 1) n (!n) A B xs ys xs.length c ys.length d ∧ W'.cell? ⟨w.heap.size, 0, none⟩ = some (.bool n) ∧ W'.cell? ⟨w.heap.size, 1, none⟩ = some (.slice A xs.length c) ∧ W'.cell? ⟨w.heap.size + 1, 0, none⟩ = some (.bool (!n)) ∧ W'.cell? ⟨w.heap.size + 1, 1, none⟩ = some (.slice B ys.length d))
    (first | exact hall | exact Duo.keep hall ((Below.refl _ _).drew) | exact Duo.keep (by assumption) (by assumption) | exact Duo.keep (by assumption) ((Below.refl _ _).drew) | exact Duo.put (by assumption) (by omega) (by omega) (by omega) _ _)
    (first
      | (go_at_call 126; refine (difference_any A B xs ys c d _ (Duo.sa' (by assumption)) (Duo.sb' (by assumption)) dx dy (by omega) hlen hge).mono ?_; rintro e w' ⟨V, zs, k, rfl, hs1, hd1, hn1, hv1, hk1, hk2, hb⟩
         have hr1 := (Rest.drew hr).on hb
         have hw1 := (hall.1.below.drew).trans (hb.mono hall.1.below.size))
      | (go_at_call 118; refine (made_any _ V zs.length k _ (by unfold maxLen; omega)).mono ?_; rintro e w2 ⟨rfl, hb2⟩
         have hr2 := hr1.on hb2
         have hw2 := hw1.trans (hb2.mono hw1.size)
         have g0 := hr2.r0
         have g1 := hr2.r1
         have g2 := hr2.f0
         have g3 := hr2.f1))
  have hB : Bg w2 (n && decide (0 < zs.length)) V zs k (max xs.length ys.length + 1) := ⟨(hs1.below hb2).more hb2.size, hd1, hn1, sign_made, hk1, by omega, by unfold maxLen; omega⟩
  have hL := hr2.laid hw2 (by omega) hB
  go_wp2
  refine bodyPost_ret (v := big (n && decide (0 < zs.length)) V zs.length k) (by simp [results, Tryz.results108, go_sem, g0, g1]) rfl ⟨_, V, zs, k, rfl, hL.1, ?_, hL.2⟩
  rw [sv_made, hv1]
  cases n <;> simp [sv] <;> omega
set_option maxHeartbeats 4000000 in
theorem ladd_less (n : Bool) (A B : Option Addr) (xs ys : List Nat) (c d : Nat) (w : World) (hx : Sl .u64 w w.heap.size A xs) (hy : Sl .u64 w w.heap.size B ys) (dx : Dig W64 xs) (dy : Dig W64 ys) (nx : Norm xs) (ny : Norm ys) (hl : (xs.length + 1) * 8 ≤ 140737488351232) (hk : (ys.length + 1) * 8 ≤ 140737488351232) (hlt : val W64 xs < val W64 ys) :
    Calls Tryz.prog 108 #[big n A xs.length c, big (!n) B ys.length d] w (Gives w (sv n (val W64 xs) + sv (!n) (val W64 ys)) (max xs.length ys.length + 1)) := by
  have hlen := norm_len_le (B := W64) (by decide) nx dy (Nat.le_of_lt hlt)
  have hnb : (n == !n) = false := by cases n <;> rfl
  have ht := Duo.boxed (n1 := n) (n2 := (!n)) (l1 := xs.length) (c := c) (l2 := ys.length) (d := d) hx hy
  have hall := Duo.keep (W' := (((w.alloc (.cells #[.bool n, .slice A xs.length c] 72)).alloc (.cells #[.bool (!n), .slice B ys.length d] 72)).alloc (.cells #[.bool false, .slice none 0 0] 72))) (ht.all) (by go_grown)
  have hcmp := compare_any A B xs ys c d (((w.alloc (.cells #[.bool n, .slice A xs.length c] 72)).alloc (.cells #[.bool (!n), .slice B ys.length d] 72)).alloc (.cells #[.bool false, .slice none 0 0] 72)) (Duo.sa' hall) (Duo.sb' hall) dx dy nx ny (by omega) (by omega)
  rw [cmpI_lt (by omega)] at hcmp
  have HC := Lib.hid hcmp
  have hr := Rest.new ((w.alloc (.cells #[.bool n, .slice A xs.length c] 72)).alloc (.cells #[.bool (!n), .slice B ys.length d] 72))
  rw [show ((w.alloc (.cells #[.bool n, .slice A xs.length c] 72)).alloc (.cells #[.bool (!n), .slice B ys.length d] 72)).heap.size = w.heap.size + 1 + 1 by go_size] at hr
  have HALL := Lib.hid hall
  have HR := Lib.hid hr
  clear hcmp hall ht hr
  go_enter Tryz.func108, Tryz.ntmps108
  go_wp2_with fail
  refine (HC.out).mono ?_
  rintro e W1 ⟨rfl, nq, rfl⟩
  have hsw := (Duo.keep HALL.out ((qu_n _ nq).below _)).1.swap (Nat.le_refl _) (by omega) (by omega)
  have hr := ((((HR.out.qu (qu_n _ nq)).set (a := ⟨w.heap.size, 0, none⟩) (by simp; omega) (.bool (!n))).set (a := ⟨w.heap.size, 1, none⟩) (by simp; omega) (.slice B ys.length d)).set (a := ⟨w.heap.size + 1, 0, none⟩) (by simp) (.bool n)).set (a := ⟨w.heap.size + 1, 1, none⟩) (by simp) (.slice A xs.length c)
  have hall := hsw.all
  have HALL2 := Lib.hid hall
  have HR2 := Lib.hid hr
  clear hsw hall hr
  go_wp2_with fail
  generalize hW : (((((((w.alloc (.cells #[.bool n, .slice A xs.length c] 72)).alloc (.cells #[.bool (!n), .slice B ys.length d] 72)).alloc (.cells #[.bool false, .slice none 0 0] 72)).drewN nq).setCell ⟨w.heap.size, 0, none⟩ (.bool (!n))).setCell ⟨w.heap.size, 1, none⟩ (.slice B ys.length d)).setCell ⟨w.heap.size + 1, 0, none⟩ (.bool n)).setCell ⟨w.heap.size + 1, 1, none⟩ (.slice A xs.length c) = W at *
  clear hW
  have hall := HALL2.out
  have hr := HR2.out
  go_region_held3 (fun W' => Duo w W' w.heap.size (w.heap.size + 1) (!n) n B A ys xs ys.length d xs.length c ∧ W'.cell? ⟨w.heap.size, 0, none⟩ = some (.bool (!n)) ∧ W'.cell? ⟨w.heap.size, 1, none⟩ = some (.slice B ys.length d) ∧ W'.cell? ⟨w.heap.size + 1, 0, none⟩ = some (.bool n) ∧ W'.cell? ⟨w.heap.size + 1, 1, none⟩ = some (.slice A xs.length c))
    (first | exact hall | exact Duo.keep hall ((Below.refl _ _).drew) | exact Duo.keep (by assumption) (by assumption) | exact Duo.keep (by assumption) ((Below.refl _ _).drew) | exact Duo.put (by assumption) (by omega) (by omega) (by omega) _ _)
    (first
      | (go_at_call 126; refine (difference_any B A ys xs d c _ (Duo.sa' (by assumption)) (Duo.sb' (by assumption)) dy dx (by omega) hlen (Nat.le_of_lt hlt)).mono ?_; rintro e w' ⟨V, zs, k, rfl, hs1, hd1, hn1, hv1, hk1, hk2, hb⟩
         have hr1 := (Rest.drew hr).on hb
         have hw1 := (hall.1.below.drew).trans (hb.mono hall.1.below.size))
      | (go_at_call 118; refine (made_any _ V zs.length k _ (by unfold maxLen; omega)).mono ?_; rintro e w2 ⟨rfl, hb2⟩
         have hr2 := hr1.on hb2
         have hw2 := hw1.trans (hb2.mono hw1.size)
         have g0 := hr2.r0
         have g1 := hr2.r1
         have g2 := hr2.f0
         have g3 := hr2.f1))
  have hB : Bg w2 ((!n) && decide (0 < zs.length)) V zs k (max xs.length ys.length + 1) := ⟨(hs1.below hb2).more hb2.size, hd1, hn1, sign_made, hk1, by omega, by unfold maxLen; omega⟩
  have hL := hr2.laid hw2 (by omega) hB
  go_wp2
  refine bodyPost_ret (v := big ((!n) && decide (0 < zs.length)) V zs.length k) (by simp [results, Tryz.results108, go_sem, g0, g1]) rfl ⟨_, V, zs, k, rfl, hL.1, ?_, hL.2⟩
  rw [sv_made, hv1]
  cases n <;> simp [sv] <;> omega
theorem ladd_any (n1 n2 : Bool) (A B : Option Addr) (xs ys : List Nat) (c d : Nat) (w : World) (hx : Sl .u64 w w.heap.size A xs) (hy : Sl .u64 w w.heap.size B ys) (dx : Dig W64 xs) (dy : Dig W64 ys) (nx : Norm xs) (ny : Norm ys) (hl : (xs.length + 1) * 8 ≤ 140737488351232) (hk : (ys.length + 1) * 8 ≤ 140737488351232) :
    Calls Tryz.prog 108 #[big n1 A xs.length c, big n2 B ys.length d] w (Gives w (sv n1 (val W64 xs) + sv n2 (val W64 ys)) (max xs.length ys.length + 1)) := by
  by_cases h : n1 = n2
  · subst h
    exact ladd_same n1 A B xs ys c d w hx hy dx dy hl hk
  · obtain rfl : n2 = !n1 := by cases n1 <;> cases n2 <;> simp_all
    by_cases hge : val W64 ys ≤ val W64 xs
    · exact ladd_more n1 A B xs ys c d w hx hy dx dy nx ny hl hk hge
    · exact ladd_less n1 A B xs ys c d w hx hy dx dy nx ny hl hk (by omega)
set_option maxHeartbeats 1000000 in
theorem lneg_any (n : Bool) (A : Option Addr) (xs : List Nat) (c C : Nat) (w : World) (hx : Bg w n A xs c C) (hl : xs.length * 8 ≤ 140737488351232) :
    Calls Tryz.prog 117 #[big n A xs.length c] w fun e w' => e = .returned (big (!n && decide (0 < xs.length)) A xs.length c) ∧ Bg w' (!n && decide (0 < xs.length)) A xs c C ∧ Below w.heap.size w w' := by
  have hm := fun W => made_any (!n) A xs.length c W (by unfold maxLen; omega)
  have hr := Rest.new (w.alloc (.cells #[.bool n, .slice A xs.length c] 72))
  rw [show (w.alloc (.cells #[.bool n, .slice A xs.length c] 72)).heap.size = w.heap.size + 1 by go_size] at hr
  have HR := Lib.hid hr
  have HM := Lib.hid hm
  clear hr hm
  go_enter Tryz.func117, Tryz.ntmps117
  go_wp2_with fail
  have hb0 : Below w.heap.size w ((w.alloc (.cells #[.bool n, .slice A xs.length c] 72)).alloc (.cells #[.bool false, .slice none 0 0] 72)) := by go_grown
  generalize hW : ((w.alloc (.cells #[.bool n, .slice A xs.length c] 72)).alloc (.cells #[.bool false, .slice none 0 0] 72)) = W at *
  clear hW
  refine (HM.out _).mono ?_
  rintro e w2 ⟨rfl, hb⟩
  have hr2 := (HR.out).on hb
  have g0 := hr2.r0
  have g1 := hr2.r1
  have g2 := hr2.f0
  have g3 := hr2.f1
  have hb2 := hb0.trans (hb.mono hb0.size)
  have hB : Bg w2 (!n && decide (0 < xs.length)) A xs c C := ⟨(hx.sl.below hb2).more hb2.size, hx.dig, hx.norm, sign_made, hx.len, hx.cap, hx.room⟩
  have hL := hr2.laid hb2 (by omega) hB
  go_wp2
  exact bodyPost_ret (v := big (!n && decide (0 < xs.length)) A xs.length c) (by simp [results, Tryz.results117, go_sem, g0, g1]) rfl ⟨rfl, hL.1, hL.2⟩
end Go.Proofs.YtjamfkafgfpobaaGreat
/-! ### Int3 -/
namespace Go.Proofs.YtjamfkafgfpobaaGreat
open Go.RowKit Nb
theorem sv_quo (n1 n2 : Bool) (a b : Nat) : sv (!(n1 == n2)) (a / b) = (sv n1 a).tdiv (sv n2 b) := by
  have h : ((a / b : Nat) : Int) = (a : Int).tdiv b := Int.ofNat_tdiv a b
  cases n1 <;> cases n2
  · exact h
  · show -((a / b : Nat) : Int) = (a : Int).tdiv (-b); rw [Int.tdiv_neg, h]
  · show -((a / b : Nat) : Int) = (-(a : Int)).tdiv b; rw [Int.neg_tdiv, h]
  · show ((a / b : Nat) : Int) = (-(a : Int)).tdiv (-b); rw [Int.neg_tdiv, Int.tdiv_neg, Int.neg_neg, h]
theorem sv_rem (n1 n2 : Bool) (a b : Nat) : sv n1 (a % b) = (sv n1 a).tmod (sv n2 b) := by
  have h : ((a % b : Nat) : Int) = (a : Int).tmod b := Int.ofNat_tmod a b
  cases n1 <;> cases n2
  · exact h
  · show ((a % b : Nat) : Int) = (a : Int).tmod (-b); rw [Int.tmod_neg, h]
  · show -((a % b : Nat) : Int) = (-(a : Int)).tmod b; rw [Int.neg_tmod, h]
  · show -((a % b : Nat) : Int) = (-(a : Int)).tmod (-b); rw [Int.neg_tmod, Int.tmod_neg, h]
theorem sv_neg {n : Bool} {xs : List Nat} : sv (!n && decide (0 < xs.length)) (val W64 xs) = - sv n (val W64 xs) := by
  rw [sv_made]
  cases n <;> simp [sv]
/-- What stays while two answers are made: what was made ahead of them, and room for both. -/
structure Pair (w Q W : World) (r s : Nat) : Prop where
  below : Below w.heap.size w W
  more : Below Q.heap.size Q W
  one : Rest W r
  two : Rest W s
theorem Pair.on {w Q W W' : World} {r s : Nat} (h : Pair w Q W r s) (hb : Below W.heap.size W W') : Pair w Q W' r s :=
  ⟨h.below.trans (hb.mono h.below.size), h.more.trans (hb.mono h.more.size), h.one.on hb, h.two.on hb⟩
theorem Rest.put {W : World} {r s : Nat} (h : Rest W s) (hne : r ≠ s) (u v : Value) : Rest ((W.setCell ⟨r, 0, none⟩ u).setCell ⟨r, 1, none⟩ v) s :=
  (h.set (a := ⟨r, 0, none⟩) hne u).set (a := ⟨r, 1, none⟩) hne v
theorem Sl.put {k : IntKind} {W : World} {B : Nat} {V : Option Addr} {zs : List Nat} {r : Nat} (h : Sl k W B V zs) (hr : Rest W r) (u v : Value) : Sl k ((W.setCell ⟨r, 0, none⟩ u).setCell ⟨r, 1, none⟩ v) B V zs := by
  have h1 := h.keepAt hr.r0 (by intro _ e; cases e) u
  have h2 : (W.setCell ⟨r, 0, none⟩ u).cell? ⟨r, 1, none⟩ = some (.slice none 0 0) := by rw [World.cell?_setCell_other _ _ _ _ (by simp)]; exact hr.r1
  exact h1.keepAt h2 (by intro _ e; cases e) v
/-- Two numbers are answered. -/
def Gives2 (w : World) (Z U : Int) (C : Nat) (e : Ending) (w' : World) : Prop := ∃ (n : Bool) (V : Option Addr) (zs : List Nat) (c : Nat) (m : Bool) (U' : Option Addr) (rs : List Nat) (d : Nat), e = .returned (.tuple #[big n V zs.length c, big m U' rs.length d]) ∧
  Bg w' n V zs c C ∧ sv n (val W64 zs) = Z ∧ Bg w' m U' rs d C ∧ sv m (val W64 rs) = U ∧ Below w.heap.size w w'
set_option maxHeartbeats 8000000 in
/-- The quotient toward nought, and what is left. -/
theorem lquorem_any (n1 n2 : Bool) (A B : Option Addr) (xs ys : List Nat) (c d C : Nat) (w : World) (hx : Sl .u64 w w.heap.size A xs) (hy : Sl .u64 w w.heap.size B ys) (hC : C ≤ maxLen)
    (HQ : ∀ W, Sl .u64 W W.heap.size A xs → Sl .u64 W W.heap.size B ys → Calls Tryz.prog 140 #[.slice A xs.length c, .slice B ys.length d] W (Words2 W (val W64 xs / val W64 ys) (val W64 xs % val W64 ys) C)) :
    Calls Tryz.prog 124 #[big n1 A xs.length c, big n2 B ys.length d] w (Gives2 w ((sv n1 (val W64 xs)).tdiv (sv n2 (val W64 ys))) ((sv n1 (val W64 xs)).tmod (sv n2 (val W64 ys))) C) := by
  have ht := Duo.boxed (n1 := n1) (n2 := n2) (l1 := xs.length) (c := c) (l2 := ys.length) (d := d) hx hy
  have hr0 := Rest.new ((w.alloc (.cells #[.bool n1, .slice A xs.length c] 72)).alloc (.cells #[.bool n2, .slice B ys.length d] 72))
  have hr1 := (Rest.new (((w.alloc (.cells #[.bool n1, .slice A xs.length c] 72)).alloc (.cells #[.bool n2, .slice B ys.length d] 72)).alloc (.cells #[.bool false, .slice none 0 0] 72)))
  have hr0 := hr0.on (W' := ((((w.alloc (.cells #[.bool n1, .slice A xs.length c] 72)).alloc (.cells #[.bool n2, .slice B ys.length d] 72)).alloc (.cells #[.bool false, .slice none 0 0] 72)).alloc (.cells #[.bool false, .slice none 0 0] 72))) (by go_grown)
  have hall := Duo.keep (W' := ((((w.alloc (.cells #[.bool n1, .slice A xs.length c] 72)).alloc (.cells #[.bool n2, .slice B ys.length d] 72)).alloc (.cells #[.bool false, .slice none 0 0] 72)).alloc (.cells #[.bool false, .slice none 0 0] 72))) (ht.all) (by go_grown)
  rw [show ((w.alloc (.cells #[.bool n1, .slice A xs.length c] 72)).alloc (.cells #[.bool n2, .slice B ys.length d] 72)).heap.size = w.heap.size + 1 + 1 by go_size] at hr0
  rw [show (((w.alloc (.cells #[.bool n1, .slice A xs.length c] 72)).alloc (.cells #[.bool n2, .slice B ys.length d] 72)).alloc (.cells #[.bool false, .slice none 0 0] 72)).heap.size = w.heap.size + 1 + 1 + 1 by go_size] at hr1
  clear ht
  go_enter Tryz.func124, Tryz.ntmps124
  go_wp2_with fail
  generalize hW : ((((w.alloc (.cells #[.bool n1, .slice A xs.length c] 72)).alloc (.cells #[.bool n2, .slice B ys.length d] 72)).alloc (.cells #[.bool false, .slice none 0 0] 72)).alloc (.cells #[.bool false, .slice none 0 0] 72)) = W at *
  clear hW
  go_wp2_with fail
  refine (HQ _ (Duo.sa' hall) (Duo.sb' hall)).mono ?_
  rintro e WQ ⟨V, zs, k, U, rs, l, rfl, hs1, hd1, hn1, hv1, hk1, hk2, hs2, hd2, hn2, hv2, hl1, hl2, hbq⟩
  have hall1 := Duo.keep hall hbq
  have hp0 : Pair w WQ WQ (w.heap.size + 1 + 1) (w.heap.size + 1 + 1 + 1) := ⟨hall1.1.below, Below.refl _ _, hr0.on hbq, hr1.on hbq⟩
  have hp0' : Pair w WQ WQ.drew (w.heap.size + 1 + 1) (w.heap.size + 1 + 1 + 1) := ⟨hall1.1.below.drew, (Below.refl _ _).drew, hp0.one.drew, hp0.two.drew⟩
  have hm1 : zs.length ≤ maxLen := by omega
  have hm2 : rs.length ≤ maxLen := by omega
  clear hall hr0 hr1
  go_wp2_with fail
  go_region_held3 (fun W' => Duo w W' w.heap.size (w.heap.size + 1) n1 n2 A B xs ys xs.length c ys.length d ∧ W'.cell? ⟨w.heap.size, 0, none⟩ = some (.bool n1) ∧ W'.cell? ⟨w.heap.size, 1, none⟩ = some (.slice A xs.length c) ∧ W'.cell? ⟨w.heap.size + 1, 0, none⟩ = some (.bool n2) ∧ W'.cell? ⟨w.heap.size + 1, 1, none⟩ = some (.slice B ys.length d))
    (first | exact hall1 | exact Duo.keep hall1 ((Below.refl _ _).drew) | exact Duo.keep (by assumption) (by assumption) | exact Duo.keep (by assumption) ((Below.refl _ _).drew) | exact Duo.put (by assumption) (by omega) (by omega) (by omega) _ _)
    (first
      | (go_at_call 118; refine (made_any _ _ _ _ _ (by first | exact hm1 | exact hm2)).mono ?_; rintro e w2 ⟨rfl, hb2⟩
         have hp : Pair w WQ w2 (w.heap.size + 1 + 1) (w.heap.size + 1 + 1 + 1) := Pair.on (by assumption) hb2
         have g0 := hp.one.r0
         have g1 := hp.one.r1
         have g2 := hp.one.f0
         have g3 := hp.one.f1
         have g4 := hp.two.r0
         have g5 := hp.two.r1
         have g6 := hp.two.f0
         have g7 := hp.two.f1))
  have hz2 := (((hs1.below hp.more).more hp.more.size).put hp.one (.bool (!(n1 == n2) && decide (0 < zs.length))) (.slice V zs.length k)).put (hp.two.put (r := w.heap.size + 1 + 1) (by omega) (.bool (!(n1 == n2) && decide (0 < zs.length))) (.slice V zs.length k)) (.bool (n1 && decide (0 < rs.length))) (.slice U rs.length l)
  have hr2 := (((hs2.below hp.more).more hp.more.size).put hp.one (.bool (!(n1 == n2) && decide (0 < zs.length))) (.slice V zs.length k)).put (hp.two.put (r := w.heap.size + 1 + 1) (by omega) (.bool (!(n1 == n2) && decide (0 < zs.length))) (.slice V zs.length k)) (.bool (n1 && decide (0 < rs.length))) (.slice U rs.length l)
  have hbf := (((hp.below.setCell (p := ⟨w.heap.size + 1 + 1, 0, none⟩) (by show _ ≤ w.heap.size + 1 + 1; omega) (.bool (!(n1 == n2) && decide (0 < zs.length)))).setCell (p := ⟨w.heap.size + 1 + 1, 1, none⟩) (by show _ ≤ w.heap.size + 1 + 1; omega) (.slice V zs.length k)).setCell (p := ⟨w.heap.size + 1 + 1 + 1, 0, none⟩) (by show _ ≤ w.heap.size + 1 + 1 + 1; omega) (.bool (n1 && decide (0 < rs.length)))).setCell (p := ⟨w.heap.size + 1 + 1 + 1, 1, none⟩) (by show _ ≤ w.heap.size + 1 + 1 + 1; omega) (.slice U rs.length l)
  go_wp2
  refine bodyPost_ret (v := .tuple #[big (!(n1 == n2) && decide (0 < zs.length)) V zs.length k, big (n1 && decide (0 < rs.length)) U rs.length l]) (by simp [results, Tryz.results124, go_sem, g0, g1, g4, g5]) rfl ?_
  refine ⟨_, V, zs, k, _, U, rs, l, rfl, ⟨by simpa using hz2, hd1, hn1, sign_made, hk1, Nat.le_trans hk1 hk2, Nat.le_trans hk2 hC⟩, ?_, ⟨by simpa using hr2, hd2, hn2, sign_made, hl1, Nat.le_trans hl1 hl2, Nat.le_trans hl2 hC⟩, ?_, hbf⟩
  · rw [sv_made, hv1]; exact sv_quo n1 n2 _ _
  · rw [sv_made, hv2]; exact sv_rem n1 n2 _ _
end Go.Proofs.YtjamfkafgfpobaaGreat
