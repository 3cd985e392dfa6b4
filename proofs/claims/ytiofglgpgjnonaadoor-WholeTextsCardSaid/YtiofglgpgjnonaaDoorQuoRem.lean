/-
  What whole.QuoRem returns: the quotient toward nought and what is left, or the refusal. No conditions but that the lists are lists of limbs, and that large's quotient is one.
-/
import Derived.Test.YtiofglgpgjnonaaDoorReck
namespace Go.Proofs.YtiofglgpgjnonaaDoor
open Go.RowKit Nb

theorem bcell {W w1 : World} (hb : Below W.heap.size W w1) : (∀ b o, b < W.heap.size → w1.cell? ⟨b, o, none⟩ = W.cell? ⟨b, o, none⟩) ∧ (∀ b o, b < W.heap.size → w1.frozen? ⟨b, o, none⟩ = W.frozen? ⟨b, o, none⟩) :=
  ⟨fun b o h => hb.cell (p := ⟨b, o, none⟩) h, fun b o h => hb.frozen (p := ⟨b, o, none⟩) h⟩

/-- Two numbers in words, in two cells of the call's own, and their limbs: what stays while more memory is made. -/
structure Both (w W : World) (p q : Nat) (n1 n2 : Bool) (A B : Option Addr) (xs ys : List Nat) (l1 c l2 d : Nat) : Prop where
  below : Below w.heap.size w W
  lp : p < W.heap.size
  lq : q < W.heap.size
  sa : Sl .u64 W W.heap.size A xs
  sb : Sl .u64 W W.heap.size B ys
  a0 : W.cell? ⟨p, 0, none⟩ = some (.bool n1)
  a1 : W.cell? ⟨p, 1, none⟩ = some (.slice A l1 c)
  b0 : W.cell? ⟨q, 0, none⟩ = some (.bool n2)
  b1 : W.cell? ⟨q, 1, none⟩ = some (.slice B l2 d)
section
variable {w W W' : World} {p q : Nat} {n1 n2 : Bool} {A B : Option Addr} {xs ys : List Nat} {l1 c l2 d : Nat} {X : Prop}
theorem Both.on (h : Both w W p q n1 n2 A B xs ys l1 c l2 d) (hb : Below W.heap.size W W') : Both w W' p q n1 n2 A B xs ys l1 c l2 d :=
  ⟨h.below.trans (hb.mono h.below.size), Nat.lt_of_lt_of_le h.lp hb.size, Nat.lt_of_lt_of_le h.lq hb.size, (h.sa.below hb).more hb.size, (h.sb.below hb).more hb.size,
   (hb.cell (p := ⟨p, 0, none⟩) h.lp).trans h.a0, (hb.cell (p := ⟨p, 1, none⟩) h.lp).trans h.a1, (hb.cell (p := ⟨q, 0, none⟩) h.lq).trans h.b0, (hb.cell (p := ⟨q, 1, none⟩) h.lq).trans h.b1⟩
theorem Both.all (h : Both w W p q n1 n2 A B xs ys l1 c l2 d) : Both w W p q n1 n2 A B xs ys l1 c l2 d ∧ W.cell? ⟨p, 0, none⟩ = some (.bool n1) ∧ W.cell? ⟨p, 1, none⟩ = some (.slice A l1 c) ∧ W.cell? ⟨q, 0, none⟩ = some (.bool n2) ∧ W.cell? ⟨q, 1, none⟩ = some (.slice B l2 d) :=
  ⟨h, h.a0, h.a1, h.b0, h.b1⟩
theorem Both.keep (h : Both w W p q n1 n2 A B xs ys l1 c l2 d ∧ X) (hb : Below W.heap.size W W') : Both w W' p q n1 n2 A B xs ys l1 c l2 d ∧ W'.cell? ⟨p, 0, none⟩ = some (.bool n1) ∧ W'.cell? ⟨p, 1, none⟩ = some (.slice A l1 c) ∧ W'.cell? ⟨q, 0, none⟩ = some (.bool n2) ∧ W'.cell? ⟨q, 1, none⟩ = some (.slice B l2 d) :=
  (h.1.on hb).all
theorem Both.sa' (h : Both w W p q n1 n2 A B xs ys l1 c l2 d ∧ X) : Sl .u64 W W.heap.size A xs := h.1.sa
theorem Both.sb' (h : Both w W p q n1 n2 A B xs ys l1 c l2 d ∧ X) : Sl .u64 W W.heap.size B ys := h.1.sb
theorem Both.below' (h : Both w W p q n1 n2 A B xs ys l1 c l2 d ∧ X) : Below w.heap.size w W := h.1.below
end
theorem Both.put {w W : World} {p q r : Nat} {n1 n2 : Bool} {A B : Option Addr} {xs ys : List Nat} {l1 c l2 d : Nat} {X : Prop} (h : Both w W p q n1 n2 A B xs ys l1 c l2 d ∧ X) (hr : Rest W r) (hw : w.heap.size ≤ r) (hp : p ≠ r) (hq : q ≠ r) (u v : Value) :
    Both w ((W.setCell ⟨r, 0, none⟩ u).setCell ⟨r, 1, none⟩ v) p q n1 n2 A B xs ys l1 c l2 d ∧ ((W.setCell ⟨r, 0, none⟩ u).setCell ⟨r, 1, none⟩ v).cell? ⟨p, 0, none⟩ = some (.bool n1) ∧ ((W.setCell ⟨r, 0, none⟩ u).setCell ⟨r, 1, none⟩ v).cell? ⟨p, 1, none⟩ = some (.slice A l1 c) ∧ ((W.setCell ⟨r, 0, none⟩ u).setCell ⟨r, 1, none⟩ v).cell? ⟨q, 0, none⟩ = some (.bool n2) ∧ ((W.setCell ⟨r, 0, none⟩ u).setCell ⟨r, 1, none⟩ v).cell? ⟨q, 1, none⟩ = some (.slice B l2 d) := by
  have hk : ∀ (x : Nat) (j : Nat), x ≠ r → ((W.setCell ⟨r, 0, none⟩ u).setCell ⟨r, 1, none⟩ v).cell? ⟨x, j, none⟩ = W.cell? ⟨x, j, none⟩ := fun x j hx => by
    rw [World.cell?_setCell_other _ _ _ _ (fun e => hx (by injection e with a; exact a.symm)), World.cell?_setCell_other _ _ _ _ (fun e => hx (by injection e with a; exact a.symm))]
  have h2 : Both w ((W.setCell ⟨r, 0, none⟩ u).setCell ⟨r, 1, none⟩ v) p q n1 n2 A B xs ys l1 c l2 d :=
    ⟨(h.1.below.setCell hw _).setCell hw _, by simpa using h.1.lp, by simpa using h.1.lq, by simpa using h.1.sa.put hr u v, by simpa using h.1.sb.put hr u v, (hk _ _ hp).trans h.1.a0, (hk _ _ hp).trans h.1.a1, (hk _ _ hq).trans h.1.b0, (hk _ _ hq).trans h.1.b1⟩
  exact h2.all


theorem Pair.drew {w Q W : World} {r s : Nat} (h : Pair w Q W r s) : Pair w Q W.drew r s := ⟨h.below.drew, h.more.drew, h.one.drew, h.two.drew⟩
theorem fits_le {Z Y : Int} (h : Fits Z) (hle : Y.natAbs ≤ Z.natAbs) : Fits Y := Nat.lt_of_le_of_lt hle h
theorem ok_lt' {xs : List Nat} (hd : Dig W32 xs) (k : Nat) (hk : xs.length ≤ k) : val W32 xs < W32 ^ k := Nat.lt_of_lt_of_le (val_lt hd) (Nat.pow_le_pow_right (by decide) hk)
theorem ok_fits {n : Bool} {xs : List Nat} (hd : Dig W32 xs) (ho : Ok n xs) : Fits (sv n (val W32 xs)) := by
  unfold Fits; rw [sv_abs]; exact ok_lt' hd 2048 ho.len
theorem ok_unpack {n : Bool} {zs : List Nat} (dz : Dig W64 zs) (nz : Norm zs) (gz : zs = [] → n = false) (hf : Fits (sv n (val W64 zs))) : Ok n (unpack zs) := by
  refine ⟨?_, norm_unpack dz nz, fun h => gz ?_⟩
  · rw [unpack_length]
    refine (limbsL_le dz nz).2 ?_
    unfold Fits at hf; rwa [sv_abs] at hf
  · have hv := val_unpack dz nz
    rw [h] at hv
    exact (norm_zero (B := W64) (by decide) nz).1 (by simpa [val] using hv.symm)
theorem abs_quo (a b : Int) : (a.tdiv b).natAbs ≤ a.natAbs := Int.natAbs_tdiv_le_natAbs a b
theorem abs_rem (a b : Int) : (a.tmod b).natAbs ≤ a.natAbs := by rw [Int.natAbs_tmod]; exact Nat.mod_le _ _
/-- Both laid in new cells. -/
theorem both_end {w1 W : World} {s t : Nat} {n m : Bool} {V U : Option Addr} {zs rs : List Nat} {k l C D : Nat} (hb : Below w1.heap.size w1 W) (hs : Rest W s) (ht : Rest W t) (hne : s ≠ t) (h1 : Bg W n V zs k C) (h2 : Bg W m U rs l D) (ls : w1.heap.size ≤ s) (lt : w1.heap.size ≤ t) :
    Both w1 ((((W.setCell ⟨s, 0, none⟩ (.bool n)).setCell ⟨s, 1, none⟩ (.slice V zs.length k)).setCell ⟨t, 0, none⟩ (.bool m)).setCell ⟨t, 1, none⟩ (.slice U rs.length l)) s t n m V U zs rs zs.length k rs.length l := by
  have ht2 := ht.put (r := s) hne (.bool n) (.slice V zs.length k)
  have ca : ((W.setCell ⟨s, 0, none⟩ (.bool n)).setCell ⟨s, 1, none⟩ (.slice V zs.length k)).cell? ⟨s, 0, none⟩ = some (.bool n) := by
    rw [World.cell?_setCell_other _ _ _ _ (by simp)]
    have := hs.r0; have := hs.f0
    go_cell
  have cb : ((W.setCell ⟨s, 0, none⟩ (.bool n)).setCell ⟨s, 1, none⟩ (.slice V zs.length k)).cell? ⟨s, 1, none⟩ = some (.slice V zs.length k) := by
    have := hs.r1; have := hs.f1
    go_cell
  have hk : ∀ (X : World) (j : Nat) (u v : Value), ((X.setCell ⟨t, 0, none⟩ u).setCell ⟨t, 1, none⟩ v).cell? ⟨s, j, none⟩ = X.cell? ⟨s, j, none⟩ := fun X j u v => by
    rw [World.cell?_setCell_other _ _ _ _ (fun e => hne (by injection e with a; exact a.symm)), World.cell?_setCell_other _ _ _ _ (fun e => hne (by injection e with a; exact a.symm))]
  refine ⟨(((hb.setCell ls _).setCell ls _).setCell lt _).setCell lt _, by simpa using hs.lr, by simpa using ht.lr, ?_, ?_, (hk _ _ _ _).trans ca, (hk _ _ _ _).trans cb, ?_, ?_⟩
  · simpa using (h1.sl.put hs _ _).put ht2 _ _
  · simpa using (h2.sl.put hs _ _).put ht2 _ _
  · rw [World.cell?_setCell_other _ _ _ _ (by simp)]
    have := ht2.r0; have := ht2.f0
    go_cell
  · have := ht2.r1; have := ht2.f1
    go_cell

/-- Two numbers and what is refused. -/
def Reck2 (w : World) (p : Prop) (P : Bool → List Nat → Bool → List Nat → Int → Prop) (r0 : Int → Prop) (e : Ending) (w' : World) : Prop := ∃ (n : Bool) (V : Option Addr) (ls : List Nat) (k : Nat) (m : Bool) (U : Option Addr) (ms : List Nat) (l : Nat) (er : Int), e = .returned (.tuple #[big n V ls.length k, big m U ms.length l, .int .i64 er]) ∧
  Lm w' n V ls k ∧ Lm w' m U ms l ∧ ((p ∧ P n ls m ms er) ∨ (¬ p ∧ r0 er ∧ ls = [] ∧ n = false ∧ ms = [] ∧ m = false)) ∧ Below w.heap.size w w'

section
variable {w1 W : World} {s t : Nat} {n m : Bool} {V U : Option Addr} {zs rs : List Nat} {k l C D : Nat}
theorem both_new1 (hb : Below w1.heap.size w1 W) (h1 : Bg W n V zs k C) (h2 : Bg W m U rs l D) :
    Both w1 ((W.alloc (.cells #[.bool n, .slice V zs.length k] 58)).alloc (.cells #[.bool m, .slice U rs.length l] 58)) W.heap.size (W.heap.size + 1) n m V U zs rs zs.length k rs.length l :=
  ⟨(hb.alloc hb.size _).alloc (by have := hb.size; simp; omega) _, by simp; omega, by simp, (h1.below (by go_grown)).sl, (h2.below (by go_grown)).sl, by go_cell, by go_cell, by go_cell, by go_cell⟩
theorem both_new2 (hb : Below w1.heap.size w1 W) (h1 : Bg W n V zs k C) (h2 : Bg W m U rs l D) :
    Both w1 ((W.alloc (.cells #[.bool m, .slice U rs.length l] 58)).alloc (.cells #[.bool n, .slice V zs.length k] 58)) (W.heap.size + 1) W.heap.size n m V U zs rs zs.length k rs.length l :=
  ⟨(hb.alloc hb.size _).alloc (by have := hb.size; simp; omega) _, by simp, by simp; omega, (h1.below (by go_grown)).sl, (h2.below (by go_grown)).sl, by go_cell, by go_cell, by go_cell, by go_cell⟩
theorem put_self {W : World} {s : Nat} (hs : Rest W s) (u v : Value) : ((W.setCell ⟨s, 0, none⟩ u).setCell ⟨s, 1, none⟩ v).cell? ⟨s, 0, none⟩ = some u ∧ ((W.setCell ⟨s, 0, none⟩ u).setCell ⟨s, 1, none⟩ v).cell? ⟨s, 1, none⟩ = some v := by
  have a0 := hs.r0
  have a1 := hs.r1
  have a2 := hs.f0
  have a3 := hs.f1
  constructor
  · rw [World.cell?_setCell_other _ _ _ _ (by simp)]
    go_cell
  · go_cell
theorem both_old1 (hb : Below w1.heap.size w1 W) (hs : Rest W s) (ls : w1.heap.size ≤ s) (h1 : Bg W n V zs k C) (h2 : Bg W m U rs l D) :
    Both w1 (((W.setCell ⟨s, 0, none⟩ (.bool n)).setCell ⟨s, 1, none⟩ (.slice V zs.length k)).alloc (.cells #[.bool m, .slice U rs.length l] 58)) s W.heap.size n m V U zs rs zs.length k rs.length l := by
  have hlt := hs.lr
  have hc := put_self hs (.bool n) (.slice V zs.length k)
  have hz : ((W.setCell ⟨s, 0, none⟩ (.bool n)).setCell ⟨s, 1, none⟩ (.slice V zs.length k)).heap.size = W.heap.size := size_put _ _ _ _
  have q1 := h1.sl.put hs (.bool n) (.slice V zs.length k)
  have q2 := h2.sl.put hs (.bool n) (.slice V zs.length k)
  have hb2 := (hb.setCell (p := ⟨s, 0, none⟩) ls (.bool n)).setCell (p := ⟨s, 1, none⟩) ls (.slice V zs.length k)
  generalize ((W.setCell ⟨s, 0, none⟩ (.bool n)).setCell ⟨s, 1, none⟩ (.slice V zs.length k)) = X at *
  have HZ := Lib.hid hz
  refine ⟨hb2.alloc hb2.size _, by simp; omega, by simp; omega, ((q1.more (by omega)).alloc (Nat.le_refl _) _).more (by simp), ((q2.more (by omega)).alloc (Nat.le_refl _) _).more (by simp), ?_, ?_, ?_, ?_⟩
  · rw [World.cell?_alloc_lt _ _ _ (by show s < _; omega)]; exact hc.1
  · rw [World.cell?_alloc_lt _ _ _ (by show s < _; omega)]; exact hc.2
  · rw [← hz, World.cell?_alloc_new]; rfl
  · rw [← hz, World.cell?_alloc_new]; rfl
theorem both_old2 (hb : Below w1.heap.size w1 W) (ht : Rest W t) (lt : w1.heap.size ≤ t) (h1 : Bg W n V zs k C) (h2 : Bg W m U rs l D) :
    Both w1 (((W.setCell ⟨t, 0, none⟩ (.bool m)).setCell ⟨t, 1, none⟩ (.slice U rs.length l)).alloc (.cells #[.bool n, .slice V zs.length k] 58)) W.heap.size t n m V U zs rs zs.length k rs.length l := by
  have h := both_old1 hb ht lt h2 h1
  exact ⟨h.below, h.lq, h.lp, h.sb, h.sa, h.b0, h.b1, h.a0, h.a1⟩
end
theorem Rest.newE {W : World} {s : Nat} (h : s = W.heap.size) : Rest (W.alloc (.cells #[.bool false, .slice none 0 0] 58)) s := by subst h; exact Rest.new W
theorem Rest.alloc {W : World} {s : Nat} (h : Rest W s) (e : Obj) : Rest (W.alloc e) s := h.on (by go_grown)
set_option maxHeartbeats 8000000 in
theorem wquorem_any (n1 n2 : Bool) (A B : Option Addr) (xs ys : List Nat) (c d : Nat) (w : World) (hr : Sl .u32 w w.heap.size A xs) (hs : Sl .u32 w w.heap.size B ys) (hx : Dig W32 xs) (hy : Dig W32 ys) (hl : xs.length * 4 ≤ 140737488351232) (hk : ys.length * 4 ≤ 140737488351232)
    (HQ : Ok n1 xs → Ok n2 ys → ys ≠ [] → ∀ (g1 g2 : Nat) (W : World), Sl .u64 W W.heap.size (some ⟨g1, 0, none⟩) (pack xs) → Sl .u64 W W.heap.size (some ⟨g2, 0, none⟩) (pack ys) → Calls Tryd.prog 83 #[.slice (some ⟨g1, 0, none⟩) (pack xs).length (pack xs).length, .slice (some ⟨g2, 0, none⟩) (pack ys).length (pack ys).length] W (Words2 W (val W64 (pack xs) / val W64 (pack ys)) (val W64 (pack xs) % val W64 (pack ys)) 4096)) :
    Calls Tryd.prog 30 #[big n1 A xs.length c, big n2 B ys.length d] w (Reck2 w (Ok n1 xs ∧ Ok n2 ys ∧ ys ≠ []) (fun n ls m ms er => er = 0 ∧ sv n (val W32 ls) = (sv n1 (val W32 xs)).tdiv (sv n2 (val W32 ys)) ∧ sv m (val W32 ms) = (sv n1 (val W32 xs)).tmod (sv n2 (val W32 ys))) (fun er => (Ok n1 xs ∧ Ok n2 ys → er = 3) ∧ (¬ (Ok n1 xs ∧ Ok n2 ys) → er = 1))) := by
  have ht := Two.boxed (n1 := n1) (n2 := n2) (l1 := xs.length) (c := c) (l2 := ys.length) (d := d) hr hs
  have hrow : ∀ (W : World) (g : Nat), g = W.heap.size → ∀ (i : Nat) (u : Value), (#[.bool n1, .slice A xs.length c, .bool n2, .slice B ys.length d] : Array Value)[i]? = some u → (W.alloc (.cells #[.bool n1, .slice A xs.length c, .bool n2, .slice B ys.length d] 24)).cell? ⟨g, i, none⟩ = some u := by
    intro W g hg i u hu
    subst hg
    rw [World.cell?_alloc_new]; exact hu
  obtain ⟨W0, hW0⟩ : ∃ W0 : World, ((w.alloc (.cells #[.bool n1, .slice A xs.length c] 24)).alloc (.cells #[.bool n2, .slice B ys.length d] 24)) = W0 := ⟨_, rfl⟩
  rw [hW0] at ht
  have hz0 : W0.heap.size = w.heap.size + 1 + 1 := by rw [← hW0]; go_size
  have hre := Rest.newI W0
  have hre2 := Rest.newI (W0.alloc (.cells #[.bool false, .slice none 0 0] 24))
  have hre := hre.on (W' := (W0.alloc (.cells #[.bool false, .slice none 0 0] 24)).alloc (.cells #[.bool false, .slice none 0 0] 24)) (by go_grown)
  have ht := ht.on (W' := (W0.alloc (.cells #[.bool false, .slice none 0 0] 24)).alloc (.cells #[.bool false, .slice none 0 0] 24)) (by go_grown)
  rw [show (W0.alloc (.cells #[.bool false, .slice none 0 0] 24)).heap.size = w.heap.size + 1 + 1 + 1 by rw [← hz0]; go_size] at hre2
  rw [hz0] at hre
  have hz : ((W0.alloc (.cells #[.bool false, .slice none 0 0] 24)).alloc (.cells #[.bool false, .slice none 0 0] 24)).heap.size = w.heap.size + 1 + 1 + 1 + 1 := by rw [← hz0]; go_size
  have ha0 := ht.a0
  have ha1 := ht.a1
  have hb0 := ht.b0
  have hb1 := ht.b1
  go_enter Tryd.func30, Tryd.ntmps30
  go_wp2_with fail
  clear hW0 hz0
  generalize hW : ((W0.alloc (.cells #[.bool false, .slice none 0 0] 24)).alloc (.cells #[.bool false, .slice none 0 0] 24)) = W at *
  clear hW
  have tW := ht.on (W' := W.alloc (.cells #[.bool n1, .slice A xs.length c, .bool n2, .slice B ys.length d] 24)) ((Below.refl _ _).alloc (Nat.le_refl _) _)
  have rW := hre.on (W' := W.alloc (.cells #[.bool n1, .slice A xs.length c, .bool n2, .slice B ys.length d] 24)) ((Below.refl _ _).alloc (Nat.le_refl _) _)
  have rV := hre2.on (W' := W.alloc (.cells #[.bool n1, .slice A xs.length c, .bool n2, .slice B ys.length d] 24)) ((Below.refl _ _).alloc (Nat.le_refl _) _)
  refine (check_two (w.heap.size + 1 + 1 + 1 + 1) n1 n2 A B xs ys 2 c d _ tW.sa tW.sb (by simp; omega) hl hk (hrow _ _ hz.symm 0 _ rfl) (hrow _ _ hz.symm 1 _ rfl) (hrow _ _ hz.symm 2 _ rfl) (hrow _ _ hz.symm 3 _ rfl)).mono ?_
  rintro e w1 ⟨rfl, hq1⟩
  have t1 := tW.on hq1
  have r1 := rW.on hq1
  have s1 := rV.on hq1
  clear tW rW rV ht hre hre2 ha0 ha1 hb0 hb1 hrow hq1 hz
  have ra0 := r1.r0
  have ra1 := r1.r1
  have ra2 := r1.f0
  have ra3 := r1.f1
  have rb0 := s1.r0
  have rb1 := s1.r1
  have rb2 := s1.f0
  have rb3 := s1.f1
  by_cases ho : Ok n1 xs ∧ Ok n2 ys
  · obtain ⟨o1, o2⟩ := ho
    rw [chkV_ok o1, chkV_ok o2]
    have a0 := t1.a0
    have a1 := t1.a1
    have b0 := t1.b0
    have b1 := t1.b1
    by_cases hy0 : ys = []
    · subst hy0
      go_wp2_with fail
      go_region
      all_goals
        go_wp2
        refine bodyPost_ret (v := .tuple #[big false none ([] : List Nat).length 0, big false none ([] : List Nat).length 0, .int .i64 3]) (by simp [results, Tryd.results30, go_sem, ra0, ra1, rb0, rb1]) rfl ?_
        exact ⟨false, none, [], 0, false, none, [], 0, 3, rfl, ⟨fun h => absurd h (by simp), by intro x hx; simp at hx, ok_zero⟩, ⟨fun h => absurd h (by simp), by intro x hx; simp at hx, ok_zero⟩, .inr ⟨fun h => h.2.2 rfl, ⟨fun _ => rfl, fun h => absurd ⟨o1, o2⟩ h⟩, rfl, rfl, rfl, rfl⟩, by (repeat (first | with_reducible assumption | exact Two.below (by assumption) | (refine Below.drew ?_) | (refine Below.setCell ?_ (by simp; omega) _)))⟩
    · have hyl : 0 < ys.length := List.length_pos_iff.2 hy0
      have hn1 := norm_pack o1.norm
      have hn2 := norm_pack o2.norm
      have hd1 := dig_pack hx
      have hd2 := dig_pack hy
      have hg1 : (pack xs).length ≤ 1024 := by rw [pack_length]; have := o1.len; omega
      have hg2 : (pack ys).length ≤ 1024 := by rw [pack_length]; have := o2.len; omega
      have HQ := HQ o1 o2 hy0
      have L : ∀ (g1 g2 : Nat) (W : World), Sl .u64 W W.heap.size (some ⟨g1, 0, none⟩) (pack xs) → Sl .u64 W W.heap.size (some ⟨g2, 0, none⟩) (pack ys) → Calls Tryd.prog 52 #[big n1 (some ⟨g1, 0, none⟩) (pack xs).length (pack xs).length, big n2 (some ⟨g2, 0, none⟩) (pack ys).length (pack ys).length] W (Gives2 W ((sv n1 (val W32 xs)).tdiv (sv n2 (val W32 ys))) ((sv n1 (val W32 xs)).tmod (sv n2 (val W32 ys))) 4096) := by
        intro g1 g2 W h1 h2
        have h := lquorem_any n1 n2 (some ⟨g1, 0, none⟩) (some ⟨g2, 0, none⟩) (pack xs) (pack ys) (pack xs).length (pack ys).length 4096 W h1 h2 (by omega) (HQ g1 g2)
        rw [val_pack, val_pack] at h
        exact h
      have HL := Lib.hid L; clear L HQ
      have HT := Lib.hid t1.all
      have HP := Lib.hid (show Pair w w1 w1 (w.heap.size + 1 + 1) (w.heap.size + 1 + 1 + 1) from ⟨t1.below, Below.refl _ _, r1, s1⟩)
      have hall := HT.out
      clear ra0 ra1 ra2 ra3 rb0 rb1 rb2 rb3 a0 a1 b0 b1
      go_wp2_with fail
      have hw1 : w.heap.size + 1 + 1 + 1 < w1.heap.size := s1.lr
      go_cut [8, 9] (fun s8 s9 wx => ∃ (s t : Nat) (n m : Bool) (V U : Option Addr) (zs rs : List Nat) (k l : Nat), s8 = .pointer (some ⟨s, 0, none⟩) ∧ s9 = .pointer (some ⟨t, 0, none⟩) ∧ w1.heap.size ≤ s ∧ w1.heap.size ≤ t ∧ Both w1 wx s t n m V U zs rs zs.length k rs.length l ∧ (Dig W64 zs ∧ Norm zs ∧ (zs = [] → n = false) ∧ zs.length ≤ 4096 ∧ sv n (val W64 zs) = (sv n1 (val W32 xs)).tdiv (sv n2 (val W32 ys))) ∧ (Dig W64 rs ∧ Norm rs ∧ (rs = [] → m = false) ∧ rs.length ≤ 4096 ∧ sv m (val W64 rs) = (sv n1 (val W32 xs)).tmod (sv n2 (val W32 ys))))
      case first =>
        have hall := HT.out
        go_region_held3 (fun w' => Two w w' w.heap.size (w.heap.size + 1) n1 n2 A B xs ys xs.length c ys.length d ∧ w'.cell? ⟨w.heap.size, 0, none⟩ = some (.bool n1) ∧ w'.cell? ⟨w.heap.size, 1, none⟩ = some (.slice A xs.length c) ∧ w'.cell? ⟨w.heap.size + 1, 0, none⟩ = some (.bool n2) ∧ w'.cell? ⟨w.heap.size + 1, 1, none⟩ = some (.slice B ys.length d))
          (first | exact HT.out | assumption | exact Two.keep HT.out (by go_grown) | exact Two.keep (by assumption) (by assumption) | exact Two.keep (by assumption) ((Below.refl _ _).drew) | exact Two.keep (by assumption) ((Below.refl _ _).alloc (Nat.le_refl _) _))
          (first
            | (go_at_call_of 38 (Value.agg #[.bool n1, .slice A xs.length c]); refine (from_ok n1 A xs c _ (Two.sa' (by assumption)) hx o1).mono ?_; rintro e wa ⟨ga, rfl, hra, hga, hb⟩
               have hba := hb
               obtain ⟨hca, hfa⟩ := bcell hb
               have hza := hb.size
               (try simp only [World.size_alloc, heap_drew] at hca hfa hza hga)
               have HBa : Below w1.heap.size w1 wa := by refine Below.trans ?_ (hb.mono (by go_size)); go_grown
               have hzaa := HBa.size
               have hltaa := hra.lt
               (try (have z1 : w1.heap.size < wa.heap.size := by omega))
               (try (have z2 : w1.heap.size + 1 < wa.heap.size := by omega)))
            | (go_at_call_of 38 (Value.agg #[.bool n2, .slice B ys.length d]); refine (from_ok n2 B ys d _ (Two.sb' (by assumption)) hy o2).mono ?_; rintro e wb ⟨gb, rfl, hrb, hgb, hb⟩
               have hbb := hb
               obtain ⟨hcb, hfb⟩ := bcell hb
               have hzb := hb.size
               (try simp only [World.size_alloc] at hcb hfb hzb hgb)
               have HBb : Below w1.heap.size w1 wb := by refine Below.trans ?_ (hb.mono (by go_size)); go_grown
               have hzbb := HBb.size
               have hrab : Row .u64 wb ga 81 (pack xs) := Row.below (by first | exact hra | exact hra.alloc _ | exact (hra.alloc _).alloc _) hb (by first | exact hra.lt | (have := hra.lt; go_size))
               have hlta := hrab.lt
               have hltb := hrb.lt
               (try (have z3 : w1.heap.size < wb.heap.size := by omega))
               (try (have z4 : w1.heap.size + 1 < wb.heap.size := by omega))
               (try (have z5 : wa.heap.size < wb.heap.size := by omega))
               (try (have z6 : wa.heap.size + 1 < wb.heap.size := by omega)))
            | (go_at_call 52; refine (HL.out ga gb _ (by first | exact sl_row hrab | exact sl_row (hrab.alloc _) | exact sl_row ((hrab.alloc _).alloc _)) (by first | exact sl_row hrb | exact sl_row (hrb.alloc _) | exact sl_row ((hrb.alloc _).alloc _))).mono ?_; rintro e wq ⟨n, V, zs, k, m, U, rs, l, rfl, hB1, hv1, hB2, hv2, hb⟩
               have hbq := hb
               obtain ⟨hcq, hfq⟩ := bcell hb
               have hzq := hb.size
               (try simp only [World.size_alloc] at hcq hfq hzq)
               have HBq : Below w1.heap.size w1 wq := by refine Below.trans ?_ (hb.mono (by go_size)); go_grown
               have hzqq := HBq.size
               (try (have z7 : w1.heap.size < wq.heap.size := by omega))
               (try (have z8 : w1.heap.size + 1 < wq.heap.size := by omega))
               (try (have z9 : wa.heap.size < wq.heap.size := by omega))
               (try (have z10 : wa.heap.size + 1 < wq.heap.size := by omega))
               (try (have z11 : wb.heap.size < wq.heap.size := by omega))
               (try (have z12 : wb.heap.size + 1 < wq.heap.size := by omega))))
        all_goals
          go_wp2_with fail
          go_meet
          refine ⟨_, _, n, m, V, U, zs, rs, k, l, rfl, rfl, ?_, ?_, ?_, ⟨hB1.dig, hB1.norm, hB1.sign, by have := hB1.len; have := hB1.cap; omega, hv1⟩, ⟨hB2.dig, hB2.norm, hB2.sign, by have := hB2.len; have := hB2.cap; omega, hv2⟩⟩
          · omega
          · omega
          · first
              | with_reducible exact both_new1 HBq hB1 hB2
              | with_reducible exact both_new2 HBq hB1 hB2
              | (with_reducible refine both_old1 HBq ?_ ?_ hB1 hB2
                 · repeat (first | (with_reducible refine Rest.newE ?_; go_size; done) | (with_reducible refine Rest.drew ?_) | (with_reducible refine Rest.alloc ?_ _) | (refine Rest.on ?_ hbq) | (refine Rest.on ?_ hbb) | (refine Rest.on ?_ hba))
                 · omega)
              | (with_reducible refine both_old2 HBq ?_ ?_ hB1 hB2
                 · repeat (first | (with_reducible refine Rest.newE ?_; go_size; done) | (with_reducible refine Rest.drew ?_) | (with_reducible refine Rest.alloc ?_ _) | (refine Rest.on ?_ hbq) | (refine Rest.on ?_ hbb) | (refine Rest.on ?_ hba))
                 · omega)
              | (with_reducible refine both_end HBq ?_ ?_ ?_ hB1 hB2 ?_ ?_
                 · repeat (first | (with_reducible refine Rest.newE ?_; go_size; done) | (with_reducible refine Rest.drew ?_) | (with_reducible refine Rest.alloc ?_ _) | (refine Rest.on ?_ hbq) | (refine Rest.on ?_ hbb) | (refine Rest.on ?_ hba))
                 · repeat (first | (with_reducible refine Rest.newE ?_; go_size; done) | (with_reducible refine Rest.drew ?_) | (with_reducible refine Rest.alloc ?_ _) | (refine Rest.on ?_ hbq) | (refine Rest.on ?_ hbb) | (refine Rest.on ?_ hba))
                 · omega
                 · omega
                 · omega)
      case rest =>
        obtain ⟨s, t, n, m, V, U, zs, rs, k, l, rfl, rfl, hs1, ht1, hbo, ⟨dz, nz, gz, lz, vz⟩, ⟨dr, nr, gr, lr, vr⟩⟩ := hcut
        rename_i wc
        have HP := Lib.hid (show Pair w wc wc (w.heap.size + 1 + 1) (w.heap.size + 1 + 1 + 1) from ⟨t1.below.trans (hbo.below.mono t1.below.size), Below.refl _ _, r1.on hbo.below, s1.on hbo.below⟩)
        have hf1 := ok_unpack dz nz gz (by rw [vz]; exact fits_le (ok_fits hx o1) (abs_quo _ _))
        have hf2 := ok_unpack dr nr gr (by rw [vr]; exact fits_le (ok_fits hx o1) (abs_rem _ _))
        rw [← val_unpack dz nz] at vz
        rw [← val_unpack dr nr] at vr
        have HV := Lib.hid (And.intro vz vr)
        clear vz vr t1 r1 s1 hall HT HL
        have hbo : Both w wc s t n m V U zs rs zs.length k rs.length l := ⟨HP.out.below, hbo.lp, hbo.lq, hbo.sa, hbo.sb, hbo.a0, hbo.a1, hbo.b0, hbo.b1⟩
        have HB := Lib.hid hbo.all
        have hall := HB.out
        clear hbo
        go_wp2_with fail
        go_region_held3 (fun w' => Both w w' s t n m V U zs rs zs.length k rs.length l ∧ w'.cell? ⟨s, 0, none⟩ = some (.bool n) ∧ w'.cell? ⟨s, 1, none⟩ = some (.slice V zs.length k) ∧ w'.cell? ⟨t, 0, none⟩ = some (.bool m) ∧ w'.cell? ⟨t, 1, none⟩ = some (.slice U rs.length l))
          (first | exact HB.out | exact Both.keep HB.out ((Below.refl _ _).drew) | exact Both.keep (by assumption) (by assumption) | exact Both.keep (by assumption) ((Below.refl _ _).drew) | exact Both.put (by assumption) (by first | exact Pair.one (by assumption) | exact Rest.put (Pair.two (by assumption)) (by omega) _ _) (by omega) (by omega) (by omega) _ _)
          (first
            | (go_at_call_of 53 (Value.agg #[.bool n, .slice V zs.length k]); refine (int_any n V zs k _ (Both.sa' (by assumption)) dz nz (by omega)).mono ?_; rintro e wi ⟨gi, rfl, hri, hgi, hb⟩
               have hp1 := Pair.on (by first | exact HP.out | exact Pair.drew HP.out) hb)
            | (go_at_call_of 53 (Value.agg #[.bool m, .slice U rs.length l]); refine (int_any m U rs l _ (Both.sb' (by assumption)) dr nr (by omega)).mono ?_; rintro e wj ⟨gj, rfl, hrj, hgj, hb⟩
               have hp := Pair.on (by first | exact hp1 | exact Pair.drew hp1) hb
               have hri2 : Row .u32 wj gi 54 (unpack zs) := Row.below hri hb hri.lt
               have g0 := hp.one.r0
               have g1 := hp.one.r1
               have g2 := hp.one.f0
               have g3 := hp.one.f1
               have g4 := hp.two.r0
               have g5 := hp.two.r1
               have g6 := hp.two.f0
               have g7 := hp.two.f1))
        have L1 : Lm wj n (some ⟨gi, 0, none⟩) (unpack zs) (unpack zs).length := ⟨sl_row hri2, dig_unpack zs, hf1⟩
        have L2 : Lm wj m (some ⟨gj, 0, none⟩) (unpack rs) (unpack rs).length := ⟨sl_row hrj, dig_unpack rs, hf2⟩
        have L1 := (L1.laid hp.one (.bool n) (.slice (some ⟨gi, 0, none⟩) (unpack zs).length (unpack zs).length)).laid (hp.two.put (by omega) _ _) (.bool m) (.slice (some ⟨gj, 0, none⟩) (unpack rs).length (unpack rs).length)
        have L2 := (L2.laid hp.one (.bool n) (.slice (some ⟨gi, 0, none⟩) (unpack zs).length (unpack zs).length)).laid (hp.two.put (by omega) _ _) (.bool m) (.slice (some ⟨gj, 0, none⟩) (unpack rs).length (unpack rs).length)
        all_goals
          go_wp2
          refine bodyPost_ret (v := .tuple #[big n (some ⟨gi, 0, none⟩) (unpack zs).length (unpack zs).length, big m (some ⟨gj, 0, none⟩) (unpack rs).length (unpack rs).length, .int .i64 0]) (by simp [results, Tryd.results30, go_sem, g0, g1, g4, g5]) rfl ?_
          exact ⟨n, _, unpack zs, _, m, _, unpack rs, _, 0, rfl, L1, L2, .inl ⟨⟨o1, o2, hy0⟩, rfl, HV.out.1, HV.out.2⟩, Both.below' (by assumption)⟩
  · have hk2 : (if chkV n1 xs = 0 then chkV n2 ys else 1) = 1 := by
      by_cases h : Ok n1 xs
      · rw [if_pos (chkV_ok h), chkV_bad (fun h2 => ho ⟨h, h2⟩)]
      · rw [if_neg (by rw [chkV_bad h]; decide)]
    rw [hk2]
    have HB := Lib.hid t1.below
    clear hk2
    go_wp2_with fail
    go_region
    all_goals
      go_wp2
      refine bodyPost_ret (v := .tuple #[big false none ([] : List Nat).length 0, big false none ([] : List Nat).length 0, .int .i64 1]) (by simp [results, Tryd.results30, go_sem, ra0, ra1, rb0, rb1]) rfl ?_
      exact ⟨false, none, [], 0, false, none, [], 0, 1, rfl, ⟨fun h => absurd h (by simp), by intro x hx; simp at hx, ok_zero⟩, ⟨fun h => absurd h (by simp), by intro x hx; simp at hx, ok_zero⟩, .inr ⟨fun h => ho ⟨h.1, h.2.1⟩, ⟨fun h => absurd h ho, fun _ => rfl⟩, rfl, rfl, rfl, rfl⟩, by (repeat (first | with_reducible assumption | exact Two.below (by assumption) | (refine Below.drew ?_) | (refine Below.setCell ?_ (by simp; omega) _)))⟩
end Go.Proofs.YtiofglgpgjnonaaDoor
