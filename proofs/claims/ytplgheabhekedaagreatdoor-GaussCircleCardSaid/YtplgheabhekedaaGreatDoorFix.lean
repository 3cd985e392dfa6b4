/-
  Numbers that the statements fix: whole.Of of a constant; division by one word; a number held in a cell. No conditions.
-/
import Derived.Test.YtplgheabhekedaaGreatDoorWText
import Derived.Test.YtplgheabhekedaaGreatDoorReck
import Derived.Test.YtplgheabhekedaaGreatDoorQuo
namespace Go.Proofs.YtplgheabhekedaaGreatDoor
open Go.RowKit Nb

theorem of_fix (n : Int) (neg : Bool) (w : World) (h0 : -9223372036854775808 ≤ n) (h1 : n ≤ 9223372036854775807) (hneg : decide (n < 0) = neg) :
    Calls Tryz.prog 45 #[.int .i64 n] w fun e w' => ∃ A c xs, e = .returned (big neg A xs.length c) ∧ Lm w' neg A xs c ∧ sv neg (val W32 xs) = n ∧ xs.length ≤ 2 ∧ Below w.heap.size w w' := by
  subst hneg
  refine (of_any n w h0 h1).mono ?_
  rintro e w' ⟨A, c, rfl, hs, hb⟩
  refine ⟨A, c, ofI n, rfl, ⟨hs, ofI_dig n, ofI_ok h0 h1⟩, ?_, ofI_len h0 h1, hb.2.2⟩
  rw [ofI_val h0 h1, sv]
  by_cases h : n < 0 <;> simp [h] <;> omega

theorem pack_one {ys : List Nat} (hl : ys.length ≤ 2) (hne : ys ≠ []) : ∃ y, pack ys = [y] := by
  have h := pack_length ys
  have := List.length_pos_iff.2 hne
  exact List.length_eq_one_iff.1 (by omega)

theorem hq_word {n1 n2 : Bool} {xs ys : List Nat} (hx : Dig W32 xs) (hy : Dig W32 ys) (hl : ys.length ≤ 2) : Ok n1 xs → Ok n2 ys → ys ≠ [] → ∀ (g1 g2 : Nat) (W : World), Sl .u64 W W.heap.size (some ⟨g1, 0, none⟩) (pack xs) → Sl .u64 W W.heap.size (some ⟨g2, 0, none⟩) (pack ys) → Calls Tryz.prog 171 #[.slice (some ⟨g1, 0, none⟩) (pack xs).length (pack xs).length, .slice (some ⟨g2, 0, none⟩) (pack ys).length (pack ys).length] W (Words2 W (val W64 (pack xs) / val W64 (pack ys)) (val W64 (pack xs) % val W64 (pack ys)) 4096) := by
  intro o1 o2 hne g1 g2 W h1 h2
  obtain ⟨y, hp⟩ := pack_one hl hne
  have dx := dig_pack hx
  have dy := dig_pack hy
  have nx := norm_pack o1.norm
  have ny := norm_pack o2.norm
  have hpl := pack_length xs
  have hlen := o1.len
  rw [hp] at h2 dy ny ⊢
  have hy1 : y < W64 := dy y (by simp)
  have hv : val W64 [y] = y := by simp [val]
  have hy0 : 0 < y := by
    rcases Nat.eq_zero_or_pos y with h | h
    · have := ny (by simp); simp at this; omega
    · exact h
  by_cases hlt : val W64 (pack xs) < val W64 [y]
  · exact quotient_less _ _ (pack xs) [y] _ _ 4096 W h1 h2 dx dy nx ny (by omega) (by simp) (Nat.le_refl _) (by omega) hlt
  · rw [hv] at hlt ⊢
    exact quotient_word _ _ (pack xs) y _ _ 4096 W h1 h2 dx hy1 nx hy0 (by omega) (by omega) (by omega)

/-- A number in a cell. -/
structure Held (W : World) (p : Nat) (n : Bool) (A : Option Addr) (ls : List Nat) (c : Nat) : Prop where
  lt : p < W.heap.size
  c0 : W.cell? ⟨p, 0, none⟩ = some (.bool n)
  c1 : W.cell? ⟨p, 1, none⟩ = some (.slice A ls.length c)
  lm : Lm W n A ls c
theorem Held.on {W W' : World} {p : Nat} {n : Bool} {A : Option Addr} {ls : List Nat} {c : Nat} (h : Held W p n A ls c) (hb : Below W.heap.size W W') : Held W' p n A ls c :=
  ⟨Nat.lt_of_lt_of_le h.lt hb.size, (hb.cell (p := ⟨p, 0, none⟩) h.lt).trans h.c0, (hb.cell (p := ⟨p, 1, none⟩) h.lt).trans h.c1, h.lm.below hb⟩
/-- One is laid. -/
theorem Held.new {W : World} {p : Nat} {n : Bool} {A : Option Addr} {ls : List Nat} {c : Nat} (hr : Rest W p) (h : Lm W n A ls c) : Held ((W.setCell ⟨p, 0, none⟩ (.bool n)).setCell ⟨p, 1, none⟩ (.slice A ls.length c)) p n A ls c := by
  refine ⟨by simpa using hr.lr, ?_, ?_, h.laid hr _ _⟩
  · rw [World.cell?_setCell_other _ _ _ _ (by simp)]
    have := hr.r0; have := hr.f0
    go_cell
  · have := hr.r1; have := hr.f1
    go_cell
theorem Held.put {W : World} {p r : Nat} {n : Bool} {A : Option Addr} {ls : List Nat} {c : Nat} (h : Held W p n A ls c) (hr : Rest W r) (hne : p ≠ r) (u v : Value) : Held ((W.setCell ⟨r, 0, none⟩ u).setCell ⟨r, 1, none⟩ v) p n A ls c := by
  have hk : ∀ (j : Nat), ((W.setCell ⟨r, 0, none⟩ u).setCell ⟨r, 1, none⟩ v).cell? ⟨p, j, none⟩ = W.cell? ⟨p, j, none⟩ := fun j => by
    rw [World.cell?_setCell_other _ _ _ _ (fun e => hne (by injection e with a; exact a.symm)), World.cell?_setCell_other _ _ _ _ (fun e => hne (by injection e with a; exact a.symm))]
  exact ⟨by simpa using h.lt, (hk 0).trans h.c0, (hk 1).trans h.c1, h.lm.laid hr u v⟩

theorem Lm.sz {W : World} {n : Bool} {A : Option Addr} {ls : List Nat} {c : Nat} (h : Lm W n A ls c) : ls.length * 4 ≤ 140737488351232 := by have := h.ok.len; omega
/-- Of two numbers that may be. -/
theorem wcmp_lm {n1 n2 : Bool} {A B : Option Addr} {xs ys : List Nat} {c d : Nat} (w : World) (h1 : Lm w n1 A xs c) (h2 : Lm w n2 B ys d) (r : Int) (hr : cmpI (sv n1 (val W32 xs)) (sv n2 (val W32 ys)) = r) :
    Calls Tryz.prog 44 #[big n1 A xs.length c, big n2 B ys.length d] w fun e w' => e = .returned (.int .i64 r) ∧ Below w.heap.size w w' := by
  have h := wcmp_u n1 n2 A B xs ys c d w h1.sl h2.sl h1.dig h2.dig h1.sz h2.sz
  rwa [show cmpV n1 xs n2 ys = r by unfold cmpV; rw [if_pos ⟨h1.ok, h2.ok⟩, hr]] at h
end Go.Proofs.YtplgheabhekedaaGreatDoor
