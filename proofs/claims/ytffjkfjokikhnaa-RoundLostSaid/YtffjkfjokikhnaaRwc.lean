/-
  What the document's own Double returns of nought, and three numbers in three cells. No conditions but that the numbers are numbers.
-/
import Derived.Test.YtffjkfjokikhnaaRwb
namespace Go.Proofs.Ytffjkfjokikhnaa.Rb
open Go.RowKit Nb Fl Ieee
set_option maxHeartbeats 1000000 in
theorem rdouble_zero (A : Option Addr) (xs : List Nat) (c : Nat) (t : Int) (w : World) (h0 : xs.length = 0) :
    Calls Try.prog 51 #[big false A xs.length c, .int .i64 t] w (Givl w 0 0) := by
  have hr := Rest.new (w.alloc (.cells #[.bool false, .slice A xs.length c] 49))
  rw [show (w.alloc (.cells #[.bool false, .slice A xs.length c] 49)).heap.size = w.heap.size + 1 by go_size] at hr
  have hb0 : Below w.heap.size w ((w.alloc (.cells #[.bool false, .slice A xs.length c] 49)).alloc (.cells #[.bool false, .slice none 0 0] 49)) := by go_grown
  rw [h0] at *
  clear h0
  have g0 := hr.r0
  have g1 := hr.r1
  have g2 := hr.f0
  have g3 := hr.f1
  have HB : Hid (Bg ((w.alloc (.cells #[.bool false, .slice A 0 c] 49)).alloc (.cells #[.bool false, .slice none 0 0] 49)) false none ([] : List Nat) 0 maxLen) := Lib.hid ⟨Sl.none_, Dig.nil _, Norm.nil, fun _ => rfl, Nat.le_refl _, Nat.zero_le _⟩
  have hL := hr.laid hb0 (by omega) HB.out
  have HL := Lib.hid hL
  have HB0 := Lib.hid hb0
  clear hL hb0 hr
  go_enter Try.func51, Try.ntmps51
  go_wp2
  refine bodyPost_ret (v := big false none ([] : List Nat).length 0) (by simp [results, Try.results51, go_sem, g0, g1]) rfl ?_
  refine ⟨false, none, [], 0, rfl, ?_, by simp [sv, val], Nat.le_refl _, ?_⟩
  · first | exact HB.out | exact HL.out.1
  · first | exact HB0.out | exact HL.out.2
/-- Double by any power that is not negative, or of nought. -/
theorem rdouble_int (n : Bool) (A : Option Addr) (xs : List Nat) (c : Nat) (t : Int) (w : World) (hx : Bg w n A xs c maxLen) (hl : xs.length ≤ 1000000) (ht : t ≤ 10000000) (h : xs.length = 0 ∨ 0 ≤ t) :
    Calls Try.prog 51 #[big n A xs.length c, .int .i64 t] w (Givl w (sv n (val W32 xs) * (2 ^ t.toNat : Nat)) (xs.length + t.toNat / 32 + 1)) := by
  rcases Nat.eq_zero_or_pos xs.length with h0 | h0
  · have e := List.eq_nil_of_length_eq_zero h0
    have hn := hx.sign e
    subst hn
    refine (rdouble_zero A xs c t w h0).mono ?_
    rintro e w' ⟨n, B, zs, k, h1, h2, h3, h4, h5⟩
    refine ⟨n, B, zs, k, h1, h2, ?_, by omega, h5⟩
    rw [h3, List.eq_nil_of_length_eq_zero h0]
    simp [sv, val]
  · obtain ⟨N, rfl⟩ := Int.eq_ofNat_of_zero_le (show 0 ≤ t by omega)
    have := rdouble_any n A xs c N w hx hl (by omega)
    simpa using this
/-- Three numbers in three cells. -/
structure Tri3 (w W : World) (p q r : Nat) (n1 n2 n3 : Bool) (A B C : Option Addr) (xs ys zs : List Nat) (c d k : Nat) : Prop where
  below : Below w.heap.size w W
  lp : p < W.heap.size
  lq : q < W.heap.size
  lr : r < W.heap.size
  sa : Sl .u32 W w.heap.size A xs
  sb : Sl .u32 W w.heap.size B ys
  sc : Sl .u32 W w.heap.size C zs
  a0 : W.cell? ⟨p, 0, none⟩ = some (.bool n1)
  a1 : W.cell? ⟨p, 1, none⟩ = some (.slice A xs.length c)
  b0 : W.cell? ⟨q, 0, none⟩ = some (.bool n2)
  b1 : W.cell? ⟨q, 1, none⟩ = some (.slice B ys.length d)
  c0 : W.cell? ⟨r, 0, none⟩ = some (.bool n3)
  c1 : W.cell? ⟨r, 1, none⟩ = some (.slice C zs.length k)
section
variable {w W W' : World} {p q r : Nat} {n1 n2 n3 : Bool} {A B C : Option Addr} {xs ys zs : List Nat} {c d k : Nat} {X : Prop}
theorem Tri3.on (h : Tri3 w W p q r n1 n2 n3 A B C xs ys zs c d k) (hb : Below W.heap.size W W') : Tri3 w W' p q r n1 n2 n3 A B C xs ys zs c d k :=
  ⟨h.below.trans (hb.mono h.below.size), Nat.lt_of_lt_of_le h.lp hb.size, Nat.lt_of_lt_of_le h.lq hb.size, Nat.lt_of_lt_of_le h.lr hb.size, h.sa.below (hb.mono h.below.size), h.sb.below (hb.mono h.below.size), h.sc.below (hb.mono h.below.size),
   (hb.cell (p := ⟨p, 0, none⟩) h.lp).trans h.a0, (hb.cell (p := ⟨p, 1, none⟩) h.lp).trans h.a1, (hb.cell (p := ⟨q, 0, none⟩) h.lq).trans h.b0, (hb.cell (p := ⟨q, 1, none⟩) h.lq).trans h.b1, (hb.cell (p := ⟨r, 0, none⟩) h.lr).trans h.c0, (hb.cell (p := ⟨r, 1, none⟩) h.lr).trans h.c1⟩
abbrev TriS (w W : World) (p q r : Nat) (n1 n2 n3 : Bool) (A B C : Option Addr) (xs ys zs : List Nat) (c d k : Nat) : Prop := Tri3 w W p q r n1 n2 n3 A B C xs ys zs c d k ∧ W.cell? ⟨p, 0, none⟩ = some (.bool n1) ∧ W.cell? ⟨p, 1, none⟩ = some (.slice A xs.length c) ∧ W.cell? ⟨q, 0, none⟩ = some (.bool n2) ∧ W.cell? ⟨q, 1, none⟩ = some (.slice B ys.length d) ∧ W.cell? ⟨r, 0, none⟩ = some (.bool n3) ∧ W.cell? ⟨r, 1, none⟩ = some (.slice C zs.length k)
theorem Tri3.all (h : Tri3 w W p q r n1 n2 n3 A B C xs ys zs c d k) : TriS w W p q r n1 n2 n3 A B C xs ys zs c d k := ⟨h, h.a0, h.a1, h.b0, h.b1, h.c0, h.c1⟩
theorem Tri3.keep (h : Tri3 w W p q r n1 n2 n3 A B C xs ys zs c d k ∧ X) (hb : Below W.heap.size W W') : TriS w W' p q r n1 n2 n3 A B C xs ys zs c d k := (h.1.on hb).all
theorem Tri3.sa' (h : Tri3 w W p q r n1 n2 n3 A B C xs ys zs c d k ∧ X) : Sl .u32 W W.heap.size A xs := h.1.sa.more h.1.below.size
theorem Tri3.sb' (h : Tri3 w W p q r n1 n2 n3 A B C xs ys zs c d k ∧ X) : Sl .u32 W W.heap.size B ys := h.1.sb.more h.1.below.size
theorem Tri3.sc' (h : Tri3 w W p q r n1 n2 n3 A B C xs ys zs c d k ∧ X) : Sl .u32 W W.heap.size C zs := h.1.sc.more h.1.below.size
theorem Tri3.below' (h : Tri3 w W p q r n1 n2 n3 A B C xs ys zs c d k ∧ X) : Below w.heap.size w W := h.1.below
end
theorem cells_then {w w' : World} {x y : Value} {t : TypeId} (hb : Below (w.alloc (.cells #[x, y] t)).heap.size (w.alloc (.cells #[x, y] t)) w') : w'.cell? ⟨w.heap.size, 0, none⟩ = some x ∧ w'.cell? ⟨w.heap.size, 1, none⟩ = some y ∧ w.heap.size < w'.heap.size ∧ Below w.heap.size w w' := by
  have h := cells2 w x y t
  have hs := hb.size
  have hz : (w.alloc (.cells #[x, y] t)).heap.size = w.heap.size + 1 := by go_size
  rw [hz] at hs
  exact ⟨(hb.cell (p := ⟨w.heap.size, 0, none⟩) (by rw [hz]; show w.heap.size < _; omega)).trans h.1, (hb.cell (p := ⟨w.heap.size, 1, none⟩) (by rw [hz]; show w.heap.size < _; omega)).trans h.2, by omega, Below.trans (by go_grown) (hb.mono (by go_size))⟩
theorem tri_made {w1 w2 w3 : World} {n1 n2 n3 : Bool} {A B C : Option Addr} {xs ys zs : List Nat} {c d k : Nat} (b1 : Bg w1 n1 A xs c maxLen) (hb2 : Below (w1.alloc (.cells #[.bool n1, .slice A xs.length c] 49)).heap.size (w1.alloc (.cells #[.bool n1, .slice A xs.length c] 49)) w2)
    (b2 : Bg w2 n2 B ys d maxLen) (hb3 : Below (w2.alloc (.cells #[.bool n2, .slice B ys.length d] 49)).heap.size (w2.alloc (.cells #[.bool n2, .slice B ys.length d] 49)) w3) (b3 : Bg w3 n3 C zs k maxLen) :
    Tri3 w3 (w3.alloc (.cells #[.bool n3, .slice C zs.length k] 49)) w1.heap.size w2.heap.size w3.heap.size n1 n2 n3 A B C xs ys zs c d k := by
  have h2 := cells_then hb2
  have h3 := cells_then hb3
  have h4 := cells_then (Below.refl _ (w3.alloc (.cells #[.bool n3, .slice C zs.length k] 49)))
  have b12 := b1.below h2.2.2.2
  have b13 := b12.below h3.2.2.2
  have b23 := b2.below h3.2.2.2
  have hx3 := h3.2.2.2.size
  refine ⟨h4.2.2.2, by omega, by omega, by omega, b13.sl.below h4.2.2.2, b23.sl.below h4.2.2.2, b3.sl.below h4.2.2.2, ?_, ?_, ?_, ?_, h4.1, h4.2.1⟩
  · exact (h4.2.2.2.cell (p := ⟨w1.heap.size, 0, none⟩) (by show w1.heap.size < _; omega)).trans ((h3.2.2.2.cell (p := ⟨w1.heap.size, 0, none⟩) h2.2.2.1).trans h2.1)
  · exact (h4.2.2.2.cell (p := ⟨w1.heap.size, 1, none⟩) (by show w1.heap.size < _; omega)).trans ((h3.2.2.2.cell (p := ⟨w1.heap.size, 1, none⟩) h2.2.2.1).trans h2.2.1)
  · exact (h4.2.2.2.cell (p := ⟨w2.heap.size, 0, none⟩) h3.2.2.1).trans h3.1
  · exact (h4.2.2.2.cell (p := ⟨w2.heap.size, 1, none⟩) h3.2.2.1).trans h3.2.1
end Go.Proofs.Ytffjkfjokikhnaa.Rb
