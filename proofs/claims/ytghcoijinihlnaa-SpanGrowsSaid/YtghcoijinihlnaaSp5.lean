/-
  Words for span's reckon: two spans in cells of the call's own, eight floats in a block of its own. No conditions.
-/
import Derived.Test.YtghcoijinihlnaaSp4
import Derived.Laws.IdiomCopy
namespace Go.Proofs.Ytghcoijinihlnaa.Fl
open Go.RowKit Ieee
/-- Two spans in two cells of the call's own, and what stays. -/
structure Rk (w W' : World) (al ah bl bh : Nat) : Prop where
  below : Below w.heap.size w W'
  lt : w.heap.size + 1 + 1 < W'.heap.size
  a0 : W'.cell? ⟨w.heap.size, 0, none⟩ = some (.float .f64 al)
  a1 : W'.cell? ⟨w.heap.size, 1, none⟩ = some (.float .f64 ah)
  b0 : W'.cell? ⟨w.heap.size + 1, 0, none⟩ = some (.float .f64 bl)
  b1 : W'.cell? ⟨w.heap.size + 1, 1, none⟩ = some (.float .f64 bh)
  r0 : W'.cell? ⟨w.heap.size + 1 + 1, 0, none⟩ = some (.float .f64 0)
  r1 : W'.cell? ⟨w.heap.size + 1 + 1, 1, none⟩ = some (.float .f64 0)
  f0 : W'.frozen? ⟨w.heap.size + 1 + 1, 0, none⟩ = false
  f1 : W'.frozen? ⟨w.heap.size + 1 + 1, 1, none⟩ = false
theorem Rk.of {w W' W'' : World} {al ah bl bh : Nat} (h : Rk w W' al ah bl bh) (hb : Below w.heap.size w W'') (hz : W'.heap.size ≤ W''.heap.size) (hc : ∀ b o, b ≤ w.heap.size + 1 + 1 → W''.cell? ⟨b, o, none⟩ = W'.cell? ⟨b, o, none⟩) (hf : ∀ b o, b ≤ w.heap.size + 1 + 1 → W''.frozen? ⟨b, o, none⟩ = W'.frozen? ⟨b, o, none⟩) : Rk w W'' al ah bl bh :=
  ⟨hb, Nat.lt_of_lt_of_le h.lt hz,
    (hc _ _ (by omega)).trans h.a0, (hc _ _ (by omega)).trans h.a1, (hc _ _ (by omega)).trans h.b0, (hc _ _ (by omega)).trans h.b1, (hc _ _ (by omega)).trans h.r0, (hc _ _ (by omega)).trans h.r1, (hf _ _ (by omega)).trans h.f0, (hf _ _ (by omega)).trans h.f1⟩
theorem Rk.on {w W' W'' : World} {al ah bl bh : Nat} (h : Rk w W' al ah bl bh) (hb : Below W'.heap.size W' W'') : Rk w W'' al ah bl bh :=
  have hl := h.lt
  h.of (h.below.trans (hb.mono (by omega))) hb.size (fun b o hbb => hb.cell (p := ⟨b, o, none⟩) (Nat.lt_of_le_of_lt hbb hl)) (fun b o hbb => hb.frozen (p := ⟨b, o, none⟩) (Nat.lt_of_le_of_lt hbb hl))
/-- Floats in a block. -/
structure Zr (W : World) (g : Nat) (L : List Nat) : Prop where
  lt : g < W.heap.size
  c : ∀ j (h : j < L.length), W.cell? ⟨g, j, none⟩ = some (.float .f64 L[j])
  f : ∀ j, W.frozen? ⟨g, j, none⟩ = false
theorem Zr.at_ {W : World} {g : Nat} {L : List Nat} (h : Zr W g L) (j x : Nat) (hx : L[j]? = some x) : W.cell? ⟨g, j, none⟩ = some (.float .f64 x) := by
  obtain ⟨hj, e⟩ := List.getElem?_eq_some_iff.1 hx
  rw [h.c j hj, e]
theorem Zr.on {W W' : World} {g : Nat} {L : List Nat} (h : Zr W g L) (hb : Below W.heap.size W W') : Zr W' g L :=
  ⟨Nat.lt_of_lt_of_le h.lt hb.size, fun j hj => (hb.cell (p := ⟨g, j, none⟩) h.lt).trans (h.c j hj), fun j => (hb.frozen (p := ⟨g, j, none⟩) h.lt).trans (h.f j)⟩
theorem Zr.new (W : World) (t : TypeId) : Zr (W.alloc (.cells #[.float .f64 0, .float .f64 0, .float .f64 0, .float .f64 0, .float .f64 0, .float .f64 0, .float .f64 0, .float .f64 0] t)) W.heap.size [0, 0, 0, 0, 0, 0, 0, 0] := by
  refine ⟨by simp, fun j hj => ?_, fun j => World.frozen?_alloc_at _ _ _ _ rfl⟩
  rw [World.cell?_alloc_new]
  match j, hj with
  | 0, _ => rfl
  | 1, _ => rfl
  | 2, _ => rfl
  | 3, _ => rfl
  | 4, _ => rfl
  | 5, _ => rfl
  | 6, _ => rfl
  | 7, _ => rfl
theorem below_setCells {B g : Nat} {a : World} (hg : B ≤ g) : ∀ (vs : List Value) (o : Nat) {W : World}, Below B a W → Below B a (W.setCells g o vs)
  | [], _, _, h => h
  | v :: r, o, _, h => below_setCells hg r (o + 1) (h.setCell (p := ⟨g, o, none⟩) hg v)
theorem setCells_size (g : Nat) : ∀ (vs : List Value) (o : Nat) (W : World), (W.setCells g o vs).heap.size = W.heap.size
  | [], _, _ => rfl
  | v :: r, o, W => (setCells_size g r (o + 1) _).trans (by simp)
theorem setCells_frozen (g : Nat) (a : Addr) : ∀ (vs : List Value) (o : Nat) (W : World), (W.setCells g o vs).frozen? a = W.frozen? a
  | [], _, _ => rfl
  | v :: r, o, W => (setCells_frozen g a r (o + 1) _).trans (by simp)
theorem fill_any {w W : World} {g al ah bl bh : Nat} {L : List Nat} (h : Zr W g L) (hR : Rk w W al ah bl bh) (hg : w.heap.size + 1 + 1 < g) (X : List Nat) (hX : X.length = L.length) :
    Zr (W.setCells g 0 (X.map fun x => .float .f64 x)) g X ∧ Rk w (W.setCells g 0 (X.map fun x => .float .f64 x)) al ah bl bh := by
  have hin := World.cell?_setCells_in g (X.map fun x => .float .f64 x) 0 W (fun j hj => by
    rw [Nat.zero_add, h.c j (by rw [← hX]; simpa using hj)]; rfl)
  have hout := World.cell?_setCells_out g (X.map fun x => Value.float .f64 x) 0 W
  refine ⟨⟨by rw [setCells_size]; exact h.lt, fun j hj => ?_, fun j => by rw [setCells_frozen]; exact h.f j⟩,
    hR.of (below_setCells (by omega) _ _ hR.below) (by rw [setCells_size]; exact Nat.le_refl _) (fun b o hbb => hout ⟨b, o, none⟩ (fun e => absurd (show b = g from e) (by omega))) (fun b o hbb => setCells_frozen _ _ _ _ _)⟩
  have := hin j (by simpa using hj)
  rw [Nat.zero_add] at this
  rw [this, List.getElem_map]
theorem fill8 {w W : World} {g al ah bl bh : Nat} (h : Zr W g [0, 0, 0, 0, 0, 0, 0, 0]) (hR : Rk w W al ah bl bh) (hg : w.heap.size + 1 + 1 < g) (x0 x1 x2 x3 x4 x5 x6 x7 : Nat) :
    Zr ((((((((W.setCell ⟨g, 0, none⟩ (.float .f64 x0)).setCell ⟨g, 1, none⟩ (.float .f64 x1)).setCell ⟨g, 2, none⟩ (.float .f64 x2)).setCell ⟨g, 3, none⟩ (.float .f64 x3)).setCell ⟨g, 4, none⟩ (.float .f64 x4)).setCell ⟨g, 5, none⟩ (.float .f64 x5)).setCell ⟨g, 6, none⟩ (.float .f64 x6)).setCell ⟨g, 7, none⟩ (.float .f64 x7)) g [x0, x1, x2, x3, x4, x5, x6, x7] ∧ Rk w ((((((((W.setCell ⟨g, 0, none⟩ (.float .f64 x0)).setCell ⟨g, 1, none⟩ (.float .f64 x1)).setCell ⟨g, 2, none⟩ (.float .f64 x2)).setCell ⟨g, 3, none⟩ (.float .f64 x3)).setCell ⟨g, 4, none⟩ (.float .f64 x4)).setCell ⟨g, 5, none⟩ (.float .f64 x5)).setCell ⟨g, 6, none⟩ (.float .f64 x6)).setCell ⟨g, 7, none⟩ (.float .f64 x7)) al ah bl bh :=
  fill_any h hR hg [x0, x1, x2, x3, x4, x5, x6, x7] rfl
theorem far2 {W : World} {p g o : Nat} (h : g ≠ p) {u v : Value} : ((W.setCell ⟨p, 0, none⟩ u).setCell ⟨p, 1, none⟩ v).cell? ⟨g, o, none⟩ = W.cell? ⟨g, o, none⟩ := by
  rw [World.cell?_setCell_other _ _ _ _ (fun e => h (by injection e with a; exact a.symm)), World.cell?_setCell_other _ _ _ _ (fun e => h (by injection e with a; exact a.symm))]
theorem flts3 {d2 u2 d3 u3 d4 u4 : Nat} (h : Flt d2 ∧ Flt u2 ∧ Flt d3 ∧ Flt u3 ∧ Flt d4 ∧ Flt u4) : Flts [(d2, u2), (d3, u3), (d4, u4)] := fun s hs => by
  obtain ⟨a, b, c, d, e, f⟩ := h
  simp only [List.mem_cons, List.not_mem_nil, or_false] at hs
  rcases hs with rfl | rfl | rfl
  · exact ⟨a, b⟩
  · exact ⟨c, d⟩
  · exact ⟨e, f⟩
theorem lies3 {W : World} {g d1 u1 d2 u2 d3 u3 d4 u4 : Nat} (h : Zr W g [d1, u1, d2, u2, d3, u3, d4, u4]) : Lies W g 2 [(d2, u2), (d3, u3), (d4, u4)] := fun j hj => by
  match j, hj with
  | 0, _ => exact ⟨h.c 2 (by simp), h.c 3 (by simp)⟩
  | 1, _ => exact ⟨h.c 4 (by simp), h.c 5 (by simp)⟩
  | 2, _ => exact ⟨h.c 6 (by simp), h.c 7 (by simp)⟩
end Go.Proofs.Ytghcoijinihlnaa.Fl
