/-
  Fractions in words, boxes, numbers with what they are worth, and what large's operations make of them. Conditions: that the numbers are no longer than memory.
-/
import Derived.Test.YtjamfkafgfpobaaGreatCom0
import Derived.Deep.RegionHeld3
import Derived.Deep.DeepCutAuto
import Derived.BigRegion
import Derived.Test.YtjamfkafgfpobaaGreatSame
import Derived.Test.YtjamfkafgfpobaaGreatNums
/-! ### Fqd -/
namespace Go.Proofs.YtjamfkafgfpobaaGreat
open Go.RowKit Nb
/-- A fraction's value. -/
abbrev frq (n : Bool) (A : Option Addr) (l c : Nat) (m : Bool) (B : Option Addr) (k d : Nat) : Value := .agg #[.bool n, .slice A l c, .bool m, .slice B k d]
/-- A fraction in words, worth q. -/
structure Lq (w : World) (q : Rat) (n : Bool) (A : Option Addr) (xs : List Nat) (c : Nat) (B : Option Addr) (ds : List Nat) (d C : Nat) : Prop where
  num : Bg w n A xs c C
  den : Bg w false B ds d C
  vn : sv n (val W64 xs) = q.num
  vd : val W64 ds = q.den
/-- It answers this fraction. -/
def GivesQ (w : World) (q : Rat) (C : Nat) (e : Ending) (w' : World) : Prop := ∃ (n : Bool) (A : Option Addr) (xs : List Nat) (c : Nat) (B : Option Addr) (ds : List Nat) (d : Nat),
  e = .returned (frq n A xs.length c false B ds.length d) ∧ Lq w' q n A xs c B ds d C ∧ Below w.heap.size w w'
section
variable {w w' : World} {q : Rat} {n : Bool} {A B : Option Addr} {xs ds : List Nat} {c d C C' : Nat}
theorem Lq.below (h : Lq w q n A xs c B ds d C) (hb : Below w.heap.size w w') : Lq w' q n A xs c B ds d C := ⟨h.num.below hb, h.den.below hb, h.vn, h.vd⟩
theorem Lq.mono (h : Lq w q n A xs c B ds d C) (hC : C ≤ C') : Lq w q n A xs c B ds d C' := ⟨h.num.mono hC, h.den.mono hC, h.vn, h.vd⟩
theorem Lq.ne (h : Lq w q n A xs c B ds d C) : ds ≠ [] := by
  intro e
  have h1 := h.vd
  have h2 := q.den_nz
  subst e
  exact h2 (by rw [← h1]; rfl)
theorem Lq.svd (h : Lq w q n A xs c B ds d C) : sv false (val W64 ds) = (q.den : Int) := by show ((val W64 ds : Nat) : Int) = _; rw [h.vd]
theorem GivesQ.mono {e : Ending} (h : GivesQ w q C e w') (hC : C ≤ C') : GivesQ w q C' e w' := by
  obtain ⟨n, A, xs, c, B, ds, d, h1, h2, h3⟩ := h
  exact ⟨n, A, xs, c, B, ds, d, h1, h2.mono hC, h3⟩
end
/-- Room for an answer that is a fraction. -/
structure RestQ (W : World) (r : Nat) : Prop where
  lr : r < W.heap.size
  r0 : W.cell? ⟨r, 0, none⟩ = some (.bool false)
  r1 : W.cell? ⟨r, 1, none⟩ = some (.slice none 0 0)
  r2 : W.cell? ⟨r, 2, none⟩ = some (.bool false)
  r3 : W.cell? ⟨r, 3, none⟩ = some (.slice none 0 0)
  f0 : W.frozen? ⟨r, 0, none⟩ = false
  f1 : W.frozen? ⟨r, 1, none⟩ = false
  f2 : W.frozen? ⟨r, 2, none⟩ = false
  f3 : W.frozen? ⟨r, 3, none⟩ = false
theorem RestQ.on {W W' : World} {r : Nat} (h : RestQ W r) (hb : Below W.heap.size W W') : RestQ W' r :=
  ⟨Nat.lt_of_lt_of_le h.lr hb.size, (hb.cell (p := ⟨r, 0, none⟩) h.lr).trans h.r0, (hb.cell (p := ⟨r, 1, none⟩) h.lr).trans h.r1, (hb.cell (p := ⟨r, 2, none⟩) h.lr).trans h.r2, (hb.cell (p := ⟨r, 3, none⟩) h.lr).trans h.r3,
    (hb.frozen (p := ⟨r, 0, none⟩) h.lr).trans h.f0, (hb.frozen (p := ⟨r, 1, none⟩) h.lr).trans h.f1, (hb.frozen (p := ⟨r, 2, none⟩) h.lr).trans h.f2, (hb.frozen (p := ⟨r, 3, none⟩) h.lr).trans h.f3⟩
theorem RestQ.new (W : World) (t : TypeId) : RestQ (W.alloc (.cells #[.bool false, .slice none 0 0, .bool false, .slice none 0 0] t)) W.heap.size :=
  ⟨by simp, by go_cell, by go_cell, by go_cell, by go_cell, World.frozen?_alloc_new _ _ _ _, World.frozen?_alloc_new _ _ _ _, World.frozen?_alloc_new _ _ _ _, World.frozen?_alloc_new _ _ _ _⟩
theorem Sl.putq {k : IntKind} {W : World} {B : Nat} {V : Option Addr} {zs : List Nat} {r : Nat} (h : Sl k W B V zs) (hr : RestQ W r) (u0 u1 u2 u3 : Value) :
    Sl k ((((W.setCell ⟨r, 0, none⟩ u0).setCell ⟨r, 1, none⟩ u1).setCell ⟨r, 2, none⟩ u2).setCell ⟨r, 3, none⟩ u3) B V zs := by
  have h1 := h.keepAt hr.r0 (by intro _ e; cases e) u0
  have e1 : (W.setCell ⟨r, 0, none⟩ u0).cell? ⟨r, 1, none⟩ = some (.slice none 0 0) := by rw [World.cell?_setCell_other _ _ _ _ (by simp)]; exact hr.r1
  have h2 := h1.keepAt e1 (by intro _ e; cases e) u1
  have e2 : ((W.setCell ⟨r, 0, none⟩ u0).setCell ⟨r, 1, none⟩ u1).cell? ⟨r, 2, none⟩ = some (.bool false) := by rw [World.cell?_setCell_other _ _ _ _ (by simp), World.cell?_setCell_other _ _ _ _ (by simp)]; exact hr.r2
  have h3 := h2.keepAt e2 (by intro _ e; cases e) u2
  have e3 : (((W.setCell ⟨r, 0, none⟩ u0).setCell ⟨r, 1, none⟩ u1).setCell ⟨r, 2, none⟩ u2).cell? ⟨r, 3, none⟩ = some (.slice none 0 0) := by rw [World.cell?_setCell_other _ _ _ _ (by simp), World.cell?_setCell_other _ _ _ _ (by simp), World.cell?_setCell_other _ _ _ _ (by simp)]; exact hr.r3
  exact h3.keepAt e3 (by intro _ e; cases e) u3
theorem Below.putq {N : Nat} {w W : World} {r : Nat} (hb : Below N w W) (hw : N ≤ r) (u0 u1 u2 u3 : Value) :
    Below N w ((((W.setCell ⟨r, 0, none⟩ u0).setCell ⟨r, 1, none⟩ u1).setCell ⟨r, 2, none⟩ u2).setCell ⟨r, 3, none⟩ u3) :=
  (((hb.setCell (p := ⟨r, 0, none⟩) hw u0).setCell (p := ⟨r, 1, none⟩) hw u1).setCell (p := ⟨r, 2, none⟩) hw u2).setCell (p := ⟨r, 3, none⟩) hw u3
theorem Bg.putq {W : World} {n : Bool} {A : Option Addr} {ls : List Nat} {c C : Nat} {r : Nat} (h : Bg W n A ls c C) (hr : RestQ W r) (u0 u1 u2 u3 : Value) :
    Bg ((((W.setCell ⟨r, 0, none⟩ u0).setCell ⟨r, 1, none⟩ u1).setCell ⟨r, 2, none⟩ u2).setCell ⟨r, 3, none⟩ u3) n A ls c C :=
  ⟨by have := h.sl.putq hr u0 u1 u2 u3; simpa using this, h.dig, h.norm, h.sign, h.len, h.cap, h.room⟩
theorem Lq.putq {W : World} {q : Rat} {n : Bool} {A B : Option Addr} {xs ds : List Nat} {c d C r : Nat} (h : Lq W q n A xs c B ds d C) (hr : RestQ W r) (u0 u1 u2 u3 : Value) :
    Lq ((((W.setCell ⟨r, 0, none⟩ u0).setCell ⟨r, 1, none⟩ u1).setCell ⟨r, 2, none⟩ u2).setCell ⟨r, 3, none⟩ u3) q n A xs c B ds d C :=
  ⟨h.num.putq hr _ _ _ _, h.den.putq hr _ _ _ _, h.vn, h.vd⟩
theorem RestQ.drew {W : World} {r : Nat} (h : RestQ W r) : RestQ W.drew r := ⟨h.lr, h.r0, h.r1, h.r2, h.r3, h.f0, h.f1, h.f2, h.f3⟩
theorem keep_n {N : Nat} {V W1 W2 : World} (hN : N ≤ V.heap.size) (h : Below N V W1) (hb : Below W1.heap.size W1 W2) : Below N V W2 := h.trans (hb.mono (Nat.le_trans hN h.size))
/-- One fraction in a box, and room for an answer. -/
theorem box_one (w : World) (n : Bool) (A : Option Addr) (l c : Nat) (m : Bool) (B : Option Addr) (k d : Nat) (s t : TypeId) :
    ∃ V : World, V = (w.alloc (.cells #[.bool n, .slice A l c, .bool m, .slice B k d] s)).alloc (.cells #[.bool false, .slice none 0 0, .bool false, .slice none 0 0] t) ∧ Below w.heap.size w V ∧ V.heap.size = w.heap.size + 1 + 1 ∧ RestQ V (w.heap.size + 1) ∧
      V.cell? ⟨w.heap.size, 0, none⟩ = some (.bool n) ∧ V.cell? ⟨w.heap.size, 1, none⟩ = some (.slice A l c) ∧ V.cell? ⟨w.heap.size, 2, none⟩ = some (.bool m) ∧ V.cell? ⟨w.heap.size, 3, none⟩ = some (.slice B k d) := by
  refine ⟨_, rfl, by go_grown, by go_size, ?_, by go_cell, by go_cell, by go_cell, by go_cell⟩
  have h := RestQ.new (w.alloc (.cells #[.bool n, .slice A l c, .bool m, .slice B k d] s)) t
  rwa [show (w.alloc (.cells #[.bool n, .slice A l c, .bool m, .slice B k d] s)).heap.size = w.heap.size + 1 by go_size] at h
/-- Two fractions in boxes, and room for an answer. -/
theorem box_two (w : World) (n : Bool) (A : Option Addr) (l c : Nat) (m : Bool) (B : Option Addr) (k d : Nat) (n' : Bool) (A' : Option Addr) (l' c' : Nat) (m' : Bool) (B' : Option Addr) (k' d' : Nat) (s s' t : TypeId) :
    ∃ V : World, V = ((w.alloc (.cells #[.bool n, .slice A l c, .bool m, .slice B k d] s)).alloc (.cells #[.bool n', .slice A' l' c', .bool m', .slice B' k' d'] s')).alloc (.cells #[.bool false, .slice none 0 0, .bool false, .slice none 0 0] t) ∧ Below w.heap.size w V ∧ V.heap.size = w.heap.size + 1 + 1 + 1 ∧ RestQ V (w.heap.size + 1 + 1) ∧
      (V.cell? ⟨w.heap.size, 0, none⟩ = some (.bool n) ∧ V.cell? ⟨w.heap.size, 1, none⟩ = some (.slice A l c) ∧ V.cell? ⟨w.heap.size, 2, none⟩ = some (.bool m) ∧ V.cell? ⟨w.heap.size, 3, none⟩ = some (.slice B k d)) ∧
      (V.cell? ⟨w.heap.size + 1, 0, none⟩ = some (.bool n') ∧ V.cell? ⟨w.heap.size + 1, 1, none⟩ = some (.slice A' l' c') ∧ V.cell? ⟨w.heap.size + 1, 2, none⟩ = some (.bool m') ∧ V.cell? ⟨w.heap.size + 1, 3, none⟩ = some (.slice B' k' d')) := by
  refine ⟨_, rfl, by go_grown, by go_size, ?_, ⟨by go_cell, by go_cell, by go_cell, by go_cell⟩, ⟨by go_cell, by go_cell, by go_cell, by go_cell⟩⟩
  have h := RestQ.new ((w.alloc (.cells #[.bool n, .slice A l c, .bool m, .slice B k d] s)).alloc (.cells #[.bool n', .slice A' l' c', .bool m', .slice B' k' d'] s')) t
  rwa [show ((w.alloc (.cells #[.bool n, .slice A l c, .bool m, .slice B k d] s)).alloc (.cells #[.bool n', .slice A' l' c', .bool m', .slice B' k' d'] s')).heap.size = w.heap.size + 1 + 1 by go_size] at h
/-- All that was there stays but one block. -/
structure Bex (r : Nat) (V W : World) : Prop where
  size : V.heap.size ≤ W.heap.size
  cell : ∀ p : Addr, p.block < V.heap.size → p.block ≠ r → W.cell? p = V.cell? p
theorem Bex.of {r : Nat} {V W : World} (h : Below V.heap.size V W) : Bex r V W := ⟨h.size, fun _ hp _ => h.cell hp⟩
theorem Bex.set {r : Nat} {V W : World} (h : Bex r V W) (o : Nat) (u : Value) : Bex r V (W.setCell ⟨r, o, none⟩ u) :=
  ⟨by simpa using h.size, fun p hp hne => by rw [World.cell?_setCell_other _ _ _ _ (fun e => hne (by rw [← e]))]; exact h.cell p hp hne⟩
theorem Bex.put {r : Nat} {V W : World} (h : Bex r V W) (u0 u1 : Value) : Bex r V ((W.setCell ⟨r, 0, none⟩ u0).setCell ⟨r, 1, none⟩ u1) := (h.set 0 u0).set 1 u1
theorem Bex.putq {r : Nat} {V W : World} (h : Bex r V W) (u0 u1 u2 u3 : Value) : Bex r V ((((W.setCell ⟨r, 0, none⟩ u0).setCell ⟨r, 1, none⟩ u1).setCell ⟨r, 2, none⟩ u2).setCell ⟨r, 3, none⟩ u3) := (((h.set 0 u0).set 1 u1).set 2 u2).set 3 u3
theorem Bex.at {r : Nat} {V W : World} (h : Bex r V W) {b o : Nat} {v : Value} (hb : b < V.heap.size) (hne : b ≠ r) (hc : V.cell? ⟨b, o, none⟩ = some v) : W.cell? ⟨b, o, none⟩ = some v := (h.cell _ hb hne).trans hc
/-- A number has been laid in a cell of the call's own. -/
structure Laid (V W : World) (r : Nat) (m : Bool) (U : Option Addr) (z : List Nat) (k : Nat) (Z : Int) (C : Nat) : Prop where
  below : Below V.heap.size V W
  ge : V.heap.size ≤ r
  lt : r < W.heap.size
  c0 : W.cell? ⟨r, 0, none⟩ = some (.bool m)
  c1 : W.cell? ⟨r, 1, none⟩ = some (.slice U z.length k)
  bg : Bg W m U z k C
  v : sv m (val W64 z) = Z
theorem Laid.of {V W : World} {r : Nat} {m : Bool} {U : Option Addr} {z : List Nat} {k : Nat} {Z : Int} {C : Nat} (hr : Rest W r) (hb : Below V.heap.size V W) (hg : V.heap.size ≤ r) (hB : Bg W m U z k C) (hv : sv m (val W64 z) = Z) :
    Laid V ((W.setCell ⟨r, 0, none⟩ (.bool m)).setCell ⟨r, 1, none⟩ (.slice U z.length k)) r m U z k Z C := by
  have a0 := hr.r0
  have a1 := hr.r1
  have hL := hr.laid (w := V) hb hg hB
  exact ⟨hL.2, hg, by simpa using hr.lr, by go_cell, by go_cell, hL.1, hv⟩
theorem Laid.new {V W : World} {m : Bool} {U : Option Addr} {z : List Nat} {k : Nat} {Z : Int} {C : Nat} (hb : Below V.heap.size V W) (hB : Bg W m U z k C) (hv : sv m (val W64 z) = Z) :
    Laid V (((W.alloc (.cells #[.bool false, .slice none 0 0] 72)).setCell ⟨W.heap.size, 0, none⟩ (.bool m)).setCell ⟨W.heap.size, 1, none⟩ (.slice U z.length k)) W.heap.size m U z k Z C :=
  Laid.of (Rest.new W) (hb.alloc hb.size _) hb.size (hB.below ((Below.refl _ _).alloc (Nat.le_refl _) _)) hv
end Go.Proofs.YtjamfkafgfpobaaGreat
/-! ### Fq1 -/
namespace Go.Proofs.YtjamfkafgfpobaaGreat
open Go.RowKit Nb
set_option maxHeartbeats 4000000 in
/-- A division whose rest is not asked. -/
theorem over_any (n1 n2 : Bool) (A B : Option Addr) (xs ys : List Nat) (c d C D : Nat) (w : World) (bx : Bg w n1 A xs c C) (bY : Bg w n2 B ys d D) (hne : ys ≠ []) (hC : C + 1 ≤ 17592186043904) (hD : ys.length ≤ 17592186043904) :
    Calls Tryz.prog 107 #[big n1 A xs.length c, big n2 B ys.length d] w (Gives w ((sv n1 (val W64 xs)).tdiv (sv n2 (val W64 ys))) (C + 1)) := by
  have l1 := bx.len
  have l2 := bx.cap
  have HQ := Lib.hid (fun (W : World) (h1 : Sl .u64 W W.heap.size A xs) (h2 : Sl .u64 W W.heap.size B ys) => lquorem_any n1 n2 A B xs ys c d maxLen W h1 h2 (Nat.le_refl _) (fun W h1 h2 => quotient_any A B xs ys c d maxLen W h1 h2 bx.dig bY.dig bx.norm bY.norm (by omega) (by omega) l1 bx.room (by unfold maxLen; omega) hne))
  have hr := Rest.new ((w.alloc (.cells #[.bool n1, .slice A xs.length c] 72)).alloc (.cells #[.bool n2, .slice B ys.length d] 72))
  rw [show ((w.alloc (.cells #[.bool n1, .slice A xs.length c] 72)).alloc (.cells #[.bool n2, .slice B ys.length d] 72)).heap.size = w.heap.size + 1 + 1 by go_size] at hr
  have hb0 : Below w.heap.size w (((w.alloc (.cells #[.bool n1, .slice A xs.length c] 72)).alloc (.cells #[.bool n2, .slice B ys.length d] 72)).alloc (.cells #[.bool false, .slice none 0 0] 72)) := by go_grown
  have hx := bx.sl
  have hy := bY.sl
  have HB := Lib.hid hb0
  have HR := Lib.hid hr
  have HX := Lib.hid (And.intro bx.dig bx.cap)
  clear l1 l2 hb0 hr bx bY hC hD hne
  go_enter Tryz.func107, Tryz.ntmps107
  go_wp2_with fail
  generalize (((w.alloc (.cells #[.bool n1, .slice A xs.length c] 72)).alloc (.cells #[.bool n2, .slice B ys.length d] 72)).alloc (.cells #[.bool false, .slice none 0 0] 72)) = W at *
  refine (HQ.out W ((hx.below HB.out).more HB.out.size) ((hy.below HB.out).more HB.out.size)).mono ?_
  rintro e w1 ⟨n, V, zs, k, m, U, rs, k2, rfl, hZ, hv, _, _, hb⟩
  have hb1 := HB.out.trans (hb.mono HB.out.size)
  have h1 := HR.out.on hb
  have hb2 : Below w1.heap.size w1 ((w1.alloc (.cells #[.bool n, .slice V zs.length k] 72)).alloc (.cells #[.bool m, .slice U rs.length k2] 72)) := by go_grown
  have h2 := h1.on hb2
  have g0 := h2.r0
  have g1 := h2.r1
  have g2 := h2.f0
  have g3 := h2.f1
  have hL := h2.laid (hb1.trans (hb2.mono hb1.size)) (by omega) (hZ.below hb2)
  have HL := Lib.hid (And.intro hv hL)
  clear hv hL hb1 hb2 h1 h2 hZ
  go_wp2
  exact bodyPost_ret (v := big n V zs.length k) (by simp [results, Tryz.results107, go_sem, g0, g1]) rfl ⟨n, V, zs, k, rfl, ⟨HL.out.2.1.sl, HL.out.2.1.dig, HL.out.2.1.norm, HL.out.2.1.sign, HL.out.2.1.len, Nat.le_trans (norm_len_le (B := W64) (by decide) HL.out.2.1.norm HX.out.1 (by have h9 := congrArg Int.natAbs HL.out.1; rw [sv_abs, Int.natAbs_tdiv, sv_abs] at h9; rw [h9]; exact Nat.div_le_self _ _)) (Nat.le_trans HX.out.2 (Nat.le_succ C)), HL.out.2.1.room⟩, HL.out.1, HL.out.2.2⟩
end Go.Proofs.YtjamfkafgfpobaaGreat
/-! ### Fqe -/
namespace Go.Proofs.YtjamfkafgfpobaaGreat
open Go.RowKit Nb
/-- The cells of a block. -/
structure Box (W : World) (p : Nat) (vs : List Value) : Prop where
  lt : p < W.heap.size
  c : ∀ (i : Nat) (v : Value), vs[i]? = some v → W.cell? ⟨p, i, none⟩ = some v
section
variable {W W' : World} {p g : Nat} {vs : List Value}
theorem Box.on (h : Box W p vs) (hb : Below W.heap.size W W') : Box W' p vs := ⟨Nat.lt_of_lt_of_le h.lt hb.size, fun i v e => (hb.cell (p := ⟨p, i, none⟩) h.lt).trans (h.c i v e)⟩
theorem Box.far (h : Box W p vs) (hne : p ≠ g) (o : Nat) (u : Value) : Box (W.setCell ⟨g, o, none⟩ u) p vs :=
  ⟨by simpa using h.lt, fun i v e => by rw [World.cell?_setCell_other _ _ _ _ (fun e2 => hne (by injection e2 with a; exact a.symm))]; exact h.c i v e⟩
theorem Box.far2 (h : Box W p vs) (hne : p ≠ g) (u0 u1 : Value) : Box ((W.setCell ⟨g, 0, none⟩ u0).setCell ⟨g, 1, none⟩ u1) p vs := (h.far hne 0 u0).far hne 1 u1
theorem Box.far4 (h : Box W p vs) (hne : p ≠ g) (u0 u1 u2 u3 : Value) : Box ((((W.setCell ⟨g, 0, none⟩ u0).setCell ⟨g, 1, none⟩ u1).setCell ⟨g, 2, none⟩ u2).setCell ⟨g, 3, none⟩ u3) p vs := (((h.far hne 0 u0).far hne 1 u1).far hne 2 u2).far hne 3 u3
theorem Box.new (W : World) (vs : List Value) (t : TypeId) : Box (W.alloc (.cells vs.toArray t)) W.heap.size vs :=
  ⟨by simp, fun i v e => by rw [World.cell?_alloc_new]; simpa using e⟩
theorem Box.of4 {a b c d : Value} (hl : p < W.heap.size) (h0 : W.cell? ⟨p, 0, none⟩ = some a) (h1 : W.cell? ⟨p, 1, none⟩ = some b) (h2 : W.cell? ⟨p, 2, none⟩ = some c) (h3 : W.cell? ⟨p, 3, none⟩ = some d) : Box W p [a, b, c, d] :=
  ⟨hl, fun i v e => by
    match i, e with
    | 0, e => obtain rfl := Option.some.inj e; exact h0
    | 1, e => obtain rfl := Option.some.inj e; exact h1
    | 2, e => obtain rfl := Option.some.inj e; exact h2
    | 3, e => obtain rfl := Option.some.inj e; exact h3
    | i + 4, e => simp at e⟩
/-- Room for a number is written. -/
theorem Box.laid (hr : Rest W p) (u0 u1 : Value) : Box ((W.setCell ⟨p, 0, none⟩ u0).setCell ⟨p, 1, none⟩ u1) p [u0, u1] := by
  have a0 := hr.r0
  have a1 := hr.r1
  have f0 := hr.f0
  have f1 := hr.f1
  refine ⟨by simpa using hr.lr, fun i v e => ?_⟩
  match i, e with
  | 0, e => obtain rfl := Option.some.inj e; go_cell
  | 1, e => obtain rfl := Option.some.inj e; go_cell
  | i + 2, e => simp at e
theorem Box.laidQ (hr : RestQ W p) (u0 u1 u2 u3 : Value) : Box ((((W.setCell ⟨p, 0, none⟩ u0).setCell ⟨p, 1, none⟩ u1).setCell ⟨p, 2, none⟩ u2).setCell ⟨p, 3, none⟩ u3) p [u0, u1, u2, u3] := by
  have a0 := hr.r0
  have a1 := hr.r1
  have a2 := hr.r2
  have a3 := hr.r3
  have f0 := hr.f0
  have f1 := hr.f1
  have f2 := hr.f2
  have f3 := hr.f3
  exact Box.of4 (by simpa using hr.lr) (by go_cell) (by go_cell) (by go_cell) (by go_cell)
theorem Rest.far2 (h : Rest W p) (hne : p ≠ g) (u0 u1 : Value) : Rest ((W.setCell ⟨g, 0, none⟩ u0).setCell ⟨g, 1, none⟩ u1) p := h.put (r := g) (fun e => hne e.symm) u0 u1
theorem RestQ.far (h : RestQ W p) (hne : p ≠ g) (o : Nat) (u : Value) : RestQ (W.setCell ⟨g, o, none⟩ u) p := by
  have hk : ∀ i, (W.setCell ⟨g, o, none⟩ u).cell? ⟨p, i, none⟩ = W.cell? ⟨p, i, none⟩ := fun i => World.cell?_setCell_other _ _ _ _ (fun e => hne (by injection e with a; exact a.symm))
  exact ⟨by simpa using h.lr, (hk 0).trans h.r0, (hk 1).trans h.r1, (hk 2).trans h.r2, (hk 3).trans h.r3, by simpa using h.f0, by simpa using h.f1, by simpa using h.f2, by simpa using h.f3⟩
theorem RestQ.far2 (h : RestQ W p) (hne : p ≠ g) (u0 u1 : Value) : RestQ ((W.setCell ⟨g, 0, none⟩ u0).setCell ⟨g, 1, none⟩ u1) p := (h.far hne 0 u0).far hne 1 u1
end
/-- A number in words that is worth Z. -/
structure Nw (W : World) (Z : Int) (C : Nat) (n : Bool) (A : Option Addr) (ls : List Nat) (c : Nat) : Prop where
  bg : Bg W n A ls c C
  v : sv n (val W64 ls) = Z
def GivesN (w : World) (Z : Int) (C : Nat) (e : Ending) (w' : World) : Prop := ∃ (n : Bool) (A : Option Addr) (zs : List Nat) (c : Nat), e = .returned (big n A zs.length c) ∧ Nw w' Z C n A zs c ∧ Below w.heap.size w w'
/-- The same, its block may be great. -/
def GivesG (w : World) (Z : Int) (L : Nat) (e : Ending) (w' : World) : Prop := ∃ (n : Bool) (A : Option Addr) (zs : List Nat) (c : Nat), e = .returned (big n A zs.length c) ∧ Nw w' Z maxLen n A zs c ∧ zs.length ≤ L ∧ Below w.heap.size w w'
section
variable {W W' : World} {X Y Z : Int} {C D C' p : Nat} {n m : Bool} {A B : Option Addr} {xs ys ls : List Nat} {c d : Nat}
theorem Nw.on (h : Nw W Z C n A ls c) (hb : Below W.heap.size W W') : Nw W' Z C n A ls c := ⟨h.bg.below hb, h.v⟩
theorem Nw.mono (h : Nw W Z C n A ls c) (hC : C ≤ C') : Nw W Z C' n A ls c := ⟨h.bg.mono hC, h.v⟩
theorem Nw.len (h : Nw W Z C n A ls c) : ls.length ≤ C := h.bg.cap
theorem Nw.put2 (h : Nw W Z C n A ls c) (hr : Rest W p) (u0 u1 : Value) : Nw ((W.setCell ⟨p, 0, none⟩ u0).setCell ⟨p, 1, none⟩ u1) Z C n A ls c :=
  ⟨⟨by have := h.bg.sl.put hr u0 u1; simpa using this, h.bg.dig, h.bg.norm, h.bg.sign, h.bg.len, h.bg.cap, h.bg.room⟩, h.v⟩
theorem Nw.put4 (h : Nw W Z C n A ls c) (hr : RestQ W p) (u0 u1 u2 u3 : Value) : Nw ((((W.setCell ⟨p, 0, none⟩ u0).setCell ⟨p, 1, none⟩ u1).setCell ⟨p, 2, none⟩ u2).setCell ⟨p, 3, none⟩ u3) Z C n A ls c := ⟨h.bg.putq hr _ _ _ _, h.v⟩
theorem Nw.ne (h : Nw W Z C n A ls c) (hz : Z ≠ 0) : ls ≠ [] := fun e => hz (by rw [← h.v, e]; cases n <;> rfl)
theorem Nw.pos {G : Nat} (h : Nw W (G : Int) C n A ls c) : n = false := (bg_nat h.bg h.v).1
theorem Nw.eq (h : Nw W X C n A ls c) (e : X = Y) : Nw W Y C n A ls c := e ▸ h
theorem over_n (h : Nw W X C n A xs c) (k : Nw W Y D m B ys d) (hp : Y ≠ 0) (hC : C + 1 ≤ 17592186043904) (hD : ys.length ≤ 17592186043904) :
    Calls Tryz.prog 107 #[big n A xs.length c, big m B ys.length d] W (GivesN W (X.tdiv Y) (C + 1)) := by
  refine (over_any n m A B xs ys c d C D W h.bg k.bg (k.ne hp) hC hD).mono ?_
  rintro e w' ⟨n1, V, zs, k1, rfl, hB, hv, hb⟩
  exact ⟨n1, V, zs, k1, rfl, ⟨hB, by rw [hv, h.v, k.v]⟩, hb⟩
theorem mul_n (h : Nw W X C n A xs c) (k : Nw W Y D m B ys d) (hC : (C + D) * 8 ≤ 140737488351232) :
    Calls Tryz.prog 88 #[big n A xs.length c, big m B ys.length d] W (GivesN W (X * Y) (C + D)) := by
  have l1 := h.len
  have l2 := k.len
  refine (lmul_any n m A B xs ys c d W h.bg.sl k.bg.sl h.bg.dig k.bg.dig (by omega)).mono ?_
  rintro e w' ⟨n1, V, zs, k1, rfl, hB, hv, hb⟩
  exact ⟨n1, V, zs, k1, rfl, ⟨hB.mono (by omega), by rw [hv, h.v, k.v]⟩, hb⟩
theorem add_n (h : Nw W X C n A xs c) (k : Nw W Y D m B ys d) (hC : (C + 1) * 8 ≤ 140737488351232) (hD : (D + 1) * 8 ≤ 140737488351232) :
    Calls Tryz.prog 108 #[big n A xs.length c, big m B ys.length d] W (GivesN W (X + Y) (max C D + 1)) := by
  have l1 := h.len
  have l2 := k.len
  refine (ladd_any n m A B xs ys c d W h.bg.sl k.bg.sl h.bg.dig k.bg.dig h.bg.norm k.bg.norm (by omega) (by omega)).mono ?_
  rintro e w' ⟨n1, V, zs, k1, rfl, hB, hv, hb⟩
  exact ⟨n1, V, zs, k1, rfl, ⟨hB.mono (by omega), by rw [hv, h.v, k.v]⟩, hb⟩
theorem neg_n (h : Nw W X C n A xs c) (hC : C * 8 ≤ 140737488351232) :
    Calls Tryz.prog 117 #[big n A xs.length c] W (GivesN W (-X) C) := by
  have l1 := h.len
  refine (lneg_any n A xs c C W h.bg (by omega)).mono ?_
  rintro e w' ⟨rfl, hB, hb⟩
  exact ⟨_, A, xs, c, rfl, ⟨hB, by rw [sv_neg, h.v]⟩, hb⟩
theorem gcd_n {L G : Nat} (h : Nw W X C n A xs c) (k : Nw W Y D m B ys d) (h1 : xs.length ≤ L) (h2 : ys.length ≤ L) (hl : (L + 2) * 8 ≤ 140737488351232) (hG : Nat.gcd X.natAbs Y.natAbs = G) :
    Calls Tryz.prog 106 #[big n A xs.length c, big m B ys.length d] W (GivesG W (G : Int) (L + 1)) := by
  refine (lgcd_any n m A B xs ys c d L W h.bg.sl k.bg.sl h.bg.dig k.bg.dig h.bg.norm k.bg.norm hl h1 h2).mono ?_
  rintro e w' ⟨n1, V, zs, k1, rfl, hB, hL, hv, hb⟩
  refine ⟨n1, V, zs, k1, rfl, ⟨hB, ?_⟩, hL, hb⟩
  rw [hv, ← hG, ← h.v, ← k.v, sv_abs, sv_abs]
theorem Lq.x {q : Rat} {ds : List Nat} (h : Lq W q n A xs c B ds d C) : Nw W q.num C n A xs c := ⟨h.num, h.vn⟩
theorem Lq.y {q : Rat} {ds : List Nat} (h : Lq W q n A xs c B ds d C) : Nw W (q.den : Int) C false B ds d := ⟨h.den, h.svd⟩
theorem Lq.mk' {q : Rat} {ds : List Nat} (h : Nw W q.num C n A xs c) (k : Nw W (q.den : Int) C m B ds d) : m = false ∧ Lq W q n A xs c B ds d C := by
  have h1 := k.pos
  subst h1
  exact ⟨rfl, h.bg, k.bg, h.v, (bg_nat k.bg k.v).2⟩
end
end Go.Proofs.YtjamfkafgfpobaaGreat
/-! ### Fqf -/
namespace Go.Proofs.YtjamfkafgfpobaaGreat
open Go.RowKit Nb
/-- A block that may be written. -/
def Fz (W : World) (p : Nat) : Prop := p < W.heap.size ∧ ∀ j : Nat, W.frozen? ⟨p, j, none⟩ = false
section
variable {W W' : World} {p g : Nat} {vs : List Value}
theorem Fz.on (h : Fz W p) (hb : Below W.heap.size W W') : Fz W' p := ⟨Nat.lt_of_lt_of_le h.1 hb.size, fun j => (hb.frozen (p := ⟨p, j, none⟩) h.1).trans (h.2 j)⟩
theorem Fz.far (h : Fz W p) (o : Nat) (u : Value) : Fz (W.setCell ⟨g, o, none⟩ u) p := ⟨by simpa using h.1, fun j => by simpa using h.2 j⟩
theorem Fz.new (W : World) (a : Array Value) (t : TypeId) : Fz (W.alloc (.cells a t)) W.heap.size := ⟨by simp, fun _ => World.frozen?_alloc_new _ _ _ _⟩
theorem Box.over2 {a b : Value} (h : Box W p [a, b]) (f : Fz W p) (u0 u1 : Value) : Box ((W.setCell ⟨p, 0, none⟩ u0).setCell ⟨p, 1, none⟩ u1) p [u0, u1] := by
  have a0 := h.c 0 _ rfl
  have a1 := h.c 1 _ rfl
  have f0 := f.2 0
  have f1 := f.2 1
  refine ⟨by simpa using h.lt, fun i v e => ?_⟩
  match i, e with
  | 0, e => obtain rfl := Option.some.inj e; go_cell
  | 1, e => obtain rfl := Option.some.inj e; go_cell
  | i + 2, e => simp at e
end
section
variable {W W' : World} {X Y Z : Int} {C D C' p : Nat} {n m b b' : Bool} {A B U U' : Option Addr} {xs ys ls : List Nat} {c d l l' k k' : Nat} {q : Rat}
theorem Sl.over2 {i : IntKind} {N : Nat} (h : Sl i W N A ls) (K : Box W p [.bool b, .slice U l k]) (u0 u1 : Value) : Sl i ((W.setCell ⟨p, 0, none⟩ u0).setCell ⟨p, 1, none⟩ u1) N A ls := by
  have h1 := h.keepAt (K.c 0 _ rfl) (by intro _ e; cases e) u0
  exact h1.keepAt (p := ⟨p, 1, none⟩) (v := .slice U l k) (by rw [World.cell?_setCell_other _ _ _ _ (by simp)]; exact K.c 1 _ rfl) (by intro _ e; cases e) u1
theorem Nw.over2 (h : Nw W Z C n A ls c) (K : Box W p [.bool b, .slice U l k]) (u0 u1 : Value) : Nw ((W.setCell ⟨p, 0, none⟩ u0).setCell ⟨p, 1, none⟩ u1) Z C n A ls c :=
  ⟨⟨by have := h.bg.sl.over2 K u0 u1; simpa using this, h.bg.dig, h.bg.norm, h.bg.sign, h.bg.len, h.bg.cap, h.bg.room⟩, h.v⟩
/-- A number in limbs that is worth Z. -/
structure Nl (W : World) (Z : Int) (n : Bool) (A : Option Addr) (ls : List Nat) (c : Nat) : Prop where
  lm : Lm W n A ls c
  v : sv n (val W32 ls) = Z
theorem Nl.on (h : Nl W Z n A ls c) (hb : Below W.heap.size W W') : Nl W' Z n A ls c := ⟨h.lm.below hb, h.v⟩
theorem Nl.put4 (h : Nl W Z n A ls c) (hr : RestQ W p) (u0 u1 u2 u3 : Value) : Nl ((((W.setCell ⟨p, 0, none⟩ u0).setCell ⟨p, 1, none⟩ u1).setCell ⟨p, 2, none⟩ u2).setCell ⟨p, 3, none⟩ u3) Z n A ls c :=
  ⟨⟨by have := h.lm.sl.putq hr u0 u1 u2 u3; simpa using this, h.lm.dig, h.lm.ok⟩, h.v⟩
theorem Nl.put2 (h : Nl W Z n A ls c) (hr : Rest W p) (u0 u1 : Value) : Nl ((W.setCell ⟨p, 0, none⟩ u0).setCell ⟨p, 1, none⟩ u1) Z n A ls c :=
  ⟨h.lm.laid hr u0 u1, h.v⟩
theorem Nl.fits (h : Nl W Z n A ls c) : Fits Z := by rw [← h.v]; exact fits_lm h.lm.dig h.lm.ok
def GivesL32 (w : World) (Z : Int) (e : Ending) (w' : World) : Prop := ∃ (n : Bool) (A : Option Addr) (zs : List Nat) (c : Nat), e = .returned (big n A zs.length c) ∧ Nl w' Z n A zs c ∧ Below w.heap.size w w'
theorem from_n (h : Nl W Z n A ls c) : Calls Tryz.prog 90 #[big n A ls.length c] W (GivesN W Z 1024) := by
  refine (from_ok n A ls c W h.lm.sl h.lm.dig h.lm.ok).mono ?_
  rintro e w' ⟨g, rfl, hrow, _, hb⟩
  have hl := h.lm.ok.len
  have hpl := pack_length ls
  exact ⟨n, some ⟨g, 0, none⟩, pack ls, (pack ls).length, rfl, ⟨⟨sl_row hrow, dig_pack h.lm.dig, norm_pack h.lm.ok.norm, fun e => ok_nil h.lm.ok e, Nat.le_refl _, by omega, by unfold maxLen; omega⟩, by rw [val_pack]; exact h.v⟩, hb⟩
theorem int_n (h : Nw W Z C n A xs c) (hF : Fits Z) (hC : C * 8 ≤ 140737488351232) : Calls Tryz.prog 116 #[big n A xs.length c] W (GivesL32 W Z) := by
  have hl := h.len
  have hv := val_unpack h.bg.dig h.bg.norm
  refine (int_any n A xs c W h.bg.sl h.bg.dig h.bg.norm (by omega)).mono ?_
  rintro e w' ⟨g, rfl, hrow, _, hb⟩
  refine ⟨n, some ⟨g, 0, none⟩, unpack xs, _, rfl, ⟨⟨sl_row hrow, dig_unpack xs, ⟨?_, norm_unpack h.bg.dig h.bg.norm, fun e => ?_⟩⟩, by rw [hv]; exact h.v⟩, hb⟩
  · rw [unpack_length]
    refine (limbsL_le h.bg.dig h.bg.norm).2 ?_
    have : Fits (sv n (val W64 xs)) := by rw [h.v]; exact hF
    unfold Fits at this
    rwa [sv_abs] at this
  · apply h.bg.sign
    rw [e] at hv
    exact (norm_zero (B := W64) (by decide) h.bg.norm).1 (by simpa [val] using hv.symm)
theorem limbs_n (h : Nw W Z C n A xs c) (hC : C * 8 ≤ 140737488351232) : Calls Tryz.prog 127 #[big n A xs.length c] W fun e w' => (∃ k : Nat, e = .returned (.int .i64 k) ∧ (k ≤ 2048 ↔ Fits Z) ∧ k ≤ 2 * C + 1) ∧ Below W.heap.size W w' := by
  have hl := h.len
  refine (limbs_any n A xs c W h.bg.sl h.bg.dig (by omega)).mono ?_
  rintro e w' ⟨rfl, hb⟩
  refine ⟨⟨limbsL xs, rfl, ?_, ?_⟩, hb⟩
  · rw [limbsL_le h.bg.dig h.bg.norm, ← h.v]
    unfold Fits
    rw [sv_abs]
  · have := lenL_le h.bg.dig
    unfold limbsL
    omega
theorem Lq.on {ds : List Nat} (h : Lq W q n A xs c B ds d C) (hb : Below W.heap.size W W') : Lq W' q n A xs c B ds d C := h.below hb
theorem Lq.put4 {ds : List Nat} (h : Lq W q n A xs c B ds d C) (hr : RestQ W p) (u0 u1 u2 u3 : Value) : Lq ((((W.setCell ⟨p, 0, none⟩ u0).setCell ⟨p, 1, none⟩ u1).setCell ⟨p, 2, none⟩ u2).setCell ⟨p, 3, none⟩ u3) q n A xs c B ds d C := h.putq hr u0 u1 u2 u3
/-- A fraction in limbs. -/
structure Lf (W : World) (q : Rat) (n : Bool) (A : Option Addr) (xs : List Nat) (c : Nat) (B : Option Addr) (ds : List Nat) (d : Nat) : Prop where
  num : Nl W q.num n A xs c
  den : Nl W (q.den : Int) false B ds d
theorem Lf.on {ds : List Nat} (h : Lf W q n A xs c B ds d) (hb : Below W.heap.size W W') : Lf W' q n A xs c B ds d := ⟨h.num.on hb, h.den.on hb⟩
theorem Lf.put4 {ds : List Nat} (h : Lf W q n A xs c B ds d) (hr : RestQ W p) (u0 u1 u2 u3 : Value) : Lf ((((W.setCell ⟨p, 0, none⟩ u0).setCell ⟨p, 1, none⟩ u1).setCell ⟨p, 2, none⟩ u2).setCell ⟨p, 3, none⟩ u3) q n A xs c B ds d := ⟨h.num.put4 hr u0 u1 u2 u3, h.den.put4 hr u0 u1 u2 u3⟩
theorem Nl.pos {G : Nat} (h : Nl W (G : Int) n A ls c) : n = false := by
  cases n with
  | false => rfl
  | true =>
    exfalso
    have h1 := h.v
    have h2 := ok_vpos h.lm.ok rfl
    rw [show sv true (val W32 ls) = -((val W32 ls : Nat) : Int) from rfl] at h1
    omega
theorem Lf.mk' {ds : List Nat} (h : Nl W q.num n A xs c) (k : Nl W (q.den : Int) m B ds d) : m = false ∧ Lf W q n A xs c B ds d := by
  have h1 := k.pos
  subst h1
  exact ⟨rfl, h, k⟩
/-- May a fraction be told? -/
def FitsQ (q : Rat) : Prop := Fits q.num ∧ Fits (q.den : Int)
/-- It answers this fraction in limbs. -/
def GivesF (w : World) (q : Rat) (e : Ending) (w' : World) : Prop := ∃ (n : Bool) (A : Option Addr) (xs : List Nat) (c : Nat) (B : Option Addr) (ds : List Nat) (d : Nat), e = .returned (frq n A xs.length c false B ds.length d) ∧ Lf w' q n A xs c B ds d ∧ Below w.heap.size w w'
/-- The fraction, or the refusal. -/
def ToldQ (w : World) (q : Rat) (e : Ending) (w' : World) : Prop := ∃ (n : Bool) (A : Option Addr) (xs : List Nat) (c : Nat) (m : Bool) (B : Option Addr) (ds : List Nat) (d : Nat) (er : Int), e = .returned (.tuple #[frq n A xs.length c m B ds.length d, .int .i64 er]) ∧
  ((FitsQ q ∧ er = 0 ∧ m = false ∧ Lf w' q n A xs c B ds d) ∨ (¬ FitsQ q ∧ er = 4 ∧ n = false ∧ A = none ∧ xs = [] ∧ c = 0 ∧ m = false ∧ B = none ∧ ds = [] ∧ d = 0)) ∧ Below w.heap.size w w'
end
/-! ### Steps of drawn regions in short -/
theorem p0 (a : Act) (dst : Option Tmp) (v : Value) : a.put dst v = (match dst with
  | some d => { a with tmps := a.tmps.setIfInBounds d v }
  | none => a) := rfl
theorem p1 {α : Type} (l : List α) (i : Nat) (a : α) : l.toArray.setIfInBounds i a = (l.set i a).toArray := List.setIfInBounds_toArray ..
theorem p2 {α : Type} (x : α) (xs : List α) (a : α) : (x :: xs).set 0 a = a :: xs := rfl
theorem p3 {α : Type} (x : α) (xs : List α) (n : Nat) (a : α) : (x :: xs).set (n + 1) a = x :: xs.set n a := rfl
theorem Box.a2 {W : World} {p : Nat} {a0 a1 : Value} {R : Prop} (K : Box W p [a0, a1]) (r : R) : W.cell? ⟨p, 0, none⟩ = some a0 ∧ W.cell? ⟨p, 1, none⟩ = some a1 ∧ R := ⟨K.c 0 _ rfl, K.c 1 _ rfl, r⟩
theorem Box.b2 {W : World} {p : Nat} {a0 a1 : Value} (K : Box W p [a0, a1]) : W.cell? ⟨p, 0, none⟩ = some a0 ∧ W.cell? ⟨p, 1, none⟩ = some a1 := ⟨K.c 0 _ rfl, K.c 1 _ rfl⟩
theorem Box.a4 {W : World} {p : Nat} {a0 a1 a2 a3 : Value} {R : Prop} (K : Box W p [a0, a1, a2, a3]) (r : R) : W.cell? ⟨p, 0, none⟩ = some a0 ∧ W.cell? ⟨p, 1, none⟩ = some a1 ∧ W.cell? ⟨p, 2, none⟩ = some a2 ∧ W.cell? ⟨p, 3, none⟩ = some a3 ∧ R := ⟨K.c 0 _ rfl, K.c 1 _ rfl, K.c 2 _ rfl, K.c 3 _ rfl, r⟩
theorem Box.b4 {W : World} {p : Nat} {a0 a1 a2 a3 : Value} (K : Box W p [a0, a1, a2, a3]) : W.cell? ⟨p, 0, none⟩ = some a0 ∧ W.cell? ⟨p, 1, none⟩ = some a1 ∧ W.cell? ⟨p, 2, none⟩ = some a2 ∧ W.cell? ⟨p, 3, none⟩ = some a3 := ⟨K.c 0 _ rfl, K.c 1 _ rfl, K.c 2 _ rfl, K.c 3 _ rfl⟩
def Cs (W : World) (p : Nat) : Nat → List Value → Prop
  | _, [] => True
  | o, v :: r => W.cell? ⟨p, o, none⟩ = some v ∧ Cs W p (o + 1) r
theorem Cs.of {W : World} {p : Nat} : ∀ {us : List Value} {o : Nat}, (∀ (i : Nat) (v : Value), us[i]? = some v → W.cell? ⟨p, o + i, none⟩ = some v) → Cs W p o us
  | [], _, _ => trivial
  | v :: r, o, h => ⟨h 0 v rfl, Cs.of fun i u e => by have := h (i + 1) u e; rwa [show o + (i + 1) = o + 1 + i by omega] at this⟩
theorem Box.cs {W : World} {p : Nat} {us : List Value} (K : Box W p us) : Cs W p 0 us := Cs.of fun i v e => by rw [Nat.zero_add]; exact K.c i v e
section
variable {P : Program} {ops : Array Oper} {Q : Exit → Act → World → Prop} {md : Region.Mode} {S : World → Prop}
/-- An operation that yields its value in every world that meets S is taken. -/
theorem pT (i : Nat) {oi : Oper} {v : Value} {fuel : Nat} {listed : Array Bool} {a : Act} {w : World}
    (h : wpAnyH P md ops Q S fuel (listed.setIfInBounds i true) (a.put oi.dst v) w)
    (hi : ops[i]? = some oi := by (simp only [List.getElem?_toArray, List.getElem?_cons_succ, List.getElem?_cons_zero]; rfl))
    (hs : Region.noSelect ops = true := by kernel_rfl) (hf : Region.free md ops listed i = true := by kernel_rfl) (hr : (Region.ready md ops listed).contains i = true := by kernel_rfl)
    (hQ : ∀ c a w, Q (.panic c) (a.put oi.dst v) w → Q (.panic c) a w := by exact fun _ _ _ h => h)
    (hg : Region.wanted oi (yielded ops a.tmps) = true := by rfl)
    (hy : ∀ wt, S wt → (execOp a.eval oi).run P wt = .ok (.value v) wt := by (intro wt hSw; (try simp only [Cs, and_true, Nat.zero_add, Nat.reduceAdd] at hSw); go_simp; (try with_reducible rfl)))
    (hS : S w := by assumption)
    : wpAnyH P md ops Q S (fuel + 1) listed a w :=
  wpAnyH_take hi hs hf hr hQ (Or.inl ⟨hg, hy⟩) hS h
/-- One that is guarded off. -/
theorem pS (i : Nat) {oi : Oper} {fuel : Nat} {listed : Array Bool} {a : Act} {w : World}
    (h : wpAnyH P md ops Q S fuel (listed.setIfInBounds i true) (a.put oi.dst undef) w)
    (hi : ops[i]? = some oi := by (simp only [List.getElem?_toArray, List.getElem?_cons_succ, List.getElem?_cons_zero]; rfl))
    (hs : Region.noSelect ops = true := by kernel_rfl) (hf : Region.free md ops listed i = true := by kernel_rfl) (hr : (Region.ready md ops listed).contains i = true := by kernel_rfl)
    (hQ : ∀ c a w, Q (.panic c) (a.put oi.dst undef) w → Q (.panic c) a w := by exact fun _ _ _ h => h)
    (hg : Region.wanted oi (yielded ops a.tmps) = false := by rfl)
    (hS : S w := by assumption)
    : wpAnyH P md ops Q S (fuel + 1) listed a w :=
  wpAnyH_take hi hs hf hr hQ (Or.inr ⟨hg, rfl⟩) hS h
theorem pR1 (i : Nat) {o : Oper} {fuel : Nat} {listed : Array Bool} {a : Act} {w : World}
    (h0 : ∀ K' : Act → World → Prop, Shut (∀ a w, S w → (S w → wpAnyH P md ops Q S fuel (listed.setIfInBounds i true) a w) → K' a w) → if Region.wanted o (yielded ops a.tmps) = true then Oper.wp P o a w K' Q else K' (a.put (o).dst undef) w)
    (e0 : ops[i]? = some o := by (simp only [List.getElem?_toArray, List.getElem?_cons_succ, List.getElem?_cons_zero]; rfl))
    (hr : Region.ready md ops listed = [i] := by kernel_rfl) : wpAnyH P md ops Q S (fuel + 1) listed a w :=
  wpAnyH_ready hr (by simp) (AllReadyH.cons e0 h0 AllReadyH.nil)
theorem pR2 (i j : Nat) {o p : Oper} {fuel : Nat} {listed : Array Bool} {a : Act} {w : World}
    (h0 : ∀ K' : Act → World → Prop, Shut (∀ a w, S w → (S w → wpAnyH P md ops Q S fuel (listed.setIfInBounds i true) a w) → K' a w) → if Region.wanted o (yielded ops a.tmps) = true then Oper.wp P o a w K' Q else K' (a.put (o).dst undef) w)
    (h1 : ∀ K' : Act → World → Prop, Shut (∀ a w, S w → (S w → wpAnyH P md ops Q S fuel (listed.setIfInBounds j true) a w) → K' a w) → if Region.wanted p (yielded ops a.tmps) = true then Oper.wp P p a w K' Q else K' (a.put (p).dst undef) w)
    (e0 : ops[i]? = some o := by (simp only [List.getElem?_toArray, List.getElem?_cons_succ, List.getElem?_cons_zero]; rfl))
    (e1 : ops[j]? = some p := by (simp only [List.getElem?_toArray, List.getElem?_cons_succ, List.getElem?_cons_zero]; rfl))
    (hr : Region.ready md ops listed = [i, j] := by kernel_rfl) : wpAnyH P md ops Q S (fuel + 1) listed a w :=
  wpAnyH_ready hr (by simp) (AllReadyH.cons e0 h0 (AllReadyH.cons e1 h1 AllReadyH.nil))
theorem pR3 (i j k : Nat) {o p q : Oper} {fuel : Nat} {listed : Array Bool} {a : Act} {w : World}
    (h0 : ∀ K' : Act → World → Prop, Shut (∀ a w, S w → (S w → wpAnyH P md ops Q S fuel (listed.setIfInBounds i true) a w) → K' a w) → if Region.wanted o (yielded ops a.tmps) = true then Oper.wp P o a w K' Q else K' (a.put (o).dst undef) w)
    (h1 : ∀ K' : Act → World → Prop, Shut (∀ a w, S w → (S w → wpAnyH P md ops Q S fuel (listed.setIfInBounds j true) a w) → K' a w) → if Region.wanted p (yielded ops a.tmps) = true then Oper.wp P p a w K' Q else K' (a.put (p).dst undef) w)
    (h2 : ∀ K' : Act → World → Prop, Shut (∀ a w, S w → (S w → wpAnyH P md ops Q S fuel (listed.setIfInBounds k true) a w) → K' a w) → if Region.wanted q (yielded ops a.tmps) = true then Oper.wp P q a w K' Q else K' (a.put (q).dst undef) w)
    (e0 : ops[i]? = some o := by (simp only [List.getElem?_toArray, List.getElem?_cons_succ, List.getElem?_cons_zero]; rfl))
    (e1 : ops[j]? = some p := by (simp only [List.getElem?_toArray, List.getElem?_cons_succ, List.getElem?_cons_zero]; rfl))
    (e2 : ops[k]? = some q := by (simp only [List.getElem?_toArray, List.getElem?_cons_succ, List.getElem?_cons_zero]; rfl))
    (hr : Region.ready md ops listed = [i, j, k] := by kernel_rfl) : wpAnyH P md ops Q S (fuel + 1) listed a w :=
  wpAnyH_ready hr (by simp) (AllReadyH.cons e0 h0 (AllReadyH.cons e1 h1 (AllReadyH.cons e2 h2 AllReadyH.nil)))
end
end Go.Proofs.YtjamfkafgfpobaaGreat
