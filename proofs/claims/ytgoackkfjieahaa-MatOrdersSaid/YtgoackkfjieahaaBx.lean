/-
  Blocks of memory that are known whole: made, written, kept by calls; steps of drawn regions. No conditions.
-/
import Derived.Test.YtgoackkfjieahaaRows
import Derived.WalkKit
import Derived.Below
import Derived.Handy
import Derived.Lib.Hide
import Derived.Laws.IdiomCopy
import Derived.Deep.RegionHeld3
import Derived.Deep.DeepCutAuto
import Derived.BigRegion
import Derived.OpenShut
namespace Go.Proofs.Ytgoackkfjieahaa
open Go.RowKit
/-- The cells of a block. -/
structure Box (W : World) (p : Nat) (vs : List Value) : Prop where
  lt : p < W.heap.size
  c : ∀ (i : Nat) (v : Value), vs[i]? = some v → W.cell? ⟨p, i, none⟩ = some v
section
variable {W W' : World} {p g : Nat} {vs : List Value}
theorem Box.on (h : Box W p vs) (hb : Below W.heap.size W W') : Box W' p vs := ⟨Nat.lt_of_lt_of_le h.lt hb.size, fun i v e => (hb.cell (p := ⟨p, i, none⟩) h.lt).trans (h.c i v e)⟩
theorem Box.new (W : World) (vs : List Value) (t : TypeId) : Box (W.alloc (.cells vs.toArray t)) W.heap.size vs :=
  ⟨by simp, fun i v e => by rw [World.cell?_alloc_new]; simpa using e⟩
end
def Fz (W : World) (p : Nat) : Prop := p < W.heap.size ∧ ∀ j : Nat, W.frozen? ⟨p, j, none⟩ = false
section
variable {W W' : World} {p g : Nat} {vs : List Value}
theorem Fz.on (h : Fz W p) (hb : Below W.heap.size W W') : Fz W' p := ⟨Nat.lt_of_lt_of_le h.1 hb.size, fun j => (hb.frozen (p := ⟨p, j, none⟩) h.1).trans (h.2 j)⟩
theorem Fz.far (h : Fz W p) (o : Nat) (u : Value) : Fz (W.setCell ⟨g, o, none⟩ u) p := ⟨by simpa using h.1, fun j => by simpa using h.2 j⟩
theorem Fz.new (W : World) (a : Array Value) (t : TypeId) : Fz (W.alloc (.cells a t)) W.heap.size := ⟨by simp, fun _ => World.frozen?_alloc_new _ _ _ _⟩
end
theorem setCell_id {w : World} {g i : Nat} {v : Value} (h : w.cell? ⟨g, i, none⟩ = some v) : w.setCell ⟨g, i, none⟩ v = w := by
 have hh : (w.setCell ⟨g, i, none⟩ v).heap = w.heap := by
  apply Array.ext_getElem?
  intro k
  unfold World.setCell
  simp only [Array.getElem?_modify]
  by_cases hk : g = k
  ·subst hk
   rw [if_pos rfl]
   unfold World.cell? at h
   simp only at h
   cases hg : w.heap[g]? with
   | none => rfl
   | some o =>
    rw [hg] at h
    cases o with
    | cells c e f =>
     simp at h
     obtain ⟨hlt, hv⟩ := Array.getElem?_eq_some_iff.1 h
     simp only [Option.map_some, Option.some.injEq]
     subst hv
     simp [Array.setIfInBounds, hlt]
    | _ => simp at h
  ·rw [if_neg hk]
 have e : w.setCell ⟨g, i, none⟩ v = { w with heap := (w.setCell ⟨g, i, none⟩ v).heap } := rfl
 rw [e, hh]
/-- All words and limbs stay. -/
structure Kept (W W' : World) : Prop where
 size : W.heap.size ≤ W'.heap.size
 w32 : ∀ (p : Addr) (n : Int), p.block < W.heap.size → W.cell? p = some (.int .u32 n) → W'.cell? p = some (.int .u32 n)
 w64 : ∀ (p : Addr) (n : Int), p.block < W.heap.size → W.cell? p = some (.int .u64 n) → W'.cell? p = some (.int .u64 n)
theorem Kept.of {W W' : World} (h : Below W.heap.size W W') : Kept W W' :=
 ⟨h.size, fun _ _ hp hc => (h.cell hp).trans hc, fun _ _ hp hc => (h.cell hp).trans hc⟩
theorem Kept.trans {W W' W'' : World} (h : Kept W W') (k : Kept W' W'') : Kept W W'' :=
 ⟨Nat.le_trans h.size k.size, fun p n hp hc => k.w32 p n (Nat.lt_of_lt_of_le hp h.size) (h.w32 p n hp hc), fun p n hp hc => k.w64 p n (Nat.lt_of_lt_of_le hp h.size) (h.w64 p n hp hc)⟩
/-- No word. -/
def soft : Value → Bool
 | .int .u32 _ => false
 | .int .u64 _ => false
 | _ => true
theorem size_setCells (b : Nat) : ∀ (vs : List Value) (o : Nat) (w : World), (w.setCells b o vs).heap.size = w.heap.size
 | [], _, _ => rfl
 | v :: r, o, w => by rw [World.setCells, size_setCells b r]; simp
section
variable {W W' w : World} {p g o N : Nat} {us vs : List Value}
theorem Kept.over (K : Box W p us) (hu : us.all soft = true) (hl : o + vs.length ≤ us.length) : Kept W (W.setCells p o vs) := by
 have key : ∀ (q : Addr) (v : Value), W.cell? q = some v → soft v = false → (W.setCells p o vs).cell? q = some v := by
  intro q v hc hs
  rw [World.cell?_setCells_out, hc]
  intro h1 h2
  rcases Nat.lt_or_ge q.off o with h | h
  ·exact .inl h
  ·refine .inr ?_
   rcases Nat.lt_or_ge q.off (o + vs.length) with h3 | h3
   ·exfalso
    have h4 : q.off < us.length := by omega
    have h5 := K.c q.off _ (List.getElem?_eq_getElem h4)
    have h6 : q = ⟨p, q.off, none⟩ := by cases q; simp_all
    rw [h6, h5] at hc
    have h7 := List.all_eq_true.1 hu _ (List.getElem_mem h4)
    rw [Option.some.inj hc, hs] at h7
    cases h7
   ·exact h3
 exact ⟨by rw [size_setCells]; exact Nat.le_refl _, fun q n _ hc => key q _ hc rfl, fun q n _ hc => key q _ hc rfl⟩
theorem Box.over (K : Box W p us) (hl : vs.length = us.length) : Box (W.setCells p 0 vs) p vs := by
 refine ⟨by rw [size_setCells]; exact K.lt, fun i v e => ?_⟩
 obtain ⟨hi, rfl⟩ := List.getElem?_eq_some_iff.1 e
 have := World.cell?_setCells_in p vs 0 W (fun j hj => by
  rw [Nat.zero_add, K.c j _ (List.getElem?_eq_getElem (by omega))]; rfl) i hi
 rwa [Nat.zero_add] at this
theorem Box.away (K : Box W p us) (hne : p ≠ g) : Box (W.setCells g o vs) p us :=
 ⟨by rw [size_setCells]; exact K.lt, fun i v e => by rw [World.cell?_setCells_out _ _ _ _ _ (fun h => absurd h hne)]; exact K.c i v e⟩
theorem Fz.put (h : Fz W p) : Fz (W.setCells g o vs) p := ⟨by rw [size_setCells]; exact h.1, fun j => by rw [World.frozen?_setCells]; exact h.2 j⟩
theorem Below.put (hw : N ≤ g) : ∀ {vs : List Value} {o : Nat} {W : World}, Below N w W → Below N w (W.setCells g o vs)
 | [], _, _, h => h
 | v :: r, o, _W, h => Below.put hw (vs := r) (h.setCell (p := ⟨g, o, none⟩) hw v)
theorem Kept.overE {V : World} (e : V = W.setCells p o vs) (K : Box W p us) (hu : us.all soft = true) (hl : o + vs.length ≤ us.length) : Kept W V := e ▸ Kept.over K hu hl
theorem Box.overE {V : World} (K : Box W p us) (e : V = W.setCells p 0 vs) (hl : vs.length = us.length) : Box V p vs := e ▸ K.over hl
theorem Box.awayE {V : World} (K : Box W p us) (e : V = W.setCells g o vs) (hne : p ≠ g) : Box V p us := e ▸ K.away hne
theorem Fz.putE {V : World} (h : Fz W p) (e : V = W.setCells g o vs) : Fz V p := e ▸ h.put
theorem Below.putE {V : World} (h : Below N w W) (e : V = W.setCells g o vs) (hw : N ≤ g) : Below N w V := e ▸ Below.put hw h
theorem Box.drew (K : Box W p us) : Box W.drew p us := ⟨K.lt, K.c⟩
theorem Fz.drew (K : Fz W p) : Fz W.drew p := ⟨K.1, K.2⟩
end
theorem alloc_new (W : World) (us : List Value) (t : TypeId) : ∃ V : World, V = W.alloc (.cells us.toArray t) ∧ Below W.heap.size W V ∧ Box V W.heap.size us ∧ Fz V W.heap.size ∧ V.heap.size = W.heap.size + 1 :=
 ⟨_, rfl, (Below.refl _ _).alloc (Nat.le_refl _) _, Box.new W us t, Fz.new W _ t, by go_size⟩
theorem Box.c1 {W : World} {p : Nat} {a0 : Value} (K : Box W p [a0]) : W.cell? ⟨p, 0, none⟩ = some a0 := K.c 0 _ rfl
theorem Fz.f1 {W : World} {p : Nat} (K : Fz W p) : W.frozen? ⟨p, 0, none⟩ = false := K.2 0
theorem Box.c2 {W : World} {p : Nat} {a0 a1 : Value} (K : Box W p [a0, a1]) : W.cell? ⟨p, 0, none⟩ = some a0 ∧ W.cell? ⟨p, 1, none⟩ = some a1 := ⟨K.c 0 _ rfl, K.c 1 _ rfl⟩
theorem Fz.f2 {W : World} {p : Nat} (K : Fz W p) : W.frozen? ⟨p, 0, none⟩ = false ∧ W.frozen? ⟨p, 1, none⟩ = false := ⟨K.2 0, K.2 1⟩
theorem Box.c3 {W : World} {p : Nat} {a0 a1 a2 : Value} (K : Box W p [a0, a1, a2]) : W.cell? ⟨p, 0, none⟩ = some a0 ∧ W.cell? ⟨p, 1, none⟩ = some a1 ∧ W.cell? ⟨p, 2, none⟩ = some a2 := ⟨K.c 0 _ rfl, K.c 1 _ rfl, K.c 2 _ rfl⟩
theorem Fz.f3 {W : World} {p : Nat} (K : Fz W p) : W.frozen? ⟨p, 0, none⟩ = false ∧ W.frozen? ⟨p, 1, none⟩ = false ∧ W.frozen? ⟨p, 2, none⟩ = false := ⟨K.2 0, K.2 1, K.2 2⟩
theorem Box.c4 {W : World} {p : Nat} {a0 a1 a2 a3 : Value} (K : Box W p [a0, a1, a2, a3]) : W.cell? ⟨p, 0, none⟩ = some a0 ∧ W.cell? ⟨p, 1, none⟩ = some a1 ∧ W.cell? ⟨p, 2, none⟩ = some a2 ∧ W.cell? ⟨p, 3, none⟩ = some a3 := ⟨K.c 0 _ rfl, K.c 1 _ rfl, K.c 2 _ rfl, K.c 3 _ rfl⟩
theorem Fz.f4 {W : World} {p : Nat} (K : Fz W p) : W.frozen? ⟨p, 0, none⟩ = false ∧ W.frozen? ⟨p, 1, none⟩ = false ∧ W.frozen? ⟨p, 2, none⟩ = false ∧ W.frozen? ⟨p, 3, none⟩ = false := ⟨K.2 0, K.2 1, K.2 2, K.2 3⟩
theorem Box.c12 {W : World} {p : Nat} {a0 a1 a2 a3 a4 a5 a6 a7 a8 a9 a10 a11 : Value} (K : Box W p [a0, a1, a2, a3, a4, a5, a6, a7, a8, a9, a10, a11]) : W.cell? ⟨p, 0, none⟩ = some a0 ∧ W.cell? ⟨p, 1, none⟩ = some a1 ∧ W.cell? ⟨p, 2, none⟩ = some a2 ∧ W.cell? ⟨p, 3, none⟩ = some a3 ∧ W.cell? ⟨p, 4, none⟩ = some a4 ∧ W.cell? ⟨p, 5, none⟩ = some a5 ∧ W.cell? ⟨p, 6, none⟩ = some a6 ∧ W.cell? ⟨p, 7, none⟩ = some a7 ∧ W.cell? ⟨p, 8, none⟩ = some a8 ∧ W.cell? ⟨p, 9, none⟩ = some a9 ∧ W.cell? ⟨p, 10, none⟩ = some a10 ∧ W.cell? ⟨p, 11, none⟩ = some a11 := ⟨K.c 0 _ rfl, K.c 1 _ rfl, K.c 2 _ rfl, K.c 3 _ rfl, K.c 4 _ rfl, K.c 5 _ rfl, K.c 6 _ rfl, K.c 7 _ rfl, K.c 8 _ rfl, K.c 9 _ rfl, K.c 10 _ rfl, K.c 11 _ rfl⟩
theorem Fz.f12 {W : World} {p : Nat} (K : Fz W p) : W.frozen? ⟨p, 0, none⟩ = false ∧ W.frozen? ⟨p, 1, none⟩ = false ∧ W.frozen? ⟨p, 2, none⟩ = false ∧ W.frozen? ⟨p, 3, none⟩ = false ∧ W.frozen? ⟨p, 4, none⟩ = false ∧ W.frozen? ⟨p, 5, none⟩ = false ∧ W.frozen? ⟨p, 6, none⟩ = false ∧ W.frozen? ⟨p, 7, none⟩ = false ∧ W.frozen? ⟨p, 8, none⟩ = false ∧ W.frozen? ⟨p, 9, none⟩ = false ∧ W.frozen? ⟨p, 10, none⟩ = false ∧ W.frozen? ⟨p, 11, none⟩ = false := ⟨K.2 0, K.2 1, K.2 2, K.2 3, K.2 4, K.2 5, K.2 6, K.2 7, K.2 8, K.2 9, K.2 10, K.2 11⟩
theorem p0 (a : Act) (dst : Option Tmp) (v : Value) : a.put dst v = (match dst with
  | some d => { a with tmps := a.tmps.setIfInBounds d v }
  | none => a) := rfl
theorem p1 {α : Type} (l : List α) (i : Nat) (a : α) : l.toArray.setIfInBounds i a = (l.set i a).toArray := List.setIfInBounds_toArray ..
theorem p2 {α : Type} (x : α) (xs : List α) (a : α) : (x :: xs).set 0 a = a :: xs := rfl
theorem p3 {α : Type} (x : α) (xs : List α) (n : Nat) (a : α) : (x :: xs).set (n + 1) a = x :: xs.set n a := rfl
def Cs (W : World) (p : Nat) : Nat → List Value → Prop
  | _, [] => True
  | o, v :: r => W.cell? ⟨p, o, none⟩ = some v ∧ Cs W p (o + 1) r
theorem Cs.of {W : World} {p : Nat} : ∀ {us : List Value} {o : Nat}, (∀ (i : Nat) (v : Value), us[i]? = some v → W.cell? ⟨p, o + i, none⟩ = some v) → Cs W p o us
  | [], _, _ => trivial
  | v :: r, o, h => ⟨h 0 v rfl, Cs.of fun i u e => by have := h (i + 1) u e; rwa [show o + (i + 1) = o + 1 + i by omega] at this⟩
theorem Box.cs {W : World} {p : Nat} {us : List Value} (K : Box W p us) : Cs W p 0 us := Cs.of fun i v e => by rw [Nat.zero_add]; exact K.c i v e
section
variable {P : Program} {ops : Array Oper} {Q : Exit → Act → World → Prop} {md : Region.Mode} {S : World → Prop}
/-- An operation that yields its value in every world that meets S is taken. -/
theorem pT (i : Nat) {oi : Oper} {v : Value} {fuel : Nat} {listed : Array Bool} {a : Act} {w : World}
    (h : wpAnyH P md ops Q S fuel (listed.setIfInBounds i true) (a.put oi.dst v) w)
    (hi : ops[i]? = some oi := by (simp only [List.getElem?_toArray, List.getElem?_cons_succ, List.getElem?_cons_zero]; rfl))
    (hs : Region.noSelect ops = true := by kernel_rfl) (hf : Region.free md ops listed i = true := by kernel_rfl) (hr : (Region.ready md ops listed).contains i = true := by kernel_rfl)
    (hQ : ∀ c a w, Q (.panic c) (a.put oi.dst v) w → Q (.panic c) a w := by exact fun _ _ _ h => h)
    (hg : Region.wanted oi (yielded ops a.tmps) = true := by rfl)
    (hy : ∀ wt, S wt → (execOp a.eval oi).run P wt = .ok (.value v) wt := by (intro wt hSw; (try simp only [Cs, and_true, Nat.zero_add, Nat.reduceAdd] at hSw); go_simp; (try with_reducible rfl)))
    (hS : S w := by assumption)
    : wpAnyH P md ops Q S (fuel + 1) listed a w :=
  wpAnyH_take hi hs hf hr hQ (Or.inl ⟨hg, hy⟩) hS h
/-- One that is guarded off. -/
theorem pS (i : Nat) {oi : Oper} {fuel : Nat} {listed : Array Bool} {a : Act} {w : World}
    (h : wpAnyH P md ops Q S fuel (listed.setIfInBounds i true) (a.put oi.dst undef) w)
    (hi : ops[i]? = some oi := by (simp only [List.getElem?_toArray, List.getElem?_cons_succ, List.getElem?_cons_zero]; rfl))
    (hs : Region.noSelect ops = true := by kernel_rfl) (hf : Region.free md ops listed i = true := by kernel_rfl) (hr : (Region.ready md ops listed).contains i = true := by kernel_rfl)
    (hQ : ∀ c a w, Q (.panic c) (a.put oi.dst undef) w → Q (.panic c) a w := by exact fun _ _ _ h => h)
    (hg : Region.wanted oi (yielded ops a.tmps) = false := by rfl)
    (hS : S w := by assumption)
    : wpAnyH P md ops Q S (fuel + 1) listed a w :=
  wpAnyH_take hi hs hf hr hQ (Or.inr ⟨hg, rfl⟩) hS h
theorem pR1 (i : Nat) {o : Oper} {fuel : Nat} {listed : Array Bool} {a : Act} {w : World}
    (h0 : ∀ K' : Act → World → Prop, Shut (∀ a w, S w → (S w → wpAnyH P md ops Q S fuel (listed.setIfInBounds i true) a w) → K' a w) → if Region.wanted o (yielded ops a.tmps) = true then Oper.wp P o a w K' Q else K' (a.put (o).dst undef) w)
    (e0 : ops[i]? = some o := by (simp only [List.getElem?_toArray, List.getElem?_cons_succ, List.getElem?_cons_zero]; rfl))
    (hr : Region.ready md ops listed = [i] := by kernel_rfl) : wpAnyH P md ops Q S (fuel + 1) listed a w :=
  wpAnyH_ready hr (by simp) (AllReadyH.cons e0 h0 AllReadyH.nil)
theorem pR2 (i j : Nat) {o p : Oper} {fuel : Nat} {listed : Array Bool} {a : Act} {w : World}
    (h0 : ∀ K' : Act → World → Prop, Shut (∀ a w, S w → (S w → wpAnyH P md ops Q S fuel (listed.setIfInBounds i true) a w) → K' a w) → if Region.wanted o (yielded ops a.tmps) = true then Oper.wp P o a w K' Q else K' (a.put (o).dst undef) w)
    (h1 : ∀ K' : Act → World → Prop, Shut (∀ a w, S w → (S w → wpAnyH P md ops Q S fuel (listed.setIfInBounds j true) a w) → K' a w) → if Region.wanted p (yielded ops a.tmps) = true then Oper.wp P p a w K' Q else K' (a.put (p).dst undef) w)
    (e0 : ops[i]? = some o := by (simp only [List.getElem?_toArray, List.getElem?_cons_succ, List.getElem?_cons_zero]; rfl))
    (e1 : ops[j]? = some p := by (simp only [List.getElem?_toArray, List.getElem?_cons_succ, List.getElem?_cons_zero]; rfl))
    (hr : Region.ready md ops listed = [i, j] := by kernel_rfl) : wpAnyH P md ops Q S (fuel + 1) listed a w :=
  wpAnyH_ready hr (by simp) (AllReadyH.cons e0 h0 (AllReadyH.cons e1 h1 AllReadyH.nil))
theorem pR3 (i j k : Nat) {o p q : Oper} {fuel : Nat} {listed : Array Bool} {a : Act} {w : World}
    (h0 : ∀ K' : Act → World → Prop, Shut (∀ a w, S w → (S w → wpAnyH P md ops Q S fuel (listed.setIfInBounds i true) a w) → K' a w) → if Region.wanted o (yielded ops a.tmps) = true then Oper.wp P o a w K' Q else K' (a.put (o).dst undef) w)
    (h1 : ∀ K' : Act → World → Prop, Shut (∀ a w, S w → (S w → wpAnyH P md ops Q S fuel (listed.setIfInBounds j true) a w) → K' a w) → if Region.wanted p (yielded ops a.tmps) = true then Oper.wp P p a w K' Q else K' (a.put (p).dst undef) w)
    (h2 : ∀ K' : Act → World → Prop, Shut (∀ a w, S w → (S w → wpAnyH P md ops Q S fuel (listed.setIfInBounds k true) a w) → K' a w) → if Region.wanted q (yielded ops a.tmps) = true then Oper.wp P q a w K' Q else K' (a.put (q).dst undef) w)
    (e0 : ops[i]? = some o := by (simp only [List.getElem?_toArray, List.getElem?_cons_succ, List.getElem?_cons_zero]; rfl))
    (e1 : ops[j]? = some p := by (simp only [List.getElem?_toArray, List.getElem?_cons_succ, List.getElem?_cons_zero]; rfl))
    (e2 : ops[k]? = some q := by (simp only [List.getElem?_toArray, List.getElem?_cons_succ, List.getElem?_cons_zero]; rfl))
    (hr : Region.ready md ops listed = [i, j, k] := by kernel_rfl) : wpAnyH P md ops Q S (fuel + 1) listed a w :=
  wpAnyH_ready hr (by simp) (AllReadyH.cons e0 h0 (AllReadyH.cons e1 h1 (AllReadyH.cons e2 h2 AllReadyH.nil)))
end
end Go.Proofs.Ytgoackkfjieahaa
