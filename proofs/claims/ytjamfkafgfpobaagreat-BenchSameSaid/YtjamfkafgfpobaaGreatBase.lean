/-
  Words for memory: a slice that reads as a list of numbers; small facts on worlds. No conditions.
-/
import Derived.Test.YtjamfkafgfpobaaGreatNums
import Derived.Test.YtjamfkafgfpobaaGreatRows
import Derived.WalkKit
import Derived.WalkSpells
import Derived.WalkLawsBesides
import Derived.Deep.AppendLies
import Derived.Deep.Draws
import Derived.Lib.Hide
import Derived.Handy
import Derived.OwnWalk
import Derived.Laws.Rows
namespace Go.Proofs.YtjamfkafgfpobaaGreat
open Go.RowKit Nb
theorem block_of_add (a : Addr) (n : Nat) : (a.add n).block = a.block := by unfold Addr.add; split <;> rfl
theorem add_of_add (a : Addr) (i j : Nat) : (a.add i).add j = a.add (i + j) := by
  unfold Addr.add
  by_cases hi : i = 0 <;> by_cases hj : j = 0 <;> simp [hi, hj, Nat.add_assoc]
/-- The slice at A with these numbers, of one kind, below block B. -/
def Sl (k : IntKind) (w : World) (B : Nat) (A : Option Addr) (ls : List Nat) : Prop :=
  0 < ls.length → ∃ ad, A = some ad ∧ ad.block < B ∧ ∀ j (h : j < ls.length), w.cell? (ad.add j) = some (.int k (ls[j] : Nat))
section
variable {k : IntKind} {w w' : World} {B B' : Nat} {A : Option Addr} {ls : List Nat}
theorem Sl.none_ : Sl k w B A [] := fun h => absurd h (by simp)
theorem Sl.at_ {i : Nat} (h : Sl k w B A ls) (hi : i < ls.length) : ∃ ad, A = some ad ∧ (ad.add i).block < B ∧ w.cell? (ad.add i) = some (.int k (ls[i] : Nat)) := by
  obtain ⟨ad, e, hb, hc⟩ := h (by omega)
  exact ⟨ad, e, by rw [block_of_add]; exact hb, hc i hi⟩
theorem Sl.keep (h : Sl k w B A ls) (hk : ∀ p : Addr, p.block < B → w'.cell? p = w.cell? p) : Sl k w' B A ls := fun hn => by
  obtain ⟨ad, e, hb, hc⟩ := h hn
  exact ⟨ad, e, hb, fun j hj => (hk _ (by rw [block_of_add]; exact hb)).trans (hc j hj)⟩
theorem Sl.more (h : Sl k w B A ls) (hB : B ≤ B') : Sl k w B' A ls := fun hn => by
  obtain ⟨ad, e, hb, hc⟩ := h hn
  exact ⟨ad, e, by omega, hc⟩
theorem Sl.below (h : Sl k w B A ls) (hb : Below B w w') : Sl k w' B A ls := h.keep fun _ hp => hb.cell hp
theorem Sl.alloc (h : Sl k w B A ls) (hB : B ≤ w.heap.size) (o : Obj) : Sl k (w.alloc o) B A ls := h.keep fun p hp => World.cell?_alloc_lt w o p (by omega)
theorem Sl.setCell (h : Sl k w B A ls) {p : Addr} (hB : B ≤ p.block) (u : Value) : Sl k (w.setCell p u) B A ls :=
  h.keep fun q hq => World.cell?_setCell_other w p q u (fun e => by subst e; omega)
theorem Sl.grown (h : Sl k w B A ls) {row : Option Nat} (hg : w.grownBy w' row) (hB : B ≤ w.heap.size) (hr : ∀ g, row = some g → B ≤ g) : Sl k w' B A ls :=
  h.keep fun p hp => World.cell?_of_block (hg.block p.block (by omega) (fun e => by have := hr _ e.symm; omega))
theorem Sl.take (h : Sl k w B A ls) (n : Nat) : Sl k w B A (ls.take n) := fun hn => by
  rw [List.length_take] at hn
  obtain ⟨ad, e, hb, hc⟩ := h (by omega)
  refine ⟨ad, e, hb, fun j hj => ?_⟩
  rw [List.length_take] at hj
  rw [hc j (by omega), List.getElem_take]
theorem Sl.drop (h : Sl k w B A ls) {n cap : Nat} (hn : n ≤ ls.length) (hc : ls.length ≤ cap) : Sl k w B (if cap = n then A else A.map (·.add n)) (ls.drop n) := fun hl => by
  rw [List.length_drop] at hl
  obtain ⟨ad, rfl, hb, hcell⟩ := h (by omega)
  rw [if_neg (by omega)]
  refine ⟨ad.add n, rfl, by rw [block_of_add]; exact hb, fun j hj => ?_⟩
  rw [List.length_drop] at hj
  rw [add_of_add, hcell (n + j) (by omega), List.getElem_drop]
theorem Sl.of_own {base c : Nat} {e : TypeId} (h : w.ownsRow base e 1 (.slice A ls.length c) ls.length (ls.map fun n : Nat => Value.int k n)) : Sl k w w.heap.size A ls := fun hn => by
  obtain ⟨g, cap, hv, _, hlt⟩ := h.form hn
  have hA : A = some ⟨g, 0, none⟩ := by injection hv
  subst hA
  refine ⟨_, rfl, hlt, fun j hj => ?_⟩
  exact h.cells (g := g) rfl j _ (by rw [List.getElem?_map, List.getElem?_eq_getElem hj]; rfl)
end
/-- The same world but for draws. -/
def Qu (w w' : World) : Prop := ∃ n, w' = w.drewN n
theorem Qu.refl (w : World) : Qu w w := ⟨0, rfl⟩
theorem Qu.drew {w w' : World} (h : Qu w w') (n : Nat) : Qu w (w'.drewN n) := by
  obtain ⟨m, rfl⟩ := h
  exact ⟨m + n, by rw [World.drewN_drewN]⟩
theorem Qu.trans {w w' w'' : World} (h : Qu w w') (k : Qu w' w'') : Qu w w'' := by
  obtain ⟨m, rfl⟩ := k
  exact h.drew m
theorem Qu.heap {w w' : World} (h : Qu w w') : w'.heap = w.heap := by
  obtain ⟨m, rfl⟩ := h
  rfl
theorem Qu.below {w w' : World} (h : Qu w w') (B : Nat) : Below B w w' := by
  obtain ⟨m, rfl⟩ := h
  exact ⟨rfl, rfl, rfl, Nat.le_refl _, fun _ _ => rfl⟩
theorem Qu.cell {w w' : World} (h : Qu w w') (a : Addr) : w'.cell? a = w.cell? a := by
  obtain ⟨m, rfl⟩ := h
  rfl
/-- Block g is just these numbers. -/
def Row (k : IntKind) (w : World) (g : Nat) (e : TypeId) (xs : List Nat) : Prop := w.heap[g]? = some (.cells (xs.map fun n : Nat => Value.int k n).toArray e (0, 0))
section
variable {k : IntKind} {w w' : World} {g : Nat} {e : TypeId} {xs : List Nat}
theorem Row.lt (h : Row k w g e xs) : g < w.heap.size := by
  rcases Nat.lt_or_ge g w.heap.size with hlt | hge
  · exact hlt
  · unfold Row at h; rw [Array.getElem?_eq_none hge] at h; cases h
theorem Row.cell (h : Row k w g e xs) {i : Nat} (hi : i < xs.length) : w.cell? ⟨g, i, none⟩ = some (.int k (xs[i] : Nat)) := by
  unfold Row at h
  rw [cell_of_row w g i _ _ _ h]
  simp [List.getElem?_eq_getElem hi]
theorem Row.frozen (h : Row k w g e xs) (i : Nat) : w.frozen? ⟨g, i, none⟩ = false := by
  unfold Row at h
  simp [World.frozen?, h]
theorem Row.set_ (h : Row k w g e xs) (i n : Nat) : Row k (w.setCell ⟨g, i, none⟩ (.int k n)) g e (xs.set i n) := by
  unfold Row at h ⊢
  simp [World.setCell, Array.getElem?_modify, h, List.map_set]
theorem Row.drew (h : Row k w g e xs) (n : Nat) : Row k (w.drewN n) g e xs := h
theorem Row.drew1 (h : Row k w g e xs) : Row k w.drew g e xs := h
theorem Row.qu (h : Row k w g e xs) (q : Qu w w') : Row k w' g e xs := by unfold Row; rw [q.heap]; exact h
theorem Row.alloc (h : Row k w g e xs) (o : Obj) : Row k (w.alloc o) g e xs := (Below.heap_alloc w o g h.lt).trans h
theorem Row.far (h : Row k w g e xs) {p : Addr} (hp : g ≠ p.block) (u : Value) : Row k (w.setCell p u) g e xs := (Below.heap_setCell w p u g hp).trans h
theorem Row.below {B : Nat} (h : Row k w g e xs) (hb : Below B w w') (hg : g < B) : Row k w' g e xs := (hb.block g hg).trans h
theorem add_zero_none (g j : Nat) : (⟨g, 0, none⟩ : Addr).add j = ⟨g, j, none⟩ := by
  unfold Addr.add; by_cases h : j = 0 <;> simp [h]
theorem Row.sl {B : Nat} (h : Row k w g e xs) (hB : g < B) : Sl k w B (some ⟨g, 0, none⟩) xs := fun _ =>
  ⟨_, rfl, hB, fun j hj => by rw [add_zero_none]; exact h.cell hj⟩
theorem Row.of_own {base n : Nat} (h : w.ownsRow base e 1 (.slice (some ⟨g, 0, none⟩) n n) n (xs.map fun n : Nat => Value.int k n)) : Row k w g e xs := by
  obtain ⟨hl, ⟨h0, _⟩ | ⟨g', cap, cur, hv, _, hg, _, _, hcs, ht⟩⟩ := h
  · cases h0
  · injection hv with hA _ hc
    injection hA with hA
    injection hA with hA
    subst hA; subst hc
    unfold Row
    rw [hg, ← ht]
    congr 2
    have : cur.toList.take (n * 1) = cur.toList := List.take_of_length_le (by simp; omega)
    rw [this]
end
theorem made_zeros (k : IntKind) (n : Nat) : (madeCells (Value.int k 0).cells (n * 1)).toList = (List.replicate n 0).map fun n : Nat => Value.int k n := by
  show (madeCells #[Value.int k 0] (n * 1)).toList = _
  rw [toList_madeCells_one]
  simp
/-- 'make([]T, n)': a new block of noughts. -/
theorem wpList_make_row {P : Program} (w : World) {ops : Array Oper} {rest : List Oper} {o : Oper} {a : Act} {Q : Exit → Act → World → Prop}
    (hg : o.guard = none) (l c : Operand) (t : TypeId) (hop : o.op = Op.makeSlice t l c) (e : TypeId) (k : IntKind) (bytes : Nat)
    (h1 : P.underlying t = some (.slice e)) (h2 : (P.info? e).map (fun i => (i.zero, i.size, i.bytes)) = some (some (.int k 0), 1, bytes))
    (kl kc : IntKind) (L C : Int) (n : Nat) (hl : a.eval l = .int kl L) (hc : a.eval c = .int kc C) (hL : L = (n : Int)) (hC : C = (n : Int)) (b2 : bytes * n ≤ 281474976710656) (b3 : n ≤ maxLen)
    (hK : ∀ w', Row k w' w.heap.size e (List.replicate n 0) → Below w.heap.size w w' → wpList P ops Q rest (a.put o.dst (.slice (some ⟨w.heap.size, 0, none⟩) n n)) w') :
    wpList P ops Q (o :: rest) a w := by
  obtain ⟨i, hi, hz, hs, hb⟩ := info_parts h2
  refine wpList_make_full w hg l c t hop w.heap.size e i (.int k 0) 1 h1 hi hz hs kl kc L C n hl hc hL hC (by rw [hb]; exact b2) b3 (Nat.le_refl _) fun w' ho hgr => ?_
  rw [made_zeros] at ho
  exact hK w' (Row.of_own ho) ((Below.refl _ _).grown hgr (Nat.le_refl _) (by simp))
end Go.Proofs.YtjamfkafgfpobaaGreat
