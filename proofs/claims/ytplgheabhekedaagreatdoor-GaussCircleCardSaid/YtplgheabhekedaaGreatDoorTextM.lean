/-
  Words for a builder beside other memory: what it keeps, what keeps it. No conditions.
-/
import Derived.Test.YtplgheabhekedaaGreatDoorText1
import Derived.Test.YtplgheabhekedaaGreatDoorNums
import Derived.WalkSmall
import Derived.Lib.Repeat
namespace Go.Proofs.YtplgheabhekedaaGreatDoor
open Go.RowKit Nb

/-- A builder of the call's own that holds these bytes. -/
abbrev Bld (B b : Nat) (l : List UInt8) (w : World) : Prop := Lib.IsBuilderF 220 5 B b (Lib.byteCells l) w
theorem heap_lt {w : World} {g : Nat} {o : Obj} (h : w.heap[g]? = some o) : g < w.heap.size := by
  rcases Nat.lt_or_ge g w.heap.size with hlt | hge
  · exact hlt
  · rw [Array.getElem?_eq_none hge] at h; cases h
theorem bldAt_keep {B b : Nat} {p : Value} {bs : List Value} {w w' : World} (h : Lib.BuilderAtF 220 5 B b p bs w) (hk : ∀ (k : Nat) (o : Obj), w.heap[k]? = some o → (∃ c t f, o = Obj.cells c t f ∧ (t : TypeId) ≠ 182) → w'.heap[k]? = some o) : Lib.BuilderAtF 220 5 B b p bs w' := by
  obtain ⟨hB, v, hbk, ⟨hl, hown⟩, hne⟩ := h
  refine ⟨hB, v, hk _ _ hbk ⟨_, _, _, rfl, (by decide : (220 : TypeId) ≠ 182)⟩, ⟨hl, ?_⟩, hne⟩
  rcases hown with h0 | ⟨g, cap, cur, fz, hv, hBg, hg, r⟩
  · exact .inl h0
  · exact .inr ⟨g, cap, cur, fz, hv, hBg, hk _ _ hg ⟨_, _, _, rfl, (by decide : (5 : TypeId) ≠ 182)⟩, r⟩
theorem bld_keep {B b : Nat} {bs : List Value} {w w' : World} (h : Lib.IsBuilderF 220 5 B b bs w) (hk : ∀ (k : Nat) (o : Obj), w.heap[k]? = some o → (∃ c t f, o = Obj.cells c t f ∧ (t : TypeId) ≠ 182) → w'.heap[k]? = some o) : Lib.IsBuilderF 220 5 B b bs w' :=
  h.elim (fun x => .inl (bldAt_keep x hk)) (fun x => .inr (bldAt_keep x hk))
theorem bld_below {B b : Nat} {bs : List Value} {w w' : World} (h : Lib.IsBuilderF 220 5 B b bs w) (hb : Below w.heap.size w w') : Lib.IsBuilderF 220 5 B b bs w' :=
  bld_keep h fun k _ ho _ => (hb.block k (heap_lt ho)).trans ho
theorem bld_upd {B b g : Nat} {bs : List Value} {xs : List Nat} {rest : List Value} {w w' : World} (h : Lib.IsBuilderF 220 5 B b bs w) (hr : RowV .u64 w g 182 xs rest) (hu : Upd g w w') : Lib.IsBuilderF 220 5 B b bs w' :=
  bld_keep h fun k o ho ⟨c, t, f, e, ht⟩ => by
    by_cases hkg : k = g
    · subst hkg
      unfold RowV at hr
      rw [hr] at ho
      injection ho with ho
      rw [e] at ho
      injection ho with _ h2
      exact absurd h2.symm ht
    · exact (hu.block k hkg).trans ho
theorem row_others {g b : Nat} {xs : List Nat} {rest : List Value} {w w' : World} (hr : RowV .u64 w g 182 xs rest) (hk : Lib.OthersKept 5 (some b) w w') (hne : g ≠ b) : RowV .u64 w' g 182 xs rest :=
  hk g _ hr (fun e => hne (Option.some.inj e)) (fun c fz e => by injection e with _ h; exact absurd h (by decide))
theorem tab_index : Tryz.prog.globalNamed "internal/strconv.uint64pow10" = some 2 := by kernel_rfl
theorem tab_lt {w : World} (h : Tab w) : 2 < w.heap.size := by
  have hc := World.var?_cell tab_index h 0
  unfold World.cell? at hc
  split at hc
  · rename_i hh
    exact heap_lt hh
  · simp [Lib.pow10Tab] at hc
theorem tab_below {w w' : World} (h : Tab w) (hb : Below w.heap.size w w') : Tab w' := var?_below hb tab_index (tab_lt h) h
theorem strCells_of (l : List UInt8) : Lib.strCells ⟨l.toArray⟩ = Lib.byteCells l := by simp [Lib.strCells, Lib.byteCells]
theorem byteCells_append (l m : List UInt8) : Lib.byteCells (l ++ m) = Lib.byteCells l ++ Lib.byteCells m := by simp [Lib.byteCells]
theorem size_of (l : List UInt8) : (⟨l.toArray⟩ : ByteArray).size = l.length := by simp [ByteArray.size]
/-- Bytes are written. -/
theorem write_any (B b : Nat) (l m : List UInt8) (w : World) (h : Bld B b l w) (hlen : l.length + m.length ≤ 140737488355328) (hBw : B ≤ w.heap.size) :
    Calls Tryz.prog 189 #[.pointer (some ⟨b, 0, none⟩), .string ⟨m.toArray⟩] w fun e w' => e = .returned (.tuple #[.int .i64 m.length, .nilIface]) ∧ Bld B b (l ++ m) w' ∧ Below B w w' ∧ Lib.OthersKept 5 (some b) w w' := by
  refine (writeString_any B b (Lib.byteCells l) ⟨m.toArray⟩ w h (by rw [size_of, Lib.byteCells_length]; exact hlen) hBw).mono ?_
  rintro e w' ⟨rfl, h1, h2, h3⟩
  rw [strCells_of, ← byteCells_append] at h1
  rw [size_of]
  exact ⟨rfl, .inr h1, h2, h3⟩
/-- The number that the highest groups tell. -/
theorem val_high {T : Nat} {gs : List Nat} {j : Nat} (hj : j < gs.length) : val T (gs.drop j) = gs[j] + T * val T (gs.drop (j + 1)) := by
  rw [List.drop_eq_getElem_cons hj, val_cons]
end Go.Proofs.YtplgheabhekedaaGreatDoor
