/-
  What is written of numbers: strings.Builder, strconv.FormatUint, large's text by blocks. Conditions: the table of digits; that numbers are no longer than memory.
-/
import Derived.Test.YtjamfkafgfpobaaGreatDoorInt3
import Derived.Shelf.Strings.BuilderK
import Derived.Lib.AppendIntMem
import Derived.Lib.ItoaMem
import Derived.BigRegion
import Derived.Test.YtjamfkafgfpobaaGreatDoorNum2
import Derived.WalkSmall
import Derived.Lib.Repeat
namespace Go.Proofs.YtjamfkafgfpobaaGreatDoor
open Go.RowKit Nb
theorem infoByte : (Tryz.prog.info? 5).map (fun i => (i.zero, i.size, i.bytes)) = some (some (.int .u8 0), 1, 1) := by kernel_rfl
theorem sizeBuilder : (Tryz.prog.info? 163).map (·.size) = some 2 := by kernel_rfl
set_option maxHeartbeats 1000000 in
set_option maxRecDepth 100000 in
theorem check_used (b : Nat) (w : World) (h0 : w.cell? ⟨b, 0, none⟩ = some (.pointer (some ⟨b, 0, none⟩))) :
    Calls Tryz.prog 146 #[.pointer (some ⟨b, 0, none⟩)] w fun e w' => e = .returned (.tuple #[]) ∧ w' = w := by
  obtain ⟨j, hj, _⟩ := Option.map_eq_some_iff.1 sizeBuilder
  go_enter Tryz.func146, Tryz.ntmps146
  go_wp2
  rw [Lib.run_neq_ptr_same w _ Tryz.underlying160 hj]
  go_wp2
  go_end0
  exact ⟨rfl, rfl⟩
theorem liesBuilder : liesAt Tryz.prog Tryz.prog.depth 163 (2 / Tryz.prog.cellsOf 163) 0 163 1 = true := by kernel_rfl
set_option maxHeartbeats 1000000 in
set_option maxRecDepth 100000 in
theorem check_fresh (b : Nat) (w : World) (h0 : w.cell? ⟨b, 0, none⟩ = some (.pointer none)) (hsh : w.shape? b = some (163, 2)) (hfz : w.frozen? ⟨b, 0, none⟩ = false) :
    Calls Tryz.prog 146 #[.pointer (some ⟨b, 0, none⟩)] w fun e w' => e = .returned (.tuple #[]) ∧ w' = w.setCell ⟨b, 0, none⟩ (.pointer (some ⟨b, 0, none⟩)) := by
  obtain ⟨j, hj, hjs⟩ := Option.map_eq_some_iff.1 sizeBuilder
  go_enter Tryz.func146, Tryz.ntmps146
  go_wp2
  rw [Lib.run_to_unsafe w ⟨b, 0, none⟩ Tryz.underlying160 Tryz.underlying197 hj (by rw [hjs]; decide) hsh (Nat.zero_lt_succ 1)]
  simp only [Result.andThen]
  rw [Oper.upon_value]
  go_wp2
  rw [run_callFunc_extern Tryz.func159 (by kernel_rfl) (by kernel_rfl) (by kernel_rfl) (e := Extern.AbiNoEscape.same) (by kernel_rfl)]
  rw [Lib.run_noEscape]
  simp only [Result.andThen]
  rw [Oper.upon_value]
  go_wp2
  rw [Lib.run_from_unsafe w ⟨b, 0, none⟩ Tryz.underlying197 Tryz.underlying160 hj hsh liesBuilder]
  simp only [Result.andThen]
  rw [Oper.upon_value]
  go_wp2
  go_end0
  exact ⟨rfl, rfl⟩
theorem check_any (B b : Nat) (bs : List Value) (w : World) (h : Lib.IsBuilderF 163 5 B b bs w) :
    Calls Tryz.prog 146 #[.pointer (some ⟨b, 0, none⟩)] w fun e w' => e = .returned (.tuple #[]) ∧ (Lib.BuilderAtF 163 5 B b (.pointer (some ⟨b, 0, none⟩)) bs w' ∧ Below B w w' ∧ Lib.OthersKept 5 (some b) w w') := by
  rcases h with h | h
  · refine (check_fresh b w h.cell0 h.shape h.frozen0).mono ?_
    rintro e w' ⟨rfl, rfl⟩
    exact ⟨rfl, h.used _, (Below.refl B w).setCell (p := ⟨b, 0, none⟩) h.1 _, (Lib.OthersKept.refl _ _ w).setCell ⟨b, 0, none⟩ rfl _⟩
  · refine (check_used b w h.cell0).mono ?_
    rintro e w' ⟨rfl, rfl⟩
    exact ⟨rfl, h, Below.refl B _, Lib.OthersKept.refl _ _ _⟩
set_option maxHeartbeats 2000000 in
set_option maxRecDepth 100000 in
theorem writeByte_any (B b : Nat) (bs : List Value) (c : Int) (w : World) (h : Lib.IsBuilderF 163 5 B b bs w) (hlen : bs.length + 1 ≤ 140737488355328) (hBw : B ≤ w.heap.size) :
    Calls Tryz.prog 125 #[.pointer (some ⟨b, 0, none⟩), .int .u8 c] w fun e w' => e = .returned .nilIface ∧ (Lib.BuilderAtF 163 5 B b (.pointer (some ⟨b, 0, none⟩)) (bs ++ [.int .u8 c]) w' ∧ Below B w w' ∧ Lib.OthersKept 5 (some b) w w') := by
 obtain ⟨i0, hi, hz0, hz1, hz2⟩ := info_parts infoByte
 go_enter Tryz.func125, Tryz.ntmps125
 go_wp2_with (go_at_call 146; refine (check_any B b bs _ h).mono ?_)
 rintro e w1 ⟨rfl, h1, hb1, hk1⟩
 obtain ⟨hB, v, hbk, hown, hne⟩ := h1
 have c0 : w1.cell? ⟨b, 0, none⟩ = some (.pointer (some ⟨b, 0, none⟩)) := by rw [Lib.cell_of_heap hbk]; rfl
 have c1 : w1.cell? ⟨b, 1, none⟩ = some v := by rw [Lib.cell_of_heap hbk]; rfl
 go_wp2_with (at_builtin; refine wpList_append_ownF _ rfl _ _ 161 rfl B 5 i0 (.int .u8 0) 1 1 Tryz.underlying161 hi hz0 hz1 hz2 rfl (by decide) _ _ _ rfl (hown.alloc _) ⟨w1.heap.size, 0, none⟩ 1 1 [.int .u8 c] rfl rfl ?c1 ?c2 ?c3 ?c4 ?c5 ?_)
 case c1 =>
  intro j u hj
  match j, hj with
  | 0, hj => simp at hj; subst hj; simp [Addr.add]
 case c2 => intro u hu; simp at hu; subst hu; rfl
 case c3 => unfold maxLen; omega
 case c4 => omega
 case c5 => have := hb1.size; simp; omega
 intro v' w2 hown' hgrow _
 have hlt : b < w1.heap.size := by
  rcases Nat.lt_or_ge b w1.heap.size with h' | h'
  ·exact h'
  ·simp [Array.getElem?_eq_none h'] at hbk
 have hb2 : w2.heap[b]? = some (.cells #[.pointer (some ⟨b, 0, none⟩), v] 163 (0, 0)) := by
  rw [hgrow.block b (by simp; omega) (fun e => hne e.symm), Lib.alloc_old w1 _ b hlt]
  exact hbk
 have d0 : w2.cell? ⟨b, 0, none⟩ = some (.pointer (some ⟨b, 0, none⟩)) := by rw [Lib.cell_of_heap hb2]; rfl
 have d1 : w2.cell? ⟨b, 1, none⟩ = some v := by rw [Lib.cell_of_heap hb2]; rfl
 have f1 : w2.frozen? ⟨b, 1, none⟩ = false := Lib.frozen_of_heap hb2 1
 obtain ⟨g, cap, rfl⟩ : ∃ g cap, v' = .slice (some ⟨g, 0, none⟩) (bs.length + 1) cap := by
  rcases hown'.2 with ⟨_, h0⟩ | ⟨g, cap, cur, fz, hv, _⟩
  ·omega
  ·exact ⟨g, cap, hv⟩
 go_wp2
 go_ret
 refine ⟨rfl, ?_, ?_, ((hk1.alloc _).grown hgrow (Lib.ownsRowF_kind (hown.alloc _))).setCell ⟨b, 1, none⟩ rfl _⟩
 ·exact Lib.BuilderAtF.put (T := 163) (e := 5) hB hb2 (bs' := bs ++ [.int .u8 c]) (by simpa using hown') (by decide)
 ·exact ((hb1.alloc (by have := hb1.size; omega) _).grown hgrow (by have := hb1.size; simp; omega) (fun k hk => (hown.lt k hk).1)).setCell (p := ⟨b, 1, none⟩) hB _
set_option maxHeartbeats 2000000 in
set_option maxRecDepth 100000 in
theorem writeString_any (B b : Nat) (bs : List Value) (s : ByteArray) (w : World) (h : Lib.IsBuilderF 163 5 B b bs w) (hlen : bs.length + s.size ≤ 140737488355328) (hBw : B ≤ w.heap.size) :
    Calls Tryz.prog 127 #[.pointer (some ⟨b, 0, none⟩), .string s] w fun e w' => e = .returned (.tuple #[.int .i64 s.size, .nilIface]) ∧ (Lib.BuilderAtF 163 5 B b (.pointer (some ⟨b, 0, none⟩)) (bs ++ Lib.strCells s) w' ∧ Below B w w' ∧ Lib.OthersKept 5 (some b) w w') := by
 obtain ⟨i0, hi, hz0, hz1, hz2⟩ := info_parts infoByte
 go_enter Tryz.func127, Tryz.ntmps127
 go_wp2_with (go_at_call 146; refine (check_any B b bs _ h).mono ?_)
 rintro e w1 ⟨rfl, h1, hb1, hk1⟩
 obtain ⟨hB, v, hbk, hown, hne⟩ := h1
 have c0 : w1.cell? ⟨b, 0, none⟩ = some (.pointer (some ⟨b, 0, none⟩)) := by rw [Lib.cell_of_heap hbk]; rfl
 have c1 : w1.cell? ⟨b, 1, none⟩ = some v := by rw [Lib.cell_of_heap hbk]; rfl
 go_wp2_with (at_builtin; refine Lib.wpList_append_own_stringF _ rfl _ _ 161 9 rfl B 5 i0 Tryz.underlying161 Tryz.underlying9 hi hz0 hz1 hz2 _ _ _ rfl hown s rfl ?c3 ?c4 ?c5 ?_)
 case c3 => unfold maxLen; omega
 case c4 => omega
 case c5 => have := hb1.size; omega
 intro v' w2 hown' hgrow _
 have hlt : b < w1.heap.size := by
  rcases Nat.lt_or_ge b w1.heap.size with h' | h'
  ·exact h'
  ·simp [Array.getElem?_eq_none h'] at hbk
 have hb2 : w2.heap[b]? = some (.cells #[.pointer (some ⟨b, 0, none⟩), v] 163 (0, 0)) := by
  rw [hgrow.block b hlt (fun e => hne e.symm)]
  exact hbk
 have d0 : w2.cell? ⟨b, 0, none⟩ = some (.pointer (some ⟨b, 0, none⟩)) := by rw [Lib.cell_of_heap hb2]; rfl
 have d1 : w2.cell? ⟨b, 1, none⟩ = some v := by rw [Lib.cell_of_heap hb2]; rfl
 have f1 : w2.frozen? ⟨b, 1, none⟩ = false := Lib.frozen_of_heap hb2 1
 obtain ⟨ao, n', cap, rfl⟩ : ∃ ao n' cap, v' = .slice ao n' cap := by
  rcases hown'.2 with ⟨hv, _⟩ | ⟨g, cap, cur, fz, hv, _⟩
  ·exact ⟨_, _, _, hv⟩
  ·exact ⟨_, _, _, hv⟩
 go_wp2
 go_ret2
 refine ⟨rfl, ?_, ?_, (hk1.grown hgrow (Lib.ownsRowF_kind hown)).setCell ⟨b, 1, none⟩ rfl _⟩
 ·exact Lib.BuilderAtF.put (T := 163) (e := 5) hB hb2 (bs' := bs ++ Lib.strCells s) (by simpa [Lib.strCells_length] using hown') (by decide)
 ·exact (hb1.grown hgrow (by have := hb1.size; omega) (fun k hk => (hown.lt k hk).1)).setCell (p := ⟨b, 1, none⟩) hB _
end Go.Proofs.YtjamfkafgfpobaaGreatDoor
namespace Go.Proofs.YtjamfkafgfpobaaGreatDoor
open Go.RowKit Go.Sort Nb
/-- The table that FormatUint reads. -/
abbrev Tab (w : World) : Prop := Lib.TabIs Tryz.prog w "internal/strconv.uint64pow10" .u64 Lib.pow10Tab
theorem below_grow (w : World) (os : Array Obj) : Below w.heap.size w (grow w os) :=
  ⟨rfl, rfl, rfl, by simp [grow], fun k hk => by show (w.heap ++ os)[k]? = _; rw [Array.getElem?_append_left hk]⟩
theorem Below.drewN' {B : Nat} {a w : World} (h : Below B a w) (n : Nat) : Below B a (w.drewN n) := ⟨h.os, h.tape, h.output, h.size, h.block⟩
set_option maxHeartbeats 1000000 in
set_option maxRecDepth 100000 in
theorem fmt_inner (u : Nat) (hu64 : u < 18446744073709551616) (w : World) (htab : Tab w) :
    Calls Tryz.prog 147 #[.int .u64 u, .int .i64 10] w fun e w' => e = .returned (.string ⟨(Lib.decDigits u).toArray⟩) ∧ Below w.heap.size w w' := by
 by_cases hs : u < 100
 ·have hsi : (u : Int) < 100 := by omega
  go_enter Tryz.func147, Tryz.ntmps147
  go_wp2_with (go_at_call 160; refine (Tryz.internal_strconv_small u hs _).mono ?_; rintro e w' ⟨rfl, rfl⟩)
  go_ret
  exact ⟨rfl, Below.refl _ _⟩
 ·have hu1 : 1 ≤ u := by omega
  have hsi : ¬ (u : Int) < 100 := by omega
  have hnd20 : Lib.nDigits u ≤ 20 := by have := Lib.numDigits_eq u hu1 hu64; split at this <;> omega
  have hb3 : Lib.nDigits u ≤ 24 := by omega
  have hal : Tryz.prog.arrayLen 200 = 24 := by kernel_rfl
  have hsl1 : ∀ W, (Instr.sliceAt 200 (.pointer (some ⟨w.heap.size, 0, none⟩)) none (some (.int .i64 (Lib.nDigits u : Int))) none).run Tryz.prog W = .ok (.slice (some ⟨w.heap.size, 0, none⟩) (Lib.nDigits u) 24) W := fun W => by
   rw [run_sliceAt_array_h W 200 ⟨w.heap.size, 0, none⟩ (by simp [Program.arrayLen, Program.elem, Tryz.underlying200]) .i64 (Lib.nDigits u : Int) (by omega) (by rw [hal]; omega)]
   go_simp
  have hH0 := Lib.holds_zero0 w 200 (Lib.nDigits u) (by omega)
  have hfmt := Tryz.internal_strconv_formatBase10 w.heap.size 0 24 u (Array.replicate (Lib.nDigits u) 0) (w.alloc (.cells Lib.zeros24 200)) hH0 (by rw [Array.size_replicate]; exact Lib.lt_pow_nDigits u) hu64 (by rw [Array.size_replicate]; omega)
  rw [Array.size_replicate] at hfmt
  have HH0 := Lib.hid hH0
  have HF := Lib.hid hfmt
  clear hH0 hal hfmt
  go_enter Tryz.func147, Tryz.ntmps147
  go_wp2_with (go_at_call 161; refine (Tryz.internal_strconv_numDigits u hu1 hu64 _ (Lib.tabIs_alloc htab _)).mono ?_; rintro e w' ⟨rfl, rfl⟩)
  refine (HF.out).mono ?_
  rintro e w' ⟨rfl, k, v', dk, rfl, hF⟩
  have hcv : (convert 161 9 (.slice (some ⟨w.heap.size, 0, none⟩) (Lib.nDigits u) 24)).run Tryz.prog ((putRow (fun (b : UInt8) => Value.int .u8 (b.toNat : Int)) (w.alloc (.cells Lib.zeros24 200)) w.heap.size 0 dk).drewN k) = .ok (.string ⟨(Lib.decDigits u).toArray⟩) ((putRow (fun (b : UInt8) => Value.int .u8 (b.toNat : Int)) (w.alloc (.cells Lib.zeros24 200)) w.heap.size 0 dk).drewN k) := by
   have h := run_convert_bytes_back (P := Tryz.prog) ((putRow (fun (b : UInt8) => Value.int .u8 (b.toNat : Int)) (w.alloc (.cells Lib.zeros24 200)) w.heap.size 0 dk).drewN k) 161 9 5 ⟨w.heap.size, 0, none⟩ 24 (Lib.decDigits u) Tryz.underlying161 Tryz.underlying5 Tryz.underlying9 (fun j hj => by
    rw [Lib.row_is_numeral hF j hj, Lib.add_plain, World.cell?_drewN]
    exact cell?_putRow (fun (b : UInt8) => Value.int .u8 (b.toNat : Int)) _ w.heap.size 0 _ dk HH0.out (by rw [hF.size, Array.size_replicate]) j (by rw [hF.size]; rw [Lib.decDigits_length] at hj; exact hj))
   rw [Lib.decDigits_length] at h
   exact h
  go_wp2
  go_ret
  refine ⟨rfl, ?_⟩
  obtain ⟨os', _, e⟩ := putRow_grow_new (fun (b : UInt8) => Value.int .u8 (b.toNat : Int)) w #[.cells Lib.zeros24 200] w.heap.size 0 dk (Nat.le_refl _)
  rw [← alloc_eq_grow] at e
  rw [e]
  exact Below.drewN' (below_grow w os') k
set_option maxHeartbeats 400000 in
theorem fmt_any (u : Nat) (hu64 : u < 18446744073709551616) (w : World) (htab : Tab w) :
    Calls Tryz.prog 128 #[.int .u64 u, .int .i64 10] w fun e w' => e = .returned (.string ⟨(Lib.decDigits u).toArray⟩) ∧ Below w.heap.size w w' := by
  go_enter Tryz.func128, Tryz.ntmps128
  go_wp2_with (go_at_call 147; refine (fmt_inner u hu64 _ htab).mono ?_; rintro e w' ⟨rfl, hb⟩)
  go_ret
  exact ⟨rfl, by assumption⟩
end Go.Proofs.YtjamfkafgfpobaaGreatDoor
namespace Go.Proofs.YtjamfkafgfpobaaGreatDoor
open Go.RowKit Nb
/-- Block g begins with these numbers. -/
def RowV (k : IntKind) (w : World) (g : Nat) (e : TypeId) (xs : List Nat) (rest : List Value) : Prop := w.heap[g]? = some (.cells (xs.map (fun n : Nat => Value.int k n) ++ rest).toArray e (0, 0))
section
variable {k : IntKind} {w w' : World} {g : Nat} {e : TypeId} {xs ys : List Nat} {rest : List Value}
theorem RowV.lt (h : RowV k w g e xs rest) : g < w.heap.size := by
  rcases Nat.lt_or_ge g w.heap.size with hlt | hge
  · exact hlt
  · unfold RowV at h; rw [Array.getElem?_eq_none hge] at h; cases h
theorem RowV.cell (h : RowV k w g e xs rest) {i : Nat} (hi : i < xs.length) : w.cell? ⟨g, i, none⟩ = some (.int k (xs[i] : Nat)) := by
  unfold RowV at h
  rw [cell_of_row w g i _ _ _ h]
  simp [List.getElem?_append, hi]
theorem RowV.frozen (h : RowV k w g e xs rest) (i : Nat) : w.frozen? ⟨g, i, none⟩ = false := by
  unfold RowV at h
  simp [World.frozen?, h]
theorem RowV.set_ (h : RowV k w g e xs rest) {i n : Nat} (hi : i < xs.length) : RowV k (w.setCell ⟨g, i, none⟩ (.int k n)) g e (xs.set i n) rest := by
  unfold RowV at h ⊢
  simp only [World.setCell, Array.getElem?_modify, h, if_true, Option.map_some]
  congr 2
  simp [List.map_set, hi]
theorem RowV.drew1 (h : RowV k w g e xs rest) : RowV k w.drew g e xs rest := h
theorem RowV.alloc (h : RowV k w g e xs rest) (o : Obj) : RowV k (w.alloc o) g e xs rest := (Below.heap_alloc w o g h.lt).trans h
theorem RowV.below {B : Nat} (h : RowV k w g e xs rest) (hb : Below B w w') (hg : g < B) : RowV k w' g e xs rest := (hb.block g hg).trans h
theorem RowV.grown {row : Option Nat} (h : RowV k w g e xs rest) (hg : w.grownBy w' row) (hne : some g ≠ row) : RowV k w' g e xs rest := (hg.block g h.lt hne).trans h
theorem RowV.shrink (h : RowV k w g e (xs ++ ys) rest) : RowV k w g e xs (ys.map (fun n : Nat => Value.int k n) ++ rest) := by
  unfold RowV at h ⊢
  rw [h]
  simp [List.append_assoc]
theorem RowV.sl {B : Nat} (h : RowV k w g e xs rest) (hB : g < B) : Sl k w B (some ⟨g, 0, none⟩) xs := fun _ =>
  ⟨_, rfl, hB, fun j hj => by rw [add_zero_none]; exact h.cell hj⟩
theorem RowV.of_own {base c : Nat} (h : w.ownsRow base e 1 (.slice (some ⟨g, 0, none⟩) xs.length c) xs.length (xs.map fun n : Nat => Value.int k n)) : ∃ rest, RowV k w g e xs rest ∧ base ≤ g := by
  obtain ⟨hl, ⟨h0, _⟩ | ⟨g', cap, cur, hv, hbg, hg, _, _, hcs, ht⟩⟩ := h
  · cases h0
  · injection hv with hA _ hc
    injection hA with hA
    injection hA with hA
    subst hA; subst hc
    refine ⟨cur.toList.drop (xs.length * 1), ?_, hbg⟩
    unfold RowV
    rw [hg, ← ht, List.take_append_drop]
theorem own_upd {base n : Nat} {v : Value} {vs : List Value} (h : w.ownsRow base e 1 v n vs) (hu : Upd g w w') (hg : g < base) : w'.ownsRow base e 1 v n vs := by
  obtain ⟨hl, h0 | ⟨g', cap, cur, hv, hbg, hh, r⟩⟩ := h
  · exact ⟨hl, .inl h0⟩
  · exact ⟨hl, .inr ⟨g', cap, cur, hv, hbg, (hu.block g' (by omega)).trans hh, r⟩⟩
end
set_option maxHeartbeats 800000 in
theorem byWordV_any (g : Nat) (zs xs : List Nat) (rest : List Value) (A : Option Addr) (c d y : Nat) (w : World) (hz : RowV .u64 w g 149 zs rest) (hx : A = some ⟨g, 0, none⟩ ∧ zs = xs ∨ Sl .u64 w g A xs) (hl : zs.length = xs.length)
    (dx : Dig W64 xs) (hy : 0 < y) (hy2 : y < W64) (hb : xs.length * 8 ≤ 140737488351232) :
    Calls Tryz.prog 124 #[.slice (some ⟨g, 0, none⟩) xs.length c, .slice A xs.length d, .int .u64 y] w fun e w' => ∃ qs : List Nat, e = .returned (.int .u64 (val W64 xs % y : Nat)) ∧ qs.length = xs.length ∧ Dig W64 qs ∧
      val W64 qs = val W64 xs / y ∧ RowV .u64 w' g 149 qs rest ∧ Upd g w w' := by
 have HL := Lib.hid hl
 clear hl
 go_enter Tryz.func124, Tryz.ntmps124
 go_wp2
 go_loopw [6, 7] (fun rv iv wr => ∃ (k r : Nat) (q : Int) (qs : List Nat), k ≤ xs.length ∧ iv = .int .i64 q ∧ q + 1 = k ∧ rv = .int .u64 r ∧ r < y ∧ qs.length = xs.length - k ∧ Dig W64 qs ∧ val W64 qs * y + r = val W64 (xs.drop k) ∧
   RowV .u64 wr g 149 (zs.take k ++ qs) rest ∧ Upd g w wr) (fun _ iv _ => (intOf iv + 1).toNat)
 case atStart => exact ⟨xs.length, 0, xs.length - 1, [], Nat.le_refl _, rfl, by omega, rfl, hy, by simp, Dig.nil _, by simp [val], by rw [← HL.out, List.take_length, List.append_nil]; exact hz, Upd.refl _ _⟩
 case round =>
  obtain ⟨k, r, q, qs, hk, rfl, hq, rfl, hr, hql, hqd, he, hrow, hu⟩ := hrel
  have HQ := Lib.hid hql; clear hql
  have HE := Lib.hid he; clear he
  rcases k with _ | j
  ·obtain rfl : q = -1 := by omega
   clear hq
   go_wp2
   go_ret
   have h1 := HE.out
   rw [List.drop_zero, Nat.mul_comm] at h1
   rw [List.take_zero, List.nil_append] at hrow
   have h2 : val W64 xs / y = val W64 qs := by rw [← h1, Nat.mul_add_div hy, Nat.div_eq_of_lt hr]; rfl
   have h3 : val W64 xs % y = r := by rw [← h1, Nat.mul_add_mod, Nat.mod_eq_of_lt hr]
   exact ⟨qs, by rw [h3]; rfl, by have := HQ.out; omega, hqd, h2.symm, hrow, hu⟩
  ·obtain rfl : q = j := by omega
   clear hq
   have hjz : j < zs.length := by have := HL.out; omega
   have hjx : j < xs.length := by omega
   have hlen : j < (zs.take (j + 1) ++ qs).length := by simp; omega
   have gf := hrow.frozen j
   have gc := hrow.cell hlen
   rw [down_get zs qs hjz hlen] at gc
   obtain ⟨ad, hA, h1⟩ : ∃ ad, A = some ad ∧ wr.cell? (ad.add j) = some (.int .u64 (xs[j] : Nat)) := by
    rcases hx with ⟨rfl, rfl⟩ | hs
    ·exact ⟨_, rfl, by rw [add_zero_none]; exact gc⟩
    ·obtain ⟨ad, e, _, h⟩ := (hs.upd hu (Nat.le_refl _)).at_ hjx
     exact ⟨ad, e, h⟩
   subst hA
   have hxx := dx.get hjx
   have hstep := fun q' r' => step_quo (q := q') (r' := r') (x := xs[j]) HE.out
   rw [← val_drop_pred W64 hjx] at hstep
   have hset := fun v => down_put zs qs v hjz
   have hrs := fun v => hrow.set_ (n := v) hlen
   generalize zs[j] = z at *
   generalize xs[j] = x at *
   have hdiv := fun w => div64_any r x y w hxx hr hy2
   have hqr : (r * W64 + x) / y * y + (r * W64 + x) % y = r * W64 + x := by rw [Nat.mul_comm]; exact Nat.div_add_mod _ _
   have hq1 : (r * W64 + x) / y < W64 := quo_lt hr hxx
   have hq2 : (r * W64 + x) % y < y := Nat.mod_lt _ hy
   obtain ⟨Q, hQ⟩ : ∃ Q, (r * W64 + x) / y = Q := ⟨_, rfl⟩
   obtain ⟨R, hR⟩ : ∃ R, (r * W64 + x) % y = R := ⟨_, rfl⟩
   rw [hQ] at hqr hq1
   rw [hR] at hqr hq2
   simp only [hQ, hR] at hdiv
   have hst' := hstep Q R hqr
   have hrs' := hrs Q
   rw [hset Q] at hrs'
   have HS := Lib.hid hst'
   have HR := Lib.hid hrs'
   have HD := Lib.hid hdiv
   clear hstep hset hrs hst' hrs' hdiv hqr hQ hR hlen hrow hx hxx
   have hji : (j : Int) < (xs.length : Int) := by omega
   go_wp2_with fail
   refine (HD.out _).mono ?_
   rintro e w2 ⟨rfl, nq, rfl⟩
   go_wp2_with fail
   go_roundw
   case rel => exact ⟨j, R, _, Q :: qs, by omega, rfl, by omega, rfl, hq2, by have := HQ.out; simp; omega, dig_cons hq1 hqd, HS.out, by first | exact HR.out | exact (HR.out).drew nq, by first | exact (hu.drewN nq).setCell _ _ | exact (hu.setCell _ _).drewN nq⟩
   case measure => simp [intOf]
/-- Turned round, the first k and the last k places. -/
structure Turned (xs ms : List Nat) (k : Nat) : Prop where
  len : ms.length = xs.length
  low : ∀ i (h : i < xs.length) (h' : i < ms.length), i < k → ms[i] = xs[xs.length - 1 - i]
  high : ∀ i (h : i < xs.length) (h' : i < ms.length), xs.length - k ≤ i → ms[i] = xs[xs.length - 1 - i]
  mid : ∀ i (h : i < xs.length) (h' : i < ms.length), k ≤ i → i < xs.length - k → ms[i] = xs[i]
theorem Turned.start (xs : List Nat) : Turned xs xs 0 := ⟨rfl, fun _ _ _ h => by omega, fun _ _ _ h => by omega, fun _ _ _ _ _ => rfl⟩
theorem Turned.step {xs ms : List Nat} {k : Nat} (t : Turned xs ms k) (h : 2 * k + 1 < xs.length) (h1 : k < ms.length) (h2 : xs.length - 1 - k < ms.length) : Turned xs ((ms.set k ms[xs.length - 1 - k]).set (xs.length - 1 - k) ms[k]) (k + 1) := by
  have hl := t.len
  refine ⟨by simp [hl], fun i hi h' hk => ?_, fun i hi h' hk => ?_, fun i hi h' hk hk2 => ?_⟩
  · rw [List.getElem_set_ne (by omega)]
    by_cases e : k = i
    · subst e; rw [List.getElem_set_self]; exact t.mid _ (by omega) h2 (by omega) (by omega)
    · rw [List.getElem_set_ne e]; exact t.low i hi (by omega) (by omega)
  · by_cases e : xs.length - 1 - k = i
    · subst e; rw [List.getElem_set_self, t.mid k (by omega) h1 (by omega) (by omega)]; congr 1; omega
    · rw [List.getElem_set_ne e, List.getElem_set_ne (by omega)]; exact t.high i hi (by omega) (by omega)
  · rw [List.getElem_set_ne (by omega), List.getElem_set_ne (by omega)]; exact t.mid i hi (by omega) (by omega) (by omega)
theorem Turned.step' {xs ms : List Nat} {k j : Nat} (t : Turned xs ms k) (h : 2 * k + 1 < xs.length) (hj : xs.length - 1 - k = j) (h1 : k < ms.length) (h2 : j < ms.length) : Turned xs ((ms.set k ms[j]).set j ms[k]) (k + 1) := by
  subst hj
  exact t.step h h1 h2
theorem Turned.done {xs ms : List Nat} {k : Nat} (t : Turned xs ms k) (h : xs.length ≤ 2 * k + 1) : ms = xs.reverse := by
  apply List.ext_getElem
  · simp [t.len]
  · intro i h1 h2
    have hl := t.len
    rw [List.getElem_reverse]
    by_cases a : i < k
    · exact t.low i (by omega) h1 a
    · by_cases b : xs.length - k ≤ i
      · exact t.high i (by omega) h1 b
      · rw [t.mid i (by omega) h1 (by omega) (by omega)]; congr 1; omega
set_option maxHeartbeats 1000000 in
theorem reverse_any (g : Nat) (xs : List Nat) (rest : List Value) (c : Nat) (w : World) (hz : RowV .u64 w g 149 xs rest) (hb : xs.length * 8 ≤ 140737488351232) (hpos : 0 < xs.length) :
    Calls Tryz.prog 126 #[.slice (some ⟨g, 0, none⟩) xs.length c] w fun e w' => e = .returned (.tuple #[]) ∧ RowV .u64 w' g 149 xs.reverse rest ∧ Upd g w w' := by
  go_enter Tryz.func126, Tryz.ntmps126
  go_wp2
  go_loopw [2, 3] (fun iv jv wr => ∃ (k : Nat) (q : Int) (ms : List Nat), 2 * k ≤ xs.length ∧ iv = .int .i64 k ∧ jv = .int .i64 q ∧ q = (xs.length : Int) - 1 - k ∧ Turned xs ms k ∧ RowV .u64 wr g 149 ms rest ∧ Upd g w wr) (fun iv _ _ => xs.length - (intOf iv).toNat)
  case atStart => exact ⟨0, _, xs, by omega, rfl, rfl, by omega, Turned.start xs, hz, Upd.refl _ _⟩
  case round =>
    obtain ⟨k, q, ms, hk, rfl, rfl, hq, ht, hrow, hu⟩ := hrel
    by_cases hlt : 2 * k + 1 < xs.length
    · have hml := ht.len
      have h1 : k < ms.length := by omega
      obtain ⟨j, hj⟩ : ∃ j, xs.length - 1 - k = j := ⟨_, rfl⟩
      have h2 : j < ms.length := by omega
      have hst := ht.step' hlt hj h1 h2
      obtain rfl : q = (j : Nat) := by omega
      have gc := hrow.cell h1
      have gd := hrow.cell h2
      have gf := hrow.frozen k
      have ge := hrow.frozen j
      have hr1 := (hrow.drew1.set_ (n := ms[j]) h1).set_ (i := j) (n := ms[k]) (by simpa using h2)
      have hjk : (k : Int) < (j : Int) := by omega
      have hjn : (j : Int) < (xs.length : Int) := by omega
      have hkn : (k : Int) < (xs.length : Int) := by omega
      have hjn' : j < xs.length := by omega
      have hkn' : k < xs.length := by omega
      have hjk' : k < j := by omega
      have HST := Lib.hid hst
      have HR := Lib.hid hr1
      have HJ := Lib.hid hj
      generalize ms[k] = a at *
      generalize ms[j] = b at *
      clear hst hr1 hj hq hml ht hrow h1 h2 hlt hk
      go_wp2
      go_region
      go_wp2
      go_roundw
      case rel => exact ⟨k + 1, _, _, by have := HJ.out; omega, by go_num, rfl, by have := HJ.out; omega, HST.out, by first | exact HR.out | exact (HR.out).drew1, by first | exact (hu.drew.setCell _ _).setCell _ _ | exact ((hu.setCell _ _).setCell _ _).drew⟩
      case measure => simp [intOf]; omega
    · have HT := Lib.hid (ht.done (by omega))
      have hqk : ¬ ((k : Int) < q) := by omega
      go_wp2
      go_end0
      exact ⟨rfl, by rw [← HT.out]; exact hrow, hu⟩
end Go.Proofs.YtjamfkafgfpobaaGreatDoor
namespace Go.Proofs.YtjamfkafgfpobaaGreatDoor
open Go.RowKit Nb
/-- A builder of the call's own that holds these bytes. -/
abbrev Bld (B b : Nat) (l : List UInt8) (w : World) : Prop := Lib.IsBuilderF 163 5 B b (Lib.byteCells l) w
theorem heap_lt {w : World} {g : Nat} {o : Obj} (h : w.heap[g]? = some o) : g < w.heap.size := by
  rcases Nat.lt_or_ge g w.heap.size with hlt | hge
  · exact hlt
  · rw [Array.getElem?_eq_none hge] at h; cases h
theorem bldAt_keep {B b : Nat} {p : Value} {bs : List Value} {w w' : World} (h : Lib.BuilderAtF 163 5 B b p bs w) (hk : ∀ (k : Nat) (o : Obj), w.heap[k]? = some o → (∃ c t f, o = Obj.cells c t f ∧ (t : TypeId) ≠ 149) → w'.heap[k]? = some o) : Lib.BuilderAtF 163 5 B b p bs w' := by
  obtain ⟨hB, v, hbk, ⟨hl, hown⟩, hne⟩ := h
  refine ⟨hB, v, hk _ _ hbk ⟨_, _, _, rfl, (by decide : (163 : TypeId) ≠ 149)⟩, ⟨hl, ?_⟩, hne⟩
  rcases hown with h0 | ⟨g, cap, cur, fz, hv, hBg, hg, r⟩
  · exact .inl h0
  · exact .inr ⟨g, cap, cur, fz, hv, hBg, hk _ _ hg ⟨_, _, _, rfl, (by decide : (5 : TypeId) ≠ 149)⟩, r⟩
theorem bld_keep {B b : Nat} {bs : List Value} {w w' : World} (h : Lib.IsBuilderF 163 5 B b bs w) (hk : ∀ (k : Nat) (o : Obj), w.heap[k]? = some o → (∃ c t f, o = Obj.cells c t f ∧ (t : TypeId) ≠ 149) → w'.heap[k]? = some o) : Lib.IsBuilderF 163 5 B b bs w' :=
  h.elim (fun x => .inl (bldAt_keep x hk)) (fun x => .inr (bldAt_keep x hk))
theorem bld_below {B b : Nat} {bs : List Value} {w w' : World} (h : Lib.IsBuilderF 163 5 B b bs w) (hb : Below w.heap.size w w') : Lib.IsBuilderF 163 5 B b bs w' :=
  bld_keep h fun k _ ho _ => (hb.block k (heap_lt ho)).trans ho
theorem bld_upd {B b g : Nat} {bs : List Value} {xs : List Nat} {rest : List Value} {w w' : World} (h : Lib.IsBuilderF 163 5 B b bs w) (hr : RowV .u64 w g 149 xs rest) (hu : Upd g w w') : Lib.IsBuilderF 163 5 B b bs w' :=
  bld_keep h fun k o ho ⟨c, t, f, e, ht⟩ => by
    by_cases hkg : k = g
    · subst hkg
      unfold RowV at hr
      rw [hr] at ho
      injection ho with ho
      rw [e] at ho
      injection ho with _ h2
      exact absurd h2.symm ht
    · exact (hu.block k hkg).trans ho
theorem row_others {g b : Nat} {xs : List Nat} {rest : List Value} {w w' : World} (hr : RowV .u64 w g 149 xs rest) (hk : Lib.OthersKept 5 (some b) w w') (hne : g ≠ b) : RowV .u64 w' g 149 xs rest :=
  hk g _ hr (fun e => hne (Option.some.inj e)) (fun c fz e => by injection e with _ h; exact absurd h (by decide))
theorem tab_index : Tryz.prog.globalNamed "internal/strconv.uint64pow10" = some 2 := by kernel_rfl
theorem tab_lt {w : World} (h : Tab w) : 2 < w.heap.size := by
  have hc := World.var?_cell tab_index h 0
  unfold World.cell? at hc
  split at hc
  · rename_i hh
    exact heap_lt hh
  · simp [Lib.pow10Tab] at hc
theorem tab_below {w w' : World} (h : Tab w) (hb : Below w.heap.size w w') : Tab w' := var?_below hb tab_index (tab_lt h) h
theorem strCells_of (l : List UInt8) : Lib.strCells ⟨l.toArray⟩ = Lib.byteCells l := by simp [Lib.strCells, Lib.byteCells]
theorem byteCells_append (l m : List UInt8) : Lib.byteCells (l ++ m) = Lib.byteCells l ++ Lib.byteCells m := by simp [Lib.byteCells]
theorem size_of (l : List UInt8) : (⟨l.toArray⟩ : ByteArray).size = l.length := by simp [ByteArray.size]
/-- Bytes are written. -/
theorem write_any (B b : Nat) (l m : List UInt8) (w : World) (h : Bld B b l w) (hlen : l.length + m.length ≤ 140737488355328) (hBw : B ≤ w.heap.size) :
    Calls Tryz.prog 127 #[.pointer (some ⟨b, 0, none⟩), .string ⟨m.toArray⟩] w fun e w' => e = .returned (.tuple #[.int .i64 m.length, .nilIface]) ∧ Bld B b (l ++ m) w' ∧ Below B w w' ∧ Lib.OthersKept 5 (some b) w w' := by
  refine (writeString_any B b (Lib.byteCells l) ⟨m.toArray⟩ w h (by rw [size_of, Lib.byteCells_length]; exact hlen) hBw).mono ?_
  rintro e w' ⟨rfl, h1, h2, h3⟩
  rw [strCells_of, ← byteCells_append] at h1
  rw [size_of]
  exact ⟨rfl, .inr h1, h2, h3⟩
/-- The number that the highest groups tell. -/
theorem val_high {T : Nat} {gs : List Nat} {j : Nat} (hj : j < gs.length) : val T (gs.drop j) = gs[j] + T * val T (gs.drop (j + 1)) := by
  rw [List.drop_eq_getElem_cons hj, val_cons]
end Go.Proofs.YtjamfkafgfpobaaGreatDoor
