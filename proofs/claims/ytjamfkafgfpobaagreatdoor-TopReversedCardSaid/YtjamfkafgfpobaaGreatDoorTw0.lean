/-
  A number copied. Conditions: as each theorem states.
-/
import Derived.Test.YtjamfkafgfpobaaGreatDoorTp0
import Derived.Test.YtjamfkafgfpobaaGreatDoorSame
import Derived.Test.YtjamfkafgfpobaaGreatDoorLen
import Derived.Deep.RegionLaw
import Derived.Deep.RegionHeld3
import Derived.Deep.DeepCutAuto
import Derived.BigRegion
import Derived.Deep.Upon
namespace Go.Proofs.YtjamfkafgfpobaaGreatDoor
open Go.RowKit Nb
theorem info_u32' : ∃ i, Tryz.prog.info? 130 = some i ∧ i.zero = some (.int .u32 0) ∧ i.size = 1 ∧ i.bytes = 4 := info_parts info_u32
end Go.Proofs.YtjamfkafgfpobaaGreatDoor
namespace Go.Proofs.YtjamfkafgfpobaaGreatDoor
open Go.RowKit Nb
theorem map_one (ls : List Nat) : ∀ u ∈ ls.map (fun n : Nat => Value.int .u32 n), u.oneCell' = true := by
  intro u hu
  simp only [List.mem_map] at hu
  obtain ⟨n, _, rfl⟩ := hu
  rfl
end Go.Proofs.YtjamfkafgfpobaaGreatDoor
namespace Go.Proofs.YtjamfkafgfpobaaGreatDoor
open Go.RowKit Nb
theorem sl_cells {k : IntKind} {w : World} {B : Nat} {A : Option Addr} {ls : List Nat} (h : Sl k w B A ls) : ∀ ad, A = some ad → ∀ j u, (ls.map fun n : Nat => Value.int k n)[j]? = some u → w.cell? (ad.add j) = some u := by
  intro ad e j u hu
  rw [List.getElem?_map] at hu
  rcases Nat.lt_or_ge j ls.length with hj | hj
  · rw [List.getElem?_eq_getElem hj] at hu
    obtain ⟨ad', e', _, hc⟩ := h.at_ hj
    rw [e] at e'
    injection e' with e'
    subst e'
    rw [hc]; exact hu
  · rw [List.getElem?_eq_none hj] at hu; cases hu
end Go.Proofs.YtjamfkafgfpobaaGreatDoor
namespace Go.Proofs.YtjamfkafgfpobaaGreatDoor
open Go.RowKit Nb
theorem row_end {k : IntKind} {w : World} {g n v : Nat} {e : TypeId} {cur : Array Value} {ls : List Nat} (hn : ls.length = n) (h : w.heap[g]? = some (.cells cur e (0, 0))) (hc : cur.size = (n + 1) * 1) (ht : cur.toList.take (n * 1) = ls.map fun n : Nat => Value.int k n) :
    Row k (w.setCell ⟨g, n, none⟩ (.int k v)) g e (ls ++ [v]) := by
  unfold Row
  have e1 : (w.setCell ⟨g, n, none⟩ (.int k v)).heap[g]? = some (.cells (cur.setIfInBounds n (.int k v)) e (0, 0)) := by
    simp [World.setCell, Array.getElem?_modify, h]
  rw [e1]
  congr 2
  apply Array.toList_inj.1
  rw [Array.toList_setIfInBounds]
  have hl : cur.toList.length = n + 1 := by simp; omega
  have e2 : cur.toList = cur.toList.take n ++ [cur.toList[n]'(by omega)] := by
    rw [← List.take_succ_eq_append_getElem (by omega), ← hl, List.take_length]
  rw [Nat.mul_one] at ht
  rw [e2, ht]
  subst hn
  simp [List.map_append]
end Go.Proofs.YtjamfkafgfpobaaGreatDoor
namespace Go.Proofs.YtjamfkafgfpobaaGreatDoor
open Go.RowKit Nb
theorem appU_zero (ty : TypeId) (b : Option Addr) (k : Nat) {ls : List Nat} (h : ls = []) (c : Nat) (W : World) :
  (Builtin.append_ #[23, 23] ty #[.slice b 0 k, .slice none ls.length c]).run Tryz.prog W = .ok (.slice b ls.length k) W := by
 subst h
 obtain ⟨i, hi, _, hz, _⟩ := info_u32'
 exact Go.run_append_nothing W 23 23 ty 130 i Tryz.underlying23 hi b 0 k (Nat.zero_le _) _ (by
  rw [hz]
  exact Go.Src.ofNil W Tryz.underlying23 c)
theorem wpList_appU {ops : Array Oper} {rest : List Oper} {op : Oper} {ac : Act} {Q : Exit → Act → World → Prop} {s x : Operand} {vs vx v' : Value} {W W' : World} (hgd : op.guard = none) (ho : op.op = .call { callee := .builtin .append, args := #[s, x], argTypes := #[23, 23] }) (hs : ac.eval s = vs) (hx : ac.eval x = vx)
  (hr : (Builtin.append_ #[23, 23] op.type #[vs, vx]).run Tryz.prog W = .ok v' W') (h : wpList Tryz.prog ops Q rest (ac.put op.dst v') W') : wpList Tryz.prog ops Q (op :: rest) ac W :=
 wpList_plain hgd fun _ hK => by
  unfold Oper.wp execOp
  simp only [ho, resolve, invoke, builtin, Sem.run_bind, Sem.run_pure, Result.andThen_ok, List.map_toArray, List.map_cons, List.map_nil, hs, hx, hr]
  exact hK _ _ h
set_option maxHeartbeats 8000000 in
theorem twin_any (neg : Bool) (A : Option Addr) (ls : List Nat) (c : Nat) (w : World) (hr : Sl .u32 w w.heap.size A ls) (hA : A = none → ls = [] ∧ c = 0) (hl : ls.length * 4 ≤ 140737488351232) :
    Calls Tryz.prog 110 #[big neg A ls.length c] w fun e w' => ∃ g, e = .returned (big neg (some ⟨g, 0, none⟩) ls.length (ls.length + 1)) ∧
      Row .u32 w' g 130 (ls ++ [7777]) ∧ w.heap.size ≤ g ∧ Below w.heap.size w w' := by
  obtain ⟨i0, hi, hz0, hz1, hz2⟩ := info_u32'
  have HA := Lib.hid hA; clear hA
  go_enter Tryz.func110, Tryz.ntmps110
  go_wp2_with (first
    | (at_make
       refine wpList_make_own _ rfl _ _ 23 rfl (w.heap.size + 1 + 1) 130 i0 (.int .u32 0) 1 Tryz.underlying23 hi hz0 hz1 _ _ _ (ls.length + 1) rfl rfl (by simp) (by rw [hz2]; omega) (by unfold maxLen; omega) (by simp) ?_
       intro w1 hown hgr
       have hbel : Below (w.heap.size + 1 + 1) _ w1 := (Below.refl _ _).grown hgr (by simp) (by simp)
       have c0 : w1.cell? ⟨w.heap.size, 0, none⟩ = some (.bool neg) := by rw [hbel.cell (by go_size)]; go_cell
       have c1 : w1.cell? ⟨w.heap.size, 1, none⟩ = some (.slice A ls.length c) := by rw [hbel.cell (by go_size)]; go_cell
       have d0 : w1.cell? ⟨w.heap.size + 1, 0, none⟩ = some (.bool false) := by rw [hbel.cell (by go_size)]; go_cell
       have d1 : w1.cell? ⟨w.heap.size + 1, 1, none⟩ = some (.slice none 0 0) := by rw [hbel.cell (by go_size)]; go_cell
       have f0 : w1.frozen? ⟨w.heap.size + 1, 0, none⟩ = false := by rw [hbel.frozen (by go_size)]; simp
       have f1 : w1.frozen? ⟨w.heap.size + 1, 1, none⟩ = false := by rw [hbel.frozen (by go_size)]; simp
       have hbw : Below w.heap.size w w1 := by refine Below.trans ?_ (hbel.mono (by go_size)); go_grown
       have hs1 := hr.below hbw
       simp only [World.size_alloc] at hown
       have hsz1 : w.heap.size + 1 + 1 ≤ w1.heap.size := by have := hbel.size; simpa using this
       clear hgr hbel)
    | (at_builtin
       refine wpList_append_fits_any _ rfl (.tmp 9) (.tmp 11) _ rfl (w.heap.size + 1 + 1) 130 i0 1 Tryz.underlying23 hi hz1 (w.heap.size + 1 + 1) 0 (ls.length + 1) [] rfl hown A ls.length c (ls.map fun n : Nat => Value.int .u32 n) rfl (by simp) (fun h => by obtain ⟨h1, h2⟩ := HA.out h; exact ⟨by rw [h1]; rfl, h2⟩) (sl_cells hs1) (map_one ls) (by omega) ?_
       intro w2 hown2 hgr2
       simp only [Nat.zero_add, List.nil_append] at hown2))
  obtain ⟨g', cap', cur, hv, _, hg, _, _, hcs, htk⟩ : ∃ g cap cur, (Value.slice (some ⟨w.heap.size + 1 + 1, 0, none⟩) ls.length (ls.length + 1)) = .slice (some ⟨g, 0, none⟩) ls.length cap ∧ w.heap.size + 1 + 1 ≤ g ∧ w2.heap[g]? = some (.cells cur 130 (0, 0)) ∧ ls.length ≤ cap ∧ cap ≤ maxLen ∧ cur.size = cap * 1 ∧ cur.toList.take (ls.length * 1) = ls.map fun n : Nat => Value.int .u32 n := by
    rcases hown2.2 with ⟨h, _⟩ | h
    · cases h
    · exact h
  injection hv with hv1 _ hv2
  injection hv1 with hv1
  injection hv1 with hv1
  subst hv1; subst hv2
  have hlt : w.heap.size + 1 + 1 < w2.heap.size := by
    rcases Nat.lt_or_ge (w.heap.size + 1 + 1) w2.heap.size with h | h
    · exact h
    · rw [Array.getElem?_eq_none h] at hg; cases hg
  have hb2 : Below (w.heap.size + 1 + 1) w1 w2 := (Below.refl _ _).grown hgr2 hsz1 (by intro k hk; injection hk with hk; omega)
  have n0 : Hid (∀ j u, ([Value.int .u32 7777] : List Value)[j]? = some u → (w2.drew.alloc (.cells #[.int .u32 7777] 130)).cell? ((⟨w2.heap.size, 0, none⟩ : Addr).add j) = some u) := by
    intro j u hu
    rcases j with _ | j
    · rw [add_zero_none]
      have h := World.cell?_alloc_new w2.drew #[.int .u32 7777] 130 0
      exact h.trans hu
    · simp at hu
  have n1 : Hid (∀ j, j < ([Value.int .u32 7777] : List Value).length → ((w2.drew.alloc (.cells #[.int .u32 7777] 130)).cell? ⟨w.heap.size + 1 + 1, 0 + ls.length * 1 + j, none⟩).isSome = true ∧ (w2.drew.alloc (.cells #[.int .u32 7777] 130)).frozen? ⟨w.heap.size + 1 + 1, 0 + ls.length * 1 + j, none⟩ = false) := by
    intro j hj
    simp at hj
    subst hj
    rw [World.cell?_alloc_lt _ _ _ (by simpa using hlt)]
    have hw : w2.drew.heap[w.heap.size + 1 + 1]? = some (.cells cur 130 (0, 0)) := hg
    have hw2 : (w2.drew.alloc (.cells #[.int .u32 7777] 130)).heap[w.heap.size + 1 + 1]? = some (.cells cur 130 (0, 0)) := (Below.heap_alloc _ _ _ hlt).trans hw
    refine ⟨?_, ?_⟩
    · rw [cell_of_row _ _ _ _ _ _ hw, Array.getElem?_eq_getElem (by omega)]; rfl
    · simp [World.frozen?, hw2]
  have n2 : Hid (∀ u ∈ ([Value.int .u32 7777] : List Value), u.oneCell' = true) := by
    intro u hu
    simp at hu; subst hu; rfl
  have e0 := (hb2.cell (p := ⟨w.heap.size, 0, none⟩) (by go_size)).trans c0
  have e1 := (hb2.cell (p := ⟨w.heap.size, 1, none⟩) (by go_size)).trans c1
  have g0 := (hb2.cell (p := ⟨w.heap.size + 1, 0, none⟩) (by go_size)).trans d0
  have g1 := (hb2.cell (p := ⟨w.heap.size + 1, 1, none⟩) (by go_size)).trans d1
  have k0 := (hb2.frozen (p := ⟨w.heap.size + 1, 0, none⟩) (by go_size)).trans f0
  have k1 := (hb2.frozen (p := ⟨w.heap.size + 1, 1, none⟩) (by go_size)).trans f1
  have hlt1 : w.heap.size + 1 < w2.heap.size := by omega
  have hlt2 : w.heap.size < w2.heap.size := by omega
  have HG := Lib.hid hg
  have HT := Lib.hid htk
  have HC := Lib.hid hcs
  have hle : (ls.length : Int) ≤ (ls.length : Int) + 1 := by omega
  clear c0 c1 d0 d1 f0 f1 hg htk hcs hown hown2 hgr2 hr hs1
  go_region_law (refine step_append_room rfl (.tmp 15) (.tmp 16) 23 rfl 130 i0 1 Tryz.underlying23 hi hz1 (w.heap.size + 1 + 1) 0 ls.length (ls.length + 1) (by simp [Act.eval, Act.put]) ⟨w2.heap.size, 0, none⟩ 1 1 [.int .u32 7777] (by simp [Act.eval, Act.put]) rfl n0.out n2.out (by omega) n1.out ?_; simp only [World.setCells])
  all_goals
    go_wp2
    refine bodyPost_ret (v := big neg (some ⟨w.heap.size + 1 + 1, 0, none⟩) ls.length (ls.length + 1)) (by simp [results, Tryz.results110, go_sem, g0, g1, hlt1]) rfl ?_
    refine ⟨w.heap.size + 1 + 1, rfl, ?_, by omega, ?_⟩
    · have hr0 := row_end (v := 7777) rfl HG.out HC.out HT.out
      exact (((hr0.far (by simp) _).far (by simp) _).alloc _).drew1
    · exact (((((hbw.trans (hb2.mono (by omega))).setCell (by simp; omega) _).setCell (by simp) _).setCell (by simp) _).alloc (by go_size) _).drew
set_option maxHeartbeats 8000000 in
theorem twin_none (neg : Bool) (ls : List Nat) (c : Nat) (w : World) (HL : Hid (ls = [])) (hl : ls.length * 4 ≤ 140737488351232) :
    Calls Tryz.prog 110 #[big neg none ls.length c] w fun e w' => ∃ g, e = .returned (big neg (some ⟨g, 0, none⟩) ls.length (ls.length + 1)) ∧
      Row .u32 w' g 130 (ls ++ [7777]) ∧ w.heap.size ≤ g ∧ Below w.heap.size w w' := by
  obtain ⟨i0, hi, hz0, hz1, hz2⟩ := info_u32'
  go_enter Tryz.func110, Tryz.ntmps110
  go_wp2_with (first
    | (at_make
       refine wpList_make_own _ rfl _ _ 23 rfl (w.heap.size + 1 + 1) 130 i0 (.int .u32 0) 1 Tryz.underlying23 hi hz0 hz1 _ _ _ (ls.length + 1) rfl rfl (by simp) (by rw [hz2]; omega) (by unfold maxLen; omega) (by simp) ?_
       intro w1 hown hgr
       have hbel : Below (w.heap.size + 1 + 1) _ w1 := (Below.refl _ _).grown hgr (by simp) (by simp)
       have c0 : w1.cell? ⟨w.heap.size, 0, none⟩ = some (.bool neg) := by rw [hbel.cell (by go_size)]; go_cell
       have c1 : w1.cell? ⟨w.heap.size, 1, none⟩ = some (.slice none ls.length c) := by rw [hbel.cell (by go_size)]; go_cell
       have d0 : w1.cell? ⟨w.heap.size + 1, 0, none⟩ = some (.bool false) := by rw [hbel.cell (by go_size)]; go_cell
       have d1 : w1.cell? ⟨w.heap.size + 1, 1, none⟩ = some (.slice none 0 0) := by rw [hbel.cell (by go_size)]; go_cell
       have f0 : w1.frozen? ⟨w.heap.size + 1, 0, none⟩ = false := by rw [hbel.frozen (by go_size)]; simp
       have f1 : w1.frozen? ⟨w.heap.size + 1, 1, none⟩ = false := by rw [hbel.frozen (by go_size)]; simp
       have hbw : Below w.heap.size w w1 := by refine Below.trans ?_ (hbel.mono (by go_size)); go_grown
       simp only [World.size_alloc] at hown
       have hsz1 : w.heap.size + 1 + 1 ≤ w1.heap.size := by have := hbel.size; simpa using this
       clear hgr hbel)
    | (at_builtin
       refine wpList_appU rfl rfl rfl rfl (appU_zero _ _ _ HL.out _ _) ?_
       have hown2 : w1.ownsRow (w.heap.size + 1 + 1) 130 1 (.slice (some ⟨w.heap.size + 1 + 1, 0, none⟩) ls.length (ls.length + 1)) ls.length (ls.map fun n : Nat => Value.int .u32 n) := by have h := HL.out; clear HL; subst h; exact hown))
  obtain ⟨g', cap', cur, hv, _, hg, _, _, hcs, htk⟩ : ∃ g cap cur, (Value.slice (some ⟨w.heap.size + 1 + 1, 0, none⟩) ls.length (ls.length + 1)) = .slice (some ⟨g, 0, none⟩) ls.length cap ∧ w.heap.size + 1 + 1 ≤ g ∧ w1.heap[g]? = some (.cells cur 130 (0, 0)) ∧ ls.length ≤ cap ∧ cap ≤ maxLen ∧ cur.size = cap * 1 ∧ cur.toList.take (ls.length * 1) = ls.map fun n : Nat => Value.int .u32 n := by
    rcases hown2.2 with ⟨h, _⟩ | h
    · cases h
    · exact h
  injection hv with hv1 _ hv2
  injection hv1 with hv1
  injection hv1 with hv1
  subst hv1; subst hv2
  have hlt : w.heap.size + 1 + 1 < w1.heap.size := by
    rcases Nat.lt_or_ge (w.heap.size + 1 + 1) w1.heap.size with h | h
    · exact h
    · rw [Array.getElem?_eq_none h] at hg; cases hg
  have hb2 : Below (w.heap.size + 1 + 1) w1 w1 := Below.refl _ _
  have n0 : Hid (∀ j u, ([Value.int .u32 7777] : List Value)[j]? = some u → (w1.drew.alloc (.cells #[.int .u32 7777] 130)).cell? ((⟨w1.heap.size, 0, none⟩ : Addr).add j) = some u) := by
    intro j u hu
    rcases j with _ | j
    · rw [add_zero_none]
      have h := World.cell?_alloc_new w1.drew #[.int .u32 7777] 130 0
      exact h.trans hu
    · simp at hu
  have n1 : Hid (∀ j, j < ([Value.int .u32 7777] : List Value).length → ((w1.drew.alloc (.cells #[.int .u32 7777] 130)).cell? ⟨w.heap.size + 1 + 1, 0 + ls.length * 1 + j, none⟩).isSome = true ∧ (w1.drew.alloc (.cells #[.int .u32 7777] 130)).frozen? ⟨w.heap.size + 1 + 1, 0 + ls.length * 1 + j, none⟩ = false) := by
    intro j hj
    simp at hj
    subst hj
    rw [World.cell?_alloc_lt _ _ _ (by simpa using hlt)]
    have hw : w1.drew.heap[w.heap.size + 1 + 1]? = some (.cells cur 130 (0, 0)) := hg
    have hw1 : (w1.drew.alloc (.cells #[.int .u32 7777] 130)).heap[w.heap.size + 1 + 1]? = some (.cells cur 130 (0, 0)) := (Below.heap_alloc _ _ _ hlt).trans hw
    refine ⟨?_, ?_⟩
    · rw [cell_of_row _ _ _ _ _ _ hw, Array.getElem?_eq_getElem (by omega)]; rfl
    · simp [World.frozen?, hw1]
  have n2 : Hid (∀ u ∈ ([Value.int .u32 7777] : List Value), u.oneCell' = true) := by
    intro u hu
    simp at hu; subst hu; rfl
  have e0 := (hb2.cell (p := ⟨w.heap.size, 0, none⟩) (by go_size)).trans c0
  have e1 := (hb2.cell (p := ⟨w.heap.size, 1, none⟩) (by go_size)).trans c1
  have g0 := (hb2.cell (p := ⟨w.heap.size + 1, 0, none⟩) (by go_size)).trans d0
  have g1 := (hb2.cell (p := ⟨w.heap.size + 1, 1, none⟩) (by go_size)).trans d1
  have k0 := (hb2.frozen (p := ⟨w.heap.size + 1, 0, none⟩) (by go_size)).trans f0
  have k1 := (hb2.frozen (p := ⟨w.heap.size + 1, 1, none⟩) (by go_size)).trans f1
  have hlt1 : w.heap.size + 1 < w1.heap.size := by omega
  have hlt2 : w.heap.size < w1.heap.size := by omega
  have HG := Lib.hid hg
  have HT := Lib.hid htk
  have HC := Lib.hid hcs
  have hle : (ls.length : Int) ≤ (ls.length : Int) + 1 := by omega
  clear c0 c1 d0 d1 f0 f1 hg htk hcs hown hown2
  go_region_law (refine step_append_room rfl (.tmp 15) (.tmp 16) 23 rfl 130 i0 1 Tryz.underlying23 hi hz1 (w.heap.size + 1 + 1) 0 ls.length (ls.length + 1) (by simp [Act.eval, Act.put]) ⟨w1.heap.size, 0, none⟩ 1 1 [.int .u32 7777] (by simp [Act.eval, Act.put]) rfl n0.out n2.out (by omega) n1.out ?_; simp only [World.setCells])
  all_goals
    go_wp2
    refine bodyPost_ret (v := big neg (some ⟨w.heap.size + 1 + 1, 0, none⟩) ls.length (ls.length + 1)) (by simp [results, Tryz.results110, go_sem, g0, g1, hlt1]) rfl ?_
    refine ⟨w.heap.size + 1 + 1, rfl, ?_, by omega, ?_⟩
    · have hr0 := row_end (v := 7777) rfl HG.out HC.out HT.out
      exact (((hr0.far (by simp) _).far (by simp) _).alloc _).drew1
    · exact (((((hbw.trans (hb2.mono (by omega))).setCell (by simp; omega) _).setCell (by simp) _).setCell (by simp) _).alloc (by go_size) _).drew
theorem twin_sl (neg : Bool) (A : Option Addr) (ls : List Nat) (c : Nat) (w : World) (hr : Sl .u32 w w.heap.size A ls) (hl : ls.length * 4 ≤ 140737488351232) :
    Calls Tryz.prog 110 #[big neg A ls.length c] w fun e w' => ∃ g, e = .returned (big neg (some ⟨g, 0, none⟩) ls.length (ls.length + 1)) ∧
      Row .u32 w' g 130 (ls ++ [7777]) ∧ w.heap.size ≤ g ∧ Below w.heap.size w w' := by
  rcases A with _ | ad
  · have h : ls = [] := by
      by_cases hn : ls = []
      · exact hn
      · obtain ⟨ad, e, _⟩ := hr (List.length_pos_iff.2 hn)
        cases e
    exact twin_none neg ls c w (Lib.hid h) hl
  · exact twin_any neg (some ad) ls c w hr (fun h => by cases h) hl
end Go.Proofs.YtjamfkafgfpobaaGreatDoor
