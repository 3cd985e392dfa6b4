/-
  What span's least returns, of any number of spans whose ends are no NaN. Condition: floats of 64 bits.
-/
import Derived.Test.YtghcoijinihlnaaSp2
import Derived.Outline
import Derived.RegionTactic
namespace Go.Proofs.Ytghcoijinihlnaa.Fl
open Go.RowKit Ieee
/-- The ends of a list of spans, from those of a first one. -/
def lmn (l : Nat) (L : List (Nat × Nat)) : Nat := L.foldl (fun a s => fmin a s.1) l
def lmx (h : Nat) (L : List (Nat × Nat)) : Nat := L.foldl (fun a s => fmax a s.2) h
/-- Floats of 64 bits, no NaN. -/
def Flt (x : Nat) : Prop := x < 18446744073709551616 ∧ mg x ≤ 9218868437227405312
def Flts (L : List (Nat × Nat)) : Prop := ∀ s ∈ L, Flt s.1 ∧ Flt s.2
theorem lmn_snoc (l : Nat) (L : List (Nat × Nat)) (s : Nat × Nat) : lmn l (L ++ [s]) = fmin (lmn l L) s.1 := by unfold lmn; rw [List.foldl_append]; rfl
theorem lmx_snoc (l : Nat) (L : List (Nat × Nat)) (s : Nat × Nat) : lmx l (L ++ [s]) = fmax (lmx l L) s.2 := by unfold lmx; rw [List.foldl_append]; rfl
theorem lmn_flt {l : Nat} {L : List (Nat × Nat)} (hl : Flt l) (hL : Flts L) : Flt (lmn l L) := by
  induction L generalizing l with
  | nil => exact hl
  | cons s L ih => exact ih (l := fmin l s.1) (fmin_of hl (hL s (by simp)).1) (fun t ht => hL t (by simp [ht]))
theorem lmx_flt {l : Nat} {L : List (Nat × Nat)} (hl : Flt l) (hL : Flts L) : Flt (lmx l L) := by
  induction L generalizing l with
  | nil => exact hl
  | cons s L ih => exact ih (l := fmax l s.2) (fmax_of hl (hL s (by simp)).2) (fun t ht => hL t (by simp [ht]))
theorem flts_take {L : List (Nat × Nat)} (h : Flts L) (k : Nat) : Flts (L.take k) := fun s hs => h s (List.mem_of_mem_take hs)
theorem lmn_take (l : Nat) (L : List (Nat × Nat)) {k : Nat} (h : k < L.length) : lmn l (L.take (k + 1)) = fmin (lmn l (L.take k)) L[k].1 := by
  rw [List.take_succ_eq_append_getElem h, lmn_snoc]
theorem lmx_take (l : Nat) (L : List (Nat × Nat)) {k : Nat} (h : k < L.length) : lmx l (L.take (k + 1)) = fmax (lmx l (L.take k)) L[k].2 := by
  rw [List.take_succ_eq_append_getElem h, lmx_snoc]
/-- What least tells. -/
def leaLo (l h : Nat) (L : List (Nat × Nat)) : Nat := if Spn (lmn l L) (lmx h L) then pls (lmn l L) else 0
def leaHi (l h : Nat) (L : List (Nat × Nat)) : Nat := if Spn (lmn l L) (lmx h L) then pls (lmx h L) else 0
def leaE (l h : Nat) (L : List (Nat × Nat)) : Int := if Spn (lmn l L) (lmx h L) then 0 else 6
/-- The spans lie there. -/
def Lies (w : World) (g o : Nat) (L : List (Nat × Nat)) : Prop := ∀ j (h : j < L.length), w.cell? ⟨g, o + j * 2, none⟩ = some (.float .f64 L[j].1) ∧ w.cell? ⟨g, o + j * 2 + 1, none⟩ = some (.float .f64 L[j].2)
set_option maxHeartbeats 4000000 in
theorem least_any (l h g o n c : Nat) (L : List (Nat × Nat)) (w : World) (hn : L.length = n) (hnb : n ≤ 16) (hl : Flt l) (hh : Flt h) (hL : Flts L) (hg : g < w.heap.size) (hlies : Lies w g o L) :
    Calls Try.prog 14 #[spv l h, .slice (some ⟨g, o, none⟩) n c] w fun e w' => e = .returned (.tuple #[spv (leaLo l h L) (leaHi l h L), .int .i64 (leaE l h L)]) ∧ Below w.heap.size w w' := by
  have hsf := @run_store_f Try.prog .f64
  have HN := Lib.hid hn
  clear hn
  go_enter Try.func14, Try.ntmps14
  go_wp2
  go_loopw [10] (fun iv wr => ∃ k : Nat, k ≤ n ∧ iv = .int .i64 k ∧ wr.cell? ⟨w.heap.size, 0, none⟩ = some (.float .f64 (lmn l (L.take k))) ∧ wr.cell? ⟨w.heap.size, 1, none⟩ = some (.float .f64 (lmx h (L.take k))) ∧
    wr.frozen? ⟨w.heap.size, 0, none⟩ = false ∧ wr.frozen? ⟨w.heap.size, 1, none⟩ = false ∧ wr.cell? ⟨w.heap.size + 1, 0, none⟩ = some (.float .f64 0) ∧ wr.cell? ⟨w.heap.size + 1, 1, none⟩ = some (.float .f64 0) ∧ wr.frozen? ⟨w.heap.size + 1, 0, none⟩ = false ∧ wr.frozen? ⟨w.heap.size + 1, 1, none⟩ = false ∧ w.heap.size + 1 < wr.heap.size ∧ Below w.heap.size w wr) (fun iv _ => n - (intOf iv).toNat)
  case atStart => exact ⟨0, Nat.zero_le _, rfl, by show _ = some (Value.float .f64 l); go_cell, by show _ = some (Value.float .f64 h); go_cell, by go_cell, by go_cell, by go_cell, by go_cell, by go_cell, by go_cell, by simp, by (repeat (first | exact below_self _ _ | assumption | refine below_dn ?_ _ | refine Below.drew ?_ | refine Below.setCell ?_ (by (try simp) <;> (try omega)) _ | refine Below.alloc ?_ (by (try simp) <;> (try omega)) _))⟩
  case round =>
    obtain ⟨k, hk, rfl, c0, c1, f0, f1, d0, d1, e0, e1, hz, hb⟩ := hrel
    by_cases hlt : k < n
    · have hkL : k < L.length := by have := HN.out; omega
      obtain ⟨x0, x1⟩ := hlies k hkL
      have y0 : wr.cell? ⟨g, o + k * 2, none⟩ = some (.float .f64 L[k].1) := (hb.cell (p := ⟨g, _, none⟩) hg).trans x0
      have y1 : wr.cell? ⟨g, o + k * 2 + 1, none⟩ = some (.float .f64 L[k].2) := (hb.cell (p := ⟨g, _, none⟩) hg).trans x1
      have HT1 := Lib.hid (lmn_take l L hkL)
      have HT2 := Lib.hid (lmx_take h L hkL)
      have p1 := lmn_flt hl (flts_take hL k)
      have p2 := lmx_flt hh (flts_take hL k)
      have p3 := hL _ (List.getElem_mem hkL)
      have hmn : ∀ ts t W, (Builtin.min_ ts t #[.float .f64 (lmn l (L.take k)), .float .f64 L[k].1]).run Try.prog W = .ok (.float .f64 (fmin (lmn l (L.take k)) L[k].1)) W := fun ts t W => by rw [run_min2, (wmin_is W p1.2 p3.1.2).1, (wmin_is W p1.2 p3.1.2).2]; rfl
      have hmx : ∀ ts t W, (Builtin.max_ ts t #[.float .f64 (lmx h (L.take k)), .float .f64 L[k].2]).run Try.prog W = .ok (.float .f64 (fmax (lmx h (L.take k)) L[k].2)) W := fun ts t W => by rw [run_max2, (wmax_is W p2.2 p3.2.2).1, (wmax_is W p2.2 p3.2.2).2]; rfl
      generalize lmn l (L.take k) = a at *
      generalize lmx h (L.take k) = b at *
      generalize L[k].1 = u at *
      generalize L[k].2 = v at *
      have hki : (k : Int) < (n : Int) := by omega
      have hgw : g < wr.heap.size := by omega
      have hz0 : w.heap.size < wr.heap.size := by omega
      clear x0 x1 p1 p2 p3 hkL hlies
      go_wp2
      go_region
      go_wp2
      go_roundw
      case rel => exact ⟨k + 1, by omega, by go_num, by rw [HT1.out]; go_cell, by rw [HT2.out]; go_cell, by go_cell, by go_cell, by go_cell, by go_cell, by go_cell, by go_cell, by simp; omega, by (repeat (first | exact below_self _ _ | assumption | refine below_dn ?_ _ | refine Below.drew ?_ | refine Below.setCell ?_ (by (try simp) <;> (try omega)) _ | refine Below.alloc ?_ (by (try simp) <;> (try omega)) _))⟩
      case measure => simp [intOf]; omega
    · obtain rfl : k = n := by omega
      clear hlt hlies
      have hT : L.take k = L := List.take_of_length_le (by have := HN.out; omega)
      rw [hT] at c0 c1
      clear hT
      have p1 := lmn_flt hl hL
      have p2 := lmx_flt hh hL
      have HU := Lib.hid (fun a b (k1 : Usg (lmn l L) a) (k2 : Usg (lmx h L) b) => show a = pls (lmn l L) ∧ b = pls (lmx h L) from ⟨k1.2 p1.2 p1.1, k2.2 p2.2 p2.1⟩)
      have HC := Lib.hid (fun W => check_span (lmn l L) (lmx h L) W p1.1)
      have HV := Lib.hid (fun W => unsigned_any (lmn l L) (lmx h L) W)
      have hz0 : w.heap.size < wr.heap.size := by omega
      have hki : ¬ (k : Int) < (k : Int) := by omega
      have e1 : leaLo l h L = if Spn (lmn l L) (lmx h L) then pls (lmn l L) else 0 := rfl
      have e2 : leaHi l h L = if Spn (lmn l L) (lmx h L) then pls (lmx h L) else 0 := rfl
      have e3 : leaE l h L = if Spn (lmn l L) (lmx h L) then 0 else 6 := rfl
      rcases spE_01 (lmn l L) (lmx h L) with ⟨q, hs⟩ | ⟨q, hs⟩
      · rw [if_pos hs] at e1 e2 e3
        rw [q] at HC
        generalize lmn l L = a at *
        generalize lmx h L = b at *
        have HE := Lib.hid (And.intro e1 (And.intro e2 e3))
        clear q hs e1 e2 e3 p1 p2 hl hh hL
        go_wp2_with fail
        refine (HC.out _).mono ?_
        rintro e w1 ⟨rfl, rfl⟩
        go_wp2_with fail
        refine (HV.out _).mono ?_
        rintro e w2 ⟨a', b', rfl, k1, k2, hb2⟩
        obtain ⟨rfl, rfl⟩ := HU.out _ _ k1 k2
        clear k1 k2
        obtain ⟨hc2, hf2⟩ := bcell hb2
        have hw0 : w.heap.size < w2.heap.size := by have := hb2.size; simp at this; omega
        have hw1 : w.heap.size + 1 < w2.heap.size := by have := hb2.size; simp at this; omega
        have g2 : Below w.heap.size w w2 := Below.trans (by (repeat (first | exact below_self _ _ | assumption | refine below_dn ?_ _ | refine Below.drew ?_ | refine Below.setCell ?_ (by (try simp) <;> (try omega)) _ | refine Below.alloc ?_ (by (try simp) <;> (try omega)) _))) (hb2.mono (by simp; try omega))
        clear hb2
        have d2 : w2.cell? ⟨w.heap.size + 1, 0, none⟩ = some (.float .f64 0) := by go_cell
        have d3 : w2.cell? ⟨w.heap.size + 1, 1, none⟩ = some (.float .f64 0) := by go_cell
        go_wp2
        exact bodyPost_ret (v := .tuple #[spv (pls a) (pls b), .int .i64 0]) (by simp [results, Try.results14, go_sem, d2, d3]) rfl ⟨by rw [HE.out.1, HE.out.2.1, HE.out.2.2], by (repeat (first | exact below_self _ _ | assumption | refine below_dn ?_ _ | refine Below.drew ?_ | refine Below.setCell ?_ (by (try simp) <;> (try omega)) _ | refine Below.alloc ?_ (by (try simp) <;> (try omega)) _))⟩
      · rw [if_neg hs] at e1 e2 e3
        rw [q] at HC
        generalize lmn l L = a at *
        generalize lmx h L = b at *
        have HE := Lib.hid (And.intro e1 (And.intro e2 e3))
        clear q hs e1 e2 e3 p1 p2 hl hh hL HU HV
        go_wp2_with fail
        refine (HC.out _).mono ?_
        rintro e w1 ⟨rfl, rfl⟩
        go_wp2
        exact bodyPost_ret (v := .tuple #[spv 0 0, .int .i64 6]) (by simp [results, Try.results14, go_sem, hz, d0, d1]) rfl ⟨by rw [HE.out.1, HE.out.2.1, HE.out.2.2], by (repeat (first | exact below_self _ _ | assumption | refine below_dn ?_ _ | refine Below.drew ?_ | refine Below.setCell ?_ (by (try simp) <;> (try omega)) _ | refine Below.alloc ?_ (by (try simp) <;> (try omega)) _))⟩
end Go.Proofs.Ytghcoijinihlnaa.Fl
