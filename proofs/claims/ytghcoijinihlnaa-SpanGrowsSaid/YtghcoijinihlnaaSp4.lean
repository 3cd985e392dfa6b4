/-
  What span's between, Join and reckon return. Condition: floats of 64 bits.
-/
import Derived.Test.YtghcoijinihlnaaSp3
import Derived.Outline
import Derived.Deep.RegionHeld3
namespace Go.Proofs.Ytghcoijinihlnaa.Fl
open Go.RowKit Ieee
set_option maxHeartbeats 400000 in
theorem between_any (x y : Nat) (w : World) :
    Calls Try.prog 20 #[.float .f64 x, .float .f64 y] w fun e w' => e = .returned (spv x y) ∧ Below w.heap.size w w' := by
  have hsf := @run_store_f Try.prog .f64
  go_enter Try.func20, Try.ntmps20
  go_wp2
  exact bodyPost_ret (v := spv x y) (by simp [results, Try.results20, go_sem]) rfl ⟨rfl, by (repeat (first | exact below_self _ _ | assumption | refine below_dn ?_ _ | refine Below.drew ?_ | refine Below.setCell ?_ (by (try simp) <;> (try omega)) _ | refine Below.alloc ?_ (by (try simp) <;> (try omega)) _))⟩
theorem lies_one {w : World} {g l h : Nat} (h0 : w.cell? ⟨g, 0, none⟩ = some (.float .f64 l)) (h1 : w.cell? ⟨g, 1, none⟩ = some (.float .f64 h)) : Lies w g 0 [(l, h)] := fun j hj => by
  have : j = 0 := by simp at hj; exact hj
  subst this
  exact ⟨h0, h1⟩
/-- What Join tells. -/
def joinLo (al ah bl bh : Nat) : Nat := if Spn al ah ∧ Spn bl bh then pls (fmin al bl) else 0
def joinHi (al ah bl bh : Nat) : Nat := if Spn al ah ∧ Spn bl bh then pls (fmax ah bh) else 0
theorem join_spn {al ah bl bh : Nat} (h : Spn al ah ∧ Spn bl bh) : Spn (fmin al bl) (fmax ah bh) := by
  have k1 := fmin_key al bl
  have k2 := fmax_key ah bh
  exact ⟨fmin_of (p := fun x => mg x < 9218868437227405312) h.1.1 h.2.1, fmax_of (p := fun x => mg x < 9218868437227405312) h.1.2.1 h.2.2.1, by have := h.1.2.2; have := h.2.2.2; omega⟩
set_option maxHeartbeats 1000000 in
theorem join_any (al ah bl bh : Nat) (w : World) (h1 : al < 18446744073709551616) (h2 : ah < 18446744073709551616) (h3 : bl < 18446744073709551616) (h4 : bh < 18446744073709551616) :
    Calls Try.prog 4 #[spv al ah, spv bl bh] w fun e w' => e = .returned (.tuple #[spv (joinLo al ah bl bh) (joinHi al ah bl bh), .int .i64 (spE2 al ah bl bh)]) ∧ Below w.heap.size w w' := by
  have HC := Lib.hid (fun g W k k0 k1 k2 k3 => check_two g al ah bl bh W h1 h3 k k0 k1 k2 k3)
  have hsf := @run_store_f Try.prog .f64
  by_cases hs : Spn al ah ∧ Spn bl bh
  · have e3 : spE2 al ah bl bh = 0 := if_pos hs
    have e1 : joinLo al ah bl bh = pls (fmin al bl) := if_pos hs
    have e2 : joinHi al ah bl bh = pls (fmax ah bh) := if_pos hs
    rw [e3] at HC
    have s1 := join_spn hs
    have l1 : leaLo al ah [(bl, bh)] = pls (fmin al bl) := if_pos s1
    have l2 : leaHi al ah [(bl, bh)] = pls (fmax ah bh) := if_pos s1
    have l3 : leaE al ah [(bl, bh)] = 0 := if_pos s1
    have HL : Hid (∀ g W, g < W.heap.size → W.cell? ⟨g, 0, none⟩ = some (.float .f64 bl) → W.cell? ⟨g, 1, none⟩ = some (.float .f64 bh) →
      Calls Try.prog 14 #[spv al ah, .slice (some ⟨g, 0, none⟩) 1 1] W fun e w' => e = .returned (.tuple #[spv (pls (fmin al bl)) (pls (fmax ah bh)), .int .i64 0]) ∧ Below W.heap.size W w') := Lib.hid fun g W hg k0 k1 => by
        have := least_any al ah g 0 1 1 [(bl, bh)] W rfl (by omega) ⟨h1, Nat.le_of_lt hs.1.1⟩ ⟨h2, Nat.le_of_lt hs.1.2.1⟩ (fun s k => by simp at k; subst k; exact ⟨⟨h3, Nat.le_of_lt hs.2.1⟩, ⟨h4, Nat.le_of_lt hs.2.2.1⟩⟩) hg (lies_one k0 k1)
        rw [l1, l2, l3] at this; exact this
    rw [e1, e2, e3]
    generalize pls (fmin al bl) = x at *
    generalize pls (fmax ah bh) = y at *
    clear e1 e2 e3 s1 l1 l2 l3 hs h1 h2 h3 h4
    go_enter Try.func4, Try.ntmps4
    go_wp2_with fail
    refine (HC.out _ _ (by simp) (by go_cell) (by go_cell) (by go_cell) (by go_cell)).mono ?_
    rintro e w1 ⟨rfl, hb⟩
    obtain ⟨hc, hf⟩ := bcell hb
    have hz0 : w.heap.size < w1.heap.size := by have := hb.size; simp at this; omega
    have hz1 : w.heap.size + 1 < w1.heap.size := by have := hb.size; simp at this; omega
    have hz2 : w.heap.size + 1 + 1 < w1.heap.size := by have := hb.size; simp at this; omega
    have g1 : Below w.heap.size w w1 := Below.trans (by (repeat (first | exact below_self _ _ | assumption | refine below_dn ?_ _ | refine Below.drew ?_ | refine Below.setCell ?_ (by (try simp) <;> (try omega)) _ | refine Below.alloc ?_ (by (try simp) <;> (try omega)) _))) (hb.mono (by simp; try omega))
    clear hb
    go_wp2_with fail
    refine (HL.out _ _ (by simp) (by go_cell) (by go_cell)).mono ?_
    rintro e w2 ⟨rfl, hb⟩
    obtain ⟨hc2, hf2⟩ := bcell hb
    have hw0 : w.heap.size < w2.heap.size := by have := hb.size; simp at this; omega
    have hw1 : w.heap.size + 1 < w2.heap.size := by have := hb.size; simp at this; omega
    have hw2 : w.heap.size + 1 + 1 < w2.heap.size := by have := hb.size; simp at this; omega
    have g2 : Below w.heap.size w w2 := Below.trans (by (repeat (first | exact below_self _ _ | assumption | refine below_dn ?_ _ | refine Below.drew ?_ | refine Below.setCell ?_ (by (try simp) <;> (try omega)) _ | refine Below.alloc ?_ (by (try simp) <;> (try omega)) _))) (hb.mono (by simp; try omega))
    clear hb
    have d2 : w2.cell? ⟨w.heap.size + 1 + 1, 0, none⟩ = some (.float .f64 0) := by go_cell
    have d3 : w2.cell? ⟨w.heap.size + 1 + 1, 1, none⟩ = some (.float .f64 0) := by go_cell
    go_wp2
    exact bodyPost_ret (v := .tuple #[spv x y, .int .i64 0]) (by simp [results, Try.results4, go_sem, d2, d3]) rfl ⟨rfl, by (repeat (first | exact below_self _ _ | assumption | refine below_dn ?_ _ | refine Below.drew ?_ | refine Below.setCell ?_ (by (try simp) <;> (try omega)) _ | refine Below.alloc ?_ (by (try simp) <;> (try omega)) _))⟩
  · have e3 : spE2 al ah bl bh = 1 := if_neg hs
    have e1 : joinLo al ah bl bh = 0 := if_neg hs
    have e2 : joinHi al ah bl bh = 0 := if_neg hs
    rw [e3] at HC
    rw [e1, e2, e3]
    clear e1 e2 e3 hs h1 h2 h3 h4
    go_enter Try.func4, Try.ntmps4
    go_wp2_with fail
    refine (HC.out _ _ (by simp) (by go_cell) (by go_cell) (by go_cell) (by go_cell)).mono ?_
    rintro e w1 ⟨rfl, hb⟩
    obtain ⟨hc, hf⟩ := bcell hb
    have hz0 : w.heap.size < w1.heap.size := by have := hb.size; simp at this; omega
    have hz1 : w.heap.size + 1 < w1.heap.size := by have := hb.size; simp at this; omega
    have hz2 : w.heap.size + 1 + 1 < w1.heap.size := by have := hb.size; simp at this; omega
    have g1 : Below w.heap.size w w1 := Below.trans (by (repeat (first | exact below_self _ _ | assumption | refine below_dn ?_ _ | refine Below.drew ?_ | refine Below.setCell ?_ (by (try simp) <;> (try omega)) _ | refine Below.alloc ?_ (by (try simp) <;> (try omega)) _))) (hb.mono (by simp; try omega))
    clear hb
    go_wp2
    exact bodyPost_ret (v := .tuple #[spv 0 0, .int .i64 1]) (by simp [results, Try.results4, go_sem, hc]) rfl ⟨rfl, by (repeat (first | exact below_self _ _ | assumption | refine below_dn ?_ _ | refine Below.drew ?_ | refine Below.setCell ?_ (by (try simp) <;> (try omega)) _ | refine Below.alloc ?_ (by (try simp) <;> (try omega)) _))⟩
end Go.Proofs.Ytghcoijinihlnaa.Fl
