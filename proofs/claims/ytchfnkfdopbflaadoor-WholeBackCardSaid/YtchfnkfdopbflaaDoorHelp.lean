/-
  What the statements' own sum and product return where the answer fits: the number; the mark stays as it was. Conditions: the mark is yes, the answer fits.
-/
import Derived.Test.YtchfnkfdopbflaaDoorTri
import Derived.Test.YtchfnkfdopbflaaDoorAlive
namespace Go.Proofs.YtchfnkfdopbflaaDoor
open Go.RowKit Nb

/-- A store of what lies there changes nothing. -/
theorem setCell_id {w : World} {g i : Nat} {v : Value} (h : w.cell? ⟨g, i, none⟩ = some v) : w.setCell ⟨g, i, none⟩ v = w := by
  have hh : (w.setCell ⟨g, i, none⟩ v).heap = w.heap := by
    apply Array.ext_getElem?
    intro k
    unfold World.setCell
    simp only [Array.getElem?_modify]
    by_cases hk : g = k
    · subst hk
      rw [if_pos rfl]
      unfold World.cell? at h
      simp only at h
      cases hg : w.heap[g]? with
      | none => rfl
      | some o =>
        rw [hg] at h
        cases o with
        | cells c e f =>
          simp at h
          obtain ⟨hlt, hv⟩ := Array.getElem?_eq_some_iff.1 h
          simp only [Option.map_some, Option.some.injEq]
          subst hv
          simp [Array.setIfInBounds, hlt]
        | _ => simp at h
    · rw [if_neg hk]
  have e : w.setCell ⟨g, i, none⟩ v = { w with heap := (w.setCell ⟨g, i, none⟩ v).heap } := rfl
  rw [e, hh]
/-- A number is answered. -/
def One (w : World) (Z : Int) (e : Ending) (w' : World) : Prop := ∃ (n : Bool) (V : Option Addr) (ls : List Nat) (k : Nat), e = .returned (big n V ls.length k) ∧ Lm w' n V ls k ∧ sv n (val W32 ls) = Z ∧ Below w.heap.size w w'
theorem reck_fit {w w' : World} {p : Prop} {Z : Int} {e : Ending} (h : Reck w p Z e w') (hp : p) (hF : Fits Z) : ∃ (n : Bool) (V : Option Addr) (ls : List Nat) (k : Nat), e = .returned (.tuple #[big n V ls.length k, .int .i64 0]) ∧ Lm w' n V ls k ∧ sv n (val W32 ls) = Z ∧ Below w.heap.size w w' := by
  obtain ⟨n, V, ls, k, er, rfl, hl, hs, hb⟩ := h
  rcases hs with ⟨_, ⟨_, rfl, hv⟩ | ⟨h, _⟩⟩ | ⟨h, _⟩
  · exact ⟨n, V, ls, k, rfl, hl, hv, hb⟩
  · exact absurd hF h
  · exact absurd hp h
theorem ok_yes {n : Bool} {ls : List Nat} (h : Ok n ls) : (true = true ↔ Ok n ls) := ⟨fun _ => h, fun _ => rfl⟩

set_option maxHeartbeats 1000000 in
set_option maxRecDepth 20000 in
theorem sum_ok (n1 n2 : Bool) (A B : Option Addr) (xs ys : List Nat) (c d p : Nat) (w : World) (h1 : Lm w n1 A xs c) (h2 : Lm w n2 B ys d) (hp : p < w.heap.size) (hc : w.cell? ⟨p, 0, none⟩ = some (.bool true)) (hf : w.frozen? ⟨p, 0, none⟩ = false) (hF : Fits (sv n1 (val W32 xs) + sv n2 (val W32 ys))) :
    Calls Tryd.prog 24 #[big n1 A xs.length c, big n2 B ys.length d, .pointer (some ⟨p, 0, none⟩)] w (One w (sv n1 (val W32 xs) + sv n2 (val W32 ys))) := by
  have HF := Lib.hid hF
  clear hF
  have hre := Rest.newI ((w.alloc (.cells #[.bool n1, .slice A xs.length c] 24)).alloc (.cells #[.bool n2, .slice B ys.length d] 24))
  rw [show ((w.alloc (.cells #[.bool n1, .slice A xs.length c] 24)).alloc (.cells #[.bool n2, .slice B ys.length d] 24)).heap.size = w.heap.size + 1 + 1 by go_size] at hre
  have hb0 : Below w.heap.size w (((w.alloc (.cells #[.bool n1, .slice A xs.length c] 24)).alloc (.cells #[.bool n2, .slice B ys.length d] 24)).alloc (.cells #[.bool false, .slice none 0 0] 24)) := by go_grown
  have k1 := h1.below hb0
  have k2 := h2.below hb0
  have hc0 := (hb0.cell (p := ⟨p, 0, none⟩) hp).trans hc
  have hf0 := (hb0.frozen (p := ⟨p, 0, none⟩) hp).trans hf
  go_enter Tryd.func24, Tryd.ntmps24
  go_wp2_with fail
  generalize hW : (((w.alloc (.cells #[.bool n1, .slice A xs.length c] 24)).alloc (.cells #[.bool n2, .slice B ys.length d] 24)).alloc (.cells #[.bool false, .slice none 0 0] 24)) = W at *
  clear hW
  refine (wadd_any n1 n2 A B xs ys c d W k1.sl k2.sl k1.dig k2.dig k1.sz k2.sz).mono ?_
  intro e w1 hR
  obtain ⟨n, V, ls, k, rfl, m1, v1, b1⟩ := reck_fit hR ⟨k1.ok, k2.ok⟩ HF.out
  clear hR
  have hre := hre.on b1
  have hb1 := hb0.trans (b1.mono hb0.size)
  have K1 := Held.fresh m1
  have hb2 := hb1.alloc (o := .cells #[.bool n, .slice V ls.length k] 24) hb1.size
  have hre := hre.on (W' := w1.alloc (.cells #[.bool n, .slice V ls.length k] 24)) ((Below.refl _ _).alloc (Nat.le_refl _) _)
  clear hc0 hf0 k1 k2 hb0 b1 hb1
  go_wp2_with fail
  have hz : (w1.alloc (.cells #[.bool n, .slice V ls.length k] 24)).heap.size = w1.heap.size + 1 := by go_size
  generalize w1.alloc (.cells #[.bool n, .slice V ls.length k] 24) = W2 at *
  rw [← hz]
  have KK := kind_of n V ls (W2.alloc (.cells #[.bool n, .slice V ls.length k] 24)) _ (K1.lm.below ((Below.refl _ _).alloc (Nat.le_refl _) _)).sl true (ok_yes m1.ok)
  refine (may_1 W2.heap.size 1 n V ls.length k true _ KK (by go_cell) (by go_cell)).mono ?_
  rintro e w3 ⟨rfl, b3⟩
  have b3 : Below W2.heap.size W2 w3 := ((Below.refl _ _).alloc (Nat.le_refl _) _).trans (b3.mono (by simp))
  have hre := hre.on b3
  have K1 := K1.on b3
  have hb3 := hb2.trans (b3.mono hb2.size)
  have hc3 := (hb3.cell (p := ⟨p, 0, none⟩) hp).trans hc
  have hf3 := (hb3.frozen (p := ⟨p, 0, none⟩) hp).trans hf
  have hid := setCell_id hc3
  have q0 := K1.c0
  have q1 := K1.c1
  have g0 := hre.r0
  have g1 := hre.r1
  have g2 := hre.f0
  have g3 := hre.f1
  have hM := K1.lm
  clear KK b3 hc hf h1 h2 m1 hb2
  go_wp2
  refine bodyPost_ret (v := big n V ls.length k) (by simp [results, Tryd.results24, go_sem, g0, g1]) rfl ⟨n, V, ls, k, rfl, ?_, v1, ?_⟩
  · first | exact hM.laid hre _ _ | (rw [hid]; exact hM.laid hre _ _)
  · first | exact (hb3.setCell (by simp; omega) _).setCell (by simp; omega) _ | (rw [hid]; exact (hb3.setCell (by simp; omega) _).setCell (by simp; omega) _)

set_option maxHeartbeats 1000000 in
set_option maxRecDepth 20000 in
theorem times_ok (n1 n2 : Bool) (A B : Option Addr) (xs ys : List Nat) (c d p : Nat) (w : World) (h1 : Lm w n1 A xs c) (h2 : Lm w n2 B ys d) (hp : p < w.heap.size) (hc : w.cell? ⟨p, 0, none⟩ = some (.bool true)) (hf : w.frozen? ⟨p, 0, none⟩ = false) (hF : Fits (sv n1 (val W32 xs) * sv n2 (val W32 ys))) :
    Calls Tryd.prog 23 #[big n1 A xs.length c, big n2 B ys.length d, .pointer (some ⟨p, 0, none⟩)] w (One w (sv n1 (val W32 xs) * sv n2 (val W32 ys))) := by
  have HF := Lib.hid hF
  clear hF
  have hre := Rest.newI ((w.alloc (.cells #[.bool n1, .slice A xs.length c] 24)).alloc (.cells #[.bool n2, .slice B ys.length d] 24))
  rw [show ((w.alloc (.cells #[.bool n1, .slice A xs.length c] 24)).alloc (.cells #[.bool n2, .slice B ys.length d] 24)).heap.size = w.heap.size + 1 + 1 by go_size] at hre
  have hb0 : Below w.heap.size w (((w.alloc (.cells #[.bool n1, .slice A xs.length c] 24)).alloc (.cells #[.bool n2, .slice B ys.length d] 24)).alloc (.cells #[.bool false, .slice none 0 0] 24)) := by go_grown
  have k1 := h1.below hb0
  have k2 := h2.below hb0
  have hc0 := (hb0.cell (p := ⟨p, 0, none⟩) hp).trans hc
  have hf0 := (hb0.frozen (p := ⟨p, 0, none⟩) hp).trans hf
  go_enter Tryd.func23, Tryd.ntmps23
  go_wp2_with fail
  generalize hW : (((w.alloc (.cells #[.bool n1, .slice A xs.length c] 24)).alloc (.cells #[.bool n2, .slice B ys.length d] 24)).alloc (.cells #[.bool false, .slice none 0 0] 24)) = W at *
  clear hW
  refine (wmul_any n1 n2 A B xs ys c d W k1.sl k2.sl k1.dig k2.dig k1.sz k2.sz).mono ?_
  intro e w1 hR
  obtain ⟨n, V, ls, k, rfl, m1, v1, b1⟩ := reck_fit hR ⟨k1.ok, k2.ok⟩ HF.out
  clear hR
  have hre := hre.on b1
  have hb1 := hb0.trans (b1.mono hb0.size)
  have K1 := Held.fresh m1
  have hb2 := hb1.alloc (o := .cells #[.bool n, .slice V ls.length k] 24) hb1.size
  have hre := hre.on (W' := w1.alloc (.cells #[.bool n, .slice V ls.length k] 24)) ((Below.refl _ _).alloc (Nat.le_refl _) _)
  clear hc0 hf0 k1 k2 hb0 b1 hb1
  go_wp2_with fail
  have hz : (w1.alloc (.cells #[.bool n, .slice V ls.length k] 24)).heap.size = w1.heap.size + 1 := by go_size
  generalize w1.alloc (.cells #[.bool n, .slice V ls.length k] 24) = W2 at *
  rw [← hz]
  have KK := kind_of n V ls (W2.alloc (.cells #[.bool n, .slice V ls.length k] 24)) _ (K1.lm.below ((Below.refl _ _).alloc (Nat.le_refl _) _)).sl true (ok_yes m1.ok)
  refine (may_1 W2.heap.size 1 n V ls.length k true _ KK (by go_cell) (by go_cell)).mono ?_
  rintro e w3 ⟨rfl, b3⟩
  have b3 : Below W2.heap.size W2 w3 := ((Below.refl _ _).alloc (Nat.le_refl _) _).trans (b3.mono (by simp))
  have hre := hre.on b3
  have K1 := K1.on b3
  have hb3 := hb2.trans (b3.mono hb2.size)
  have hc3 := (hb3.cell (p := ⟨p, 0, none⟩) hp).trans hc
  have hf3 := (hb3.frozen (p := ⟨p, 0, none⟩) hp).trans hf
  have hid := setCell_id hc3
  have q0 := K1.c0
  have q1 := K1.c1
  have g0 := hre.r0
  have g1 := hre.r1
  have g2 := hre.f0
  have g3 := hre.f1
  have hM := K1.lm
  clear KK b3 hc hf h1 h2 m1 hb2
  go_wp2
  refine bodyPost_ret (v := big n V ls.length k) (by simp [results, Tryd.results23, go_sem, g0, g1]) rfl ⟨n, V, ls, k, rfl, ?_, v1, ?_⟩
  · first | exact hM.laid hre _ _ | (rw [hid]; exact hM.laid hre _ _)
  · first | exact (hb3.setCell (by simp; omega) _).setCell (by simp; omega) _ | (rw [hid]; exact (hb3.setCell (by simp; omega) _).setCell (by simp; omega) _)
end Go.Proofs.YtchfnkfdopbflaaDoor
