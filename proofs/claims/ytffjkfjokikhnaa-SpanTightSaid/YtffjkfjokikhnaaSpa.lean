/-
  What the document's own Meet and Join of spans return. Condition: floats of 64 bits.
-/
import Derived.Test.YtffjkfjokikhnaaSp9
import Derived.Deep.RegionHeld3
namespace Go.Proofs.Ytffjkfjokikhnaa.Fl
open Go.RowKit Ieee

set_option maxHeartbeats 1000000 in
theorem rmeet_any (al ah bl bh : Nat) (w : World) (h1 : al < 18446744073709551616) (h2 : ah < 18446744073709551616) (h3 : bl < 18446744073709551616) (h4 : bh < 18446744073709551616) :
    Calls Try.prog 27 #[spv al ah, spv bl bh] w fun e w' => e = .returned (.tuple #[spv (meetLo al ah bl bh) (meetHi al ah bl bh), .bool (decide (Meets al ah bl bh))]) ∧ Below w.heap.size w w' := by
  have HA := Lib.hid (fun W => rcheckS_any al ah W h1 h2)
  have HB := Lib.hid (fun W => rcheckS_any bl bh W h3 h4)
  have HG := Lib.hid (fun W => rgreater_any al bl W)
  have HS := Lib.hid (fun W => rlesser_any ah bh W)
  have hsf := @run_store_f Try.prog .f64
  rcases spE_split al ah bl bh with ⟨a, hs⟩ | ⟨a, b, hs⟩ | ⟨a, b, hs⟩
  · rw [a] at HA
    have hM : ¬ Meets al ah bl bh := fun h => hs ⟨h.1, h.2.1⟩
    rw [show meetLo al ah bl bh = 0 from if_neg hM, show meetHi al ah bl bh = 0 from if_neg hM, decide_eq_false hM]
    generalize rgr al bl = x at *
    generalize rls ah bh = y at *
    clear a hs hM h1 h2 h3 h4 HB
    go_enter Try.func27, Try.ntmps27
    go_wp2_with fail
    refine (HG.out _).mono ?_
    rintro e w0 ⟨rfl, rfl⟩
    go_wp2_with fail
    refine (HS.out _).mono ?_
    rintro e w0 ⟨rfl, rfl⟩
    go_wp2_with fail
    refine (HA.out _).mono ?_
    rintro e w1 ⟨rfl, hb⟩
    obtain ⟨hc, hf⟩ := bcell hb
    have hz0 : w.heap.size < w1.heap.size := by have := hb.size; (try simp at this); omega
    have hz1 : w.heap.size + 1 < w1.heap.size := by have := hb.size; (try simp at this); omega
    have hz2 : w.heap.size + 1 + 1 < w1.heap.size := by have := hb.size; (try simp at this); omega
    have g1 : Below w.heap.size w w1 := Below.trans (by (repeat (first | exact below_self _ _ | assumption | refine below_dn ?_ _ | refine Below.drew ?_ | refine Below.setCell ?_ (by (try simp) <;> (try omega)) _ | refine Below.alloc ?_ (by (try simp) <;> (try omega)) _))) (hb.mono (by (try simp) <;> (try omega)))
    clear hb
    go_wp2
    exact bodyPost_ret (v := .tuple #[spv 0 0, .bool false]) (by simp [results, Try.results27, go_sem, hc]) rfl ⟨rfl, by (repeat (first | exact below_self _ _ | assumption | refine below_dn ?_ _ | refine Below.drew ?_ | refine Below.setCell ?_ (by (try simp) <;> (try omega)) _ | refine Below.alloc ?_ (by (try simp) <;> (try omega)) _))⟩
  · rw [a] at HA
    rw [b] at HB
    have hM : ¬ Meets al ah bl bh := fun h => hs ⟨h.1, h.2.1⟩
    rw [show meetLo al ah bl bh = 0 from if_neg hM, show meetHi al ah bl bh = 0 from if_neg hM, decide_eq_false hM]
    generalize rgr al bl = x at *
    generalize rls ah bh = y at *
    clear a b hs hM h1 h2 h3 h4
    go_enter Try.func27, Try.ntmps27
    go_wp2_with fail
    refine (HG.out _).mono ?_
    rintro e w0 ⟨rfl, rfl⟩
    go_wp2_with fail
    refine (HS.out _).mono ?_
    rintro e w0 ⟨rfl, rfl⟩
    go_wp2_with fail
    refine (HA.out _).mono ?_
    rintro e w1 ⟨rfl, hb⟩
    obtain ⟨hc, hf⟩ := bcell hb
    have hz0 : w.heap.size < w1.heap.size := by have := hb.size; (try simp at this); omega
    have hz1 : w.heap.size + 1 < w1.heap.size := by have := hb.size; (try simp at this); omega
    have hz2 : w.heap.size + 1 + 1 < w1.heap.size := by have := hb.size; (try simp at this); omega
    have g1 : Below w.heap.size w w1 := Below.trans (by (repeat (first | exact below_self _ _ | assumption | refine below_dn ?_ _ | refine Below.drew ?_ | refine Below.setCell ?_ (by (try simp) <;> (try omega)) _ | refine Below.alloc ?_ (by (try simp) <;> (try omega)) _))) (hb.mono (by (try simp) <;> (try omega)))
    clear hb
    go_wp2_with fail
    refine (HB.out _).mono ?_
    rintro e w2 ⟨rfl, hb⟩
    obtain ⟨hc2, hf2⟩ := bcell hb
    have hw0 : w.heap.size < w2.heap.size := by have := hb.size; (try simp at this); omega
    have hw1 : w.heap.size + 1 < w2.heap.size := by have := hb.size; (try simp at this); omega
    have hw2 : w.heap.size + 1 + 1 < w2.heap.size := by have := hb.size; (try simp at this); omega
    have g2 : Below w.heap.size w w2 := g1.trans (hb.mono (by (try simp) <;> (try omega)))
    clear hb g1
    have d2 : w2.cell? ⟨w.heap.size + 1 + 1, 0, none⟩ = some (.float .f64 0) := by go_cell
    have d3 : w2.cell? ⟨w.heap.size + 1 + 1, 1, none⟩ = some (.float .f64 0) := by go_cell
    go_wp2
    exact bodyPost_ret (v := .tuple #[spv 0 0, .bool false]) (by simp [results, Try.results27, go_sem, d2, d3]) rfl ⟨rfl, by (repeat (first | exact below_self _ _ | assumption | refine below_dn ?_ _ | refine Below.drew ?_ | refine Below.setCell ?_ (by (try simp) <;> (try omega)) _ | refine Below.alloc ?_ (by (try simp) <;> (try omega)) _))⟩
  · rw [a] at HA
    rw [b] at HB
    have q1 : mg al ≤ 9218868437227405312 := Nat.le_of_lt hs.1.1
    have q2 : mg ah ≤ 9218868437227405312 := Nat.le_of_lt hs.1.2.1
    have q3 : mg bl ≤ 9218868437227405312 := Nat.le_of_lt hs.2.1
    have q4 : mg bh ≤ 9218868437227405312 := Nat.le_of_lt hs.2.2.1
    rw [rgr_is h1 h3 q1 q3] at HG
    rw [rls_is h2 h4 q2 q4] at HS
    have a1 : mg (fmax al bl) ≤ 9218868437227405312 := fmax_of (p := fun x => mg x ≤ 9218868437227405312) q1 q3
    have a2 : mg (fmin ah bh) ≤ 9218868437227405312 := fmin_of (p := fun x => mg x ≤ 9218868437227405312) q2 q4
    have hgt := ord_gt (pls (fmax al bl)) (pls (fmin ah bh))
    have hk : decide (mg (pls (fmax al bl)) ≤ 9218868437227405312 ∧ mg (pls (fmin ah bh)) ≤ 9218868437227405312 ∧ key (pls (fmin ah bh)) < key (pls (fmax al bl))) = !decide (Meets al ah bl bh) := by
      rw [pls_mg, pls_mg, pls_key, pls_key, ← decide_not]
      refine decide_eq_decide.2 ⟨fun h k => ?_, fun h => ⟨a1, a2, ?_⟩⟩
      · have := k.2.2; omega
      · rcases Int.lt_or_le (key (fmin ah bh)) (key (fmax al bl)) with g | g
        · exact g
        · exact absurd ⟨hs.1, hs.2, g⟩ h
    rw [hk] at hgt
    have HL := Lib.hid (fun (k : decide (Meets al ah bl bh) = true) => show meetLo al ah bl bh = pls (fmax al bl) ∧ meetHi al ah bl bh = pls (fmin ah bh) from ⟨if_pos (of_decide_eq_true k), if_pos (of_decide_eq_true k)⟩)
    have HM := Lib.hid (fun (k : decide (Meets al ah bl bh) = false) => show meetLo al ah bl bh = 0 ∧ meetHi al ah bl bh = 0 from ⟨if_neg (of_decide_eq_false k), if_neg (of_decide_eq_false k)⟩)
    generalize pls (fmax al bl) = x at *
    generalize pls (fmin ah bh) = y at *
    generalize decide (Meets al ah bl bh) = c at *
    clear hk hs a b q1 q2 q3 q4 a1 a2 h1 h2 h3 h4
    cases c <;> simp only [Bool.not_false, Bool.not_true] at hgt
    · have hl := HM.out rfl
      rw [hl.1, hl.2]
      clear hl HM HL
      go_enter Try.func27, Try.ntmps27
      go_wp2_with fail
      refine (HG.out _).mono ?_
      rintro e w0 ⟨rfl, rfl⟩
      go_wp2_with fail
      refine (HS.out _).mono ?_
      rintro e w0 ⟨rfl, rfl⟩
      go_wp2_with fail
      refine (HA.out _).mono ?_
      rintro e w1 ⟨rfl, hb⟩
      obtain ⟨hc, hf⟩ := bcell hb
      have hz0 : w.heap.size < w1.heap.size := by have := hb.size; (try simp at this); omega
      have hz1 : w.heap.size + 1 < w1.heap.size := by have := hb.size; (try simp at this); omega
      have hz2 : w.heap.size + 1 + 1 < w1.heap.size := by have := hb.size; (try simp at this); omega
      have g1 : Below w.heap.size w w1 := Below.trans (by (repeat (first | exact below_self _ _ | assumption | refine below_dn ?_ _ | refine Below.drew ?_ | refine Below.setCell ?_ (by (try simp) <;> (try omega)) _ | refine Below.alloc ?_ (by (try simp) <;> (try omega)) _))) (hb.mono (by (try simp) <;> (try omega)))
      clear hb
      go_wp2_with fail
      refine (HB.out _).mono ?_
      rintro e w2 ⟨rfl, hb⟩
      obtain ⟨hc2, hf2⟩ := bcell hb
      have hw0 : w.heap.size < w2.heap.size := by have := hb.size; (try simp at this); omega
      have hw1 : w.heap.size + 1 < w2.heap.size := by have := hb.size; (try simp at this); omega
      have hw2 : w.heap.size + 1 + 1 < w2.heap.size := by have := hb.size; (try simp at this); omega
      have g2 : Below w.heap.size w w2 := g1.trans (hb.mono (by (try simp) <;> (try omega)))
      clear hb g1
      have d2 : w2.cell? ⟨w.heap.size + 1 + 1, 0, none⟩ = some (.float .f64 0) := by go_cell
      have d3 : w2.cell? ⟨w.heap.size + 1 + 1, 1, none⟩ = some (.float .f64 0) := by go_cell
      go_wp2
      exact bodyPost_ret (v := .tuple #[spv 0 0, .bool false]) (by simp [results, Try.results27, go_sem, d2, d3]) rfl ⟨rfl, by (repeat (first | exact below_self _ _ | assumption | refine below_dn ?_ _ | refine Below.drew ?_ | refine Below.setCell ?_ (by (try simp) <;> (try omega)) _ | refine Below.alloc ?_ (by (try simp) <;> (try omega)) _))⟩
    · have hl := HL.out rfl
      rw [hl.1, hl.2]
      clear hl HM HL
      go_enter Try.func27, Try.ntmps27
      go_wp2_with fail
      refine (HG.out _).mono ?_
      rintro e w0 ⟨rfl, rfl⟩
      go_wp2_with fail
      refine (HS.out _).mono ?_
      rintro e w0 ⟨rfl, rfl⟩
      go_wp2_with fail
      refine (HA.out _).mono ?_
      rintro e w1 ⟨rfl, hb⟩
      obtain ⟨hc, hf⟩ := bcell hb
      have hz0 : w.heap.size < w1.heap.size := by have := hb.size; (try simp at this); omega
      have hz1 : w.heap.size + 1 < w1.heap.size := by have := hb.size; (try simp at this); omega
      have hz2 : w.heap.size + 1 + 1 < w1.heap.size := by have := hb.size; (try simp at this); omega
      have g1 : Below w.heap.size w w1 := Below.trans (by (repeat (first | exact below_self _ _ | assumption | refine below_dn ?_ _ | refine Below.drew ?_ | refine Below.setCell ?_ (by (try simp) <;> (try omega)) _ | refine Below.alloc ?_ (by (try simp) <;> (try omega)) _))) (hb.mono (by (try simp) <;> (try omega)))
      clear hb
      go_wp2_with fail
      refine (HB.out _).mono ?_
      rintro e w2 ⟨rfl, hb⟩
      obtain ⟨hc2, hf2⟩ := bcell hb
      have hw0 : w.heap.size < w2.heap.size := by have := hb.size; (try simp at this); omega
      have hw1 : w.heap.size + 1 < w2.heap.size := by have := hb.size; (try simp at this); omega
      have hw2 : w.heap.size + 1 + 1 < w2.heap.size := by have := hb.size; (try simp at this); omega
      have g2 : Below w.heap.size w w2 := g1.trans (hb.mono (by (try simp) <;> (try omega)))
      clear hb g1
      have d2 : w2.cell? ⟨w.heap.size + 1 + 1, 0, none⟩ = some (.float .f64 0) := by go_cell
      have d3 : w2.cell? ⟨w.heap.size + 1 + 1, 1, none⟩ = some (.float .f64 0) := by go_cell
      go_wp2
      exact bodyPost_ret (v := .tuple #[spv x y, .bool true]) (by simp [results, Try.results27, go_sem, d2, d3]) rfl ⟨rfl, by (repeat (first | exact below_self _ _ | assumption | refine below_dn ?_ _ | refine Below.drew ?_ | refine Below.setCell ?_ (by (try simp) <;> (try omega)) _ | refine Below.alloc ?_ (by (try simp) <;> (try omega)) _))⟩
set_option maxHeartbeats 1000000 in
theorem rjoin_any (al ah bl bh : Nat) (w : World) (h1 : al < 18446744073709551616) (h2 : ah < 18446744073709551616) (h3 : bl < 18446744073709551616) (h4 : bh < 18446744073709551616) :
    Calls Try.prog 29 #[spv al ah, spv bl bh] w fun e w' => e = .returned (.tuple #[spv (joinLo al ah bl bh) (joinHi al ah bl bh), .int .i64 (spE2 al ah bl bh)]) ∧ Below w.heap.size w w' := by
  have HA := Lib.hid (fun W => rcheckS_any al ah W h1 h2)
  have HB := Lib.hid (fun W => rcheckS_any bl bh W h3 h4)
  have HG := Lib.hid (fun W => rgreater_any ah bh W)
  have HS := Lib.hid (fun W => rlesser_any al bl W)
  have hsf := @run_store_f Try.prog .f64
  rcases spE_split al ah bl bh with ⟨a, hs⟩ | ⟨a, b, hs⟩ | ⟨a, b, hs⟩
  · rw [a] at HA
    rw [show joinLo al ah bl bh = 0 from if_neg hs, show joinHi al ah bl bh = 0 from if_neg hs, show spE2 al ah bl bh = 1 from if_neg hs]
    clear a hs h1 h2 h3 h4 HB HG HS
    go_enter Try.func29, Try.ntmps29
    go_wp2_with fail
    refine (HA.out _).mono ?_
    rintro e w1 ⟨rfl, hb⟩
    obtain ⟨hc, hf⟩ := bcell hb
    have hz0 : w.heap.size < w1.heap.size := by have := hb.size; (try simp at this); omega
    have hz1 : w.heap.size + 1 < w1.heap.size := by have := hb.size; (try simp at this); omega
    have hz2 : w.heap.size + 1 + 1 < w1.heap.size := by have := hb.size; (try simp at this); omega
    have g1 : Below w.heap.size w w1 := Below.trans (by (repeat (first | exact below_self _ _ | assumption | refine below_dn ?_ _ | refine Below.drew ?_ | refine Below.setCell ?_ (by (try simp) <;> (try omega)) _ | refine Below.alloc ?_ (by (try simp) <;> (try omega)) _))) (hb.mono (by (try simp) <;> (try omega)))
    clear hb
    go_wp2
    exact bodyPost_ret (v := .tuple #[spv 0 0, .int .i64 1]) (by simp [results, Try.results29, go_sem, hc]) rfl ⟨rfl, by (repeat (first | exact below_self _ _ | assumption | refine below_dn ?_ _ | refine Below.drew ?_ | refine Below.setCell ?_ (by (try simp) <;> (try omega)) _ | refine Below.alloc ?_ (by (try simp) <;> (try omega)) _))⟩
  · rw [a] at HA
    rw [b] at HB
    rw [show joinLo al ah bl bh = 0 from if_neg hs, show joinHi al ah bl bh = 0 from if_neg hs, show spE2 al ah bl bh = 1 from if_neg hs]
    clear a b hs h1 h2 h3 h4 HG HS
    go_enter Try.func29, Try.ntmps29
    go_wp2_with fail
    refine (HA.out _).mono ?_
    rintro e w1 ⟨rfl, hb⟩
    obtain ⟨hc, hf⟩ := bcell hb
    have hz0 : w.heap.size < w1.heap.size := by have := hb.size; (try simp at this); omega
    have hz1 : w.heap.size + 1 < w1.heap.size := by have := hb.size; (try simp at this); omega
    have hz2 : w.heap.size + 1 + 1 < w1.heap.size := by have := hb.size; (try simp at this); omega
    have g1 : Below w.heap.size w w1 := Below.trans (by (repeat (first | exact below_self _ _ | assumption | refine below_dn ?_ _ | refine Below.drew ?_ | refine Below.setCell ?_ (by (try simp) <;> (try omega)) _ | refine Below.alloc ?_ (by (try simp) <;> (try omega)) _))) (hb.mono (by (try simp) <;> (try omega)))
    clear hb
    go_wp2_with fail
    refine (HB.out _).mono ?_
    rintro e w2 ⟨rfl, hb⟩
    obtain ⟨hc2, hf2⟩ := bcell hb
    have hw0 : w.heap.size < w2.heap.size := by have := hb.size; (try simp at this); omega
    have hw1 : w.heap.size + 1 < w2.heap.size := by have := hb.size; (try simp at this); omega
    have hw2 : w.heap.size + 1 + 1 < w2.heap.size := by have := hb.size; (try simp at this); omega
    have g2 : Below w.heap.size w w2 := g1.trans (hb.mono (by (try simp) <;> (try omega)))
    clear hb g1
    have d2 : w2.cell? ⟨w.heap.size + 1 + 1, 0, none⟩ = some (.float .f64 0) := by go_cell
    have d3 : w2.cell? ⟨w.heap.size + 1 + 1, 1, none⟩ = some (.float .f64 0) := by go_cell
    go_wp2
    exact bodyPost_ret (v := .tuple #[spv 0 0, .int .i64 1]) (by simp [results, Try.results29, go_sem, d2, d3]) rfl ⟨rfl, by (repeat (first | exact below_self _ _ | assumption | refine below_dn ?_ _ | refine Below.drew ?_ | refine Below.setCell ?_ (by (try simp) <;> (try omega)) _ | refine Below.alloc ?_ (by (try simp) <;> (try omega)) _))⟩
  · rw [a] at HA
    rw [b] at HB
    rw [rgr_is h2 h4 (Nat.le_of_lt hs.1.2.1) (Nat.le_of_lt hs.2.2.1)] at HG
    rw [rls_is h1 h3 (Nat.le_of_lt hs.1.1) (Nat.le_of_lt hs.2.1)] at HS
    rw [show joinLo al ah bl bh = pls (fmin al bl) from if_pos hs, show joinHi al ah bl bh = pls (fmax ah bh) from if_pos hs, show spE2 al ah bl bh = 0 from if_pos hs]
    generalize pls (fmin al bl) = x at *
    generalize pls (fmax ah bh) = y at *
    clear a b hs h1 h2 h3 h4
    go_enter Try.func29, Try.ntmps29
    go_wp2_with fail
    refine (HA.out _).mono ?_
    rintro e w1 ⟨rfl, hb⟩
    obtain ⟨hc, hf⟩ := bcell hb
    have hz0 : w.heap.size < w1.heap.size := by have := hb.size; (try simp at this); omega
    have hz1 : w.heap.size + 1 < w1.heap.size := by have := hb.size; (try simp at this); omega
    have hz2 : w.heap.size + 1 + 1 < w1.heap.size := by have := hb.size; (try simp at this); omega
    have g1 : Below w.heap.size w w1 := Below.trans (by (repeat (first | exact below_self _ _ | assumption | refine below_dn ?_ _ | refine Below.drew ?_ | refine Below.setCell ?_ (by (try simp) <;> (try omega)) _ | refine Below.alloc ?_ (by (try simp) <;> (try omega)) _))) (hb.mono (by (try simp) <;> (try omega)))
    clear hb
    go_wp2_with fail
    refine (HB.out _).mono ?_
    rintro e w2 ⟨rfl, hb⟩
    obtain ⟨hc2, hf2⟩ := bcell hb
    have hw0 : w.heap.size < w2.heap.size := by have := hb.size; (try simp at this); omega
    have hw1 : w.heap.size + 1 < w2.heap.size := by have := hb.size; (try simp at this); omega
    have hw2 : w.heap.size + 1 + 1 < w2.heap.size := by have := hb.size; (try simp at this); omega
    have g2 : Below w.heap.size w w2 := g1.trans (hb.mono (by (try simp) <;> (try omega)))
    clear hb g1
    have d2 : w2.cell? ⟨w.heap.size + 1 + 1, 0, none⟩ = some (.float .f64 0) := by go_cell
    have d3 : w2.cell? ⟨w.heap.size + 1 + 1, 1, none⟩ = some (.float .f64 0) := by go_cell
    have c0 : w2.cell? ⟨w.heap.size, 0, none⟩ = some (.float .f64 al) := by go_cell
    have c1 : w2.cell? ⟨w.heap.size, 1, none⟩ = some (.float .f64 ah) := by go_cell
    have c2 : w2.cell? ⟨w.heap.size + 1, 0, none⟩ = some (.float .f64 bl) := by go_cell
    have c3 : w2.cell? ⟨w.heap.size + 1, 1, none⟩ = some (.float .f64 bh) := by go_cell
    have f2 : w2.frozen? ⟨w.heap.size + 1 + 1, 0, none⟩ = false := by go_cell
    have f3 : w2.frozen? ⟨w.heap.size + 1 + 1, 1, none⟩ = false := by go_cell
    clear hc hf hc2 hf2
    go_wp2
    go_region_held3 (fun wx => (wx.cell? ⟨w.heap.size, 0, none⟩ = some (.float .f64 al) ∧ wx.cell? ⟨w.heap.size, 1, none⟩ = some (.float .f64 ah)) ∧ wx.cell? ⟨w.heap.size + 1, 0, none⟩ = some (.float .f64 bl) ∧ wx.cell? ⟨w.heap.size + 1, 1, none⟩ = some (.float .f64 bh))
      (first | assumption | exact ⟨⟨by go_cell, by go_cell⟩, by go_cell, by go_cell⟩)
      (first
        | (go_at_call 73; refine (HS.out _).mono ?_; rintro e w' ⟨rfl, rfl⟩)
        | (go_at_call 72; refine (HG.out _).mono ?_; rintro e w' ⟨rfl, rfl⟩))
    go_wp2
    exact bodyPost_ret (v := .tuple #[spv x y, .int .i64 0]) (by simp [results, Try.results29, go_sem, d2, d3]) rfl ⟨rfl, by (repeat (first | exact below_self _ _ | assumption | refine below_dn ?_ _ | refine Below.drew ?_ | refine Below.setCell ?_ (by (try simp) <;> (try omega)) _ | refine Below.alloc ?_ (by (try simp) <;> (try omega)) _))⟩
end Go.Proofs.Ytffjkfjokikhnaa.Fl
