/-
  What span's hasNought returns, and Quo where the divisor has nought; the statements' fixed examples of spans are as the document has them. Condition: floats of 64 bits.
-/
import Derived.Test.YtghcoijinihlnaaSp6
namespace Go.Proofs.Ytghcoijinihlnaa.Fl
open Go.RowKit Ieee
theorem key_zero : key 0 = 0 := by decide
/-- Has a span nought? -/
def hasN (l h : Nat) : Bool := decide (key l ≤ 0 ∧ 0 ≤ key h)
set_option maxHeartbeats 400000 in
theorem hasNought_any (l h : Nat) (w : World) (hs : Spn l h) :
    Calls Try.prog 22 #[spv l h] w fun e w' => e = .returned (.bool (hasN l h)) ∧ Below w.heap.size w w' := by
  have e1 := ord_le l 0
  have e2 := ord_le 0 h
  have f1 : decide (mg l ≤ 9218868437227405312 ∧ mg 0 ≤ 9218868437227405312 ∧ key l ≤ key 0) = decide (key l ≤ 0) := decide_eq_decide.2 (by rw [key_zero]; have := hs.1; have : mg 0 = 0 := (by decide); omega)
  have f2 : decide (mg 0 ≤ 9218868437227405312 ∧ mg h ≤ 9218868437227405312 ∧ key 0 ≤ key h) = decide (0 ≤ key h) := decide_eq_decide.2 (by rw [key_zero]; have := hs.2.1; have : mg 0 = 0 := (by decide); omega)
  rw [f1] at e1
  rw [f2] at e2
  have e3 : hasN l h = (decide (key l ≤ 0) && decide (0 ≤ key h)) := by unfold hasN; rw [← Bool.decide_and]
  rw [e3]
  clear f1 f2 hs e3
  obtain ⟨p, hp⟩ : ∃ p, decide (key l ≤ 0) = p := ⟨_, rfl⟩
  obtain ⟨q, hq⟩ : ∃ q, decide (0 ≤ key h) = q := ⟨_, rfl⟩
  rw [hp] at e1 ⊢
  rw [hq] at e2 ⊢
  clear hp hq
  cases p <;> (
  go_enter Try.func22, Try.ntmps22
  go_wp2
  go_ret
  exact ⟨rfl, by (repeat (first | exact below_self _ _ | assumption | refine below_dn ?_ _ | refine Below.drew ?_ | refine Below.setCell ?_ (by (try simp) <;> (try omega)) _ | refine Below.alloc ?_ (by (try simp) <;> (try omega)) _))⟩)
set_option maxHeartbeats 1000000 in
theorem spanquo_zero (al ah bl bh : Nat) (w : World) (h1 : al < 18446744073709551616) (h3 : bl < 18446744073709551616) (hs : Spn al ah ∧ Spn bl bh) (hz : hasN bl bh = true) :
    Calls Try.prog 17 #[spv al ah, spv bl bh] w fun e w' => e = .returned (.tuple #[spv 0 0, .int .i64 3]) ∧ Below w.heap.size w w' := by
  have HC := Lib.hid (fun g W k k0 k1 k2 k3 => check_two g al ah bl bh W h1 h3 k k0 k1 k2 k3)
  have HN := Lib.hid (fun W => hasNought_any bl bh W hs.2)
  have hsf := @run_store_f Try.prog .f64
  have e3 : spE2 al ah bl bh = 0 := if_pos hs
  rw [e3] at HC
  rw [hz] at HN
  clear e3 hs h1 h3 hz
  go_enter Try.func17, Try.ntmps17
  go_wp2_with fail
  refine (HC.out _ _ (by simp) (by go_cell) (by go_cell) (by go_cell) (by go_cell)).mono ?_
  rintro e w1 ⟨rfl, hb⟩
  obtain ⟨hc, hf⟩ := bcell hb
  have hz0 : w.heap.size < w1.heap.size := by have := hb.size; (try simp at this); omega
  have hz1 : w.heap.size + 1 < w1.heap.size := by have := hb.size; (try simp at this); omega
  have hz2 : w.heap.size + 1 + 1 < w1.heap.size := by have := hb.size; (try simp at this); omega
  have g1 : Below w.heap.size w w1 := Below.trans (by (repeat (first | exact below_self _ _ | assumption | refine below_dn ?_ _ | refine Below.drew ?_ | refine Below.setCell ?_ (by (try simp) <;> (try omega)) _ | refine Below.alloc ?_ (by (try simp) <;> (try omega)) _))) (hb.mono (by (try simp) <;> (try omega)))
  clear hb
  go_wp2_with fail
  refine (HN.out _).mono ?_
  rintro e w2 ⟨rfl, hb⟩
  obtain ⟨hc2, hf2⟩ := bcell hb
  have hw0 : w.heap.size < w2.heap.size := by have := hb.size; (try simp at this); omega
  have hw1 : w.heap.size + 1 < w2.heap.size := by have := hb.size; (try simp at this); omega
  have hw2 : w.heap.size + 1 + 1 < w2.heap.size := by have := hb.size; (try simp at this); omega
  have g2 : Below w.heap.size w w2 := g1.trans (hb.mono (by (try simp) <;> (try omega)))
  clear hb g1
  have d2 : w2.cell? ⟨w.heap.size + 1 + 1, 0, none⟩ = some (.float .f64 0) := by go_cell
  have d3 : w2.cell? ⟨w.heap.size + 1 + 1, 1, none⟩ = some (.float .f64 0) := by go_cell
  go_wp2
  exact bodyPost_ret (v := .tuple #[spv 0 0, .int .i64 3]) (by simp [results, Try.results17, go_sem, d2, d3]) rfl ⟨rfl, by (repeat (first | exact below_self _ _ | assumption | refine below_dn ?_ _ | refine Below.drew ?_ | refine Below.setCell ?_ (by (try simp) <;> (try omega)) _ | refine Below.alloc ?_ (by (try simp) <;> (try omega)) _))⟩
set_option maxHeartbeats 2000000 in
theorem lives_any (w : World) : Calls Try.prog 5 #[] w fun e w' => e = .returned (.bool true) ∧ Below w.heap.size w w' := by
  have H1 : Hid (∀ W, Calls Try.prog 15 #[spv 4607182418800017408 4611686018427387904, spv 4621819117588971520 4626322717216342016] W fun e w' => e = .returned (.tuple #[spv 4622382067542392832 4626885667169763328, .int .i64 0]) ∧ Below W.heap.size W w') :=
    Lib.hid fun W => (spanadd_any _ _ _ _ W (by decide) (by decide) (by decide) (by decide)).mono fun e w' ⟨h, hb⟩ => ⟨res_sum h, hb⟩
  have H2 : Hid (∀ W, Calls Try.prog 16 #[spv 13830554455654793216 4611686018427387904, spv 13837309855095848960 4616189618054758400] W fun e w' => e = .returned (.tuple #[spv 13841813454723219456 4620693217682128896, .int .i64 0]) ∧ Below W.heap.size W w') :=
    Lib.hid fun W => (spanmul_any _ _ _ _ W (by decide) (by decide) (by decide) (by decide)).mono fun e w' ⟨h, hb⟩ => ⟨res_pro h, hb⟩
  have H3 : Hid (∀ W, Calls Try.prog 17 #[spv 4607182418800017408 4611686018427387904, spv 13830554455654793216 4607182418800017408] W fun e w' => e = .returned (.tuple #[spv 0 0, .int .i64 3]) ∧ Below W.heap.size W w') :=
    Lib.hid fun W => spanquo_zero _ _ _ _ W (by decide) (by decide) (by decide +kernel) (by decide +kernel)
  have H4 : Hid (∀ W, Calls Try.prog 7 #[spv 4607182418800017408 4611686018427387904, spv 4607182418800017408 4611686018427387904] W fun e w' => e = .returned (.bool true) ∧ Below W.heap.size W w') :=
    Lib.hid fun W => (in_any _ _ _ _ W (by decide) (by decide)).mono fun e w' ⟨h, hb⟩ => ⟨h.trans (by rw [show spIn 4607182418800017408 4611686018427387904 4607182418800017408 4611686018427387904 = true by decide +kernel]), hb⟩
  have H5 : Hid (∀ W, Calls Try.prog 7 #[spv 4621819117588971520 4626322717216342016, spv 4607182418800017408 4611686018427387904] W fun e w' => e = .returned (.bool false) ∧ Below W.heap.size W w') :=
    Lib.hid fun W => (in_any _ _ _ _ W (by decide) (by decide)).mono fun e w' ⟨h, hb⟩ => ⟨h.trans (by rw [show spIn 4621819117588971520 4626322717216342016 4607182418800017408 4611686018427387904 = false by decide +kernel]), hb⟩
  have hsf := @run_store_f Try.prog .f64
  have o1 : (FloatKind.f64.format.order 4622382067542392832 4622382067542392832 == some .eq) = true := by decide +kernel
  have o2 : (FloatKind.f64.format.order 4626885667169763328 4626885667169763328 == some .eq) = true := by decide +kernel
  have o3 : (FloatKind.f64.format.order 13841813454723219456 13841813454723219456 == some .eq) = true := by decide +kernel
  have o4 : (FloatKind.f64.format.order 4620693217682128896 4620693217682128896 == some .eq) = true := by decide +kernel
  go_enter Try.func5, Try.ntmps5
  go_wp2_with fail
  refine (H1.out _).mono ?_
  rintro e w1 ⟨rfl, hb⟩
  obtain ⟨hc, hf⟩ := bcell hb
  have ha0 : w.heap.size < w1.heap.size := by have := hb.size; (try simp at this); omega
  have ha1 : w.heap.size + 1 < w1.heap.size := by have := hb.size; (try simp at this); omega
  have g1 : Below w.heap.size w w1 := Below.trans (by (repeat (first | exact below_self _ _ | assumption | refine below_dn ?_ _ | refine Below.drew ?_ | refine Below.setCell ?_ (by (try simp) <;> (try omega)) _ | refine Below.alloc ?_ (by (try simp) <;> (try omega)) _))) (hb.mono (by (try simp) <;> (try omega)))
  clear hb
  go_wp2_with fail
  refine (H2.out _).mono ?_
  rintro e w2 ⟨rfl, hb⟩
  obtain ⟨hc2, hf2⟩ := bcell hb
  have hb0 : w.heap.size < w2.heap.size := by have := hb.size; (try simp at this); omega
  have hb1 : w.heap.size + 1 < w2.heap.size := by have := hb.size; (try simp at this); omega
  have hb2 : w1.heap.size < w2.heap.size := by have := hb.size; (try simp at this); omega
  have g2 : Below w.heap.size w w2 := Below.trans (by (repeat (first | exact below_self _ _ | assumption | refine below_dn ?_ _ | refine Below.drew ?_ | refine Below.setCell ?_ (by (try simp) <;> (try omega)) _ | refine Below.alloc ?_ (by (try simp) <;> (try omega)) _))) (hb.mono (by (try simp) <;> (try omega)))
  clear hb
  go_wp2_with fail
  refine (H3.out _).mono ?_
  rintro e w3 ⟨rfl, hb⟩
  obtain ⟨hc3, hf3⟩ := bcell hb
  have hd0 : w.heap.size < w3.heap.size := by have := hb.size; (try simp at this); omega
  have hd1 : w.heap.size + 1 < w3.heap.size := by have := hb.size; (try simp at this); omega
  have hd2 : w1.heap.size < w3.heap.size := by have := hb.size; (try simp at this); omega
  have hd3 : w2.heap.size < w3.heap.size := by have := hb.size; (try simp at this); omega
  have g3 : Below w.heap.size w w3 := Below.trans (by (repeat (first | exact below_self _ _ | assumption | refine below_dn ?_ _ | refine Below.drew ?_ | refine Below.setCell ?_ (by (try simp) <;> (try omega)) _ | refine Below.alloc ?_ (by (try simp) <;> (try omega)) _))) (hb.mono (by (try simp) <;> (try omega)))
  clear hb
  go_wp2_with fail
  refine (H4.out _).mono ?_
  rintro e w4 ⟨rfl, hb⟩
  obtain ⟨hc4, hf4⟩ := bcell hb
  have he0 : w.heap.size < w4.heap.size := by have := hb.size; (try simp at this); omega
  have he1 : w.heap.size + 1 < w4.heap.size := by have := hb.size; (try simp at this); omega
  have g4 : Below w.heap.size w w4 := Below.trans (by (repeat (first | exact below_self _ _ | assumption | refine below_dn ?_ _ | refine Below.drew ?_ | refine Below.setCell ?_ (by (try simp) <;> (try omega)) _ | refine Below.alloc ?_ (by (try simp) <;> (try omega)) _))) (hb.mono (by (try simp) <;> (try omega)))
  clear hb
  go_wp2_with fail
  refine (H5.out _).mono ?_
  rintro e w5 ⟨rfl, hb⟩
  have g5 : Below w.heap.size w w5 := g4.trans (hb.mono (by (try simp) <;> (try omega)))
  clear hb
  go_wp2
  go_ret
  exact ⟨rfl, g5⟩
end Go.Proofs.Ytghcoijinihlnaa.Fl
