/-
  What span's Sub returns, and Quo. Condition: floats of 64 bits.
-/
import Derived.Test.YtghcoijinihlnaaSqs
import Derived.Test.YtghcoijinihlnaaSqq
import Derived.Test.YtghcoijinihlnaaSp7
namespace Go.Proofs.Ytghcoijinihlnaa.Fl
open Go.RowKit Ieee
theorem dif_call {x y : Nat} (W : World) (hx : x < 18446744073709551616) (hy : y < 18446744073709551616) (fx : mg x < 9218868437227405312) (fy : mg y < 9218868437227405312) :
    Calls Try.prog 34 #[.float .f64 x, .float .f64 y] W fun e w' => ∃ d u, e = .returned (.tuple #[.float .f64 d, .float .f64 u]) ∧ Below W.heap.size W w' ∧ Flt d ∧ Flt u ∧ DifIs x y d u := by
  obtain ⟨r, hr⟩ := add_fin fx (y := ngf y) (by rw [(ngf_is hy).1]; exact fy)
  refine (sub_any x y W hx hy).mono ?_
  rintro e w' ⟨d, u, he, hb, h⟩
  rw [(add_fop hr W).1] at h
  exact ⟨d, u, he, hb, (add_flt hr h).1, (add_flt hr h).2, r, hr, h⟩
theorem quo_call {x y : Nat} (W : World) (hx : x < 18446744073709551616) (hy : y < 18446744073709551616) (fx : mg x < 9218868437227405312) (fy : mg y < 9218868437227405312) (y0 : 0 < mg y) :
    Calls Try.prog 33 #[.float .f64 x, .float .f64 y] W fun e w' => ∃ d u, e = .returned (.tuple #[.float .f64 d, .float .f64 u]) ∧ Below W.heap.size W w' ∧ Flt d ∧ Flt u ∧ QuotIs x y d u := by
  obtain ⟨r, hr⟩ := div_fin fx fy y0
  refine (quo_any x y W hx hy).mono ?_
  rintro e w' ⟨d, u, he, hb, h⟩
  rw [(fop_some (op := .quo) hr W).1] at h
  have ht := div_told hr
  have hf := op_flt ⟨ht.2, ht.1⟩ h
  exact ⟨d, u, he, hb, hf.1, hf.2, r, hr, h⟩
theorem recka_sub (al ah bl bh : Nat) (w : World) (h1 : al < 18446744073709551616) (h2 : ah < 18446744073709551616) (h3 : bl < 18446744073709551616) (h4 : bh < 18446744073709551616) :
    Calls Try.prog 31 #[.func (.func 34) #[] #[], spv al ah, spv bl bh] w fun e w' => SpRes DifIs al ah bl bh e ∧ Below w.heap.size w w' := by
  by_cases hs : Spn al ah ∧ Spn bl bh
  · refine (reckon_sub al ah bl bh w DifIs h1 h3 hs (fun x y W hx hy => ?_)).mono ?_
    · have px : x < 18446744073709551616 ∧ mg x < 9218868437227405312 := by
        rcases hx with rfl | rfl
        · exact ⟨h1, hs.1.1⟩
        · exact ⟨h2, hs.1.2.1⟩
      have py : y < 18446744073709551616 ∧ mg y < 9218868437227405312 := by
        rcases hy with rfl | rfl
        · exact ⟨h3, hs.2.1⟩
        · exact ⟨h4, hs.2.2.1⟩
      exact dif_call W px.1 py.1 px.2 py.2
    · rintro e w' ⟨d1, u1, d2, u2, d3, u3, d4, u4, a, b, he, hb⟩
      exact ⟨.inr ⟨hs, d1, u1, d2, u2, d3, u3, d4, u4, a, b, he⟩, hb⟩
  · refine (reckon_no _ al ah bl bh w h1 h3 hs).mono ?_
    rintro e w' ⟨he, hb⟩
    exact ⟨.inl ⟨hs, he⟩, hb⟩
set_option maxHeartbeats 1000000 in
theorem spansub_any (al ah bl bh : Nat) (w : World) (h1 : al < 18446744073709551616) (h2 : ah < 18446744073709551616) (h3 : bl < 18446744073709551616) (h4 : bh < 18446744073709551616) :
    Calls Try.prog 18 #[spv al ah, spv bl bh] w fun e w' => SpRes DifIs al ah bl bh e ∧ Below w.heap.size w w' := by
  have HR := Lib.hid (fun W => recka_sub al ah bl bh W h1 h2 h3 h4)
  have hsf := @run_store_f Try.prog .f64
  clear h1 h2 h3 h4
  go_enter Try.func18, Try.ntmps18
  go_wp2_with fail
  refine (HR.out _).mono ?_
  rintro e w1 ⟨hres, hb⟩
  obtain ⟨l, h, er, rfl⟩ := spRes_form hres
  have HE := Lib.hid hres
  obtain ⟨hc, hf⟩ := bcell hb
  have hz0 : w.heap.size < w1.heap.size := by have := hb.size; (try simp at this); omega
  have hz1 : w.heap.size + 1 < w1.heap.size := by have := hb.size; (try simp at this); omega
  have hz2 : w.heap.size + 1 + 1 < w1.heap.size := by have := hb.size; (try simp at this); omega
  have g1 : Below w.heap.size w w1 := Below.trans (by (repeat (first | exact below_self _ _ | assumption | refine below_dn ?_ _ | refine Below.drew ?_ | refine Below.setCell ?_ (by (try simp) <;> (try omega)) _ | refine Below.alloc ?_ (by (try simp) <;> (try omega)) _))) (hb.mono (by (try simp) <;> (try omega)))
  have d2 : w1.cell? ⟨w.heap.size + 1 + 1, 0, none⟩ = some (.float .f64 0) := by go_cell
  have d3 : w1.cell? ⟨w.heap.size + 1 + 1, 1, none⟩ = some (.float .f64 0) := by go_cell
  clear hb hres
  go_wp2
  exact bodyPost_ret (v := .tuple #[spv l h, .int .i64 er]) (by simp [results, Try.results18, go_sem, d2, d3]) rfl ⟨HE.out, by (repeat (first | exact below_self _ _ | assumption | refine below_dn ?_ _ | refine Below.drew ?_ | refine Below.setCell ?_ (by (try simp) <;> (try omega)) _ | refine Below.alloc ?_ (by (try simp) <;> (try omega)) _))⟩
/-- The ends of a span without nought: of one sign, and no noughts. -/
theorem no_nought {l h : Nat} (hs : Spn l h) (hn : hasN l h = false) : ∃ sg, (0 < mg l ∧ ng l = sg) ∧ (0 < mg h ∧ ng h = sg) := by
  have k : ¬ (key l ≤ 0 ∧ 0 ≤ key h) := fun k => by unfold hasN at hn; rw [decide_eq_true k] at hn; cases hn
  have hk := hs.2.2
  rcases Int.lt_or_le 0 (key l) with g | g
  · refine ⟨false, ?_, ?_⟩
    · unfold key at g; split at g
      · omega
      · rename_i q; exact ⟨by omega, by simpa using q⟩
    · have g : 0 < key h := by omega
      unfold key at g; split at g
      · omega
      · rename_i q; exact ⟨by omega, by simpa using q⟩
  · have g' : key h < 0 := by omega
    have g : key l < 0 := by omega
    refine ⟨true, ?_, ?_⟩
    · unfold key at g; split at g
      · rename_i q; exact ⟨by omega, q⟩
      · omega
    · unfold key at g'; split at g'
      · rename_i q; exact ⟨by omega, q⟩
      · omega
theorem recka_quo (al ah bl bh : Nat) (w : World) (h1 : al < 18446744073709551616) (h2 : ah < 18446744073709551616) (h3 : bl < 18446744073709551616) (h4 : bh < 18446744073709551616) (hn : Spn al ah ∧ Spn bl bh → hasN bl bh = false) :
    Calls Try.prog 31 #[.func (.func 33) #[] #[], spv al ah, spv bl bh] w fun e w' => SpRes QuotIs al ah bl bh e ∧ Below w.heap.size w w' := by
  by_cases hs : Spn al ah ∧ Spn bl bh
  · obtain ⟨sg, n1, n2⟩ := no_nought hs.2 (hn hs)
    refine (reckon_quo al ah bl bh w QuotIs h1 h3 hs (fun x y W hx hy => ?_)).mono ?_
    · have px : x < 18446744073709551616 ∧ mg x < 9218868437227405312 := by
        rcases hx with rfl | rfl
        · exact ⟨h1, hs.1.1⟩
        · exact ⟨h2, hs.1.2.1⟩
      have py : y < 18446744073709551616 ∧ mg y < 9218868437227405312 ∧ 0 < mg y := by
        rcases hy with rfl | rfl
        · exact ⟨h3, hs.2.1, n1.1⟩
        · exact ⟨h4, hs.2.2.1, n2.1⟩
      exact quo_call W px.1 py.1 px.2 py.2.1 py.2.2
    · rintro e w' ⟨d1, u1, d2, u2, d3, u3, d4, u4, a, b, he, hb⟩
      exact ⟨.inr ⟨hs, d1, u1, d2, u2, d3, u3, d4, u4, a, b, he⟩, hb⟩
  · refine (reckon_no _ al ah bl bh w h1 h3 hs).mono ?_
    rintro e w' ⟨he, hb⟩
    exact ⟨.inl ⟨hs, he⟩, hb⟩
set_option maxHeartbeats 1000000 in
theorem spanquo_no (al ah bl bh : Nat) (w : World) (h1 : al < 18446744073709551616) (h2 : ah < 18446744073709551616) (h3 : bl < 18446744073709551616) (h4 : bh < 18446744073709551616) (hs : ¬ (Spn al ah ∧ Spn bl bh)) :
    Calls Try.prog 17 #[spv al ah, spv bl bh] w fun e w' => SpRes QuotIs al ah bl bh e ∧ Below w.heap.size w w' := by
  have HC := Lib.hid (fun g W k k0 k1 k2 k3 => check_two g al ah bl bh W h1 h3 k k0 k1 k2 k3)
  have HR := Lib.hid (fun W => recka_quo al ah bl bh W h1 h2 h3 h4 (fun k => absurd k hs))
  have hsf := @run_store_f Try.prog .f64
  have e3 : spE2 al ah bl bh = 1 := if_neg hs
  rw [e3] at HC
  clear e3 hs h1 h2 h3 h4 
  go_enter Try.func17, Try.ntmps17
  go_wp2_with fail
  refine (HC.out _ _ (by simp) (by go_cell) (by go_cell) (by go_cell) (by go_cell)).mono ?_
  rintro e w1 ⟨rfl, hb⟩
  obtain ⟨hc, hf⟩ := bcell hb
  have hz0 : w.heap.size < w1.heap.size := by have := hb.size; (try simp at this); omega
  have hz1 : w.heap.size + 1 < w1.heap.size := by have := hb.size; (try simp at this); omega
  have hz2 : w.heap.size + 1 + 1 < w1.heap.size := by have := hb.size; (try simp at this); omega
  have g1 : Below w.heap.size w w1 := Below.trans (by (repeat (first | exact below_self _ _ | assumption | refine below_dn ?_ _ | refine Below.drew ?_ | refine Below.setCell ?_ (by (try simp) <;> (try omega)) _ | refine Below.alloc ?_ (by (try simp) <;> (try omega)) _))) (hb.mono (by (try simp) <;> (try omega)))
  clear hb

  go_wp2_with fail
  refine (HR.out _).mono ?_
  rintro e wr ⟨hres, hb⟩
  obtain ⟨l, h, er, rfl⟩ := spRes_form hres
  have HE := Lib.hid hres
  obtain ⟨hcr, hfr⟩ := bcell hb
  have hr0 : w.heap.size < wr.heap.size := by have := hb.size; (try simp at this); omega
  have hr1 : w.heap.size + 1 < wr.heap.size := by have := hb.size; (try simp at this); omega
  have hr2 : w.heap.size + 1 + 1 < wr.heap.size := by have := hb.size; (try simp at this); omega
  have gr : Below w.heap.size w wr := Below.trans g1 (hb.mono (by (try simp) <;> (try omega)))
  have d2 : wr.cell? ⟨w.heap.size + 1 + 1, 0, none⟩ = some (.float .f64 0) := by go_cell
  have d3 : wr.cell? ⟨w.heap.size + 1 + 1, 1, none⟩ = some (.float .f64 0) := by go_cell
  clear hb hres
  go_wp2
  exact bodyPost_ret (v := .tuple #[spv l h, .int .i64 er]) (by simp [results, Try.results17, go_sem, d2, d3]) rfl ⟨HE.out, by (repeat (first | exact below_self _ _ | assumption | refine below_dn ?_ _ | refine Below.drew ?_ | refine Below.setCell ?_ (by (try simp) <;> (try omega)) _ | refine Below.alloc ?_ (by (try simp) <;> (try omega)) _))⟩
set_option maxHeartbeats 1000000 in
theorem spanquo_do (al ah bl bh : Nat) (w : World) (h1 : al < 18446744073709551616) (h2 : ah < 18446744073709551616) (h3 : bl < 18446744073709551616) (h4 : bh < 18446744073709551616) (hs : Spn al ah ∧ Spn bl bh) (hn : hasN bl bh = false) :
    Calls Try.prog 17 #[spv al ah, spv bl bh] w fun e w' => SpRes QuotIs al ah bl bh e ∧ Below w.heap.size w w' := by
  have HC := Lib.hid (fun g W k k0 k1 k2 k3 => check_two g al ah bl bh W h1 h3 k k0 k1 k2 k3)
  have HR := Lib.hid (fun W => recka_quo al ah bl bh W h1 h2 h3 h4 (fun _ => hn))
  have HN := Lib.hid (fun W => hasNought_any bl bh W hs.2)
  rw [hn] at HN
  have hsf := @run_store_f Try.prog .f64
  have e3 : spE2 al ah bl bh = 0 := if_pos hs
  rw [e3] at HC
  clear e3 hs h1 h2 h3 h4 hn
  go_enter Try.func17, Try.ntmps17
  go_wp2_with fail
  refine (HC.out _ _ (by simp) (by go_cell) (by go_cell) (by go_cell) (by go_cell)).mono ?_
  rintro e w1 ⟨rfl, hb⟩
  obtain ⟨hc, hf⟩ := bcell hb
  have hz0 : w.heap.size < w1.heap.size := by have := hb.size; (try simp at this); omega
  have hz1 : w.heap.size + 1 < w1.heap.size := by have := hb.size; (try simp at this); omega
  have hz2 : w.heap.size + 1 + 1 < w1.heap.size := by have := hb.size; (try simp at this); omega
  have g1 : Below w.heap.size w w1 := Below.trans (by (repeat (first | exact below_self _ _ | assumption | refine below_dn ?_ _ | refine Below.drew ?_ | refine Below.setCell ?_ (by (try simp) <;> (try omega)) _ | refine Below.alloc ?_ (by (try simp) <;> (try omega)) _))) (hb.mono (by (try simp) <;> (try omega)))
  clear hb
  go_wp2_with fail
  refine (HN.out _).mono ?_
  rintro e w2 ⟨rfl, hb⟩
  obtain ⟨hc2, hf2⟩ := bcell hb
  have hw0 : w.heap.size < w2.heap.size := by have := hb.size; (try simp at this); omega
  have hw1 : w.heap.size + 1 < w2.heap.size := by have := hb.size; (try simp at this); omega
  have hw2 : w.heap.size + 1 + 1 < w2.heap.size := by have := hb.size; (try simp at this); omega
  have g2 : Below w.heap.size w w2 := g1.trans (hb.mono (by (try simp) <;> (try omega)))
  clear hb g1
  go_wp2_with fail
  refine (HR.out _).mono ?_
  rintro e wr ⟨hres, hb⟩
  obtain ⟨l, h, er, rfl⟩ := spRes_form hres
  have HE := Lib.hid hres
  obtain ⟨hcr, hfr⟩ := bcell hb
  have hr0 : w.heap.size < wr.heap.size := by have := hb.size; (try simp at this); omega
  have hr1 : w.heap.size + 1 < wr.heap.size := by have := hb.size; (try simp at this); omega
  have hr2 : w.heap.size + 1 + 1 < wr.heap.size := by have := hb.size; (try simp at this); omega
  have gr : Below w.heap.size w wr := Below.trans g2 (hb.mono (by (try simp) <;> (try omega)))
  have d2 : wr.cell? ⟨w.heap.size + 1 + 1, 0, none⟩ = some (.float .f64 0) := by go_cell
  have d3 : wr.cell? ⟨w.heap.size + 1 + 1, 1, none⟩ = some (.float .f64 0) := by go_cell
  clear hb hres
  go_wp2
  exact bodyPost_ret (v := .tuple #[spv l h, .int .i64 er]) (by simp [results, Try.results17, go_sem, d2, d3]) rfl ⟨HE.out, by (repeat (first | exact below_self _ _ | assumption | refine below_dn ?_ _ | refine Below.drew ?_ | refine Below.setCell ?_ (by (try simp) <;> (try omega)) _ | refine Below.alloc ?_ (by (try simp) <;> (try omega)) _))⟩
/-- What span.Quo answers. -/
def QuRes (al ah bl bh : Nat) (e : Ending) : Prop :=
  ((Spn al ah ∧ Spn bl bh) ∧ hasN bl bh = true ∧ e = .returned (.tuple #[spv 0 0, .int .i64 3])) ∨ ((Spn al ah ∧ Spn bl bh → hasN bl bh = false) ∧ SpRes QuotIs al ah bl bh e)
theorem spanquo_any (al ah bl bh : Nat) (w : World) (h1 : al < 18446744073709551616) (h2 : ah < 18446744073709551616) (h3 : bl < 18446744073709551616) (h4 : bh < 18446744073709551616) :
    Calls Try.prog 17 #[spv al ah, spv bl bh] w fun e w' => QuRes al ah bl bh e ∧ Below w.heap.size w w' := by
  by_cases hs : Spn al ah ∧ Spn bl bh
  · cases hn : hasN bl bh with
    | true => exact (spanquo_zero al ah bl bh w h1 h3 hs hn).mono fun e w' ⟨h, hb⟩ => ⟨.inl ⟨hs, hn, h⟩, hb⟩
    | false => exact (spanquo_do al ah bl bh w h1 h2 h3 h4 hs hn).mono fun e w' ⟨h, hb⟩ => ⟨.inr ⟨fun _ => hn, h⟩, hb⟩
  · exact (spanquo_no al ah bl bh w h1 h2 h3 h4 hs).mono fun e w' ⟨h, hb⟩ => ⟨.inr ⟨fun k => absurd k hs, h⟩, hb⟩
theorem quRes_form {al ah bl bh : Nat} {e : Ending} (h : QuRes al ah bl bh e) : ∃ (l h' : Nat) (er : Int), e = .returned (.tuple #[spv l h', .int .i64 er]) := by
  rcases h with ⟨_, _, h⟩ | ⟨_, h⟩
  · exact ⟨_, _, _, h⟩
  · exact spRes_form h
end Go.Proofs.Ytghcoijinihlnaa.Fl
