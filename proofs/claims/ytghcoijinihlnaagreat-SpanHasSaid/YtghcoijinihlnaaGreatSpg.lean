/-
  What span's Add, Sub, Mul, Quo return; spans that have nought; the corners of exact results. Conditions: floats of 64 bits.
-/
import Derived.Test.YtghcoijinihlnaaGreatSqg
import Derived.Test.YtghcoijinihlnaaGreatExu
namespace Go.Proofs.YtghcoijinihlnaaGreat.Fl
open Go.RowKit Ieee
/-- What an operation of two floats answers. -/
def SumIs (x y d u : Nat) : Prop := ∃ r, double.add x y = some r ∧ AddIs x y r d u
def DifIs (x y d u : Nat) : Prop := ∃ r, double.add x (ngf y) = some r ∧ AddIs x (ngf y) r d u
def ProIs (x y d u : Nat) : Prop := ∃ r, double.mul x y = some r ∧ OpIs x y r (MulLost x y r) d u
def QuotIs (x y d u : Nat) : Prop := ∃ r, double.div x y = some r ∧ OpIs x y r (QuoLost x y r) d u
theorem lohi_flt {r : Nat} (l : Nat) (hr : r < 18446744073709551616) (hm : mg r ≤ 9218868437227405312) : Flt (lo r l) ∧ Flt (hi r l) := by
  rcases lohi_cases r l hm with ⟨e1, e2⟩ | ⟨k, hk, _, e1, e2⟩
  · rw [e1, e2]; exact ⟨⟨hr, hm⟩, ⟨hr, hm⟩⟩
  · rw [e1, e2]
    have h1 : (ng r).toNat ≤ 1 := Bool.toNat_le _
    have h2 : (!ng r).toNat ≤ 1 := Bool.toNat_le _
    refine ⟨⟨word_lt64 _ _ (by omega), ?_⟩, ⟨word_lt64 _ _ (by omega), ?_⟩⟩
    · rw [(word_mg _ _ (by omega)).1]; omega
    · rw [(word_mg _ _ (by omega)).1]; omega
theorem add_flt {x y r d u : Nat} (hr : double.add x y = some r) (h : AddIs x y r d u) : Flt d ∧ Flt u := by
  have ht := add_told hr
  rcases h with ⟨_, rfl, rfl⟩ | ⟨_, _, _, l, _, rfl, rfl⟩
  · exact ⟨⟨ht.2, ht.1⟩, ⟨ht.2, ht.1⟩⟩
  · exact lohi_flt l ht.2 ht.1
theorem op_flt {x y r d u : Nat} {L : Nat → Prop} (hr : r < 18446744073709551616 ∧ mg r ≤ 9218868437227405312) (h : OpIs x y r L d u) : Flt d ∧ Flt u := by
  rcases h with ⟨_, rfl, rfl⟩ | ⟨_, _, l, _, rfl, rfl⟩
  · exact ⟨hr, hr⟩
  · exact lohi_flt l hr.1 hr.2
theorem sum_call {x y : Nat} (W : World) (hx : x < 18446744073709551616) (hy : y < 18446744073709551616) (fx : mg x < 9218868437227405312) (fy : mg y < 9218868437227405312) :
    Calls Tryz.prog 52 #[.float .f64 x, .float .f64 y] W fun e w' => ∃ d u, e = .returned (.tuple #[.float .f64 d, .float .f64 u]) ∧ Below W.heap.size W w' ∧ Flt d ∧ Flt u ∧ SumIs x y d u := by
  obtain ⟨r, hr⟩ := add_fin fx fy
  refine (add_any x y W hx hy).mono ?_
  rintro e w' ⟨d, u, he, hb, h⟩
  rw [(add_fop hr W).1] at h
  exact ⟨d, u, he, hb, (add_flt hr h).1, (add_flt hr h).2, r, hr, h⟩
theorem pro_call {x y : Nat} (W : World) (hx : x < 18446744073709551616) (hy : y < 18446744073709551616) (fx : mg x < 9218868437227405312) (fy : mg y < 9218868437227405312) :
    Calls Tryz.prog 60 #[.float .f64 x, .float .f64 y] W fun e w' => ∃ d u, e = .returned (.tuple #[.float .f64 d, .float .f64 u]) ∧ Below W.heap.size W w' ∧ Flt d ∧ Flt u ∧ ProIs x y d u := by
  obtain ⟨r, hr⟩ := mul_fin fx fy
  refine (mul_any x y W hx hy).mono ?_
  rintro e w' ⟨d, u, he, hb, h⟩
  rw [(fop_some (op := .mul) hr W).1] at h
  have ht := mul_told hr
  have hf := op_flt ⟨ht.2, ht.1⟩ h
  exact ⟨d, u, he, hb, hf.1, hf.2, r, hr, h⟩
/-- What an operation of spans answers. -/
def SpRes (Rel : Nat → Nat → Nat → Nat → Prop) (al ah bl bh : Nat) (e : Ending) : Prop :=
  (¬ (Spn al ah ∧ Spn bl bh) ∧ e = .returned (.tuple #[spv 0 0, .int .i64 1])) ∨
  ((Spn al ah ∧ Spn bl bh) ∧ ∃ d1 u1 d2 u2 d3 u3 d4 u4, (Rel al bl d1 u1 ∧ Rel al bh d2 u2 ∧ Rel ah bl d3 u3 ∧ Rel ah bh d4 u4) ∧ (Flt d1 ∧ Flt u1 ∧ Flt d2 ∧ Flt u2 ∧ Flt d3 ∧ Flt u3 ∧ Flt d4 ∧ Flt u4) ∧
      e = .returned (.tuple #[spv (leaLo d1 u1 [(d2, u2), (d3, u3), (d4, u4)]) (leaHi d1 u1 [(d2, u2), (d3, u3), (d4, u4)]), .int .i64 (leaE d1 u1 [(d2, u2), (d3, u3), (d4, u4)])]))
/-- A span and an error of that kind, as values. -/
theorem spRes_form {Rel : Nat → Nat → Nat → Nat → Prop} {al ah bl bh : Nat} {e : Ending} (h : SpRes Rel al ah bl bh e) : ∃ (l h' : Nat) (er : Int), e = .returned (.tuple #[spv l h', .int .i64 er]) := by
  rcases h with ⟨_, h⟩ | ⟨_, d1, u1, d2, u2, d3, u3, d4, u4, _, _, h⟩
  · exact ⟨_, _, _, h⟩
  · exact ⟨_, _, _, h⟩
set_option maxHeartbeats 1000000 in
theorem reckon_no (D al ah bl bh : Nat) (w : World) (h1 : al < 18446744073709551616) (h3 : bl < 18446744073709551616) (hs : ¬ (Spn al ah ∧ Spn bl bh)) :
    Calls Tryz.prog 51 #[.func (.func D) #[] #[], spv al ah, spv bl bh] w fun e w' => e = .returned (.tuple #[spv 0 0, .int .i64 1]) ∧ Below w.heap.size w w' := by
  have HC := Lib.hid (fun g W k k0 k1 k2 k3 => check_two g al ah bl bh W h1 h3 k k0 k1 k2 k3)
  have hsf := @run_store_f Tryz.prog .f64
  have e3 : spE2 al ah bl bh = 1 := if_neg hs
  rw [e3] at HC
  clear e3 hs h1 h3
  go_enter Tryz.func51, Tryz.ntmps51
  go_wp2_with fail
  refine (HC.out _ _ (by simp) (by go_cell) (by go_cell) (by go_cell) (by go_cell)).mono ?_
  rintro e w1 ⟨rfl, hb⟩
  obtain ⟨hc, hf⟩ := bcell hb
  have hz0 : w.heap.size < w1.heap.size := by have := hb.size; simp at this; omega
  have hz1 : w.heap.size + 1 < w1.heap.size := by have := hb.size; simp at this; omega
  have hz2 : w.heap.size + 1 + 1 < w1.heap.size := by have := hb.size; simp at this; omega
  have g1 : Below w.heap.size w w1 := Below.trans (by (repeat (first | exact below_self _ _ | assumption | refine below_dn ?_ _ | refine Below.drew ?_ | refine Below.setCell ?_ (by (try simp) <;> (try omega)) _ | refine Below.alloc ?_ (by (try simp) <;> (try omega)) _))) (hb.mono (by simp; try omega))
  clear hb
  go_wp2
  exact bodyPost_ret (v := .tuple #[spv 0 0, .int .i64 1]) (by simp [results, Tryz.results51, go_sem, hc]) rfl ⟨rfl, by (repeat (first | exact below_self _ _ | assumption | refine below_dn ?_ _ | refine Below.drew ?_ | refine Below.setCell ?_ (by (try simp) <;> (try omega)) _ | refine Below.alloc ?_ (by (try simp) <;> (try omega)) _))⟩
theorem recka_add (al ah bl bh : Nat) (w : World) (h1 : al < 18446744073709551616) (h2 : ah < 18446744073709551616) (h3 : bl < 18446744073709551616) (h4 : bh < 18446744073709551616) :
    Calls Tryz.prog 51 #[.func (.func 52) #[] #[], spv al ah, spv bl bh] w fun e w' => SpRes SumIs al ah bl bh e ∧ Below w.heap.size w w' := by
  by_cases hs : Spn al ah ∧ Spn bl bh
  · refine (reckon_add al ah bl bh w SumIs h1 h3 hs (fun x y W hx hy => ?_)).mono ?_
    · have px : x < 18446744073709551616 ∧ mg x < 9218868437227405312 := by
        rcases hx with rfl | rfl
        · exact ⟨h1, hs.1.1⟩
        · exact ⟨h2, hs.1.2.1⟩
      have py : y < 18446744073709551616 ∧ mg y < 9218868437227405312 := by
        rcases hy with rfl | rfl
        · exact ⟨h3, hs.2.1⟩
        · exact ⟨h4, hs.2.2.1⟩
      exact sum_call W px.1 py.1 px.2 py.2
    · rintro e w' ⟨d1, u1, d2, u2, d3, u3, d4, u4, a, b, he, hb⟩
      exact ⟨.inr ⟨hs, d1, u1, d2, u2, d3, u3, d4, u4, a, b, he⟩, hb⟩
  · refine (reckon_no _ al ah bl bh w h1 h3 hs).mono ?_
    rintro e w' ⟨he, hb⟩
    exact ⟨.inl ⟨hs, he⟩, hb⟩
set_option maxHeartbeats 1000000 in
theorem spanadd_any (al ah bl bh : Nat) (w : World) (h1 : al < 18446744073709551616) (h2 : ah < 18446744073709551616) (h3 : bl < 18446744073709551616) (h4 : bh < 18446744073709551616) :
    Calls Tryz.prog 18 #[spv al ah, spv bl bh] w fun e w' => SpRes SumIs al ah bl bh e ∧ Below w.heap.size w w' := by
  have HR := Lib.hid (fun W => recka_add al ah bl bh W h1 h2 h3 h4)
  have hsf := @run_store_f Tryz.prog .f64
  clear h1 h2 h3 h4
  go_enter Tryz.func18, Tryz.ntmps18
  go_wp2_with fail
  refine (HR.out _).mono ?_
  rintro e w1 ⟨hres, hb⟩
  obtain ⟨l, h, er, rfl⟩ := spRes_form hres
  have HE := Lib.hid hres
  obtain ⟨hc, hf⟩ := bcell hb
  have hz0 : w.heap.size < w1.heap.size := by have := hb.size; simp at this; omega
  have hz1 : w.heap.size + 1 < w1.heap.size := by have := hb.size; simp at this; omega
  have hz2 : w.heap.size + 1 + 1 < w1.heap.size := by have := hb.size; simp at this; omega
  have g1 : Below w.heap.size w w1 := Below.trans (by (repeat (first | exact below_self _ _ | assumption | refine below_dn ?_ _ | refine Below.drew ?_ | refine Below.setCell ?_ (by (try simp) <;> (try omega)) _ | refine Below.alloc ?_ (by (try simp) <;> (try omega)) _))) (hb.mono (by simp; try omega))
  have d2 : w1.cell? ⟨w.heap.size + 1 + 1, 0, none⟩ = some (.float .f64 0) := by go_cell
  have d3 : w1.cell? ⟨w.heap.size + 1 + 1, 1, none⟩ = some (.float .f64 0) := by go_cell
  clear hb hres
  go_wp2
  exact bodyPost_ret (v := .tuple #[spv l h, .int .i64 er]) (by simp [results, Tryz.results18, go_sem, d2, d3]) rfl ⟨HE.out, by (repeat (first | exact below_self _ _ | assumption | refine below_dn ?_ _ | refine Below.drew ?_ | refine Below.setCell ?_ (by (try simp) <;> (try omega)) _ | refine Below.alloc ?_ (by (try simp) <;> (try omega)) _))⟩
theorem recka_mul (al ah bl bh : Nat) (w : World) (h1 : al < 18446744073709551616) (h2 : ah < 18446744073709551616) (h3 : bl < 18446744073709551616) (h4 : bh < 18446744073709551616) :
    Calls Tryz.prog 51 #[.func (.func 60) #[] #[], spv al ah, spv bl bh] w fun e w' => SpRes ProIs al ah bl bh e ∧ Below w.heap.size w w' := by
  by_cases hs : Spn al ah ∧ Spn bl bh
  · refine (reckon_mul al ah bl bh w ProIs h1 h3 hs (fun x y W hx hy => ?_)).mono ?_
    · have px : x < 18446744073709551616 ∧ mg x < 9218868437227405312 := by
        rcases hx with rfl | rfl
        · exact ⟨h1, hs.1.1⟩
        · exact ⟨h2, hs.1.2.1⟩
      have py : y < 18446744073709551616 ∧ mg y < 9218868437227405312 := by
        rcases hy with rfl | rfl
        · exact ⟨h3, hs.2.1⟩
        · exact ⟨h4, hs.2.2.1⟩
      exact pro_call W px.1 py.1 px.2 py.2
    · rintro e w' ⟨d1, u1, d2, u2, d3, u3, d4, u4, a, b, he, hb⟩
      exact ⟨.inr ⟨hs, d1, u1, d2, u2, d3, u3, d4, u4, a, b, he⟩, hb⟩
  · refine (reckon_no _ al ah bl bh w h1 h3 hs).mono ?_
    rintro e w' ⟨he, hb⟩
    exact ⟨.inl ⟨hs, he⟩, hb⟩
set_option maxHeartbeats 1000000 in
theorem spanmul_any (al ah bl bh : Nat) (w : World) (h1 : al < 18446744073709551616) (h2 : ah < 18446744073709551616) (h3 : bl < 18446744073709551616) (h4 : bh < 18446744073709551616) :
    Calls Tryz.prog 23 #[spv al ah, spv bl bh] w fun e w' => SpRes ProIs al ah bl bh e ∧ Below w.heap.size w w' := by
  have HR := Lib.hid (fun W => recka_mul al ah bl bh W h1 h2 h3 h4)
  have hsf := @run_store_f Tryz.prog .f64
  clear h1 h2 h3 h4
  go_enter Tryz.func23, Tryz.ntmps23
  go_wp2_with fail
  refine (HR.out _).mono ?_
  rintro e w1 ⟨hres, hb⟩
  obtain ⟨l, h, er, rfl⟩ := spRes_form hres
  have HE := Lib.hid hres
  obtain ⟨hc, hf⟩ := bcell hb
  have hz0 : w.heap.size < w1.heap.size := by have := hb.size; simp at this; omega
  have hz1 : w.heap.size + 1 < w1.heap.size := by have := hb.size; simp at this; omega
  have hz2 : w.heap.size + 1 + 1 < w1.heap.size := by have := hb.size; simp at this; omega
  have g1 : Below w.heap.size w w1 := Below.trans (by (repeat (first | exact below_self _ _ | assumption | refine below_dn ?_ _ | refine Below.drew ?_ | refine Below.setCell ?_ (by (try simp) <;> (try omega)) _ | refine Below.alloc ?_ (by (try simp) <;> (try omega)) _))) (hb.mono (by simp; try omega))
  have d2 : w1.cell? ⟨w.heap.size + 1 + 1, 0, none⟩ = some (.float .f64 0) := by go_cell
  have d3 : w1.cell? ⟨w.heap.size + 1 + 1, 1, none⟩ = some (.float .f64 0) := by go_cell
  clear hb hres
  go_wp2
  exact bodyPost_ret (v := .tuple #[spv l h, .int .i64 er]) (by simp [results, Tryz.results23, go_sem, d2, d3]) rfl ⟨HE.out, by (repeat (first | exact below_self _ _ | assumption | refine below_dn ?_ _ | refine Below.drew ?_ | refine Below.setCell ?_ (by (try simp) <;> (try omega)) _ | refine Below.alloc ?_ (by (try simp) <;> (try omega)) _))⟩
theorem lohi_none {s l : Nat} (hp : Pl s) (h : (double.order l 0 == some .eq) = true) : lo s l = s ∧ hi s l = s := lohi_exact hp.1 hp.2 h
theorem fsum1 {d u : Nat} (h : SumIs 4607182418800017408 4621819117588971520 d u) : d = 4622382067542392832 ∧ u = 4622382067542392832 := by
  obtain ⟨r, hr, h⟩ := h
  rw [show double.add 4607182418800017408 4621819117588971520 = some 4622382067542392832 by decide +kernel] at hr; cases hr
  rcases h with ⟨_, rfl, rfl⟩ | ⟨_, _, _, l, hl, rfl, rfl⟩
  · exact ⟨rfl, rfl⟩
  · rcases hl with ⟨h, _⟩ | ⟨_, z, y, h, h3⟩
    · exact absurd h (by decide)
    · rw [show (FloatKind.f64.format.order (mg 4607182418800017408) (mg 4621819117588971520) == some .lt) = true by decide +kernel] at h
      obtain ⟨h1, h2⟩ := h
      rw [show double.sub 4622382067542392832 4621819117588971520 = some 4607182418800017408 by decide +kernel] at h1; cases h1
      rw [show double.sub 4607182418800017408 4607182418800017408 = some 0 by decide +kernel] at h2; cases h2
      rw [show double.add 0 0 = some 0 by decide +kernel] at h3; cases h3
      exact lohi_none (by unfold Pl; decide) (by decide +kernel)
theorem fsum2 {d u : Nat} (h : SumIs 4607182418800017408 4626322717216342016 d u) : d = 4626604192193052672 ∧ u = 4626604192193052672 := by
  obtain ⟨r, hr, h⟩ := h
  rw [show double.add 4607182418800017408 4626322717216342016 = some 4626604192193052672 by decide +kernel] at hr; cases hr
  rcases h with ⟨_, rfl, rfl⟩ | ⟨_, _, _, l, hl, rfl, rfl⟩
  · exact ⟨rfl, rfl⟩
  · rcases hl with ⟨h, _⟩ | ⟨_, z, y, h, h3⟩
    · exact absurd h (by decide)
    · rw [show (FloatKind.f64.format.order (mg 4607182418800017408) (mg 4626322717216342016) == some .lt) = true by decide +kernel] at h
      obtain ⟨h1, h2⟩ := h
      rw [show double.sub 4626604192193052672 4626322717216342016 = some 4607182418800017408 by decide +kernel] at h1; cases h1
      rw [show double.sub 4607182418800017408 4607182418800017408 = some 0 by decide +kernel] at h2; cases h2
      rw [show double.add 0 0 = some 0 by decide +kernel] at h3; cases h3
      exact lohi_none (by unfold Pl; decide) (by decide +kernel)
theorem fsum3 {d u : Nat} (h : SumIs 4611686018427387904 4621819117588971520 d u) : d = 4622945017495814144 ∧ u = 4622945017495814144 := by
  obtain ⟨r, hr, h⟩ := h
  rw [show double.add 4611686018427387904 4621819117588971520 = some 4622945017495814144 by decide +kernel] at hr; cases hr
  rcases h with ⟨_, rfl, rfl⟩ | ⟨_, _, _, l, hl, rfl, rfl⟩
  · exact ⟨rfl, rfl⟩
  · rcases hl with ⟨h, _⟩ | ⟨_, z, y, h, h3⟩
    · exact absurd h (by decide)
    · rw [show (FloatKind.f64.format.order (mg 4611686018427387904) (mg 4621819117588971520) == some .lt) = true by decide +kernel] at h
      obtain ⟨h1, h2⟩ := h
      rw [show double.sub 4622945017495814144 4621819117588971520 = some 4611686018427387904 by decide +kernel] at h1; cases h1
      rw [show double.sub 4611686018427387904 4611686018427387904 = some 0 by decide +kernel] at h2; cases h2
      rw [show double.add 0 0 = some 0 by decide +kernel] at h3; cases h3
      exact lohi_none (by unfold Pl; decide) (by decide +kernel)
theorem fsum4 {d u : Nat} (h : SumIs 4611686018427387904 4626322717216342016 d u) : d = 4626885667169763328 ∧ u = 4626885667169763328 := by
  obtain ⟨r, hr, h⟩ := h
  rw [show double.add 4611686018427387904 4626322717216342016 = some 4626885667169763328 by decide +kernel] at hr; cases hr
  rcases h with ⟨_, rfl, rfl⟩ | ⟨_, _, _, l, hl, rfl, rfl⟩
  · exact ⟨rfl, rfl⟩
  · rcases hl with ⟨h, _⟩ | ⟨_, z, y, h, h3⟩
    · exact absurd h (by decide)
    · rw [show (FloatKind.f64.format.order (mg 4611686018427387904) (mg 4626322717216342016) == some .lt) = true by decide +kernel] at h
      obtain ⟨h1, h2⟩ := h
      rw [show double.sub 4626885667169763328 4626322717216342016 = some 4611686018427387904 by decide +kernel] at h1; cases h1
      rw [show double.sub 4611686018427387904 4611686018427387904 = some 0 by decide +kernel] at h2; cases h2
      rw [show double.add 0 0 = some 0 by decide +kernel] at h3; cases h3
      exact lohi_none (by unfold Pl; decide) (by decide +kernel)
theorem fpro1 {d u : Nat} (h : ProIs 13830554455654793216 13837309855095848960 d u) : d = 4613937818241073152 ∧ u = 4613937818241073152 := by
  obtain ⟨r, hr, h⟩ := h
  rw [show double.mul 13830554455654793216 13837309855095848960 = some 4613937818241073152 by decide +kernel] at hr; cases hr
  rcases h with ⟨_, rfl, rfl⟩ | ⟨_, _, l, ⟨k, rfl, hk⟩, rfl, rfl⟩
  · exact ⟨rfl, rfl⟩
  · have hl : LeftIs 13830554455654793216 13837309855095848960 4613937818241073152 0 := ⟨13830554455654793216, 4613937818241073152, by rw [show lsmall 4613937818241073152 = false by decide +kernel]; exact ⟨rfl, rfl⟩, by decide +kernel⟩
    have := hk _ hl
    subst this
    exact lohi_none (by unfold Pl; decide) (by decide +kernel)
theorem fpro2 {d u : Nat} (h : ProIs 13830554455654793216 4616189618054758400 d u) : d = 13839561654909534208 ∧ u = 13839561654909534208 := by
  obtain ⟨r, hr, h⟩ := h
  rw [show double.mul 13830554455654793216 4616189618054758400 = some 13839561654909534208 by decide +kernel] at hr; cases hr
  rcases h with ⟨_, rfl, rfl⟩ | ⟨_, _, l, ⟨k, rfl, hk⟩, rfl, rfl⟩
  · exact ⟨rfl, rfl⟩
  · have hl : LeftIs 13830554455654793216 4616189618054758400 13839561654909534208 0 := ⟨13830554455654793216, 13839561654909534208, by rw [show lsmall 13839561654909534208 = false by decide +kernel]; exact ⟨rfl, rfl⟩, by decide +kernel⟩
    have := hk _ hl
    subst this
    exact lohi_none (by unfold Pl; decide) (by decide +kernel)
theorem fpro3 {d u : Nat} (h : ProIs 4611686018427387904 13837309855095848960 d u) : d = 13841813454723219456 ∧ u = 13841813454723219456 := by
  obtain ⟨r, hr, h⟩ := h
  rw [show double.mul 4611686018427387904 13837309855095848960 = some 13841813454723219456 by decide +kernel] at hr; cases hr
  rcases h with ⟨_, rfl, rfl⟩ | ⟨_, _, l, ⟨k, rfl, hk⟩, rfl, rfl⟩
  · exact ⟨rfl, rfl⟩
  · have hl : LeftIs 4611686018427387904 13837309855095848960 13841813454723219456 0 := ⟨4611686018427387904, 13841813454723219456, by rw [show lsmall 13841813454723219456 = false by decide +kernel]; exact ⟨rfl, rfl⟩, by decide +kernel⟩
    have := hk _ hl
    subst this
    exact lohi_none (by unfold Pl; decide) (by decide +kernel)
theorem fpro4 {d u : Nat} (h : ProIs 4611686018427387904 4616189618054758400 d u) : d = 4620693217682128896 ∧ u = 4620693217682128896 := by
  obtain ⟨r, hr, h⟩ := h
  rw [show double.mul 4611686018427387904 4616189618054758400 = some 4620693217682128896 by decide +kernel] at hr; cases hr
  rcases h with ⟨_, rfl, rfl⟩ | ⟨_, _, l, ⟨k, rfl, hk⟩, rfl, rfl⟩
  · exact ⟨rfl, rfl⟩
  · have hl : LeftIs 4611686018427387904 4616189618054758400 4620693217682128896 0 := ⟨4611686018427387904, 4620693217682128896, by rw [show lsmall 4620693217682128896 = false by decide +kernel]; exact ⟨rfl, rfl⟩, by decide +kernel⟩
    have := hk _ hl
    subst this
    exact lohi_none (by unfold Pl; decide) (by decide +kernel)
theorem lea_sum : leaLo 4622382067542392832 4622382067542392832 [(4626604192193052672, 4626604192193052672), (4622945017495814144, 4622945017495814144), (4626885667169763328, 4626885667169763328)] = 4622382067542392832 ∧ leaHi 4622382067542392832 4622382067542392832 [(4626604192193052672, 4626604192193052672), (4622945017495814144, 4622945017495814144), (4626885667169763328, 4626885667169763328)] = 4626885667169763328 ∧ leaE 4622382067542392832 4622382067542392832 [(4626604192193052672, 4626604192193052672), (4622945017495814144, 4622945017495814144), (4626885667169763328, 4626885667169763328)] = 0 := by decide +kernel
theorem lea_pro : leaLo 4613937818241073152 4613937818241073152 [(13839561654909534208, 13839561654909534208), (13841813454723219456, 13841813454723219456), (4620693217682128896, 4620693217682128896)] = 13841813454723219456 ∧ leaHi 4613937818241073152 4613937818241073152 [(13839561654909534208, 13839561654909534208), (13841813454723219456, 13841813454723219456), (4620693217682128896, 4620693217682128896)] = 4620693217682128896 ∧ leaE 4613937818241073152 4613937818241073152 [(13839561654909534208, 13839561654909534208), (13841813454723219456, 13841813454723219456), (4620693217682128896, 4620693217682128896)] = 0 := by decide +kernel
theorem res_sum {e : Ending} (h : SpRes SumIs 4607182418800017408 4611686018427387904 4621819117588971520 4626322717216342016 e) : e = .returned (.tuple #[spv 4622382067542392832 4626885667169763328, .int .i64 0]) := by
  rcases h with ⟨h, _⟩ | ⟨_, d1, u1, d2, u2, d3, u3, d4, u4, ⟨a, b, c, d⟩, _, rfl⟩
  · exact absurd (by decide +kernel) h
  · obtain ⟨rfl, rfl⟩ := fsum1 a
    obtain ⟨rfl, rfl⟩ := fsum2 b
    obtain ⟨rfl, rfl⟩ := fsum3 c
    obtain ⟨rfl, rfl⟩ := fsum4 d
    rw [lea_sum.1, lea_sum.2.1, lea_sum.2.2]
theorem res_pro {e : Ending} (h : SpRes ProIs 13830554455654793216 4611686018427387904 13837309855095848960 4616189618054758400 e) : e = .returned (.tuple #[spv 13841813454723219456 4620693217682128896, .int .i64 0]) := by
  rcases h with ⟨h, _⟩ | ⟨_, d1, u1, d2, u2, d3, u3, d4, u4, ⟨a, b, c, d⟩, _, rfl⟩
  · exact absurd (by decide +kernel) h
  · obtain ⟨rfl, rfl⟩ := fpro1 a
    obtain ⟨rfl, rfl⟩ := fpro2 b
    obtain ⟨rfl, rfl⟩ := fpro3 c
    obtain ⟨rfl, rfl⟩ := fpro4 d
    rw [lea_pro.1, lea_pro.2.1, lea_pro.2.2]
end Go.Proofs.YtghcoijinihlnaaGreat.Fl

namespace Go.Proofs.YtghcoijinihlnaaGreat.Fl
open Go.RowKit Ieee
theorem key_zero : key 0 = 0 := by decide
/-- Has a span nought? -/
def hasN (l h : Nat) : Bool := decide (key l ≤ 0 ∧ 0 ≤ key h)
set_option maxHeartbeats 400000 in
theorem hasNought_any (l h : Nat) (w : World) (hs : Spn l h) :
    Calls Tryz.prog 64 #[spv l h] w fun e w' => e = .returned (.bool (hasN l h)) ∧ Below w.heap.size w w' := by
  have e1 := ord_le l 0
  have e2 := ord_le 0 h
  have f1 : decide (mg l ≤ 9218868437227405312 ∧ mg 0 ≤ 9218868437227405312 ∧ key l ≤ key 0) = decide (key l ≤ 0) := decide_eq_decide.2 (by rw [key_zero]; have := hs.1; have : mg 0 = 0 := (by decide); omega)
  have f2 : decide (mg 0 ≤ 9218868437227405312 ∧ mg h ≤ 9218868437227405312 ∧ key 0 ≤ key h) = decide (0 ≤ key h) := decide_eq_decide.2 (by rw [key_zero]; have := hs.2.1; have : mg 0 = 0 := (by decide); omega)
  rw [f1] at e1
  rw [f2] at e2
  have e3 : hasN l h = (decide (key l ≤ 0) && decide (0 ≤ key h)) := by unfold hasN; rw [← Bool.decide_and]
  rw [e3]
  clear f1 f2 hs e3
  obtain ⟨p, hp⟩ : ∃ p, decide (key l ≤ 0) = p := ⟨_, rfl⟩
  obtain ⟨q, hq⟩ : ∃ q, decide (0 ≤ key h) = q := ⟨_, rfl⟩
  rw [hp] at e1 ⊢
  rw [hq] at e2 ⊢
  clear hp hq
  cases p <;> (
  go_enter Tryz.func64, Tryz.ntmps64
  go_wp2
  go_ret
  exact ⟨rfl, by (repeat (first | exact below_self _ _ | assumption | refine below_dn ?_ _ | refine Below.drew ?_ | refine Below.setCell ?_ (by (try simp) <;> (try omega)) _ | refine Below.alloc ?_ (by (try simp) <;> (try omega)) _))⟩)
set_option maxHeartbeats 1000000 in
theorem spanquo_zero (al ah bl bh : Nat) (w : World) (h1 : al < 18446744073709551616) (h3 : bl < 18446744073709551616) (hs : Spn al ah ∧ Spn bl bh) (hz : hasN bl bh = true) :
    Calls Tryz.prog 25 #[spv al ah, spv bl bh] w fun e w' => e = .returned (.tuple #[spv 0 0, .int .i64 3]) ∧ Below w.heap.size w w' := by
  have HC := Lib.hid (fun g W k k0 k1 k2 k3 => check_two g al ah bl bh W h1 h3 k k0 k1 k2 k3)
  have HN := Lib.hid (fun W => hasNought_any bl bh W hs.2)
  have hsf := @run_store_f Tryz.prog .f64
  have e3 : spE2 al ah bl bh = 0 := if_pos hs
  rw [e3] at HC
  rw [hz] at HN
  clear e3 hs h1 h3 hz
  go_enter Tryz.func25, Tryz.ntmps25
  go_wp2_with fail
  refine (HC.out _ _ (by simp) (by go_cell) (by go_cell) (by go_cell) (by go_cell)).mono ?_
  rintro e w1 ⟨rfl, hb⟩
  obtain ⟨hc, hf⟩ := bcell hb
  have hz0 : w.heap.size < w1.heap.size := by have := hb.size; (try simp at this); omega
  have hz1 : w.heap.size + 1 < w1.heap.size := by have := hb.size; (try simp at this); omega
  have hz2 : w.heap.size + 1 + 1 < w1.heap.size := by have := hb.size; (try simp at this); omega
  have g1 : Below w.heap.size w w1 := Below.trans (by (repeat (first | exact below_self _ _ | assumption | refine below_dn ?_ _ | refine Below.drew ?_ | refine Below.setCell ?_ (by (try simp) <;> (try omega)) _ | refine Below.alloc ?_ (by (try simp) <;> (try omega)) _))) (hb.mono (by (try simp) <;> (try omega)))
  clear hb
  go_wp2_with fail
  refine (HN.out _).mono ?_
  rintro e w2 ⟨rfl, hb⟩
  obtain ⟨hc2, hf2⟩ := bcell hb
  have hw0 : w.heap.size < w2.heap.size := by have := hb.size; (try simp at this); omega
  have hw1 : w.heap.size + 1 < w2.heap.size := by have := hb.size; (try simp at this); omega
  have hw2 : w.heap.size + 1 + 1 < w2.heap.size := by have := hb.size; (try simp at this); omega
  have g2 : Below w.heap.size w w2 := g1.trans (hb.mono (by (try simp) <;> (try omega)))
  clear hb g1
  have d2 : w2.cell? ⟨w.heap.size + 1 + 1, 0, none⟩ = some (.float .f64 0) := by go_cell
  have d3 : w2.cell? ⟨w.heap.size + 1 + 1, 1, none⟩ = some (.float .f64 0) := by go_cell
  go_wp2
  exact bodyPost_ret (v := .tuple #[spv 0 0, .int .i64 3]) (by simp [results, Tryz.results25, go_sem, d2, d3]) rfl ⟨rfl, by (repeat (first | exact below_self _ _ | assumption | refine below_dn ?_ _ | refine Below.drew ?_ | refine Below.setCell ?_ (by (try simp) <;> (try omega)) _ | refine Below.alloc ?_ (by (try simp) <;> (try omega)) _))⟩
set_option maxHeartbeats 2000000 in
theorem lives_any (w : World) : Calls Tryz.prog 17 #[] w fun e w' => e = .returned (.bool true) ∧ Below w.heap.size w w' := by
  have H1 : Hid (∀ W, Calls Tryz.prog 18 #[spv 4607182418800017408 4611686018427387904, spv 4621819117588971520 4626322717216342016] W fun e w' => e = .returned (.tuple #[spv 4622382067542392832 4626885667169763328, .int .i64 0]) ∧ Below W.heap.size W w') :=
    Lib.hid fun W => (spanadd_any _ _ _ _ W (by decide) (by decide) (by decide) (by decide)).mono fun e w' ⟨h, hb⟩ => ⟨res_sum h, hb⟩
  have H2 : Hid (∀ W, Calls Tryz.prog 23 #[spv 13830554455654793216 4611686018427387904, spv 13837309855095848960 4616189618054758400] W fun e w' => e = .returned (.tuple #[spv 13841813454723219456 4620693217682128896, .int .i64 0]) ∧ Below W.heap.size W w') :=
    Lib.hid fun W => (spanmul_any _ _ _ _ W (by decide) (by decide) (by decide) (by decide)).mono fun e w' ⟨h, hb⟩ => ⟨res_pro h, hb⟩
  have H3 : Hid (∀ W, Calls Tryz.prog 25 #[spv 4607182418800017408 4611686018427387904, spv 13830554455654793216 4607182418800017408] W fun e w' => e = .returned (.tuple #[spv 0 0, .int .i64 3]) ∧ Below W.heap.size W w') :=
    Lib.hid fun W => spanquo_zero _ _ _ _ W (by decide) (by decide) (by decide +kernel) (by decide +kernel)
  have H4 : Hid (∀ W, Calls Tryz.prog 50 #[spv 4607182418800017408 4611686018427387904, spv 4607182418800017408 4611686018427387904] W fun e w' => e = .returned (.bool true) ∧ Below W.heap.size W w') :=
    Lib.hid fun W => (in_any _ _ _ _ W (by decide) (by decide)).mono fun e w' ⟨h, hb⟩ => ⟨h.trans (by rw [show spIn 4607182418800017408 4611686018427387904 4607182418800017408 4611686018427387904 = true by decide +kernel]), hb⟩
  have H5 : Hid (∀ W, Calls Tryz.prog 50 #[spv 4621819117588971520 4626322717216342016, spv 4607182418800017408 4611686018427387904] W fun e w' => e = .returned (.bool false) ∧ Below W.heap.size W w') :=
    Lib.hid fun W => (in_any _ _ _ _ W (by decide) (by decide)).mono fun e w' ⟨h, hb⟩ => ⟨h.trans (by rw [show spIn 4621819117588971520 4626322717216342016 4607182418800017408 4611686018427387904 = false by decide +kernel]), hb⟩
  have hsf := @run_store_f Tryz.prog .f64
  have o1 : (FloatKind.f64.format.order 4622382067542392832 4622382067542392832 == some .eq) = true := by decide +kernel
  have o2 : (FloatKind.f64.format.order 4626885667169763328 4626885667169763328 == some .eq) = true := by decide +kernel
  have o3 : (FloatKind.f64.format.order 13841813454723219456 13841813454723219456 == some .eq) = true := by decide +kernel
  have o4 : (FloatKind.f64.format.order 4620693217682128896 4620693217682128896 == some .eq) = true := by decide +kernel
  go_enter Tryz.func17, Tryz.ntmps17
  go_wp2_with fail
  refine (H1.out _).mono ?_
  rintro e w1 ⟨rfl, hb⟩
  obtain ⟨hc, hf⟩ := bcell hb
  have ha0 : w.heap.size < w1.heap.size := by have := hb.size; (try simp at this); omega
  have ha1 : w.heap.size + 1 < w1.heap.size := by have := hb.size; (try simp at this); omega
  have g1 : Below w.heap.size w w1 := Below.trans (by (repeat (first | exact below_self _ _ | assumption | refine below_dn ?_ _ | refine Below.drew ?_ | refine Below.setCell ?_ (by (try simp) <;> (try omega)) _ | refine Below.alloc ?_ (by (try simp) <;> (try omega)) _))) (hb.mono (by (try simp) <;> (try omega)))
  clear hb
  go_wp2_with fail
  refine (H2.out _).mono ?_
  rintro e w2 ⟨rfl, hb⟩
  obtain ⟨hc2, hf2⟩ := bcell hb
  have hb0 : w.heap.size < w2.heap.size := by have := hb.size; (try simp at this); omega
  have hb1 : w.heap.size + 1 < w2.heap.size := by have := hb.size; (try simp at this); omega
  have hb2 : w1.heap.size < w2.heap.size := by have := hb.size; (try simp at this); omega
  have g2 : Below w.heap.size w w2 := Below.trans (by (repeat (first | exact below_self _ _ | assumption | refine below_dn ?_ _ | refine Below.drew ?_ | refine Below.setCell ?_ (by (try simp) <;> (try omega)) _ | refine Below.alloc ?_ (by (try simp) <;> (try omega)) _))) (hb.mono (by (try simp) <;> (try omega)))
  clear hb
  go_wp2_with fail
  refine (H3.out _).mono ?_
  rintro e w3 ⟨rfl, hb⟩
  obtain ⟨hc3, hf3⟩ := bcell hb
  have hd0 : w.heap.size < w3.heap.size := by have := hb.size; (try simp at this); omega
  have hd1 : w.heap.size + 1 < w3.heap.size := by have := hb.size; (try simp at this); omega
  have hd2 : w1.heap.size < w3.heap.size := by have := hb.size; (try simp at this); omega
  have hd3 : w2.heap.size < w3.heap.size := by have := hb.size; (try simp at this); omega
  have g3 : Below w.heap.size w w3 := Below.trans (by (repeat (first | exact below_self _ _ | assumption | refine below_dn ?_ _ | refine Below.drew ?_ | refine Below.setCell ?_ (by (try simp) <;> (try omega)) _ | refine Below.alloc ?_ (by (try simp) <;> (try omega)) _))) (hb.mono (by (try simp) <;> (try omega)))
  clear hb
  go_wp2_with fail
  refine (H4.out _).mono ?_
  rintro e w4 ⟨rfl, hb⟩
  obtain ⟨hc4, hf4⟩ := bcell hb
  have he0 : w.heap.size < w4.heap.size := by have := hb.size; (try simp at this); omega
  have he1 : w.heap.size + 1 < w4.heap.size := by have := hb.size; (try simp at this); omega
  have g4 : Below w.heap.size w w4 := Below.trans (by (repeat (first | exact below_self _ _ | assumption | refine below_dn ?_ _ | refine Below.drew ?_ | refine Below.setCell ?_ (by (try simp) <;> (try omega)) _ | refine Below.alloc ?_ (by (try simp) <;> (try omega)) _))) (hb.mono (by (try simp) <;> (try omega)))
  clear hb
  go_wp2_with fail
  refine (H5.out _).mono ?_
  rintro e w5 ⟨rfl, hb⟩
  have g5 : Below w.heap.size w w5 := g4.trans (hb.mono (by (try simp) <;> (try omega)))
  clear hb
  go_wp2
  go_ret
  exact ⟨rfl, g5⟩
end Go.Proofs.YtghcoijinihlnaaGreat.Fl

namespace Go.Proofs.YtghcoijinihlnaaGreat.Fl
open Ieee
/-- The one ratio is not above the other. -/
def rle (N : Int) (D : Nat) (N' : Int) (D' : Nat) : Prop := N * D' ≤ N' * D
theorem rle.trans {N N' N'' : Int} {D D' D'' : Nat} (hD : 0 < D') (h : rle N D N' D') (k : rle N' D' N'' D'') : rle N D N'' D'' := by
  unfold rle at *
  have h1 : N * D' * D'' ≤ N' * D * D'' := Int.mul_le_mul_of_nonneg_right h (Int.natCast_nonneg _)
  have h2 : N' * D'' * D ≤ N'' * D' * D := Int.mul_le_mul_of_nonneg_right k (Int.natCast_nonneg _)
  have e1 : N * D' * D'' = N * D'' * D' := by rw [Int.mul_assoc, Int.mul_assoc, Int.mul_comm (D' : Int)]
  have e2 : N' * D * D'' = N' * D'' * D := by rw [Int.mul_assoc, Int.mul_assoc, Int.mul_comm (D : Int)]
  have e3 : N'' * D' * D = N'' * D * D' := by rw [Int.mul_assoc, Int.mul_assoc, Int.mul_comm (D' : Int)]
  have h3 : N * D'' * D' ≤ N'' * D * D' := by rw [← e1, ← e3]; exact Int.le_trans (by rw [← e2]; exact h1) h2
  exact Int.le_of_mul_le_mul_right h3 (by omega)
theorem sval_le {x y : Nat} (h : key x ≤ key y) : sval x ≤ sval y := by
  rcases Int.lt_or_le (sval y) (sval x) with k | k
  · have := (sval_cmp y x).1.1 k; omega
  · exact k
theorem key_le {x y : Nat} (h : sval x ≤ sval y) : key x ≤ key y := by
  rcases Int.lt_or_le (key y) (key x) with k | k
  · have := (sval_cmp y x).1.2 k; omega
  · exact k
theorem dn_up {N : Int} {D d u : Nat} (hD : 0 < D) (h : Dn N D d) (k : Up N D u) : key d ≤ key u := by
  rcases Nat.lt_or_eq_of_le h.le with g | g
  · rcases Nat.lt_or_eq_of_le k.le with g' | g'
    · exact key_le (Int.le_of_mul_le_mul_right (Int.le_trans (h.below g) (k.above g')) (by omega))
    · have h1 := k.inf g'
      have h2 := (key_bounds h.le).2
      unfold key at h2 ⊢
      rw [h1, g']
      simpa using h2
  · have h1 := h.inf g
    have h2 := (key_bounds k.le).1
    unfold key at h2 ⊢
    rw [h1, g]
    simpa using h2
/-- An operation whose exact result is a ratio that lies between what it is at the ends. -/
structure Cor (Rel : Nat → Nat → Nat → Nat → Prop) (ok : Nat → Prop) (N : Nat → Nat → Int) (D : Nat → Nat → Nat) : Prop where
  pos : ∀ p q, ok q → 0 < D p q
  dn : ∀ p q d u, p < 18446744073709551616 → q < 18446744073709551616 → mg p < 9218868437227405312 → mg q < 9218868437227405312 → ok q → Rel p q d u → Dn (N p q) (D p q) d ∧ Up (N p q) (D p q) u
  fst : ∀ p p1 p2 q, ok q → key p1 ≤ key p → key p ≤ key p2 → (rle (N p1 q) (D p1 q) (N p q) (D p q) ∨ rle (N p2 q) (D p2 q) (N p q) (D p q)) ∧ (rle (N p q) (D p q) (N p1 q) (D p1 q) ∨ rle (N p q) (D p q) (N p2 q) (D p2 q))
  snd : ∀ p q q1 q2, ok q → ok q1 → ok q2 → q < 18446744073709551616 → q1 < 18446744073709551616 → q2 < 18446744073709551616 → key q1 ≤ key q → key q ≤ key q2 → (rle (N p q1) (D p q1) (N p q) (D p q) ∨ rle (N p q2) (D p q2) (N p q) (D p q)) ∧ (rle (N p q) (D p q) (N p q1) (D p q1) ∨ rle (N p q) (D p q) (N p q2) (D p q2))
/-- Of what lies between the ends, the answer lies between the corners' answers. -/
theorem corner {Rel : Nat → Nat → Nat → Nat → Prop} {ok : Nat → Prop} {N : Nat → Nat → Int} {D : Nat → Nat → Nat} (C : Cor Rel ok N D)
    {p q xl xh yl yh d u d1 u1 d2 u2 d3 u3 d4 u4 : Nat} (hp : p < 18446744073709551616) (hq : q < 18446744073709551616) (fp : mg p < 9218868437227405312) (fq : mg q < 9218868437227405312)
    (lxl : xl < 18446744073709551616) (lxh : xh < 18446744073709551616) (lyl : yl < 18446744073709551616) (lyh : yh < 18446744073709551616)
    (hx : Spn xl xh) (hy : Spn yl yh) (okq : ok q) (okl : ok yl) (okh : ok yh)
    (h1 : key xl ≤ key p) (h2 : key p ≤ key xh) (h3 : key yl ≤ key q) (h4 : key q ≤ key yh) (h : Rel p q d u)
    (r1 : Rel xl yl d1 u1) (r2 : Rel xl yh d2 u2) (r3 : Rel xh yl d3 u3) (r4 : Rel xh yh d4 u4) :
    (key d1 ≤ key d ∨ key d2 ≤ key d ∨ key d3 ≤ key d ∨ key d4 ≤ key d) ∧ (key u ≤ key u1 ∨ key u ≤ key u2 ∨ key u ≤ key u3 ∨ key u ≤ key u4) ∧ key d ≤ key u := by
  have e := C.dn p q d u hp hq fp fq okq h
  have e1 := C.dn xl yl d1 u1 lxl lyl hx.1 hy.1 okl r1
  have e2 := C.dn xl yh d2 u2 lxl lyh hx.1 hy.2.1 okh r2
  have e3 := C.dn xh yl d3 u3 lxh lyl hx.2.1 hy.1 okl r3
  have e4 := C.dn xh yh d4 u4 lxh lyh hx.2.1 hy.2.1 okh r4
  have k := C.snd p q yl yh okq okl okh hq lyl lyh h3 h4
  have kl := C.fst p xl xh yl okl h1 h2
  have kh := C.fst p xl xh yh okh h1 h2
  have pl := C.pos p yl okl
  have ph := C.pos p yh okh
  have pq := C.pos p q okq
  refine ⟨?_, ?_, dn_up pq e.1 e.2⟩
  · rcases k.1 with g | g
    · rcases kl.1 with g' | g'
      · exact .inl (Dn.mono e1.1 e.1 (C.pos _ _ okl) (g'.trans pl g))
      · exact .inr (.inr (.inl (Dn.mono e3.1 e.1 (C.pos _ _ okl) (g'.trans pl g))))
    · rcases kh.1 with g' | g'
      · exact .inr (.inl (Dn.mono e2.1 e.1 (C.pos _ _ okh) (g'.trans ph g)))
      · exact .inr (.inr (.inr (Dn.mono e4.1 e.1 (C.pos _ _ okh) (g'.trans ph g))))
  · rcases k.2 with g | g
    · rcases kl.2 with g' | g'
      · exact .inl (Up.mono e.2 e1.2 (C.pos _ _ okl) (g.trans pl g'))
      · exact .inr (.inr (.inl (Up.mono e.2 e3.2 (C.pos _ _ okl) (g.trans pl g'))))
    · rcases kh.2 with g' | g'
      · exact .inr (.inl (Up.mono e.2 e2.2 (C.pos _ _ okh) (g.trans ph g')))
      · exact .inr (.inr (.inr (Up.mono e.2 e4.2 (C.pos _ _ okh) (g.trans ph g'))))
theorem key_lmn3 (d1 d2 d3 d4 u2 u3 u4 : Nat) : key (lmn d1 [(d2, u2), (d3, u3), (d4, u4)]) = min (min (min (key d1) (key d2)) (key d3)) (key d4) := by
  show key (fmin (fmin (fmin d1 d2) d3) d4) = _
  rw [fmin_key, fmin_key, fmin_key]
theorem key_lmx3 (u1 d2 d3 d4 u2 u3 u4 : Nat) : key (lmx u1 [(d2, u2), (d3, u3), (d4, u4)]) = max (max (max (key u1) (key u2)) (key u3)) (key u4) := by
  show key (fmax (fmax (fmax u1 u2) u3) u4) = _
  rw [fmax_key, fmax_key, fmax_key]
theorem fin_key {x : Nat} (h : mg x ≤ 9218868437227405312) (h1 : -9218868437227405312 < key x) (h2 : key x < 9218868437227405312) : mg x < 9218868437227405312 := by
  rcases Nat.lt_or_eq_of_le h with g | g
  · exact g
  · have : key x = 9218868437227405312 ∨ key x = -9218868437227405312 := by unfold key; split <;> omega
    omega
end Go.Proofs.YtghcoijinihlnaaGreat.Fl
namespace Go.Proofs.YtghcoijinihlnaaGreat.Fl
open Go.RowKit Ieee
theorem dif_call {x y : Nat} (W : World) (hx : x < 18446744073709551616) (hy : y < 18446744073709551616) (fx : mg x < 9218868437227405312) (fy : mg y < 9218868437227405312) :
  Calls Tryz.prog 56 #[.float .f64 x, .float .f64 y] W fun e w' => ∃ d u, e = .returned (.tuple #[.float .f64 d, .float .f64 u]) ∧ Below W.heap.size W w' ∧ Flt d ∧ Flt u ∧ DifIs x y d u := by
 obtain ⟨r, hr⟩ := add_fin fx (y := ngf y) (by rw [(ngf_is hy).1]; exact fy)
 refine (sub_any x y W hx hy).mono ?_
 rintro e w' ⟨d, u, he, hb, h⟩
 rw [(add_fop hr W).1] at h
 exact ⟨d, u, he, hb, (add_flt hr h).1, (add_flt hr h).2, r, hr, h⟩
theorem quo_call {x y : Nat} (W : World) (hx : x < 18446744073709551616) (hy : y < 18446744073709551616) (fx : mg x < 9218868437227405312) (fy : mg y < 9218868437227405312) (y0 : 0 < mg y) :
  Calls Tryz.prog 29 #[.float .f64 x, .float .f64 y] W fun e w' => ∃ d u, e = .returned (.tuple #[.float .f64 d, .float .f64 u]) ∧ Below W.heap.size W w' ∧ Flt d ∧ Flt u ∧ QuotIs x y d u := by
 obtain ⟨r, hr⟩ := div_fin fx fy y0
 refine (quo_any x y W hx hy).mono ?_
 rintro e w' ⟨d, u, he, hb, h⟩
 rw [(fop_some (op := .quo) hr W).1] at h
 have ht := div_told hr
 have hf := op_flt ⟨ht.2, ht.1⟩ h
 exact ⟨d, u, he, hb, hf.1, hf.2, r, hr, h⟩
theorem recka_sub (al ah bl bh : Nat) (w : World) (h1 : al < 18446744073709551616) (h2 : ah < 18446744073709551616) (h3 : bl < 18446744073709551616) (h4 : bh < 18446744073709551616) :
  Calls Tryz.prog 51 #[.func (.func 56) #[] #[], spv al ah, spv bl bh] w fun e w' => SpRes DifIs al ah bl bh e ∧ Below w.heap.size w w' := by
 by_cases hs : Spn al ah ∧ Spn bl bh
 ·refine (reckon_sub al ah bl bh w DifIs h1 h3 hs (fun x y W hx hy => ?_)).mono ?_
  ·have px : x < 18446744073709551616 ∧ mg x < 9218868437227405312 := by
    rcases hx with rfl | rfl
    ·exact ⟨h1, hs.1.1⟩
    ·exact ⟨h2, hs.1.2.1⟩
   have py : y < 18446744073709551616 ∧ mg y < 9218868437227405312 := by
    rcases hy with rfl | rfl
    ·exact ⟨h3, hs.2.1⟩
    ·exact ⟨h4, hs.2.2.1⟩
   exact dif_call W px.1 py.1 px.2 py.2
  ·rintro e w' ⟨d1, u1, d2, u2, d3, u3, d4, u4, a, b, he, hb⟩
   exact ⟨.inr ⟨hs, d1, u1, d2, u2, d3, u3, d4, u4, a, b, he⟩, hb⟩
 ·refine (reckon_no _ al ah bl bh w h1 h3 hs).mono ?_
  rintro e w' ⟨he, hb⟩
  exact ⟨.inl ⟨hs, he⟩, hb⟩
set_option maxHeartbeats 1000000 in
theorem spansub_any (al ah bl bh : Nat) (w : World) (h1 : al < 18446744073709551616) (h2 : ah < 18446744073709551616) (h3 : bl < 18446744073709551616) (h4 : bh < 18446744073709551616) :
  Calls Tryz.prog 20 #[spv al ah, spv bl bh] w fun e w' => SpRes DifIs al ah bl bh e ∧ Below w.heap.size w w' := by
 have HR := Lib.hid (fun W => recka_sub al ah bl bh W h1 h2 h3 h4)
 have hsf := @run_store_f Tryz.prog .f64
 clear h1 h2 h3 h4
 go_enter Tryz.func20, Tryz.ntmps20
 go_wp2_with fail
 refine (HR.out _).mono ?_
 rintro e w1 ⟨hres, hb⟩
 obtain ⟨l, h, er, rfl⟩ := spRes_form hres
 have HE := Lib.hid hres
 obtain ⟨hc, hf⟩ := bcell hb
 have hz0 : w.heap.size < w1.heap.size := by have := hb.size; (try simp at this); omega
 have hz1 : w.heap.size + 1 < w1.heap.size := by have := hb.size; (try simp at this); omega
 have hz2 : w.heap.size + 1 + 1 < w1.heap.size := by have := hb.size; (try simp at this); omega
 have g1 : Below w.heap.size w w1 := Below.trans (by (repeat (first | exact below_self _ _ | assumption | refine below_dn ?_ _ | refine Below.drew ?_ | refine Below.setCell ?_ (by (try simp) <;> (try omega)) _ | refine Below.alloc ?_ (by (try simp) <;> (try omega)) _))) (hb.mono (by (try simp) <;> (try omega)))
 have d2 : w1.cell? ⟨w.heap.size + 1 + 1, 0, none⟩ = some (.float .f64 0) := by go_cell
 have d3 : w1.cell? ⟨w.heap.size + 1 + 1, 1, none⟩ = some (.float .f64 0) := by go_cell
 clear hb hres
 go_wp2
 exact bodyPost_ret (v := .tuple #[spv l h, .int .i64 er]) (by simp [results, Tryz.results20, go_sem, d2, d3]) rfl ⟨HE.out, by (repeat (first | exact below_self _ _ | assumption | refine below_dn ?_ _ | refine Below.drew ?_ | refine Below.setCell ?_ (by (try simp) <;> (try omega)) _ | refine Below.alloc ?_ (by (try simp) <;> (try omega)) _))⟩
/-- The ends of a span without nought: of one sign, and no noughts. -/
theorem no_nought {l h : Nat} (hs : Spn l h) (hn : hasN l h = false) : ∃ sg, (0 < mg l ∧ ng l = sg) ∧ (0 < mg h ∧ ng h = sg) := by
 have k : ¬ (key l ≤ 0 ∧ 0 ≤ key h) := fun k => by unfold hasN at hn; rw [decide_eq_true k] at hn; cases hn
 have hk := hs.2.2
 rcases Int.lt_or_le 0 (key l) with g | g
 ·refine ⟨false, ?_, ?_⟩
  ·unfold key at g; split at g
   ·omega
   ·rename_i q; exact ⟨by omega, by simpa using q⟩
  ·have g : 0 < key h := by omega
   unfold key at g; split at g
   ·omega
   ·rename_i q; exact ⟨by omega, by simpa using q⟩
 ·have g' : key h < 0 := by omega
  have g : key l < 0 := by omega
  refine ⟨true, ?_, ?_⟩
  ·unfold key at g; split at g
   ·rename_i q; exact ⟨by omega, q⟩
   ·omega
  ·unfold key at g'; split at g'
   ·rename_i q; exact ⟨by omega, q⟩
   ·omega
theorem recka_quo (al ah bl bh : Nat) (w : World) (h1 : al < 18446744073709551616) (h2 : ah < 18446744073709551616) (h3 : bl < 18446744073709551616) (h4 : bh < 18446744073709551616) (hn : Spn al ah ∧ Spn bl bh → hasN bl bh = false) :
  Calls Tryz.prog 51 #[.func (.func 29) #[] #[], spv al ah, spv bl bh] w fun e w' => SpRes QuotIs al ah bl bh e ∧ Below w.heap.size w w' := by
 by_cases hs : Spn al ah ∧ Spn bl bh
 ·obtain ⟨sg, n1, n2⟩ := no_nought hs.2 (hn hs)
  refine (reckon_quo al ah bl bh w QuotIs h1 h3 hs (fun x y W hx hy => ?_)).mono ?_
  ·have px : x < 18446744073709551616 ∧ mg x < 9218868437227405312 := by
    rcases hx with rfl | rfl
    ·exact ⟨h1, hs.1.1⟩
    ·exact ⟨h2, hs.1.2.1⟩
   have py : y < 18446744073709551616 ∧ mg y < 9218868437227405312 ∧ 0 < mg y := by
    rcases hy with rfl | rfl
    ·exact ⟨h3, hs.2.1, n1.1⟩
    ·exact ⟨h4, hs.2.2.1, n2.1⟩
   exact quo_call W px.1 py.1 px.2 py.2.1 py.2.2
  ·rintro e w' ⟨d1, u1, d2, u2, d3, u3, d4, u4, a, b, he, hb⟩
   exact ⟨.inr ⟨hs, d1, u1, d2, u2, d3, u3, d4, u4, a, b, he⟩, hb⟩
 ·refine (reckon_no _ al ah bl bh w h1 h3 hs).mono ?_
  rintro e w' ⟨he, hb⟩
  exact ⟨.inl ⟨hs, he⟩, hb⟩
set_option maxHeartbeats 1000000 in
theorem spanquo_no (al ah bl bh : Nat) (w : World) (h1 : al < 18446744073709551616) (h2 : ah < 18446744073709551616) (h3 : bl < 18446744073709551616) (h4 : bh < 18446744073709551616) (hs : ¬ (Spn al ah ∧ Spn bl bh)) :
  Calls Tryz.prog 25 #[spv al ah, spv bl bh] w fun e w' => SpRes QuotIs al ah bl bh e ∧ Below w.heap.size w w' := by
 have HC := Lib.hid (fun g W k k0 k1 k2 k3 => check_two g al ah bl bh W h1 h3 k k0 k1 k2 k3)
 have HR := Lib.hid (fun W => recka_quo al ah bl bh W h1 h2 h3 h4 (fun k => absurd k hs))
 have hsf := @run_store_f Tryz.prog .f64
 have e3 : spE2 al ah bl bh = 1 := if_neg hs
 rw [e3] at HC
 clear e3 hs h1 h2 h3 h4 
 go_enter Tryz.func25, Tryz.ntmps25
 go_wp2_with fail
 refine (HC.out _ _ (by simp) (by go_cell) (by go_cell) (by go_cell) (by go_cell)).mono ?_
 rintro e w1 ⟨rfl, hb⟩
 obtain ⟨hc, hf⟩ := bcell hb
 have hz0 : w.heap.size < w1.heap.size := by have := hb.size; (try simp at this); omega
 have hz1 : w.heap.size + 1 < w1.heap.size := by have := hb.size; (try simp at this); omega
 have hz2 : w.heap.size + 1 + 1 < w1.heap.size := by have := hb.size; (try simp at this); omega
 have g1 : Below w.heap.size w w1 := Below.trans (by (repeat (first | exact below_self _ _ | assumption | refine below_dn ?_ _ | refine Below.drew ?_ | refine Below.setCell ?_ (by (try simp) <;> (try omega)) _ | refine Below.alloc ?_ (by (try simp) <;> (try omega)) _))) (hb.mono (by (try simp) <;> (try omega)))
 clear hb

 go_wp2_with fail
 refine (HR.out _).mono ?_
 rintro e wr ⟨hres, hb⟩
 obtain ⟨l, h, er, rfl⟩ := spRes_form hres
 have HE := Lib.hid hres
 obtain ⟨hcr, hfr⟩ := bcell hb
 have hr0 : w.heap.size < wr.heap.size := by have := hb.size; (try simp at this); omega
 have hr1 : w.heap.size + 1 < wr.heap.size := by have := hb.size; (try simp at this); omega
 have hr2 : w.heap.size + 1 + 1 < wr.heap.size := by have := hb.size; (try simp at this); omega
 have gr : Below w.heap.size w wr := Below.trans g1 (hb.mono (by (try simp) <;> (try omega)))
 have d2 : wr.cell? ⟨w.heap.size + 1 + 1, 0, none⟩ = some (.float .f64 0) := by go_cell
 have d3 : wr.cell? ⟨w.heap.size + 1 + 1, 1, none⟩ = some (.float .f64 0) := by go_cell
 clear hb hres
 go_wp2
 exact bodyPost_ret (v := .tuple #[spv l h, .int .i64 er]) (by simp [results, Tryz.results25, go_sem, d2, d3]) rfl ⟨HE.out, by (repeat (first | exact below_self _ _ | assumption | refine below_dn ?_ _ | refine Below.drew ?_ | refine Below.setCell ?_ (by (try simp) <;> (try omega)) _ | refine Below.alloc ?_ (by (try simp) <;> (try omega)) _))⟩
set_option maxHeartbeats 1000000 in
theorem spanquo_do (al ah bl bh : Nat) (w : World) (h1 : al < 18446744073709551616) (h2 : ah < 18446744073709551616) (h3 : bl < 18446744073709551616) (h4 : bh < 18446744073709551616) (hs : Spn al ah ∧ Spn bl bh) (hn : hasN bl bh = false) :
  Calls Tryz.prog 25 #[spv al ah, spv bl bh] w fun e w' => SpRes QuotIs al ah bl bh e ∧ Below w.heap.size w w' := by
 have HC := Lib.hid (fun g W k k0 k1 k2 k3 => check_two g al ah bl bh W h1 h3 k k0 k1 k2 k3)
 have HR := Lib.hid (fun W => recka_quo al ah bl bh W h1 h2 h3 h4 (fun _ => hn))
 have HN := Lib.hid (fun W => hasNought_any bl bh W hs.2)
 rw [hn] at HN
 have hsf := @run_store_f Tryz.prog .f64
 have e3 : spE2 al ah bl bh = 0 := if_pos hs
 rw [e3] at HC
 clear e3 hs h1 h2 h3 h4 hn
 go_enter Tryz.func25, Tryz.ntmps25
 go_wp2_with fail
 refine (HC.out _ _ (by simp) (by go_cell) (by go_cell) (by go_cell) (by go_cell)).mono ?_
 rintro e w1 ⟨rfl, hb⟩
 obtain ⟨hc, hf⟩ := bcell hb
 have hz0 : w.heap.size < w1.heap.size := by have := hb.size; (try simp at this); omega
 have hz1 : w.heap.size + 1 < w1.heap.size := by have := hb.size; (try simp at this); omega
 have hz2 : w.heap.size + 1 + 1 < w1.heap.size := by have := hb.size; (try simp at this); omega
 have g1 : Below w.heap.size w w1 := Below.trans (by (repeat (first | exact below_self _ _ | assumption | refine below_dn ?_ _ | refine Below.drew ?_ | refine Below.setCell ?_ (by (try simp) <;> (try omega)) _ | refine Below.alloc ?_ (by (try simp) <;> (try omega)) _))) (hb.mono (by (try simp) <;> (try omega)))
 clear hb
 go_wp2_with fail
 refine (HN.out _).mono ?_
 rintro e w2 ⟨rfl, hb⟩
 obtain ⟨hc2, hf2⟩ := bcell hb
 have hw0 : w.heap.size < w2.heap.size := by have := hb.size; (try simp at this); omega
 have hw1 : w.heap.size + 1 < w2.heap.size := by have := hb.size; (try simp at this); omega
 have hw2 : w.heap.size + 1 + 1 < w2.heap.size := by have := hb.size; (try simp at this); omega
 have g2 : Below w.heap.size w w2 := g1.trans (hb.mono (by (try simp) <;> (try omega)))
 clear hb g1
 go_wp2_with fail
 refine (HR.out _).mono ?_
 rintro e wr ⟨hres, hb⟩
 obtain ⟨l, h, er, rfl⟩ := spRes_form hres
 have HE := Lib.hid hres
 obtain ⟨hcr, hfr⟩ := bcell hb
 have hr0 : w.heap.size < wr.heap.size := by have := hb.size; (try simp at this); omega
 have hr1 : w.heap.size + 1 < wr.heap.size := by have := hb.size; (try simp at this); omega
 have hr2 : w.heap.size + 1 + 1 < wr.heap.size := by have := hb.size; (try simp at this); omega
 have gr : Below w.heap.size w wr := Below.trans g2 (hb.mono (by (try simp) <;> (try omega)))
 have d2 : wr.cell? ⟨w.heap.size + 1 + 1, 0, none⟩ = some (.float .f64 0) := by go_cell
 have d3 : wr.cell? ⟨w.heap.size + 1 + 1, 1, none⟩ = some (.float .f64 0) := by go_cell
 clear hb hres
 go_wp2
 exact bodyPost_ret (v := .tuple #[spv l h, .int .i64 er]) (by simp [results, Tryz.results25, go_sem, d2, d3]) rfl ⟨HE.out, by (repeat (first | exact below_self _ _ | assumption | refine below_dn ?_ _ | refine Below.drew ?_ | refine Below.setCell ?_ (by (try simp) <;> (try omega)) _ | refine Below.alloc ?_ (by (try simp) <;> (try omega)) _))⟩
/-- What span.Quo answers. -/
def QuRes (al ah bl bh : Nat) (e : Ending) : Prop :=
 ((Spn al ah ∧ Spn bl bh) ∧ hasN bl bh = true ∧ e = .returned (.tuple #[spv 0 0, .int .i64 3])) ∨ ((Spn al ah ∧ Spn bl bh → hasN bl bh = false) ∧ SpRes QuotIs al ah bl bh e)
theorem spanquo_any (al ah bl bh : Nat) (w : World) (h1 : al < 18446744073709551616) (h2 : ah < 18446744073709551616) (h3 : bl < 18446744073709551616) (h4 : bh < 18446744073709551616) :
  Calls Tryz.prog 25 #[spv al ah, spv bl bh] w fun e w' => QuRes al ah bl bh e ∧ Below w.heap.size w w' := by
 by_cases hs : Spn al ah ∧ Spn bl bh
 ·cases hn : hasN bl bh with
  | true => exact (spanquo_zero al ah bl bh w h1 h3 hs hn).mono fun e w' ⟨h, hb⟩ => ⟨.inl ⟨hs, hn, h⟩, hb⟩
  | false => exact (spanquo_do al ah bl bh w h1 h2 h3 h4 hs hn).mono fun e w' ⟨h, hb⟩ => ⟨.inr ⟨fun _ => hn, h⟩, hb⟩
 ·exact (spanquo_no al ah bl bh w h1 h2 h3 h4 hs).mono fun e w' ⟨h, hb⟩ => ⟨.inr ⟨fun k => absurd k hs, h⟩, hb⟩
end Go.Proofs.YtghcoijinihlnaaGreat.Fl
