/-
  What span's Add, Sub and Mul return; that some sums and products are as the document has them. Condition: floats of 64 bits.
-/
import Derived.Test.YtghcoijinihlnaaSqa
import Derived.Test.YtghcoijinihlnaaSqm
namespace Go.Proofs.Ytghcoijinihlnaa.Fl
open Go.RowKit Ieee
/-- What an operation of two floats answers. -/
def SumIs (x y d u : Nat) : Prop := ∃ r, double.add x y = some r ∧ AddIs x y r d u
def DifIs (x y d u : Nat) : Prop := ∃ r, double.add x (ngf y) = some r ∧ AddIs x (ngf y) r d u
def ProIs (x y d u : Nat) : Prop := ∃ r, double.mul x y = some r ∧ OpIs x y r (MulLost x y r) d u
def QuotIs (x y d u : Nat) : Prop := ∃ r, double.div x y = some r ∧ OpIs x y r (QuoLost x y r) d u
theorem lohi_flt {r : Nat} (l : Nat) (hr : r < 18446744073709551616) (hm : mg r ≤ 9218868437227405312) : Flt (lo r l) ∧ Flt (hi r l) := by
  rcases lohi_cases r l hm with ⟨e1, e2⟩ | ⟨k, hk, _, e1, e2⟩
  · rw [e1, e2]; exact ⟨⟨hr, hm⟩, ⟨hr, hm⟩⟩
  · rw [e1, e2]
    have h1 : (ng r).toNat ≤ 1 := Bool.toNat_le _
    have h2 : (!ng r).toNat ≤ 1 := Bool.toNat_le _
    refine ⟨⟨word_lt64 _ _ (by omega), ?_⟩, ⟨word_lt64 _ _ (by omega), ?_⟩⟩
    · rw [(word_mg _ _ (by omega)).1]; omega
    · rw [(word_mg _ _ (by omega)).1]; omega
theorem add_flt {x y r d u : Nat} (hr : double.add x y = some r) (h : AddIs x y r d u) : Flt d ∧ Flt u := by
  have ht := add_told hr
  rcases h with ⟨_, rfl, rfl⟩ | ⟨_, _, _, l, _, rfl, rfl⟩
  · exact ⟨⟨ht.2, ht.1⟩, ⟨ht.2, ht.1⟩⟩
  · exact lohi_flt l ht.2 ht.1
theorem op_flt {x y r d u : Nat} {L : Nat → Prop} (hr : r < 18446744073709551616 ∧ mg r ≤ 9218868437227405312) (h : OpIs x y r L d u) : Flt d ∧ Flt u := by
  rcases h with ⟨_, rfl, rfl⟩ | ⟨_, _, l, _, rfl, rfl⟩
  · exact ⟨hr, hr⟩
  · exact lohi_flt l hr.1 hr.2
theorem sum_call {x y : Nat} (W : World) (hx : x < 18446744073709551616) (hy : y < 18446744073709551616) (fx : mg x < 9218868437227405312) (fy : mg y < 9218868437227405312) :
    Calls Try.prog 32 #[.float .f64 x, .float .f64 y] W fun e w' => ∃ d u, e = .returned (.tuple #[.float .f64 d, .float .f64 u]) ∧ Below W.heap.size W w' ∧ Flt d ∧ Flt u ∧ SumIs x y d u := by
  obtain ⟨r, hr⟩ := add_fin fx fy
  refine (add_any x y W hx hy).mono ?_
  rintro e w' ⟨d, u, he, hb, h⟩
  rw [(add_fop hr W).1] at h
  exact ⟨d, u, he, hb, (add_flt hr h).1, (add_flt hr h).2, r, hr, h⟩
theorem pro_call {x y : Nat} (W : World) (hx : x < 18446744073709551616) (hy : y < 18446744073709551616) (fx : mg x < 9218868437227405312) (fy : mg y < 9218868437227405312) :
    Calls Try.prog 21 #[.float .f64 x, .float .f64 y] W fun e w' => ∃ d u, e = .returned (.tuple #[.float .f64 d, .float .f64 u]) ∧ Below W.heap.size W w' ∧ Flt d ∧ Flt u ∧ ProIs x y d u := by
  obtain ⟨r, hr⟩ := mul_fin fx fy
  refine (mul_any x y W hx hy).mono ?_
  rintro e w' ⟨d, u, he, hb, h⟩
  rw [(fop_some (op := .mul) hr W).1] at h
  have ht := mul_told hr
  have hf := op_flt ⟨ht.2, ht.1⟩ h
  exact ⟨d, u, he, hb, hf.1, hf.2, r, hr, h⟩
/-- What an operation of spans answers. -/
def SpRes (Rel : Nat → Nat → Nat → Nat → Prop) (al ah bl bh : Nat) (e : Ending) : Prop :=
  (¬ (Spn al ah ∧ Spn bl bh) ∧ e = .returned (.tuple #[spv 0 0, .int .i64 1])) ∨
  ((Spn al ah ∧ Spn bl bh) ∧ ∃ d1 u1 d2 u2 d3 u3 d4 u4, (Rel al bl d1 u1 ∧ Rel al bh d2 u2 ∧ Rel ah bl d3 u3 ∧ Rel ah bh d4 u4) ∧ (Flt d1 ∧ Flt u1 ∧ Flt d2 ∧ Flt u2 ∧ Flt d3 ∧ Flt u3 ∧ Flt d4 ∧ Flt u4) ∧
      e = .returned (.tuple #[spv (leaLo d1 u1 [(d2, u2), (d3, u3), (d4, u4)]) (leaHi d1 u1 [(d2, u2), (d3, u3), (d4, u4)]), .int .i64 (leaE d1 u1 [(d2, u2), (d3, u3), (d4, u4)])]))
/-- A span and an error of that kind, as values. -/
theorem spRes_form {Rel : Nat → Nat → Nat → Nat → Prop} {al ah bl bh : Nat} {e : Ending} (h : SpRes Rel al ah bl bh e) : ∃ (l h' : Nat) (er : Int), e = .returned (.tuple #[spv l h', .int .i64 er]) := by
  rcases h with ⟨_, h⟩ | ⟨_, d1, u1, d2, u2, d3, u3, d4, u4, _, _, h⟩
  · exact ⟨_, _, _, h⟩
  · exact ⟨_, _, _, h⟩
set_option maxHeartbeats 1000000 in
theorem reckon_no (D al ah bl bh : Nat) (w : World) (h1 : al < 18446744073709551616) (h3 : bl < 18446744073709551616) (hs : ¬ (Spn al ah ∧ Spn bl bh)) :
    Calls Try.prog 31 #[.func (.func D) #[] #[], spv al ah, spv bl bh] w fun e w' => e = .returned (.tuple #[spv 0 0, .int .i64 1]) ∧ Below w.heap.size w w' := by
  have HC := Lib.hid (fun g W k k0 k1 k2 k3 => check_two g al ah bl bh W h1 h3 k k0 k1 k2 k3)
  have hsf := @run_store_f Try.prog .f64
  have e3 : spE2 al ah bl bh = 1 := if_neg hs
  rw [e3] at HC
  clear e3 hs h1 h3
  go_enter Try.func31, Try.ntmps31
  go_wp2_with fail
  refine (HC.out _ _ (by simp) (by go_cell) (by go_cell) (by go_cell) (by go_cell)).mono ?_
  rintro e w1 ⟨rfl, hb⟩
  obtain ⟨hc, hf⟩ := bcell hb
  have hz0 : w.heap.size < w1.heap.size := by have := hb.size; simp at this; omega
  have hz1 : w.heap.size + 1 < w1.heap.size := by have := hb.size; simp at this; omega
  have hz2 : w.heap.size + 1 + 1 < w1.heap.size := by have := hb.size; simp at this; omega
  have g1 : Below w.heap.size w w1 := Below.trans (by (repeat (first | exact below_self _ _ | assumption | refine below_dn ?_ _ | refine Below.drew ?_ | refine Below.setCell ?_ (by (try simp) <;> (try omega)) _ | refine Below.alloc ?_ (by (try simp) <;> (try omega)) _))) (hb.mono (by simp; try omega))
  clear hb
  go_wp2
  exact bodyPost_ret (v := .tuple #[spv 0 0, .int .i64 1]) (by simp [results, Try.results31, go_sem, hc]) rfl ⟨rfl, by (repeat (first | exact below_self _ _ | assumption | refine below_dn ?_ _ | refine Below.drew ?_ | refine Below.setCell ?_ (by (try simp) <;> (try omega)) _ | refine Below.alloc ?_ (by (try simp) <;> (try omega)) _))⟩
theorem recka_add (al ah bl bh : Nat) (w : World) (h1 : al < 18446744073709551616) (h2 : ah < 18446744073709551616) (h3 : bl < 18446744073709551616) (h4 : bh < 18446744073709551616) :
    Calls Try.prog 31 #[.func (.func 32) #[] #[], spv al ah, spv bl bh] w fun e w' => SpRes SumIs al ah bl bh e ∧ Below w.heap.size w w' := by
  by_cases hs : Spn al ah ∧ Spn bl bh
  · refine (reckon_add al ah bl bh w SumIs h1 h3 hs (fun x y W hx hy => ?_)).mono ?_
    · have px : x < 18446744073709551616 ∧ mg x < 9218868437227405312 := by
        rcases hx with rfl | rfl
        · exact ⟨h1, hs.1.1⟩
        · exact ⟨h2, hs.1.2.1⟩
      have py : y < 18446744073709551616 ∧ mg y < 9218868437227405312 := by
        rcases hy with rfl | rfl
        · exact ⟨h3, hs.2.1⟩
        · exact ⟨h4, hs.2.2.1⟩
      exact sum_call W px.1 py.1 px.2 py.2
    · rintro e w' ⟨d1, u1, d2, u2, d3, u3, d4, u4, a, b, he, hb⟩
      exact ⟨.inr ⟨hs, d1, u1, d2, u2, d3, u3, d4, u4, a, b, he⟩, hb⟩
  · refine (reckon_no _ al ah bl bh w h1 h3 hs).mono ?_
    rintro e w' ⟨he, hb⟩
    exact ⟨.inl ⟨hs, he⟩, hb⟩
set_option maxHeartbeats 1000000 in
theorem spanadd_any (al ah bl bh : Nat) (w : World) (h1 : al < 18446744073709551616) (h2 : ah < 18446744073709551616) (h3 : bl < 18446744073709551616) (h4 : bh < 18446744073709551616) :
    Calls Try.prog 15 #[spv al ah, spv bl bh] w fun e w' => SpRes SumIs al ah bl bh e ∧ Below w.heap.size w w' := by
  have HR := Lib.hid (fun W => recka_add al ah bl bh W h1 h2 h3 h4)
  have hsf := @run_store_f Try.prog .f64
  clear h1 h2 h3 h4
  go_enter Try.func15, Try.ntmps15
  go_wp2_with fail
  refine (HR.out _).mono ?_
  rintro e w1 ⟨hres, hb⟩
  obtain ⟨l, h, er, rfl⟩ := spRes_form hres
  have HE := Lib.hid hres
  obtain ⟨hc, hf⟩ := bcell hb
  have hz0 : w.heap.size < w1.heap.size := by have := hb.size; simp at this; omega
  have hz1 : w.heap.size + 1 < w1.heap.size := by have := hb.size; simp at this; omega
  have hz2 : w.heap.size + 1 + 1 < w1.heap.size := by have := hb.size; simp at this; omega
  have g1 : Below w.heap.size w w1 := Below.trans (by (repeat (first | exact below_self _ _ | assumption | refine below_dn ?_ _ | refine Below.drew ?_ | refine Below.setCell ?_ (by (try simp) <;> (try omega)) _ | refine Below.alloc ?_ (by (try simp) <;> (try omega)) _))) (hb.mono (by simp; try omega))
  have d2 : w1.cell? ⟨w.heap.size + 1 + 1, 0, none⟩ = some (.float .f64 0) := by go_cell
  have d3 : w1.cell? ⟨w.heap.size + 1 + 1, 1, none⟩ = some (.float .f64 0) := by go_cell
  clear hb hres
  go_wp2
  exact bodyPost_ret (v := .tuple #[spv l h, .int .i64 er]) (by simp [results, Try.results15, go_sem, d2, d3]) rfl ⟨HE.out, by (repeat (first | exact below_self _ _ | assumption | refine below_dn ?_ _ | refine Below.drew ?_ | refine Below.setCell ?_ (by (try simp) <;> (try omega)) _ | refine Below.alloc ?_ (by (try simp) <;> (try omega)) _))⟩
theorem recka_mul (al ah bl bh : Nat) (w : World) (h1 : al < 18446744073709551616) (h2 : ah < 18446744073709551616) (h3 : bl < 18446744073709551616) (h4 : bh < 18446744073709551616) :
    Calls Try.prog 31 #[.func (.func 21) #[] #[], spv al ah, spv bl bh] w fun e w' => SpRes ProIs al ah bl bh e ∧ Below w.heap.size w w' := by
  by_cases hs : Spn al ah ∧ Spn bl bh
  · refine (reckon_mul al ah bl bh w ProIs h1 h3 hs (fun x y W hx hy => ?_)).mono ?_
    · have px : x < 18446744073709551616 ∧ mg x < 9218868437227405312 := by
        rcases hx with rfl | rfl
        · exact ⟨h1, hs.1.1⟩
        · exact ⟨h2, hs.1.2.1⟩
      have py : y < 18446744073709551616 ∧ mg y < 9218868437227405312 := by
        rcases hy with rfl | rfl
        · exact ⟨h3, hs.2.1⟩
        · exact ⟨h4, hs.2.2.1⟩
      exact pro_call W px.1 py.1 px.2 py.2
    · rintro e w' ⟨d1, u1, d2, u2, d3, u3, d4, u4, a, b, he, hb⟩
      exact ⟨.inr ⟨hs, d1, u1, d2, u2, d3, u3, d4, u4, a, b, he⟩, hb⟩
  · refine (reckon_no _ al ah bl bh w h1 h3 hs).mono ?_
    rintro e w' ⟨he, hb⟩
    exact ⟨.inl ⟨hs, he⟩, hb⟩
set_option maxHeartbeats 1000000 in
theorem spanmul_any (al ah bl bh : Nat) (w : World) (h1 : al < 18446744073709551616) (h2 : ah < 18446744073709551616) (h3 : bl < 18446744073709551616) (h4 : bh < 18446744073709551616) :
    Calls Try.prog 16 #[spv al ah, spv bl bh] w fun e w' => SpRes ProIs al ah bl bh e ∧ Below w.heap.size w w' := by
  have HR := Lib.hid (fun W => recka_mul al ah bl bh W h1 h2 h3 h4)
  have hsf := @run_store_f Try.prog .f64
  clear h1 h2 h3 h4
  go_enter Try.func16, Try.ntmps16
  go_wp2_with fail
  refine (HR.out _).mono ?_
  rintro e w1 ⟨hres, hb⟩
  obtain ⟨l, h, er, rfl⟩ := spRes_form hres
  have HE := Lib.hid hres
  obtain ⟨hc, hf⟩ := bcell hb
  have hz0 : w.heap.size < w1.heap.size := by have := hb.size; simp at this; omega
  have hz1 : w.heap.size + 1 < w1.heap.size := by have := hb.size; simp at this; omega
  have hz2 : w.heap.size + 1 + 1 < w1.heap.size := by have := hb.size; simp at this; omega
  have g1 : Below w.heap.size w w1 := Below.trans (by (repeat (first | exact below_self _ _ | assumption | refine below_dn ?_ _ | refine Below.drew ?_ | refine Below.setCell ?_ (by (try simp) <;> (try omega)) _ | refine Below.alloc ?_ (by (try simp) <;> (try omega)) _))) (hb.mono (by simp; try omega))
  have d2 : w1.cell? ⟨w.heap.size + 1 + 1, 0, none⟩ = some (.float .f64 0) := by go_cell
  have d3 : w1.cell? ⟨w.heap.size + 1 + 1, 1, none⟩ = some (.float .f64 0) := by go_cell
  clear hb hres
  go_wp2
  exact bodyPost_ret (v := .tuple #[spv l h, .int .i64 er]) (by simp [results, Try.results16, go_sem, d2, d3]) rfl ⟨HE.out, by (repeat (first | exact below_self _ _ | assumption | refine below_dn ?_ _ | refine Below.drew ?_ | refine Below.setCell ?_ (by (try simp) <;> (try omega)) _ | refine Below.alloc ?_ (by (try simp) <;> (try omega)) _))⟩
theorem lohi_none {s l : Nat} (hp : Pl s) (h : (double.order l 0 == some .eq) = true) : lo s l = s ∧ hi s l = s := lohi_exact hp.1 hp.2 h
theorem fsum1 {d u : Nat} (h : SumIs 4607182418800017408 4621819117588971520 d u) : d = 4622382067542392832 ∧ u = 4622382067542392832 := by
  obtain ⟨r, hr, h⟩ := h
  rw [show double.add 4607182418800017408 4621819117588971520 = some 4622382067542392832 by decide +kernel] at hr; cases hr
  rcases h with ⟨_, rfl, rfl⟩ | ⟨_, _, _, l, hl, rfl, rfl⟩
  · exact ⟨rfl, rfl⟩
  · rcases hl with ⟨h, _⟩ | ⟨_, z, y, h, h3⟩
    · exact absurd h (by decide)
    · rw [show (FloatKind.f64.format.order (mg 4607182418800017408) (mg 4621819117588971520) == some .lt) = true by decide +kernel] at h
      obtain ⟨h1, h2⟩ := h
      rw [show double.sub 4622382067542392832 4621819117588971520 = some 4607182418800017408 by decide +kernel] at h1; cases h1
      rw [show double.sub 4607182418800017408 4607182418800017408 = some 0 by decide +kernel] at h2; cases h2
      rw [show double.add 0 0 = some 0 by decide +kernel] at h3; cases h3
      exact lohi_none (by unfold Pl; decide) (by decide +kernel)
theorem fsum2 {d u : Nat} (h : SumIs 4607182418800017408 4626322717216342016 d u) : d = 4626604192193052672 ∧ u = 4626604192193052672 := by
  obtain ⟨r, hr, h⟩ := h
  rw [show double.add 4607182418800017408 4626322717216342016 = some 4626604192193052672 by decide +kernel] at hr; cases hr
  rcases h with ⟨_, rfl, rfl⟩ | ⟨_, _, _, l, hl, rfl, rfl⟩
  · exact ⟨rfl, rfl⟩
  · rcases hl with ⟨h, _⟩ | ⟨_, z, y, h, h3⟩
    · exact absurd h (by decide)
    · rw [show (FloatKind.f64.format.order (mg 4607182418800017408) (mg 4626322717216342016) == some .lt) = true by decide +kernel] at h
      obtain ⟨h1, h2⟩ := h
      rw [show double.sub 4626604192193052672 4626322717216342016 = some 4607182418800017408 by decide +kernel] at h1; cases h1
      rw [show double.sub 4607182418800017408 4607182418800017408 = some 0 by decide +kernel] at h2; cases h2
      rw [show double.add 0 0 = some 0 by decide +kernel] at h3; cases h3
      exact lohi_none (by unfold Pl; decide) (by decide +kernel)
theorem fsum3 {d u : Nat} (h : SumIs 4611686018427387904 4621819117588971520 d u) : d = 4622945017495814144 ∧ u = 4622945017495814144 := by
  obtain ⟨r, hr, h⟩ := h
  rw [show double.add 4611686018427387904 4621819117588971520 = some 4622945017495814144 by decide +kernel] at hr; cases hr
  rcases h with ⟨_, rfl, rfl⟩ | ⟨_, _, _, l, hl, rfl, rfl⟩
  · exact ⟨rfl, rfl⟩
  · rcases hl with ⟨h, _⟩ | ⟨_, z, y, h, h3⟩
    · exact absurd h (by decide)
    · rw [show (FloatKind.f64.format.order (mg 4611686018427387904) (mg 4621819117588971520) == some .lt) = true by decide +kernel] at h
      obtain ⟨h1, h2⟩ := h
      rw [show double.sub 4622945017495814144 4621819117588971520 = some 4611686018427387904 by decide +kernel] at h1; cases h1
      rw [show double.sub 4611686018427387904 4611686018427387904 = some 0 by decide +kernel] at h2; cases h2
      rw [show double.add 0 0 = some 0 by decide +kernel] at h3; cases h3
      exact lohi_none (by unfold Pl; decide) (by decide +kernel)
theorem fsum4 {d u : Nat} (h : SumIs 4611686018427387904 4626322717216342016 d u) : d = 4626885667169763328 ∧ u = 4626885667169763328 := by
  obtain ⟨r, hr, h⟩ := h
  rw [show double.add 4611686018427387904 4626322717216342016 = some 4626885667169763328 by decide +kernel] at hr; cases hr
  rcases h with ⟨_, rfl, rfl⟩ | ⟨_, _, _, l, hl, rfl, rfl⟩
  · exact ⟨rfl, rfl⟩
  · rcases hl with ⟨h, _⟩ | ⟨_, z, y, h, h3⟩
    · exact absurd h (by decide)
    · rw [show (FloatKind.f64.format.order (mg 4611686018427387904) (mg 4626322717216342016) == some .lt) = true by decide +kernel] at h
      obtain ⟨h1, h2⟩ := h
      rw [show double.sub 4626885667169763328 4626322717216342016 = some 4611686018427387904 by decide +kernel] at h1; cases h1
      rw [show double.sub 4611686018427387904 4611686018427387904 = some 0 by decide +kernel] at h2; cases h2
      rw [show double.add 0 0 = some 0 by decide +kernel] at h3; cases h3
      exact lohi_none (by unfold Pl; decide) (by decide +kernel)
theorem fpro1 {d u : Nat} (h : ProIs 13830554455654793216 13837309855095848960 d u) : d = 4613937818241073152 ∧ u = 4613937818241073152 := by
  obtain ⟨r, hr, h⟩ := h
  rw [show double.mul 13830554455654793216 13837309855095848960 = some 4613937818241073152 by decide +kernel] at hr; cases hr
  rcases h with ⟨_, rfl, rfl⟩ | ⟨_, _, l, ⟨k, rfl, hk⟩, rfl, rfl⟩
  · exact ⟨rfl, rfl⟩
  · have hl : LeftIs 13830554455654793216 13837309855095848960 4613937818241073152 0 := ⟨13830554455654793216, 4613937818241073152, by rw [show lsmall 4613937818241073152 = false by decide +kernel]; exact ⟨rfl, rfl⟩, by decide +kernel⟩
    have := hk _ hl
    subst this
    exact lohi_none (by unfold Pl; decide) (by decide +kernel)
theorem fpro2 {d u : Nat} (h : ProIs 13830554455654793216 4616189618054758400 d u) : d = 13839561654909534208 ∧ u = 13839561654909534208 := by
  obtain ⟨r, hr, h⟩ := h
  rw [show double.mul 13830554455654793216 4616189618054758400 = some 13839561654909534208 by decide +kernel] at hr; cases hr
  rcases h with ⟨_, rfl, rfl⟩ | ⟨_, _, l, ⟨k, rfl, hk⟩, rfl, rfl⟩
  · exact ⟨rfl, rfl⟩
  · have hl : LeftIs 13830554455654793216 4616189618054758400 13839561654909534208 0 := ⟨13830554455654793216, 13839561654909534208, by rw [show lsmall 13839561654909534208 = false by decide +kernel]; exact ⟨rfl, rfl⟩, by decide +kernel⟩
    have := hk _ hl
    subst this
    exact lohi_none (by unfold Pl; decide) (by decide +kernel)
theorem fpro3 {d u : Nat} (h : ProIs 4611686018427387904 13837309855095848960 d u) : d = 13841813454723219456 ∧ u = 13841813454723219456 := by
  obtain ⟨r, hr, h⟩ := h
  rw [show double.mul 4611686018427387904 13837309855095848960 = some 13841813454723219456 by decide +kernel] at hr; cases hr
  rcases h with ⟨_, rfl, rfl⟩ | ⟨_, _, l, ⟨k, rfl, hk⟩, rfl, rfl⟩
  · exact ⟨rfl, rfl⟩
  · have hl : LeftIs 4611686018427387904 13837309855095848960 13841813454723219456 0 := ⟨4611686018427387904, 13841813454723219456, by rw [show lsmall 13841813454723219456 = false by decide +kernel]; exact ⟨rfl, rfl⟩, by decide +kernel⟩
    have := hk _ hl
    subst this
    exact lohi_none (by unfold Pl; decide) (by decide +kernel)
theorem fpro4 {d u : Nat} (h : ProIs 4611686018427387904 4616189618054758400 d u) : d = 4620693217682128896 ∧ u = 4620693217682128896 := by
  obtain ⟨r, hr, h⟩ := h
  rw [show double.mul 4611686018427387904 4616189618054758400 = some 4620693217682128896 by decide +kernel] at hr; cases hr
  rcases h with ⟨_, rfl, rfl⟩ | ⟨_, _, l, ⟨k, rfl, hk⟩, rfl, rfl⟩
  · exact ⟨rfl, rfl⟩
  · have hl : LeftIs 4611686018427387904 4616189618054758400 4620693217682128896 0 := ⟨4611686018427387904, 4620693217682128896, by rw [show lsmall 4620693217682128896 = false by decide +kernel]; exact ⟨rfl, rfl⟩, by decide +kernel⟩
    have := hk _ hl
    subst this
    exact lohi_none (by unfold Pl; decide) (by decide +kernel)
theorem lea_sum : leaLo 4622382067542392832 4622382067542392832 [(4626604192193052672, 4626604192193052672), (4622945017495814144, 4622945017495814144), (4626885667169763328, 4626885667169763328)] = 4622382067542392832 ∧ leaHi 4622382067542392832 4622382067542392832 [(4626604192193052672, 4626604192193052672), (4622945017495814144, 4622945017495814144), (4626885667169763328, 4626885667169763328)] = 4626885667169763328 ∧ leaE 4622382067542392832 4622382067542392832 [(4626604192193052672, 4626604192193052672), (4622945017495814144, 4622945017495814144), (4626885667169763328, 4626885667169763328)] = 0 := by decide +kernel
theorem lea_pro : leaLo 4613937818241073152 4613937818241073152 [(13839561654909534208, 13839561654909534208), (13841813454723219456, 13841813454723219456), (4620693217682128896, 4620693217682128896)] = 13841813454723219456 ∧ leaHi 4613937818241073152 4613937818241073152 [(13839561654909534208, 13839561654909534208), (13841813454723219456, 13841813454723219456), (4620693217682128896, 4620693217682128896)] = 4620693217682128896 ∧ leaE 4613937818241073152 4613937818241073152 [(13839561654909534208, 13839561654909534208), (13841813454723219456, 13841813454723219456), (4620693217682128896, 4620693217682128896)] = 0 := by decide +kernel
theorem res_sum {e : Ending} (h : SpRes SumIs 4607182418800017408 4611686018427387904 4621819117588971520 4626322717216342016 e) : e = .returned (.tuple #[spv 4622382067542392832 4626885667169763328, .int .i64 0]) := by
  rcases h with ⟨h, _⟩ | ⟨_, d1, u1, d2, u2, d3, u3, d4, u4, ⟨a, b, c, d⟩, _, rfl⟩
  · exact absurd (by decide +kernel) h
  · obtain ⟨rfl, rfl⟩ := fsum1 a
    obtain ⟨rfl, rfl⟩ := fsum2 b
    obtain ⟨rfl, rfl⟩ := fsum3 c
    obtain ⟨rfl, rfl⟩ := fsum4 d
    rw [lea_sum.1, lea_sum.2.1, lea_sum.2.2]
theorem res_pro {e : Ending} (h : SpRes ProIs 13830554455654793216 4611686018427387904 13837309855095848960 4616189618054758400 e) : e = .returned (.tuple #[spv 13841813454723219456 4620693217682128896, .int .i64 0]) := by
  rcases h with ⟨h, _⟩ | ⟨_, d1, u1, d2, u2, d3, u3, d4, u4, ⟨a, b, c, d⟩, _, rfl⟩
  · exact absurd (by decide +kernel) h
  · obtain ⟨rfl, rfl⟩ := fpro1 a
    obtain ⟨rfl, rfl⟩ := fpro2 b
    obtain ⟨rfl, rfl⟩ := fpro3 c
    obtain ⟨rfl, rfl⟩ := fpro4 d
    rw [lea_pro.1, lea_pro.2.1, lea_pro.2.2]
end Go.Proofs.Ytghcoijinihlnaa.Fl
