/-
  The lesser and the greater of two floats as the built-ins tell them; a nought without its sign; what unsigned, In and hasNought return. Condition: floats of 64 bits.
-/
import Derived.Test.YtghcoijinihlnaaSp0
namespace Go.Proofs.Ytghcoijinihlnaa.Fl
open Go.RowKit Ieee
/-- The lesser and the greater of two floats that are no NaN. -/
def fmin (x y : Nat) : Nat := if key x < key y then x else if key y < key x then y else if ng x then x else y
def fmax (x y : Nat) : Nat := if key y < key x then x else if key x < key y then y else if ng x then y else x
/-- What is drawn, if one of them is one. -/
def mmw (b : Bool) (x y : Nat) (w : World) : Nat := Question.cut (.nanMinMax .f64 b x y) (w.tape w.drawn (.nanMinMax .f64 b x y))
def wmin (x y : Nat) (w : World) : Nat := if mg x ≤ 9218868437227405312 ∧ mg y ≤ 9218868437227405312 then fmin x y else mmw false x y w
def wmax (x y : Nat) (w : World) : Nat := if mg x ≤ 9218868437227405312 ∧ mg y ≤ 9218868437227405312 then fmax x y else mmw true x y w
def nmm (x y : Nat) : Nat := if mg x ≤ 9218868437227405312 ∧ mg y ≤ 9218868437227405312 then 0 else 1
theorem rd_neg (s : Bool) (m : Nat) : (rd s m).neg = s := by
  unfold rd
  split
  · rfl
  · split
    · rfl
    · split <;> rfl
theorem decode_neg (x : Nat) : (FloatKind.f64.decode x).neg = ng x := by
  show (double.read x).neg = ng x
  rw [read_rd, rd_neg]
theorem run_min2 {P : Program} (ts : Array TypeId) (t : TypeId) (x y : Nat) (w : World) : (Builtin.min_ ts t #[.float .f64 x, .float .f64 y]).run P w = .ok (.float .f64 (wmin x y w)) (w.drewN (nmm x y)) := by
  unfold wmin nmm fmin
  by_cases h : mg x ≤ 9218868437227405312 ∧ mg y ≤ 9218868437227405312
  · rw [if_pos h, if_pos h]
    have e : FloatKind.f64.format.order x y = some (compare (key x) (key y)) := order_key x y h.1 h.2
    rcases Int.lt_trichotomy (key x) (key y) with g | g | g
    · rw [if_pos g]; rw [cmp_lt g] at e
      simp [Builtin.min_, Builtin.min2, e]; rfl
    · rw [if_neg (by omega), if_neg (by omega)]; rw [g, cmp_eq] at e
      simp [Builtin.min_, Builtin.min2, e, decode_neg]; rfl
    · rw [if_neg (by omega), if_pos g]; rw [cmp_gt g] at e
      simp [Builtin.min_, Builtin.min2, e]; rfl
  · rw [if_neg h, if_neg h]
    have e : FloatKind.f64.format.order x y = none := order_nan x y (by omega)
    simp [Builtin.min_, Builtin.min2, e, mmw, Question.forced]
    rfl
theorem run_max2 {P : Program} (ts : Array TypeId) (t : TypeId) (x y : Nat) (w : World) : (Builtin.max_ ts t #[.float .f64 x, .float .f64 y]).run P w = .ok (.float .f64 (wmax x y w)) (w.drewN (nmm x y)) := by
  unfold wmax nmm fmax
  by_cases h : mg x ≤ 9218868437227405312 ∧ mg y ≤ 9218868437227405312
  · rw [if_pos h, if_pos h]
    have e : FloatKind.f64.format.order x y = some (compare (key x) (key y)) := order_key x y h.1 h.2
    rcases Int.lt_trichotomy (key x) (key y) with g | g | g
    · rw [if_neg (by omega), if_pos g]; rw [cmp_lt g] at e
      simp [Builtin.max_, Builtin.max2, e]; rfl
    · rw [if_neg (by omega), if_neg (by omega)]; rw [g, cmp_eq] at e
      simp [Builtin.max_, Builtin.max2, e, decode_neg]; rfl
    · rw [if_pos g]; rw [cmp_gt g] at e
      simp [Builtin.max_, Builtin.max2, e]; rfl
  · rw [if_neg h, if_neg h]
    have e : FloatKind.f64.format.order x y = none := order_nan x y (by omega)
    simp [Builtin.max_, Builtin.max2, e, mmw, Question.forced]
    rfl
theorem fmin_or (x y : Nat) : fmin x y = x ∨ fmin x y = y := by
  unfold fmin
  split
  · exact .inl rfl
  · split
    · exact .inr rfl
    · split
      · exact .inl rfl
      · exact .inr rfl
theorem fmax_or (x y : Nat) : fmax x y = x ∨ fmax x y = y := by
  unfold fmax
  split
  · exact .inl rfl
  · split
    · exact .inr rfl
    · split
      · exact .inr rfl
      · exact .inl rfl
theorem fmin_key (x y : Nat) : key (fmin x y) = min (key x) (key y) := by
  unfold fmin
  split
  · omega
  · split
    · omega
    · split <;> omega
theorem fmax_key (x y : Nat) : key (fmax x y) = max (key x) (key y) := by
  unfold fmax
  split
  · omega
  · split
    · omega
    · split <;> omega
/-- What holds of both holds of the lesser and of the greater. -/
theorem fmin_of {p : Nat → Prop} {x y : Nat} (hx : p x) (hy : p y) : p (fmin x y) := by rcases fmin_or x y with h | h <;> rw [h] <;> assumption
theorem fmax_of {p : Nat → Prop} {x y : Nat} (hx : p x) (hy : p y) : p (fmax x y) := by rcases fmax_or x y with h | h <;> rw [h] <;> assumption
theorem mmw_lt (b : Bool) (x y : Nat) (w : World) : mmw b x y w < 18446744073709551616 := by
  unfold mmw
  show (w.tape w.drawn (.nanMinMax .f64 b x y) % 2 * 9223372036854775808 + 9218868437227405312 + 1 + w.tape w.drawn (.nanMinMax .f64 b x y) / 2 % 4503599627370495) < 18446744073709551616
  generalize w.tape w.drawn (.nanMinMax .f64 b x y) = t
  have h1 : t / 2 % 4503599627370495 < 4503599627370495 := Nat.mod_lt _ (by omega)
  rcases Nat.mod_two_eq_zero_or_one t with h | h <;> rw [h] <;> omega
theorem wmin_lt {x y : Nat} (w : World) (hx : x < 18446744073709551616) (hy : y < 18446744073709551616) : wmin x y w < 18446744073709551616 := by
  unfold wmin; split
  · exact fmin_of (p := (· < 18446744073709551616)) hx hy
  · exact mmw_lt _ _ _ _
theorem wmax_lt {x y : Nat} (w : World) (hx : x < 18446744073709551616) (hy : y < 18446744073709551616) : wmax x y w < 18446744073709551616 := by
  unfold wmax; split
  · exact fmax_of (p := (· < 18446744073709551616)) hx hy
  · exact mmw_lt _ _ _ _
theorem wmin_is {x y : Nat} (w : World) (hx : mg x ≤ 9218868437227405312) (hy : mg y ≤ 9218868437227405312) : wmin x y w = fmin x y ∧ nmm x y = 0 := ⟨if_pos ⟨hx, hy⟩, if_pos ⟨hx, hy⟩⟩
theorem wmax_is {x y : Nat} (w : World) (hx : mg x ≤ 9218868437227405312) (hy : mg y ≤ 9218868437227405312) : wmax x y w = fmax x y ∧ nmm x y = 0 := ⟨if_pos ⟨hx, hy⟩, if_pos ⟨hx, hy⟩⟩
/-- A nought without its sign; what is no nought as it is. -/
def pls (x : Nat) : Nat := if mg x = 0 then 0 else x
theorem pls_mg (x : Nat) : mg (pls x) = mg x := by
  unfold pls; split
  · rename_i h; rw [h]; decide
  · rfl
theorem pls_key (x : Nat) : key (pls x) = key x := by
  unfold pls; split
  · rename_i h; unfold key; rw [h]; simp [show mg 0 = 0 by decide]
  · rfl
theorem pls_lt {x : Nat} (h : x < 18446744073709551616) : pls x < 18446744073709551616 := by unfold pls; split <;> omega
theorem pls_pls (x : Nat) : pls (pls x) = pls x := by
  by_cases h : mg x = 0
  · have e : pls x = 0 := if_pos h
    rw [e]; rfl
  · have e : pls x = x := if_neg h
    rw [e, e]
/-- Floats of one worth are one, but for a nought's sign. -/
theorem pls_one {x y : Nat} (hx : x < 18446744073709551616) (hy : y < 18446744073709551616) (h : key x = key y) : pls x = pls y := by
  unfold pls
  have h1 : mg x = mg y ∧ (mg x ≠ 0 → ng x = ng y) := by
    unfold key at h
    cases h1 : ng x <;> cases h2 : ng y <;> simp only [h1, h2, Bool.false_eq_true, if_false, if_true] at h <;> exact ⟨by omega, fun g => by first | rfl | (exfalso; omega)⟩
  by_cases g : mg y = 0
  · rw [if_pos g, if_pos (h1.1.trans g)]
  · rw [if_neg g, if_neg (fun e => g (h1.1.symm.trans e))]
    exact eq_of hx hy h1.1 (h1.2 (fun e => g (h1.1.symm.trans e)))
theorem pls_same {x : Nat} (h : ng x = false) (hx : x < 18446744073709551616) : pls x = x := by
  unfold pls; split
  · rename_i g
    have e := word_of x hx
    rw [h, g] at e
    rw [← e]; decide
  · rfl
theorem add_nought {x : Nat} (hx : x < 18446744073709551616) (h : mg x ≤ 9218868437227405312) : double.add x 0 = some (pls x) := by
  rcases Nat.eq_zero_or_pos (mg x) with h0 | h0
  · have e : pls x = 0 := if_pos h0
    rw [e]
    have hw := word_of x hx
    rw [h0] at hw
    cases hs : ng x <;> rw [hs] at hw
    · rw [show double.word false 0 = 0 by decide] at hw
      rw [← hw]; decide +kernel
    · rw [show double.word true 0 = 9223372036854775808 by decide] at hw
      rw [← hw]; decide +kernel
  · have e : pls x = x := if_neg (by omega)
    rw [e]
    rcases Nat.lt_or_eq_of_le h with g | g
    · obtain ⟨r, hr⟩ := add_fin g (show mg 0 < 9218868437227405312 by decide)
      obtain ⟨R, e1, e2, e3, hl⟩ := add_nr g (show mg 0 < 9218868437227405312 by decide) hr
      have hs0 : sval 0 = 0 := sval_zero.2 (by decide)
      rw [hs0, Int.add_zero] at e2 e3
      have hu := nr_unique e2 (by rw [sval_abs]; exact nr_exact (mg x))
      have hne : sval x ≠ 0 := fun k => by have := sval_zero.1 k; omega
      have hsg : decide (sval x < 0) = ng x := by
        unfold sval
        have := uval_pos h0
        cases ng x <;> simp <;> omega
      rw [hr]
      congr 1
      refine eq_of hl hx (by omega) ?_
      rw [e3 hne, hsg]
    · have hw := word_of x hx
      rw [g] at hw
      cases hs : ng x <;> rw [hs] at hw
      · rw [show double.word false 9218868437227405312 = 9218868437227405312 by decide] at hw
        rw [← hw]; decide +kernel
      · rw [show double.word true 9218868437227405312 = 18442240474082181120 by decide] at hw
        rw [← hw]; decide +kernel
theorem fop_nought {x : Nat} (hx : x < 18446744073709551616) (h : mg x ≤ 9218868437227405312) (w : World) : fop .add x 0 w = pls x ∧ nd .add x 0 = 0 := fop_some (op := .add) (add_nought hx h) w
/-- What unsigned makes of a float. -/
def Usg (x a : Nat) : Prop := a < 18446744073709551616 ∧ (mg x ≤ 9218868437227405312 → x < 18446744073709551616 → a = pls x)
theorem usg_fop (x : Nat) (w : World) : Usg x (fop .add x 0 w) := ⟨fop_lt .add x 0 w, fun h hx => (fop_nought hx h w).1⟩
set_option maxHeartbeats 400000 in
theorem unsigned_any (l h : Nat) (w : World) :
    Calls Try.prog 30 #[spv l h] w fun e w' => ∃ a b, e = .returned (spv a b) ∧ Usg l a ∧ Usg h b ∧ Below w.heap.size w w' := by
  have ha := fun t W => run_add (P := Try.prog) t l 0 W
  have hb := fun t W => run_add (P := Try.prog) t h 0 W
  have hsf := @run_store_f Try.prog .f64
  go_enter Try.func30, Try.ntmps30
  go_wp2
  exact bodyPost_ret (v := spv (fop .add l 0 ((w.alloc (.cells #[.float .f64 l, .float .f64 h] 24)).alloc (.cells #[.float .f64 0, .float .f64 0] 24))) (fop .add h 0 (((w.alloc (.cells #[.float .f64 l, .float .f64 h] 24)).alloc (.cells #[.float .f64 0, .float .f64 0] 24)).drewN (nd .add l 0)))) (by simp [results, Try.results30, go_sem]) rfl
    ⟨_, _, rfl, usg_fop _ _, usg_fop _ _, by (repeat (first | exact below_self _ _ | assumption | refine below_dn ?_ _ | refine Below.drew ?_ | refine Below.setCell ?_ (by (try simp) <;> (try omega)) _ | refine Below.alloc ?_ (by (try simp) <;> (try omega)) _))⟩
theorem bcell {W w1 : World} (hb : Below W.heap.size W w1) : (∀ b o, b < W.heap.size → w1.cell? ⟨b, o, none⟩ = W.cell? ⟨b, o, none⟩) ∧ (∀ b o, b < W.heap.size → w1.frozen? ⟨b, o, none⟩ = W.frozen? ⟨b, o, none⟩) :=
  ⟨fun b o h => hb.cell (p := ⟨b, o, none⟩) h, fun b o h => hb.frozen (p := ⟨b, o, none⟩) h⟩
/-- Is the one within the other? -/
def spIn (al ah bl bh : Nat) : Bool := decide (Spn al ah ∧ Spn bl bh ∧ key bl ≤ key al ∧ key ah ≤ key bh)
set_option maxHeartbeats 1000000 in
theorem in_any (al ah bl bh : Nat) (w : World) (h1 : al < 18446744073709551616) (h2 : bl < 18446744073709551616) :
    Calls Try.prog 7 #[spv al ah, spv bl bh] w fun e w' => e = .returned (.bool (spIn al ah bl bh)) ∧ Below w.heap.size w w' := by
  have HC := Lib.hid (fun g W k k0 k1 k2 k3 => check_two g al ah bl bh W h1 h2 k k0 k1 k2 k3)
  have e1 := ord_le bl al
  have e2 := ord_le ah bh
  by_cases hs : Spn al ah ∧ Spn bl bh
  · have e3 : spE2 al ah bl bh = 0 := if_pos hs
    rw [e3] at HC
    have e4 : spIn al ah bl bh = (decide (key bl ≤ key al) && decide (key ah ≤ key bh)) := by
      unfold spIn; rw [← Bool.decide_and]; exact decide_eq_decide.2 ⟨fun h => h.2.2, fun h => ⟨hs.1, hs.2, h⟩⟩
    rw [e4]
    have f1 : decide (mg bl ≤ 9218868437227405312 ∧ mg al ≤ 9218868437227405312 ∧ key bl ≤ key al) = decide (key bl ≤ key al) := decide_eq_decide.2 ⟨fun h => h.2.2, fun h => ⟨Nat.le_of_lt hs.2.1, Nat.le_of_lt hs.1.1, h⟩⟩
    have f2 : decide (mg ah ≤ 9218868437227405312 ∧ mg bh ≤ 9218868437227405312 ∧ key ah ≤ key bh) = decide (key ah ≤ key bh) := decide_eq_decide.2 ⟨fun h => h.2.2, fun h => ⟨Nat.le_of_lt hs.1.2.1, Nat.le_of_lt hs.2.2.1, h⟩⟩
    rw [f1] at e1
    rw [f2] at e2
    clear e3 e4 f1 f2 hs h1 h2
    obtain ⟨p, hp⟩ : ∃ p, decide (key bl ≤ key al) = p := ⟨_, rfl⟩
    obtain ⟨q, hq⟩ : ∃ q, decide (key ah ≤ key bh) = q := ⟨_, rfl⟩
    rw [hp] at e1 ⊢
    rw [hq] at e2 ⊢
    clear hp hq
    cases p <;> (
    go_enter Try.func7, Try.ntmps7
    go_wp2_with fail
    refine (HC.out _ _ (by simp) (by go_cell) (by go_cell) (by go_cell) (by go_cell)).mono ?_
    rintro e w1 ⟨rfl, hb⟩
    obtain ⟨hc, hf⟩ := bcell hb
    have g1 : Below w.heap.size w w1 := Below.trans (by (repeat (first | exact below_self _ _ | assumption | refine below_dn ?_ _ | refine Below.drew ?_ | refine Below.setCell ?_ (by (try simp) <;> (try omega)) _ | refine Below.alloc ?_ (by (try simp) <;> (try omega)) _))) (hb.mono (by simp; try omega))
    clear hb
    go_wp2
    go_ret
    exact ⟨rfl, g1⟩)
  · have e3 : spE2 al ah bl bh = 1 := if_neg hs
    rw [e3] at HC
    have e4 : spIn al ah bl bh = false := decide_eq_false (fun h => hs ⟨h.1, h.2.1⟩)
    rw [e4]
    clear e3 e4 hs h1 h2 e1 e2
    go_enter Try.func7, Try.ntmps7
    go_wp2_with fail
    refine (HC.out _ _ (by simp) (by go_cell) (by go_cell) (by go_cell) (by go_cell)).mono ?_
    rintro e w1 ⟨rfl, hb⟩
    obtain ⟨hc, hf⟩ := bcell hb
    have g1 : Below w.heap.size w w1 := Below.trans (by (repeat (first | exact below_self _ _ | assumption | refine below_dn ?_ _ | refine Below.drew ?_ | refine Below.setCell ?_ (by (try simp) <;> (try omega)) _ | refine Below.alloc ?_ (by (try simp) <;> (try omega)) _))) (hb.mono (by simp; try omega))
    clear hb
    go_wp2
    go_ret
    exact ⟨rfl, g1⟩
end Go.Proofs.Ytghcoijinihlnaa.Fl
