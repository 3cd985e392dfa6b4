/-
  What a span's Check, In, least, between, reckon return; cells that hold floats. Conditions: floats of 64 bits.
-/
import Derived.Test.YtghcoijinihlnaaGreatExu
import Derived.Outline
import Derived.RegionTactic
import Derived.Deep.RegionHeld3
import Derived.Laws.IdiomCopy
import Derived.Test.YtghcoijinihlnaaGreatFqe
import Derived.Deep.DeepCutAuto
namespace Go.Proofs.YtghcoijinihlnaaGreat.Fl
open Go.RowKit Ieee
theorem run_store_f {P : Program} (k : FloatKind) (b : Nat) (a : Addr) (m : Mode) (w : World) : (store a (.float k b) m).run P w = stored P w a (.float k b) m := run_store P w a _ m rfl
/-- A span's value. -/
abbrev spv (l h : Nat) : Value := .agg #[.float .f64 l, .float .f64 h]
/-- May a span be? -/
def Spn (l h : Nat) : Prop := mg l < 9218868437227405312 ∧ mg h < 9218868437227405312 ∧ key l ≤ key h
instance (l h : Nat) : Decidable (Spn l h) := by unfold Spn; infer_instance
/-- Check's answer. -/
def spE (l h : Nat) : Int := if Spn l h then 0 else 1
theorem spE_ok {l h : Nat} (k : Spn l h) : spE l h = 0 := if_pos k
theorem spE_no {l h : Nat} (k : ¬ Spn l h) : spE l h = 1 := if_neg k
theorem ord_le (x y : Nat) : (FloatKind.f64.format.order x y == some .lt || FloatKind.f64.format.order x y == some .eq) = decide (mg x ≤ 9218868437227405312 ∧ mg y ≤ 9218868437227405312 ∧ key x ≤ key y) := by
  rw [ord_lt, ord_eq, ← Bool.decide_or]
  exact decide_eq_decide.2 (by omega)
theorem spn_bools (l h : Nat) : decide (Spn l h) = (decide (mg l ≤ 9218868437227405312 ∧ mg h ≤ 9218868437227405312 ∧ key l ≤ key h) && (!decide (mg l = 9218868437227405312 ∧ ng l = true)) && !decide (mg h = 9218868437227405312 ∧ ng h = false)) := by
  rw [← decide_not, ← decide_not, ← Bool.decide_and, ← Bool.decide_and]
  refine decide_eq_decide.2 ?_
  unfold Spn key
  cases ng l <;> cases ng h <;> simp <;> omega
set_option maxHeartbeats 400000 in
theorem check_span (l h : Nat) (w : World) (hl : l < 18446744073709551616) :
    Calls Tryz.prog 48 #[spv l h] w fun e w' => e = .returned (.int .i64 (spE l h)) ∧ w' = w.alloc (.cells #[.float .f64 l, .float .f64 h] 44) := by
  have HD := Lib.hid (fun W => isInfDown_any l W hl)
  have HU := Lib.hid (fun W => isInfUp_any h W)
  have e1 := ord_le l h
  have hs := spn_bools l h
  obtain ⟨p, hp⟩ : ∃ p, decide (mg l ≤ 9218868437227405312 ∧ mg h ≤ 9218868437227405312 ∧ key l ≤ key h) = p := ⟨_, rfl⟩
  obtain ⟨q, hq⟩ : ∃ q, decide (mg l = 9218868437227405312 ∧ ng l = true) = q := ⟨_, rfl⟩
  obtain ⟨r, hr⟩ : ∃ r, decide (mg h = 9218868437227405312 ∧ ng h = false) = r := ⟨_, rfl⟩
  rw [hp] at e1 hs
  rw [hq] at HD hs
  rw [hr] at HU hs
  clear hp hq hr hl
  cases p
  · rw [spE_no (fun k => by simp [k] at hs)]
    clear hs HD HU
    go_enter Tryz.func48, Tryz.ntmps48
    go_wp2
    go_ret; exact ⟨rfl, rfl⟩
  · cases q
    · cases r
      · rw [spE_ok (by simpa using hs)]
        clear hs
        go_enter Tryz.func48, Tryz.ntmps48
        go_wp2_with (go_at_call 46; first | (with_reducible refine (HU.out _).mono ?_; rintro e w' ⟨rfl, rfl⟩) | (with_reducible refine (HD.out _).mono ?_; rintro e w' ⟨rfl, rfl⟩))
        go_ret; exact ⟨rfl, rfl⟩
      · rw [spE_no (fun k => by simp [k] at hs)]
        clear hs
        go_enter Tryz.func48, Tryz.ntmps48
        go_wp2_with (go_at_call 46; first | (with_reducible refine (HU.out _).mono ?_; rintro e w' ⟨rfl, rfl⟩) | (with_reducible refine (HD.out _).mono ?_; rintro e w' ⟨rfl, rfl⟩))
        go_ret; exact ⟨rfl, rfl⟩
    · rw [spE_no (fun k => by simp [k] at hs)]
      clear hs
      go_enter Tryz.func48, Tryz.ntmps48
      go_wp2_with (go_at_call 46; first | (with_reducible refine (HU.out _).mono ?_; rintro e w' ⟨rfl, rfl⟩) | (with_reducible refine (HD.out _).mono ?_; rintro e w' ⟨rfl, rfl⟩))
      go_ret; exact ⟨rfl, rfl⟩
theorem spE_01 (l h : Nat) : spE l h = 0 ∧ Spn l h ∨ spE l h = 1 ∧ ¬ Spn l h := by
  by_cases k : Spn l h
  · exact .inl ⟨spE_ok k, k⟩
  · exact .inr ⟨spE_no k, k⟩
/-- check of two. -/
def spE2 (l h m k : Nat) : Int := if Spn l h ∧ Spn m k then 0 else 1
set_option maxHeartbeats 1000000 in
theorem check_two (g l h m k : Nat) (w : World) (hl : l < 18446744073709551616) (hm : m < 18446744073709551616) (hg : g < w.heap.size)
    (h0 : w.cell? ⟨g, 0, none⟩ = some (.float .f64 l)) (h1 : w.cell? ⟨g, 1, none⟩ = some (.float .f64 h)) (h2 : w.cell? ⟨g, 2, none⟩ = some (.float .f64 m)) (h3 : w.cell? ⟨g, 3, none⟩ = some (.float .f64 k)) :
    Calls Tryz.prog 63 #[.slice (some ⟨g, 0, none⟩) 2 2] w fun e w' => e = .returned (.int .i64 (spE2 l h m k)) ∧ Below w.heap.size w w' := by
  have HA := Lib.hid (fun W => check_span l h W hl)
  have HB := Lib.hid (fun W => check_span m k W hm)
  have hsf := @run_store_f Tryz.prog .f64
  clear hl hm
  rcases spE_01 l h with ⟨a1, a2⟩ | ⟨a1, a2⟩
  · rw [a1] at HA
    rcases spE_01 m k with ⟨b1, b2⟩ | ⟨b1, b2⟩
    · rw [b1] at HB
      have e : spE2 l h m k = 0 := if_pos ⟨a2, b2⟩
      rw [e]
      clear a1 a2 b1 b2 e
      go_enter Tryz.func63, Tryz.ntmps63
      go_wp2
      refine wp_loop_rounds 3 ?_
      rw [rounds_succ]
      go_wp2_with (go_at_call 48; refine (HA.out _).mono ?_; rintro e w' ⟨rfl, rfl⟩)
      rw [rounds_succ]
      go_wp2_with (go_at_call 48; refine (HB.out _).mono ?_; rintro e w' ⟨rfl, rfl⟩)
      rw [rounds_succ]
      go_wp2
      go_ret; exact ⟨rfl, by go_grown⟩
    · rw [b1] at HB
      have e : spE2 l h m k = 1 := if_neg (fun x => b2 x.2)
      rw [e]
      clear a1 a2 b1 b2 e
      go_enter Tryz.func63, Tryz.ntmps63
      go_wp2
      refine wp_loop_rounds 3 ?_
      rw [rounds_succ]
      go_wp2_with (go_at_call 48; refine (HA.out _).mono ?_; rintro e w' ⟨rfl, rfl⟩)
      rw [rounds_succ]
      go_wp2_with (go_at_call 48; refine (HB.out _).mono ?_; rintro e w' ⟨rfl, rfl⟩)
      go_ret; exact ⟨rfl, by go_grown⟩
  · rw [a1] at HA
    have e : spE2 l h m k = 1 := if_neg (fun x => a2 x.1)
    rw [e]
    clear a1 a2 e HB
    go_enter Tryz.func63, Tryz.ntmps63
    go_wp2
    refine wp_loop_rounds 3 ?_
    rw [rounds_succ]
    go_wp2_with (go_at_call 48; refine (HA.out _).mono ?_; rintro e w' ⟨rfl, rfl⟩)
    go_ret; exact ⟨rfl, by go_grown⟩
end Go.Proofs.YtghcoijinihlnaaGreat.Fl
namespace Go.Proofs.YtghcoijinihlnaaGreat.Fl
open Go.RowKit Ieee
/-- The lesser and the greater of two floats that are no NaN. -/
def fmin (x y : Nat) : Nat := if key x < key y then x else if key y < key x then y else if ng x then x else y
def fmax (x y : Nat) : Nat := if key y < key x then x else if key x < key y then y else if ng x then y else x
/-- What is drawn, if one of them is one. -/
def mmw (b : Bool) (x y : Nat) (w : World) : Nat := Question.cut (.nanMinMax .f64 b x y) (w.tape w.drawn (.nanMinMax .f64 b x y))
def wmin (x y : Nat) (w : World) : Nat := if mg x ≤ 9218868437227405312 ∧ mg y ≤ 9218868437227405312 then fmin x y else mmw false x y w
def wmax (x y : Nat) (w : World) : Nat := if mg x ≤ 9218868437227405312 ∧ mg y ≤ 9218868437227405312 then fmax x y else mmw true x y w
def nmm (x y : Nat) : Nat := if mg x ≤ 9218868437227405312 ∧ mg y ≤ 9218868437227405312 then 0 else 1
theorem rd_neg (s : Bool) (m : Nat) : (rd s m).neg = s := by
  unfold rd
  split
  · rfl
  · split
    · rfl
    · split <;> rfl
theorem decode_neg (x : Nat) : (FloatKind.f64.decode x).neg = ng x := by
  show (double.read x).neg = ng x
  rw [read_rd, rd_neg]
theorem run_min2 {P : Program} (ts : Array TypeId) (t : TypeId) (x y : Nat) (w : World) : (Builtin.min_ ts t #[.float .f64 x, .float .f64 y]).run P w = .ok (.float .f64 (wmin x y w)) (w.drewN (nmm x y)) := by
  unfold wmin nmm fmin
  by_cases h : mg x ≤ 9218868437227405312 ∧ mg y ≤ 9218868437227405312
  · rw [if_pos h, if_pos h]
    have e : FloatKind.f64.format.order x y = some (compare (key x) (key y)) := order_key x y h.1 h.2
    rcases Int.lt_trichotomy (key x) (key y) with g | g | g
    · rw [if_pos g]; rw [cmp_lt g] at e
      simp [Builtin.min_, Builtin.min2, e]; rfl
    · rw [if_neg (by omega), if_neg (by omega)]; rw [g, cmp_eq] at e
      simp [Builtin.min_, Builtin.min2, e, decode_neg]; rfl
    · rw [if_neg (by omega), if_pos g]; rw [cmp_gt g] at e
      simp [Builtin.min_, Builtin.min2, e]; rfl
  · rw [if_neg h, if_neg h]
    have e : FloatKind.f64.format.order x y = none := order_nan x y (by omega)
    simp [Builtin.min_, Builtin.min2, e, mmw, Question.forced]
    rfl
theorem run_max2 {P : Program} (ts : Array TypeId) (t : TypeId) (x y : Nat) (w : World) : (Builtin.max_ ts t #[.float .f64 x, .float .f64 y]).run P w = .ok (.float .f64 (wmax x y w)) (w.drewN (nmm x y)) := by
  unfold wmax nmm fmax
  by_cases h : mg x ≤ 9218868437227405312 ∧ mg y ≤ 9218868437227405312
  · rw [if_pos h, if_pos h]
    have e : FloatKind.f64.format.order x y = some (compare (key x) (key y)) := order_key x y h.1 h.2
    rcases Int.lt_trichotomy (key x) (key y) with g | g | g
    · rw [if_neg (by omega), if_pos g]; rw [cmp_lt g] at e
      simp [Builtin.max_, Builtin.max2, e]; rfl
    · rw [if_neg (by omega), if_neg (by omega)]; rw [g, cmp_eq] at e
      simp [Builtin.max_, Builtin.max2, e, decode_neg]; rfl
    · rw [if_pos g]; rw [cmp_gt g] at e
      simp [Builtin.max_, Builtin.max2, e]; rfl
  · rw [if_neg h, if_neg h]
    have e : FloatKind.f64.format.order x y = none := order_nan x y (by omega)
    simp [Builtin.max_, Builtin.max2, e, mmw, Question.forced]
    rfl
theorem fmin_or (x y : Nat) : fmin x y = x ∨ fmin x y = y := by
  unfold fmin
  split
  · exact .inl rfl
  · split
    · exact .inr rfl
    · split
      · exact .inl rfl
      · exact .inr rfl
theorem fmax_or (x y : Nat) : fmax x y = x ∨ fmax x y = y := by
  unfold fmax
  split
  · exact .inl rfl
  · split
    · exact .inr rfl
    · split
      · exact .inr rfl
      · exact .inl rfl
theorem fmin_key (x y : Nat) : key (fmin x y) = min (key x) (key y) := by
  unfold fmin
  split
  · omega
  · split
    · omega
    · split <;> omega
theorem fmax_key (x y : Nat) : key (fmax x y) = max (key x) (key y) := by
  unfold fmax
  split
  · omega
  · split
    · omega
    · split <;> omega
/-- What holds of both holds of the lesser and of the greater. -/
theorem fmin_of {p : Nat → Prop} {x y : Nat} (hx : p x) (hy : p y) : p (fmin x y) := by rcases fmin_or x y with h | h <;> rw [h] <;> assumption
theorem fmax_of {p : Nat → Prop} {x y : Nat} (hx : p x) (hy : p y) : p (fmax x y) := by rcases fmax_or x y with h | h <;> rw [h] <;> assumption
theorem wmin_is {x y : Nat} (w : World) (hx : mg x ≤ 9218868437227405312) (hy : mg y ≤ 9218868437227405312) : wmin x y w = fmin x y ∧ nmm x y = 0 := ⟨if_pos ⟨hx, hy⟩, if_pos ⟨hx, hy⟩⟩
theorem wmax_is {x y : Nat} (w : World) (hx : mg x ≤ 9218868437227405312) (hy : mg y ≤ 9218868437227405312) : wmax x y w = fmax x y ∧ nmm x y = 0 := ⟨if_pos ⟨hx, hy⟩, if_pos ⟨hx, hy⟩⟩
/-- A nought without its sign; what is no nought as it is. -/
def pls (x : Nat) : Nat := if mg x = 0 then 0 else x
theorem pls_mg (x : Nat) : mg (pls x) = mg x := by
  unfold pls; split
  · rename_i h; rw [h]; decide
  · rfl
theorem pls_key (x : Nat) : key (pls x) = key x := by
  unfold pls; split
  · rename_i h; unfold key; rw [h]; simp [show mg 0 = 0 by decide]
  · rfl
theorem pls_lt {x : Nat} (h : x < 18446744073709551616) : pls x < 18446744073709551616 := by unfold pls; split <;> omega
theorem add_nought {x : Nat} (hx : x < 18446744073709551616) (h : mg x ≤ 9218868437227405312) : double.add x 0 = some (pls x) := by
  rcases Nat.eq_zero_or_pos (mg x) with h0 | h0
  · have e : pls x = 0 := if_pos h0
    rw [e]
    have hw := word_of x hx
    rw [h0] at hw
    cases hs : ng x <;> rw [hs] at hw
    · rw [show double.word false 0 = 0 by decide] at hw
      rw [← hw]; decide +kernel
    · rw [show double.word true 0 = 9223372036854775808 by decide] at hw
      rw [← hw]; decide +kernel
  · have e : pls x = x := if_neg (by omega)
    rw [e]
    rcases Nat.lt_or_eq_of_le h with g | g
    · obtain ⟨r, hr⟩ := add_fin g (show mg 0 < 9218868437227405312 by decide)
      obtain ⟨R, e1, e2, e3, hl⟩ := add_nr g (show mg 0 < 9218868437227405312 by decide) hr
      have hs0 : sval 0 = 0 := sval_zero.2 (by decide)
      rw [hs0, Int.add_zero] at e2 e3
      have hu := nr_unique e2 (by rw [sval_abs]; exact nr_exact (mg x))
      have hne : sval x ≠ 0 := fun k => by have := sval_zero.1 k; omega
      have hsg : decide (sval x < 0) = ng x := by
        unfold sval
        have := uval_pos h0
        cases ng x <;> simp <;> omega
      rw [hr]
      congr 1
      refine eq_of hl hx (by omega) ?_
      rw [e3 hne, hsg]
    · have hw := word_of x hx
      rw [g] at hw
      cases hs : ng x <;> rw [hs] at hw
      · rw [show double.word false 9218868437227405312 = 9218868437227405312 by decide] at hw
        rw [← hw]; decide +kernel
      · rw [show double.word true 9218868437227405312 = 18442240474082181120 by decide] at hw
        rw [← hw]; decide +kernel
theorem fop_nought {x : Nat} (hx : x < 18446744073709551616) (h : mg x ≤ 9218868437227405312) (w : World) : fop .add x 0 w = pls x ∧ nd .add x 0 = 0 := fop_some (op := .add) (add_nought hx h) w
/-- What unsigned makes of a float. -/
def Usg (x a : Nat) : Prop := a < 18446744073709551616 ∧ (mg x ≤ 9218868437227405312 → x < 18446744073709551616 → a = pls x)
theorem usg_fop (x : Nat) (w : World) : Usg x (fop .add x 0 w) := ⟨fop_lt .add x 0 w, fun h hx => (fop_nought hx h w).1⟩
set_option maxHeartbeats 400000 in
theorem unsigned_any (l h : Nat) (w : World) :
    Calls Tryz.prog 98 #[spv l h] w fun e w' => ∃ a b, e = .returned (spv a b) ∧ Usg l a ∧ Usg h b ∧ Below w.heap.size w w' := by
  have ha := fun t W => run_add (P := Tryz.prog) t l 0 W
  have hb := fun t W => run_add (P := Tryz.prog) t h 0 W
  have hsf := @run_store_f Tryz.prog .f64
  go_enter Tryz.func98, Tryz.ntmps98
  go_wp2
  exact bodyPost_ret (v := spv (fop .add l 0 ((w.alloc (.cells #[.float .f64 l, .float .f64 h] 44)).alloc (.cells #[.float .f64 0, .float .f64 0] 44))) (fop .add h 0 (((w.alloc (.cells #[.float .f64 l, .float .f64 h] 44)).alloc (.cells #[.float .f64 0, .float .f64 0] 44)).drewN (nd .add l 0)))) (by simp [results, Tryz.results98, go_sem]) rfl
    ⟨_, _, rfl, usg_fop _ _, usg_fop _ _, by (repeat (first | exact below_self _ _ | assumption | refine below_dn ?_ _ | refine Below.drew ?_ | refine Below.setCell ?_ (by (try simp) <;> (try omega)) _ | refine Below.alloc ?_ (by (try simp) <;> (try omega)) _))⟩
theorem bcell {W w1 : World} (hb : Below W.heap.size W w1) : (∀ b o, b < W.heap.size → w1.cell? ⟨b, o, none⟩ = W.cell? ⟨b, o, none⟩) ∧ (∀ b o, b < W.heap.size → w1.frozen? ⟨b, o, none⟩ = W.frozen? ⟨b, o, none⟩) :=
  ⟨fun b o h => hb.cell (p := ⟨b, o, none⟩) h, fun b o h => hb.frozen (p := ⟨b, o, none⟩) h⟩
/-- Is the one within the other? -/
def spIn (al ah bl bh : Nat) : Bool := decide (Spn al ah ∧ Spn bl bh ∧ key bl ≤ key al ∧ key ah ≤ key bh)
set_option maxHeartbeats 1000000 in
theorem in_any (al ah bl bh : Nat) (w : World) (h1 : al < 18446744073709551616) (h2 : bl < 18446744073709551616) :
    Calls Tryz.prog 50 #[spv al ah, spv bl bh] w fun e w' => e = .returned (.bool (spIn al ah bl bh)) ∧ Below w.heap.size w w' := by
  have HC := Lib.hid (fun g W k k0 k1 k2 k3 => check_two g al ah bl bh W h1 h2 k k0 k1 k2 k3)
  have e1 := ord_le bl al
  have e2 := ord_le ah bh
  by_cases hs : Spn al ah ∧ Spn bl bh
  · have e3 : spE2 al ah bl bh = 0 := if_pos hs
    rw [e3] at HC
    have e4 : spIn al ah bl bh = (decide (key bl ≤ key al) && decide (key ah ≤ key bh)) := by
      unfold spIn; rw [← Bool.decide_and]; exact decide_eq_decide.2 ⟨fun h => h.2.2, fun h => ⟨hs.1, hs.2, h⟩⟩
    rw [e4]
    have f1 : decide (mg bl ≤ 9218868437227405312 ∧ mg al ≤ 9218868437227405312 ∧ key bl ≤ key al) = decide (key bl ≤ key al) := decide_eq_decide.2 ⟨fun h => h.2.2, fun h => ⟨Nat.le_of_lt hs.2.1, Nat.le_of_lt hs.1.1, h⟩⟩
    have f2 : decide (mg ah ≤ 9218868437227405312 ∧ mg bh ≤ 9218868437227405312 ∧ key ah ≤ key bh) = decide (key ah ≤ key bh) := decide_eq_decide.2 ⟨fun h => h.2.2, fun h => ⟨Nat.le_of_lt hs.1.2.1, Nat.le_of_lt hs.2.2.1, h⟩⟩
    rw [f1] at e1
    rw [f2] at e2
    clear e3 e4 f1 f2 hs h1 h2
    obtain ⟨p, hp⟩ : ∃ p, decide (key bl ≤ key al) = p := ⟨_, rfl⟩
    obtain ⟨q, hq⟩ : ∃ q, decide (key ah ≤ key bh) = q := ⟨_, rfl⟩
    rw [hp] at e1 ⊢
    rw [hq] at e2 ⊢
    clear hp hq
    cases p <;> (
    go_enter Tryz.func50, Tryz.ntmps50
    go_wp2_with fail
    refine (HC.out _ _ (by simp) (by go_cell) (by go_cell) (by go_cell) (by go_cell)).mono ?_
    rintro e w1 ⟨rfl, hb⟩
    obtain ⟨hc, hf⟩ := bcell hb
    have g1 : Below w.heap.size w w1 := Below.trans (by (repeat (first | exact below_self _ _ | assumption | refine below_dn ?_ _ | refine Below.drew ?_ | refine Below.setCell ?_ (by (try simp) <;> (try omega)) _ | refine Below.alloc ?_ (by (try simp) <;> (try omega)) _))) (hb.mono (by simp; try omega))
    clear hb
    go_wp2
    go_ret
    exact ⟨rfl, g1⟩)
  · have e3 : spE2 al ah bl bh = 1 := if_neg hs
    rw [e3] at HC
    have e4 : spIn al ah bl bh = false := decide_eq_false (fun h => hs ⟨h.1, h.2.1⟩)
    rw [e4]
    clear e3 e4 hs h1 h2 e1 e2
    go_enter Tryz.func50, Tryz.ntmps50
    go_wp2_with fail
    refine (HC.out _ _ (by simp) (by go_cell) (by go_cell) (by go_cell) (by go_cell)).mono ?_
    rintro e w1 ⟨rfl, hb⟩
    obtain ⟨hc, hf⟩ := bcell hb
    have g1 : Below w.heap.size w w1 := Below.trans (by (repeat (first | exact below_self _ _ | assumption | refine below_dn ?_ _ | refine Below.drew ?_ | refine Below.setCell ?_ (by (try simp) <;> (try omega)) _ | refine Below.alloc ?_ (by (try simp) <;> (try omega)) _))) (hb.mono (by simp; try omega))
    clear hb
    go_wp2
    go_ret
    exact ⟨rfl, g1⟩
end Go.Proofs.YtghcoijinihlnaaGreat.Fl
namespace Go.Proofs.YtghcoijinihlnaaGreat.Fl
open Go.RowKit Ieee
end Go.Proofs.YtghcoijinihlnaaGreat.Fl
namespace Go.Proofs.YtghcoijinihlnaaGreat.Fl
open Go.RowKit Ieee
/-- The ends of a list of spans, from those of a first one. -/
def lmn (l : Nat) (L : List (Nat × Nat)) : Nat := L.foldl (fun a s => fmin a s.1) l
def lmx (h : Nat) (L : List (Nat × Nat)) : Nat := L.foldl (fun a s => fmax a s.2) h
/-- Floats of 64 bits, no NaN. -/
def Flt (x : Nat) : Prop := x < 18446744073709551616 ∧ mg x ≤ 9218868437227405312
def Flts (L : List (Nat × Nat)) : Prop := ∀ s ∈ L, Flt s.1 ∧ Flt s.2
theorem lmn_snoc (l : Nat) (L : List (Nat × Nat)) (s : Nat × Nat) : lmn l (L ++ [s]) = fmin (lmn l L) s.1 := by unfold lmn; rw [List.foldl_append]; rfl
theorem lmx_snoc (l : Nat) (L : List (Nat × Nat)) (s : Nat × Nat) : lmx l (L ++ [s]) = fmax (lmx l L) s.2 := by unfold lmx; rw [List.foldl_append]; rfl
theorem lmn_flt {l : Nat} {L : List (Nat × Nat)} (hl : Flt l) (hL : Flts L) : Flt (lmn l L) := by
  induction L generalizing l with
  | nil => exact hl
  | cons s L ih => exact ih (l := fmin l s.1) (fmin_of hl (hL s (by simp)).1) (fun t ht => hL t (by simp [ht]))
theorem lmx_flt {l : Nat} {L : List (Nat × Nat)} (hl : Flt l) (hL : Flts L) : Flt (lmx l L) := by
  induction L generalizing l with
  | nil => exact hl
  | cons s L ih => exact ih (l := fmax l s.2) (fmax_of hl (hL s (by simp)).2) (fun t ht => hL t (by simp [ht]))
theorem flts_take {L : List (Nat × Nat)} (h : Flts L) (k : Nat) : Flts (L.take k) := fun s hs => h s (List.mem_of_mem_take hs)
theorem lmn_take (l : Nat) (L : List (Nat × Nat)) {k : Nat} (h : k < L.length) : lmn l (L.take (k + 1)) = fmin (lmn l (L.take k)) L[k].1 := by
  rw [List.take_succ_eq_append_getElem h, lmn_snoc]
theorem lmx_take (l : Nat) (L : List (Nat × Nat)) {k : Nat} (h : k < L.length) : lmx l (L.take (k + 1)) = fmax (lmx l (L.take k)) L[k].2 := by
  rw [List.take_succ_eq_append_getElem h, lmx_snoc]
/-- What least tells. -/
def leaLo (l h : Nat) (L : List (Nat × Nat)) : Nat := if Spn (lmn l L) (lmx h L) then pls (lmn l L) else 0
def leaHi (l h : Nat) (L : List (Nat × Nat)) : Nat := if Spn (lmn l L) (lmx h L) then pls (lmx h L) else 0
def leaE (l h : Nat) (L : List (Nat × Nat)) : Int := if Spn (lmn l L) (lmx h L) then 0 else 6
/-- The spans lie there. -/
def Lies (w : World) (g o : Nat) (L : List (Nat × Nat)) : Prop := ∀ j (h : j < L.length), w.cell? ⟨g, o + j * 2, none⟩ = some (.float .f64 L[j].1) ∧ w.cell? ⟨g, o + j * 2 + 1, none⟩ = some (.float .f64 L[j].2)
set_option maxHeartbeats 4000000 in
theorem least_any (l h g o n c : Nat) (L : List (Nat × Nat)) (w : World) (hn : L.length = n) (hnb : n ≤ 16) (hl : Flt l) (hh : Flt h) (hL : Flts L) (hg : g < w.heap.size) (hlies : Lies w g o L) :
    Calls Tryz.prog 69 #[spv l h, .slice (some ⟨g, o, none⟩) n c] w fun e w' => e = .returned (.tuple #[spv (leaLo l h L) (leaHi l h L), .int .i64 (leaE l h L)]) ∧ Below w.heap.size w w' := by
  have hsf := @run_store_f Tryz.prog .f64
  have HN := Lib.hid hn
  clear hn
  go_enter Tryz.func69, Tryz.ntmps69
  go_wp2
  go_loopw [10] (fun iv wr => ∃ k : Nat, k ≤ n ∧ iv = .int .i64 k ∧ wr.cell? ⟨w.heap.size, 0, none⟩ = some (.float .f64 (lmn l (L.take k))) ∧ wr.cell? ⟨w.heap.size, 1, none⟩ = some (.float .f64 (lmx h (L.take k))) ∧
    wr.frozen? ⟨w.heap.size, 0, none⟩ = false ∧ wr.frozen? ⟨w.heap.size, 1, none⟩ = false ∧ wr.cell? ⟨w.heap.size + 1, 0, none⟩ = some (.float .f64 0) ∧ wr.cell? ⟨w.heap.size + 1, 1, none⟩ = some (.float .f64 0) ∧ wr.frozen? ⟨w.heap.size + 1, 0, none⟩ = false ∧ wr.frozen? ⟨w.heap.size + 1, 1, none⟩ = false ∧ w.heap.size + 1 < wr.heap.size ∧ Below w.heap.size w wr) (fun iv _ => n - (intOf iv).toNat)
  case atStart => exact ⟨0, Nat.zero_le _, rfl, by show _ = some (Value.float .f64 l); go_cell, by show _ = some (Value.float .f64 h); go_cell, by go_cell, by go_cell, by go_cell, by go_cell, by go_cell, by go_cell, by simp, by (repeat (first | exact below_self _ _ | assumption | refine below_dn ?_ _ | refine Below.drew ?_ | refine Below.setCell ?_ (by (try simp) <;> (try omega)) _ | refine Below.alloc ?_ (by (try simp) <;> (try omega)) _))⟩
  case round =>
    obtain ⟨k, hk, rfl, c0, c1, f0, f1, d0, d1, e0, e1, hz, hb⟩ := hrel
    by_cases hlt : k < n
    · have hkL : k < L.length := by have := HN.out; omega
      obtain ⟨x0, x1⟩ := hlies k hkL
      have y0 : wr.cell? ⟨g, o + k * 2, none⟩ = some (.float .f64 L[k].1) := (hb.cell (p := ⟨g, _, none⟩) hg).trans x0
      have y1 : wr.cell? ⟨g, o + k * 2 + 1, none⟩ = some (.float .f64 L[k].2) := (hb.cell (p := ⟨g, _, none⟩) hg).trans x1
      have HT1 := Lib.hid (lmn_take l L hkL)
      have HT2 := Lib.hid (lmx_take h L hkL)
      have p1 := lmn_flt hl (flts_take hL k)
      have p2 := lmx_flt hh (flts_take hL k)
      have p3 := hL _ (List.getElem_mem hkL)
      have hmn : ∀ ts t W, (Builtin.min_ ts t #[.float .f64 (lmn l (L.take k)), .float .f64 L[k].1]).run Tryz.prog W = .ok (.float .f64 (fmin (lmn l (L.take k)) L[k].1)) W := fun ts t W => by rw [run_min2, (wmin_is W p1.2 p3.1.2).1, (wmin_is W p1.2 p3.1.2).2]; rfl
      have hmx : ∀ ts t W, (Builtin.max_ ts t #[.float .f64 (lmx h (L.take k)), .float .f64 L[k].2]).run Tryz.prog W = .ok (.float .f64 (fmax (lmx h (L.take k)) L[k].2)) W := fun ts t W => by rw [run_max2, (wmax_is W p2.2 p3.2.2).1, (wmax_is W p2.2 p3.2.2).2]; rfl
      generalize lmn l (L.take k) = a at *
      generalize lmx h (L.take k) = b at *
      generalize L[k].1 = u at *
      generalize L[k].2 = v at *
      have hki : (k : Int) < (n : Int) := by omega
      have hgw : g < wr.heap.size := by omega
      have hz0 : w.heap.size < wr.heap.size := by omega
      clear x0 x1 p1 p2 p3 hkL hlies
      go_wp2
      go_region
      go_wp2
      go_roundw
      case rel => exact ⟨k + 1, by omega, by go_num, by rw [HT1.out]; go_cell, by rw [HT2.out]; go_cell, by go_cell, by go_cell, by go_cell, by go_cell, by go_cell, by go_cell, by simp; omega, by (repeat (first | exact below_self _ _ | assumption | refine below_dn ?_ _ | refine Below.drew ?_ | refine Below.setCell ?_ (by (try simp) <;> (try omega)) _ | refine Below.alloc ?_ (by (try simp) <;> (try omega)) _))⟩
      case measure => simp [intOf]; omega
    · obtain rfl : k = n := by omega
      clear hlt hlies
      have hT : L.take k = L := List.take_of_length_le (by have := HN.out; omega)
      rw [hT] at c0 c1
      clear hT
      have p1 := lmn_flt hl hL
      have p2 := lmx_flt hh hL
      have HU := Lib.hid (fun a b (k1 : Usg (lmn l L) a) (k2 : Usg (lmx h L) b) => show a = pls (lmn l L) ∧ b = pls (lmx h L) from ⟨k1.2 p1.2 p1.1, k2.2 p2.2 p2.1⟩)
      have HC := Lib.hid (fun W => check_span (lmn l L) (lmx h L) W p1.1)
      have HV := Lib.hid (fun W => unsigned_any (lmn l L) (lmx h L) W)
      have hz0 : w.heap.size < wr.heap.size := by omega
      have hki : ¬ (k : Int) < (k : Int) := by omega
      have e1 : leaLo l h L = if Spn (lmn l L) (lmx h L) then pls (lmn l L) else 0 := rfl
      have e2 : leaHi l h L = if Spn (lmn l L) (lmx h L) then pls (lmx h L) else 0 := rfl
      have e3 : leaE l h L = if Spn (lmn l L) (lmx h L) then 0 else 6 := rfl
      rcases spE_01 (lmn l L) (lmx h L) with ⟨q, hs⟩ | ⟨q, hs⟩
      · rw [if_pos hs] at e1 e2 e3
        rw [q] at HC
        generalize lmn l L = a at *
        generalize lmx h L = b at *
        have HE := Lib.hid (And.intro e1 (And.intro e2 e3))
        clear q hs e1 e2 e3 p1 p2 hl hh hL
        go_wp2_with fail
        refine (HC.out _).mono ?_
        rintro e w1 ⟨rfl, rfl⟩
        go_wp2_with fail
        refine (HV.out _).mono ?_
        rintro e w2 ⟨a', b', rfl, k1, k2, hb2⟩
        obtain ⟨rfl, rfl⟩ := HU.out _ _ k1 k2
        clear k1 k2
        obtain ⟨hc2, hf2⟩ := bcell hb2
        have hw0 : w.heap.size < w2.heap.size := by have := hb2.size; simp at this; omega
        have hw1 : w.heap.size + 1 < w2.heap.size := by have := hb2.size; simp at this; omega
        have g2 : Below w.heap.size w w2 := Below.trans (by (repeat (first | exact below_self _ _ | assumption | refine below_dn ?_ _ | refine Below.drew ?_ | refine Below.setCell ?_ (by (try simp) <;> (try omega)) _ | refine Below.alloc ?_ (by (try simp) <;> (try omega)) _))) (hb2.mono (by simp; try omega))
        clear hb2
        have d2 : w2.cell? ⟨w.heap.size + 1, 0, none⟩ = some (.float .f64 0) := by go_cell
        have d3 : w2.cell? ⟨w.heap.size + 1, 1, none⟩ = some (.float .f64 0) := by go_cell
        go_wp2
        exact bodyPost_ret (v := .tuple #[spv (pls a) (pls b), .int .i64 0]) (by simp [results, Tryz.results69, go_sem, d2, d3]) rfl ⟨by rw [HE.out.1, HE.out.2.1, HE.out.2.2], by (repeat (first | exact below_self _ _ | assumption | refine below_dn ?_ _ | refine Below.drew ?_ | refine Below.setCell ?_ (by (try simp) <;> (try omega)) _ | refine Below.alloc ?_ (by (try simp) <;> (try omega)) _))⟩
      · rw [if_neg hs] at e1 e2 e3
        rw [q] at HC
        generalize lmn l L = a at *
        generalize lmx h L = b at *
        have HE := Lib.hid (And.intro e1 (And.intro e2 e3))
        clear q hs e1 e2 e3 p1 p2 hl hh hL HU HV
        go_wp2_with fail
        refine (HC.out _).mono ?_
        rintro e w1 ⟨rfl, rfl⟩
        go_wp2
        exact bodyPost_ret (v := .tuple #[spv 0 0, .int .i64 6]) (by simp [results, Tryz.results69, go_sem, hz, d0, d1]) rfl ⟨by rw [HE.out.1, HE.out.2.1, HE.out.2.2], by (repeat (first | exact below_self _ _ | assumption | refine below_dn ?_ _ | refine Below.drew ?_ | refine Below.setCell ?_ (by (try simp) <;> (try omega)) _ | refine Below.alloc ?_ (by (try simp) <;> (try omega)) _))⟩
end Go.Proofs.YtghcoijinihlnaaGreat.Fl
namespace Go.Proofs.YtghcoijinihlnaaGreat.Fl
open Go.RowKit Ieee
set_option maxHeartbeats 400000 in
theorem between_any (x y : Nat) (w : World) :
    Calls Tryz.prog 68 #[.float .f64 x, .float .f64 y] w fun e w' => e = .returned (spv x y) ∧ Below w.heap.size w w' := by
  have hsf := @run_store_f Tryz.prog .f64
  go_enter Tryz.func68, Tryz.ntmps68
  go_wp2
  exact bodyPost_ret (v := spv x y) (by simp [results, Tryz.results68, go_sem]) rfl ⟨rfl, by (repeat (first | exact below_self _ _ | assumption | refine below_dn ?_ _ | refine Below.drew ?_ | refine Below.setCell ?_ (by (try simp) <;> (try omega)) _ | refine Below.alloc ?_ (by (try simp) <;> (try omega)) _))⟩
theorem lies_one {w : World} {g l h : Nat} (h0 : w.cell? ⟨g, 0, none⟩ = some (.float .f64 l)) (h1 : w.cell? ⟨g, 1, none⟩ = some (.float .f64 h)) : Lies w g 0 [(l, h)] := fun j hj => by
  have : j = 0 := by simp at hj; exact hj
  subst this
  exact ⟨h0, h1⟩
end Go.Proofs.YtghcoijinihlnaaGreat.Fl
namespace Go.Proofs.YtghcoijinihlnaaGreat.Fl
open Go.RowKit Ieee
/-- Two spans in two cells of the call's own, and what stays. -/
structure Rk (w W' : World) (al ah bl bh : Nat) : Prop where
  below : Below w.heap.size w W'
  lt : w.heap.size + 1 + 1 < W'.heap.size
  a0 : W'.cell? ⟨w.heap.size, 0, none⟩ = some (.float .f64 al)
  a1 : W'.cell? ⟨w.heap.size, 1, none⟩ = some (.float .f64 ah)
  b0 : W'.cell? ⟨w.heap.size + 1, 0, none⟩ = some (.float .f64 bl)
  b1 : W'.cell? ⟨w.heap.size + 1, 1, none⟩ = some (.float .f64 bh)
  r0 : W'.cell? ⟨w.heap.size + 1 + 1, 0, none⟩ = some (.float .f64 0)
  r1 : W'.cell? ⟨w.heap.size + 1 + 1, 1, none⟩ = some (.float .f64 0)
  f0 : W'.frozen? ⟨w.heap.size + 1 + 1, 0, none⟩ = false
  f1 : W'.frozen? ⟨w.heap.size + 1 + 1, 1, none⟩ = false
theorem Rk.of {w W' W'' : World} {al ah bl bh : Nat} (h : Rk w W' al ah bl bh) (hb : Below w.heap.size w W'') (hz : W'.heap.size ≤ W''.heap.size) (hc : ∀ b o, b ≤ w.heap.size + 1 + 1 → W''.cell? ⟨b, o, none⟩ = W'.cell? ⟨b, o, none⟩) (hf : ∀ b o, b ≤ w.heap.size + 1 + 1 → W''.frozen? ⟨b, o, none⟩ = W'.frozen? ⟨b, o, none⟩) : Rk w W'' al ah bl bh :=
  ⟨hb, Nat.lt_of_lt_of_le h.lt hz,
    (hc _ _ (by omega)).trans h.a0, (hc _ _ (by omega)).trans h.a1, (hc _ _ (by omega)).trans h.b0, (hc _ _ (by omega)).trans h.b1, (hc _ _ (by omega)).trans h.r0, (hc _ _ (by omega)).trans h.r1, (hf _ _ (by omega)).trans h.f0, (hf _ _ (by omega)).trans h.f1⟩
theorem Rk.on {w W' W'' : World} {al ah bl bh : Nat} (h : Rk w W' al ah bl bh) (hb : Below W'.heap.size W' W'') : Rk w W'' al ah bl bh :=
  have hl := h.lt
  h.of (h.below.trans (hb.mono (by omega))) hb.size (fun b o hbb => hb.cell (p := ⟨b, o, none⟩) (Nat.lt_of_le_of_lt hbb hl)) (fun b o hbb => hb.frozen (p := ⟨b, o, none⟩) (Nat.lt_of_le_of_lt hbb hl))
/-- Floats in a block. -/
structure Zr (W : World) (g : Nat) (L : List Nat) : Prop where
  lt : g < W.heap.size
  c : ∀ j (h : j < L.length), W.cell? ⟨g, j, none⟩ = some (.float .f64 L[j])
  f : ∀ j, W.frozen? ⟨g, j, none⟩ = false
theorem Zr.at_ {W : World} {g : Nat} {L : List Nat} (h : Zr W g L) (j x : Nat) (hx : L[j]? = some x) : W.cell? ⟨g, j, none⟩ = some (.float .f64 x) := by
  obtain ⟨hj, e⟩ := List.getElem?_eq_some_iff.1 hx
  rw [h.c j hj, e]
theorem Zr.on {W W' : World} {g : Nat} {L : List Nat} (h : Zr W g L) (hb : Below W.heap.size W W') : Zr W' g L :=
  ⟨Nat.lt_of_lt_of_le h.lt hb.size, fun j hj => (hb.cell (p := ⟨g, j, none⟩) h.lt).trans (h.c j hj), fun j => (hb.frozen (p := ⟨g, j, none⟩) h.lt).trans (h.f j)⟩
theorem Zr.new (W : World) (t : TypeId) : Zr (W.alloc (.cells #[.float .f64 0, .float .f64 0, .float .f64 0, .float .f64 0, .float .f64 0, .float .f64 0, .float .f64 0, .float .f64 0] t)) W.heap.size [0, 0, 0, 0, 0, 0, 0, 0] := by
  refine ⟨by simp, fun j hj => ?_, fun j => World.frozen?_alloc_at _ _ _ _ rfl⟩
  rw [World.cell?_alloc_new]
  match j, hj with
  | 0, _ => rfl
  | 1, _ => rfl
  | 2, _ => rfl
  | 3, _ => rfl
  | 4, _ => rfl
  | 5, _ => rfl
  | 6, _ => rfl
  | 7, _ => rfl
theorem below_setCells {B g : Nat} {a : World} (hg : B ≤ g) : ∀ (vs : List Value) (o : Nat) {W : World}, Below B a W → Below B a (W.setCells g o vs)
  | [], _, _, h => h
  | v :: r, o, _, h => below_setCells hg r (o + 1) (h.setCell (p := ⟨g, o, none⟩) hg v)
theorem setCells_size (g : Nat) : ∀ (vs : List Value) (o : Nat) (W : World), (W.setCells g o vs).heap.size = W.heap.size
  | [], _, _ => rfl
  | v :: r, o, W => (setCells_size g r (o + 1) _).trans (by simp)
theorem setCells_frozen (g : Nat) (a : Addr) : ∀ (vs : List Value) (o : Nat) (W : World), (W.setCells g o vs).frozen? a = W.frozen? a
  | [], _, _ => rfl
  | v :: r, o, W => (setCells_frozen g a r (o + 1) _).trans (by simp)
theorem fill_any {w W : World} {g al ah bl bh : Nat} {L : List Nat} (h : Zr W g L) (hR : Rk w W al ah bl bh) (hg : w.heap.size + 1 + 1 < g) (X : List Nat) (hX : X.length = L.length) :
    Zr (W.setCells g 0 (X.map fun x => .float .f64 x)) g X ∧ Rk w (W.setCells g 0 (X.map fun x => .float .f64 x)) al ah bl bh := by
  have hin := World.cell?_setCells_in g (X.map fun x => .float .f64 x) 0 W (fun j hj => by
    rw [Nat.zero_add, h.c j (by rw [← hX]; simpa using hj)]; rfl)
  have hout := World.cell?_setCells_out g (X.map fun x => Value.float .f64 x) 0 W
  refine ⟨⟨by rw [setCells_size]; exact h.lt, fun j hj => ?_, fun j => by rw [setCells_frozen]; exact h.f j⟩,
    hR.of (below_setCells (by omega) _ _ hR.below) (by rw [setCells_size]; exact Nat.le_refl _) (fun b o hbb => hout ⟨b, o, none⟩ (fun e => absurd (show b = g from e) (by omega))) (fun b o hbb => setCells_frozen _ _ _ _ _)⟩
  have := hin j (by simpa using hj)
  rw [Nat.zero_add] at this
  rw [this, List.getElem_map]
theorem fill8 {w W : World} {g al ah bl bh : Nat} (h : Zr W g [0, 0, 0, 0, 0, 0, 0, 0]) (hR : Rk w W al ah bl bh) (hg : w.heap.size + 1 + 1 < g) (x0 x1 x2 x3 x4 x5 x6 x7 : Nat) :
    Zr ((((((((W.setCell ⟨g, 0, none⟩ (.float .f64 x0)).setCell ⟨g, 1, none⟩ (.float .f64 x1)).setCell ⟨g, 2, none⟩ (.float .f64 x2)).setCell ⟨g, 3, none⟩ (.float .f64 x3)).setCell ⟨g, 4, none⟩ (.float .f64 x4)).setCell ⟨g, 5, none⟩ (.float .f64 x5)).setCell ⟨g, 6, none⟩ (.float .f64 x6)).setCell ⟨g, 7, none⟩ (.float .f64 x7)) g [x0, x1, x2, x3, x4, x5, x6, x7] ∧ Rk w ((((((((W.setCell ⟨g, 0, none⟩ (.float .f64 x0)).setCell ⟨g, 1, none⟩ (.float .f64 x1)).setCell ⟨g, 2, none⟩ (.float .f64 x2)).setCell ⟨g, 3, none⟩ (.float .f64 x3)).setCell ⟨g, 4, none⟩ (.float .f64 x4)).setCell ⟨g, 5, none⟩ (.float .f64 x5)).setCell ⟨g, 6, none⟩ (.float .f64 x6)).setCell ⟨g, 7, none⟩ (.float .f64 x7)) al ah bl bh :=
  fill_any h hR hg [x0, x1, x2, x3, x4, x5, x6, x7] rfl
theorem far2 {W : World} {p g o : Nat} (h : g ≠ p) {u v : Value} : ((W.setCell ⟨p, 0, none⟩ u).setCell ⟨p, 1, none⟩ v).cell? ⟨g, o, none⟩ = W.cell? ⟨g, o, none⟩ := by
  rw [World.cell?_setCell_other _ _ _ _ (fun e => h (by injection e with a; exact a.symm)), World.cell?_setCell_other _ _ _ _ (fun e => h (by injection e with a; exact a.symm))]
theorem flts3 {d2 u2 d3 u3 d4 u4 : Nat} (h : Flt d2 ∧ Flt u2 ∧ Flt d3 ∧ Flt u3 ∧ Flt d4 ∧ Flt u4) : Flts [(d2, u2), (d3, u3), (d4, u4)] := fun s hs => by
  obtain ⟨a, b, c, d, e, f⟩ := h
  simp only [List.mem_cons, List.not_mem_nil, or_false] at hs
  rcases hs with rfl | rfl | rfl
  · exact ⟨a, b⟩
  · exact ⟨c, d⟩
  · exact ⟨e, f⟩
theorem lies3 {W : World} {g d1 u1 d2 u2 d3 u3 d4 u4 : Nat} (h : Zr W g [d1, u1, d2, u2, d3, u3, d4, u4]) : Lies W g 2 [(d2, u2), (d3, u3), (d4, u4)] := fun j hj => by
  match j, hj with
  | 0, _ => exact ⟨h.c 2 (by simp), h.c 3 (by simp)⟩
  | 1, _ => exact ⟨h.c 4 (by simp), h.c 5 (by simp)⟩
  | 2, _ => exact ⟨h.c 6 (by simp), h.c 7 (by simp)⟩
end Go.Proofs.YtghcoijinihlnaaGreat.Fl

namespace Go.Proofs.YtghcoijinihlnaaGreat.Fl
open Go.RowKit Ieee
set_option maxHeartbeats 8000000 in
theorem reckon_any (N : Nat) (hN : ∀ (av : Array Value) (v : World), (callFunc N av).run Tryz.prog v = .ok (.enter N av) v) (al ah bl bh : Nat) (w : World) (Rel : Nat → Nat → Nat → Nat → Prop) (h1 : al < 18446744073709551616) (h3 : bl < 18446744073709551616) (hs : Spn al ah ∧ Spn bl bh)
  (hD : ∀ x y W, (x = al ∨ x = ah) → (y = bl ∨ y = bh) → Calls Tryz.prog N #[.float .f64 x, .float .f64 y] W fun e w' => ∃ d u, e = .returned (.tuple #[.float .f64 d, .float .f64 u]) ∧ Below W.heap.size W w' ∧ Flt d ∧ Flt u ∧ Rel x y d u) :
  Calls Tryz.prog 51 #[.func (.func N) #[] #[], spv al ah, spv bl bh] w fun e w' => ∃ d1 u1 d2 u2 d3 u3 d4 u4, (Rel al bl d1 u1 ∧ Rel al bh d2 u2 ∧ Rel ah bl d3 u3 ∧ Rel ah bh d4 u4) ∧ (Flt d1 ∧ Flt u1 ∧ Flt d2 ∧ Flt u2 ∧ Flt d3 ∧ Flt u3 ∧ Flt d4 ∧ Flt u4) ∧
   e = .returned (.tuple #[spv (leaLo d1 u1 [(d2, u2), (d3, u3), (d4, u4)]) (leaHi d1 u1 [(d2, u2), (d3, u3), (d4, u4)]), .int .i64 (leaE d1 u1 [(d2, u2), (d3, u3), (d4, u4)])]) ∧ Below w.heap.size w w' := by
 have HC := Lib.hid (fun g W k k0 k1 k2 k3 => check_two g al ah bl bh W h1 h3 k k0 k1 k2 k3)
 have hsf := @run_store_f Tryz.prog .f64
 have e3 : spE2 al ah bl bh = 0 := if_pos hs
 rw [e3] at HC
 have HD := Lib.hid hD
 have HN := Lib.hid hN
 have HB := Lib.hid (fun x y W => between_any x y W)
 clear e3 hs h1 h3 hD hN
 go_enter Tryz.func51, Tryz.ntmps51
 go_wp2_with fail
 refine (HC.out _ _ (by simp) (by go_cell) (by go_cell) (by go_cell) (by go_cell)).mono ?_
 rintro e w1 ⟨rfl, hb⟩
 have R : Rk w w1 al ah bl bh := by
  obtain ⟨hc, hf⟩ := bcell hb
  have hz : w.heap.size + 1 + 1 < w1.heap.size := by have := hb.size; (try simp at this); omega
  exact ⟨Below.trans (by (repeat (first | exact below_self _ _ | assumption | refine below_dn ?_ _ | refine Below.drew ?_ | refine Below.setCell ?_ (by (try simp) <;> (try omega)) _ | refine Below.alloc ?_ (by (try simp) <;> (try omega)) _))) (hb.mono (by (try simp) <;> (try omega))), hz, by go_cell, by go_cell, by go_cell, by go_cell, by go_cell, by go_cell, by go_cell, by go_cell⟩
 clear hb HC
 go_wp2
 go_cut [9] (fun s wx => ∃ (g d1 u1 d2 u2 d3 u3 d4 u4 : Nat), (Rel al bl d1 u1 ∧ Rel al bh d2 u2 ∧ Rel ah bl d3 u3 ∧ Rel ah bh d4 u4) ∧ (Flt d1 ∧ Flt u1 ∧ Flt d2 ∧ Flt u2 ∧ Flt d3 ∧ Flt u3 ∧ Flt d4 ∧ Flt u4) ∧ s = .pointer (some ⟨g, 0, none⟩) ∧ w.heap.size + 1 + 1 < g ∧ Zr wx g [d1, u1, d2, u2, d3, u3, d4, u4] ∧ Rk w wx al ah bl bh)
 case first =>
  refine wp_region_noPanic ?_
  replace R := R.on (Below.drew (Below.refl _ _))
  refine wp_region_held_drew (S := (fun wx => wx.cell? ⟨w.heap.size, 0, none⟩ = some (.float .f64 al) ∧ wx.cell? ⟨w.heap.size, 1, none⟩ = some (.float .f64 ah) ∧ wx.cell? ⟨w.heap.size + 1, 0, none⟩ = some (.float .f64 bl) ∧ wx.cell? ⟨w.heap.size + 1, 1, none⟩ = some (.float .f64 bh))) (by kernel_rfl) ⟨R.a0, R.a1, R.b0, R.b1⟩ (fun hHeld => ?_)
  generalize w1.drew = Vd at *
  refine pT 0 ?_
  (try simp only [p0, p1, p2, p3])
  refine pT 1 ?_
  (try simp only [p0, p1, p2, p3])
  refine pT 2 ?_
  (try simp only [p0, p1, p2, p3])
  refine pT 3 ?_
  (try simp only [p0, p1, p2, p3])
  refine pT 4 ?_
  (try simp only [p0, p1, p2, p3])
  refine pT 9 ?_
  (try simp only [p0, p1, p2, p3])
  refine pT 10 ?_
  (try simp only [p0, p1, p2, p3])
  refine pT 11 ?_
  (try simp only [p0, p1, p2, p3])
  refine pT 12 ?_
  (try simp only [p0, p1, p2, p3])
  refine pT 13 ?_
  (try simp only [p0, p1, p2, p3])
  refine pT 18 ?_
  (try simp only [p0, p1, p2, p3])
  refine pT 19 ?_
  (try simp only [p0, p1, p2, p3])
  refine pT 20 ?_
  (try simp only [p0, p1, p2, p3])
  refine pT 21 ?_
  (try simp only [p0, p1, p2, p3])
  refine pT 22 ?_
  (try simp only [p0, p1, p2, p3])
  refine pT 27 ?_
  (try simp only [p0, p1, p2, p3])
  refine pT 28 ?_
  (try simp only [p0, p1, p2, p3])
  refine pT 29 ?_
  (try simp only [p0, p1, p2, p3])
  refine pT 30 ?_
  (try simp only [p0, p1, p2, p3])
  refine pT 31 ?_
  (try simp only [p0, p1, p2, p3])
  refine pR2 5 37 (fun K hK => ?_) (fun K hK => ?_)
  ·go_simp
   rw [HN.out, Oper.upon_enter]
   with_reducible refine (HD.out _ _ _ (by first | exact .inl rfl | exact .inr rfl) (by first | exact .inl rfl | exact .inr rfl)).mono ?_
   rintro e0 w2 ⟨d1, u1, rfl, hb, fd1, fu1, hr1⟩
   (try go_wp2_with fail)
   replace R := R.on hb
   clear hb
   refine hK.out _ _ ⟨R.a0, R.a1, R.b0, R.b1⟩ (fun hHeld => ?_)
   clear hK
   (try simp only [p0, p1, p2, p3])
   refine pT 6 ?_
   (try simp only [p0, p1, p2, p3])
   refine pT 7 ?_
   (try simp only [p0, p1, p2, p3])
   refine pR2 8 37 (fun K hK => ?_) (fun K hK => ?_)
   ·go_simp
    (go_at_call 68; with_reducible refine (HB.out _ _ _).mono ?_)
    rintro e1 w3 ⟨rfl, hb⟩
    (try go_wp2_with fail)
    replace R := R.on hb
    clear hb
    refine hK.out _ _ ⟨R.a0, R.a1, R.b0, R.b1⟩ (fun hHeld => ?_)
    clear hK
    (try simp only [p0, p1, p2, p3])
    refine pR2 14 37 (fun K hK => ?_) (fun K hK => ?_)
    ·go_simp
     rw [HN.out, Oper.upon_enter]
     with_reducible refine (HD.out _ _ _ (by first | exact .inl rfl | exact .inr rfl) (by first | exact .inl rfl | exact .inr rfl)).mono ?_
     rintro e2 w4 ⟨d2, u2, rfl, hb, fd2, fu2, hr2⟩
     (try go_wp2_with fail)
     replace R := R.on hb
     clear hb
     refine hK.out _ _ ⟨R.a0, R.a1, R.b0, R.b1⟩ (fun hHeld => ?_)
     clear hK
     (try simp only [p0, p1, p2, p3])
     refine pT 15 ?_
     (try simp only [p0, p1, p2, p3])
     refine pT 16 ?_
     (try simp only [p0, p1, p2, p3])
     refine pR2 17 37 (fun K hK => ?_) (fun K hK => ?_)
     ·go_simp
      (go_at_call 68; with_reducible refine (HB.out _ _ _).mono ?_)
      rintro e3 w5 ⟨rfl, hb⟩
      (try go_wp2_with fail)
      replace R := R.on hb
      clear hb
      refine hK.out _ _ ⟨R.a0, R.a1, R.b0, R.b1⟩ (fun hHeld => ?_)
      clear hK
      (try simp only [p0, p1, p2, p3])
      refine pR2 23 37 (fun K hK => ?_) (fun K hK => ?_)
      ·go_simp
       rw [HN.out, Oper.upon_enter]
       with_reducible refine (HD.out _ _ _ (by first | exact .inl rfl | exact .inr rfl) (by first | exact .inl rfl | exact .inr rfl)).mono ?_
       rintro e4 w6 ⟨d3, u3, rfl, hb, fd3, fu3, hr3⟩
       (try go_wp2_with fail)
       replace R := R.on hb
       clear hb
       refine hK.out _ _ ⟨R.a0, R.a1, R.b0, R.b1⟩ (fun hHeld => ?_)
       clear hK
       (try simp only [p0, p1, p2, p3])
       refine pT 24 ?_
       (try simp only [p0, p1, p2, p3])
       refine pT 25 ?_
       (try simp only [p0, p1, p2, p3])
       refine pR2 26 37 (fun K hK => ?_) (fun K hK => ?_)
       ·go_simp
        (go_at_call 68; with_reducible refine (HB.out _ _ _).mono ?_)
        rintro e5 w7 ⟨rfl, hb⟩
        (try go_wp2_with fail)
        replace R := R.on hb
        clear hb
        refine hK.out _ _ ⟨R.a0, R.a1, R.b0, R.b1⟩ (fun hHeld => ?_)
        clear hK
        (try simp only [p0, p1, p2, p3])
        refine pR2 32 37 (fun K hK => ?_) (fun K hK => ?_)
        ·go_simp
         rw [HN.out, Oper.upon_enter]
         with_reducible refine (HD.out _ _ _ (by first | exact .inl rfl | exact .inr rfl) (by first | exact .inl rfl | exact .inr rfl)).mono ?_
         rintro e6 w8 ⟨d4, u4, rfl, hb, fd4, fu4, hr4⟩
         (try go_wp2_with fail)
         replace R := R.on hb
         clear hb
         refine hK.out _ _ ⟨R.a0, R.a1, R.b0, R.b1⟩ (fun hHeld => ?_)
         clear hK
         (try simp only [p0, p1, p2, p3])
         refine pT 33 ?_
         (try simp only [p0, p1, p2, p3])
         refine pT 34 ?_
         (try simp only [p0, p1, p2, p3])
         refine pR2 35 37 (fun K hK => ?_) (fun K hK => ?_)
         ·go_simp
          (go_at_call 68; with_reducible refine (HB.out _ _ _).mono ?_)
          rintro e7 w9 ⟨rfl, hb⟩
          (try go_wp2_with fail)
          replace R := R.on hb
          clear hb
          refine hK.out _ _ ⟨R.a0, R.a1, R.b0, R.b1⟩ (fun hHeld => ?_)
          clear hK
          (try simp only [p0, p1, p2, p3])
          refine pT 36 ?_
          (try simp only [p0, p1, p2, p3])
          refine pR1 37 (fun K hK => ?_)
          go_simp
          have Z := Zr.new w9 119
          have hg := R.lt
          replace R := R.on (W'' := w9.alloc (.cells #[.float .f64 0, .float .f64 0, .float .f64 0, .float .f64 0, .float .f64 0, .float .f64 0, .float .f64 0, .float .f64 0] 119)) (Below.alloc (Below.refl _ _) (Nat.le_refl _) _)
          generalize w9.heap.size = gz at *
          generalize (w9.alloc (.cells #[.float .f64 0, .float .f64 0, .float .f64 0, .float .f64 0, .float .f64 0, .float .f64 0, .float .f64 0, .float .f64 0] 119)) = wz8 at *
          refine hK.out _ _ ⟨R.a0, R.a1, R.b0, R.b1⟩ (fun hHeld => ?_)
          clear hK
          (try simp only [p0, p1, p2, p3])
          have z0 := Z.c 0 (by decide)
          have z1 := Z.c 1 (by decide)
          have z2 := Z.c 2 (by decide)
          have z3 := Z.c 3 (by decide)
          have z4 := Z.c 4 (by decide)
          have z5 := Z.c 5 (by decide)
          have z6 := Z.c 6 (by decide)
          have z7 := Z.c 7 (by decide)
          have y0 := Z.f 0
          have y1 := Z.f 1
          have y2 := Z.f 2
          have y3 := Z.f 3
          have y4 := Z.f 4
          have y5 := Z.f 5
          have y6 := Z.f 6
          have y7 := Z.f 7
          refine pR1 38 (fun K hK => ?_)
          go_simp
          have hF := fill8 Z R hg d1 u1 d2 u2 d3 u3 d4 u4
          replace Z := hF.1
          replace R := hF.2
          clear hF z0 y0 z1 y1 z2 y2 z3 y3 z4 y4 z5 y5 z6 y6 z7 y7
          generalize ((((((((wz8.setCell ⟨gz, 0, none⟩ (.float .f64 d1)).setCell ⟨gz, 1, none⟩ (.float .f64 u1)).setCell ⟨gz, 2, none⟩ (.float .f64 d2)).setCell ⟨gz, 3, none⟩ (.float .f64 u2)).setCell ⟨gz, 4, none⟩ (.float .f64 d3)).setCell ⟨gz, 5, none⟩ (.float .f64 u3)).setCell ⟨gz, 6, none⟩ (.float .f64 d4)).setCell ⟨gz, 7, none⟩ (.float .f64 u4)) = Ws at *
          refine hK.out _ _ ⟨R.a0, R.a1, R.b0, R.b1⟩ (fun hHeld => ?_)
          clear hK
          (try simp only [p0, p1, p2, p3])
          refine wpAnyH_done (by kernel_rfl) (NoPanic.normal ?_) _
          go_wp2
          go_meet
          exact ⟨_, _, _, _, _, _, _, _, _, ⟨hr1, hr2, hr3, hr4⟩, ⟨fd1, fu1, fd2, fu2, fd3, fu3, fd4, fu4⟩, rfl, hg, Z, R⟩
         ·go_simp
          have Z := Zr.new w8 119
          have hg := R.lt
          replace R := R.on (W'' := w8.alloc (.cells #[.float .f64 0, .float .f64 0, .float .f64 0, .float .f64 0, .float .f64 0, .float .f64 0, .float .f64 0, .float .f64 0] 119)) (Below.alloc (Below.refl _ _) (Nat.le_refl _) _)
          generalize w8.heap.size = gz at *
          generalize (w8.alloc (.cells #[.float .f64 0, .float .f64 0, .float .f64 0, .float .f64 0, .float .f64 0, .float .f64 0, .float .f64 0, .float .f64 0] 119)) = wz7 at *
          refine hK.out _ _ ⟨R.a0, R.a1, R.b0, R.b1⟩ (fun hHeld => ?_)
          clear hK
          (try simp only [p0, p1, p2, p3])
          refine pR1 35 (fun K hK => ?_)
          go_simp
          (go_at_call 68; with_reducible refine (HB.out _ _ _).mono ?_)
          rintro e7 w9z ⟨rfl, hb⟩
          (try go_wp2_with fail)
          replace R := R.on hb
          replace Z := Z.on hb
          clear hb
          refine hK.out _ _ ⟨R.a0, R.a1, R.b0, R.b1⟩ (fun hHeld => ?_)
          clear hK
          (try simp only [p0, p1, p2, p3])
          refine pT 36 ?_
          (try simp only [p0, p1, p2, p3])
          have z0 := Z.c 0 (by decide)
          have z1 := Z.c 1 (by decide)
          have z2 := Z.c 2 (by decide)
          have z3 := Z.c 3 (by decide)
          have z4 := Z.c 4 (by decide)
          have z5 := Z.c 5 (by decide)
          have z6 := Z.c 6 (by decide)
          have z7 := Z.c 7 (by decide)
          have y0 := Z.f 0
          have y1 := Z.f 1
          have y2 := Z.f 2
          have y3 := Z.f 3
          have y4 := Z.f 4
          have y5 := Z.f 5
          have y6 := Z.f 6
          have y7 := Z.f 7
          refine pR1 38 (fun K hK => ?_)
          go_simp
          have hF := fill8 Z R hg d1 u1 d2 u2 d3 u3 d4 u4
          replace Z := hF.1
          replace R := hF.2
          clear hF z0 y0 z1 y1 z2 y2 z3 y3 z4 y4 z5 y5 z6 y6 z7 y7
          generalize ((((((((w9z.setCell ⟨gz, 0, none⟩ (.float .f64 d1)).setCell ⟨gz, 1, none⟩ (.float .f64 u1)).setCell ⟨gz, 2, none⟩ (.float .f64 d2)).setCell ⟨gz, 3, none⟩ (.float .f64 u2)).setCell ⟨gz, 4, none⟩ (.float .f64 d3)).setCell ⟨gz, 5, none⟩ (.float .f64 u3)).setCell ⟨gz, 6, none⟩ (.float .f64 d4)).setCell ⟨gz, 7, none⟩ (.float .f64 u4)) = Ws at *
          refine hK.out _ _ ⟨R.a0, R.a1, R.b0, R.b1⟩ (fun hHeld => ?_)
          clear hK
          (try simp only [p0, p1, p2, p3])
          refine wpAnyH_done (by kernel_rfl) (NoPanic.normal ?_) _
          go_wp2
          go_meet
          exact ⟨_, _, _, _, _, _, _, _, _, ⟨hr1, hr2, hr3, hr4⟩, ⟨fd1, fu1, fd2, fu2, fd3, fu3, fd4, fu4⟩, rfl, hg, Z, R⟩
        ·go_simp
         have Z := Zr.new w7 119
         have hg := R.lt
         replace R := R.on (W'' := w7.alloc (.cells #[.float .f64 0, .float .f64 0, .float .f64 0, .float .f64 0, .float .f64 0, .float .f64 0, .float .f64 0, .float .f64 0] 119)) (Below.alloc (Below.refl _ _) (Nat.le_refl _) _)
         generalize w7.heap.size = gz at *
         generalize (w7.alloc (.cells #[.float .f64 0, .float .f64 0, .float .f64 0, .float .f64 0, .float .f64 0, .float .f64 0, .float .f64 0, .float .f64 0] 119)) = wz6 at *
         refine hK.out _ _ ⟨R.a0, R.a1, R.b0, R.b1⟩ (fun hHeld => ?_)
         clear hK
         (try simp only [p0, p1, p2, p3])
         refine pR1 32 (fun K hK => ?_)
         go_simp
         rw [HN.out, Oper.upon_enter]
         with_reducible refine (HD.out _ _ _ (by first | exact .inl rfl | exact .inr rfl) (by first | exact .inl rfl | exact .inr rfl)).mono ?_
         rintro e6 w8z ⟨d4, u4, rfl, hb, fd4, fu4, hr4⟩
         (try go_wp2_with fail)
         replace R := R.on hb
         replace Z := Z.on hb
         clear hb
         refine hK.out _ _ ⟨R.a0, R.a1, R.b0, R.b1⟩ (fun hHeld => ?_)
         clear hK
         (try simp only [p0, p1, p2, p3])
         refine pT 33 ?_
         (try simp only [p0, p1, p2, p3])
         refine pT 34 ?_
         (try simp only [p0, p1, p2, p3])
         refine pR1 35 (fun K hK => ?_)
         go_simp
         (go_at_call 68; with_reducible refine (HB.out _ _ _).mono ?_)
         rintro e7 w9z ⟨rfl, hb⟩
         (try go_wp2_with fail)
         replace R := R.on hb
         replace Z := Z.on hb
         clear hb
         refine hK.out _ _ ⟨R.a0, R.a1, R.b0, R.b1⟩ (fun hHeld => ?_)
         clear hK
         (try simp only [p0, p1, p2, p3])
         refine pT 36 ?_
         (try simp only [p0, p1, p2, p3])
         have z0 := Z.c 0 (by decide)
         have z1 := Z.c 1 (by decide)
         have z2 := Z.c 2 (by decide)
         have z3 := Z.c 3 (by decide)
         have z4 := Z.c 4 (by decide)
         have z5 := Z.c 5 (by decide)
         have z6 := Z.c 6 (by decide)
         have z7 := Z.c 7 (by decide)
         have y0 := Z.f 0
         have y1 := Z.f 1
         have y2 := Z.f 2
         have y3 := Z.f 3
         have y4 := Z.f 4
         have y5 := Z.f 5
         have y6 := Z.f 6
         have y7 := Z.f 7
         refine pR1 38 (fun K hK => ?_)
         go_simp
         have hF := fill8 Z R hg d1 u1 d2 u2 d3 u3 d4 u4
         replace Z := hF.1
         replace R := hF.2
         clear hF z0 y0 z1 y1 z2 y2 z3 y3 z4 y4 z5 y5 z6 y6 z7 y7
         generalize ((((((((w9z.setCell ⟨gz, 0, none⟩ (.float .f64 d1)).setCell ⟨gz, 1, none⟩ (.float .f64 u1)).setCell ⟨gz, 2, none⟩ (.float .f64 d2)).setCell ⟨gz, 3, none⟩ (.float .f64 u2)).setCell ⟨gz, 4, none⟩ (.float .f64 d3)).setCell ⟨gz, 5, none⟩ (.float .f64 u3)).setCell ⟨gz, 6, none⟩ (.float .f64 d4)).setCell ⟨gz, 7, none⟩ (.float .f64 u4)) = Ws at *
         refine hK.out _ _ ⟨R.a0, R.a1, R.b0, R.b1⟩ (fun hHeld => ?_)
         clear hK
         (try simp only [p0, p1, p2, p3])
         refine wpAnyH_done (by kernel_rfl) (NoPanic.normal ?_) _
         go_wp2
         go_meet
         exact ⟨_, _, _, _, _, _, _, _, _, ⟨hr1, hr2, hr3, hr4⟩, ⟨fd1, fu1, fd2, fu2, fd3, fu3, fd4, fu4⟩, rfl, hg, Z, R⟩
       ·go_simp
        have Z := Zr.new w6 119
        have hg := R.lt
        replace R := R.on (W'' := w6.alloc (.cells #[.float .f64 0, .float .f64 0, .float .f64 0, .float .f64 0, .float .f64 0, .float .f64 0, .float .f64 0, .float .f64 0] 119)) (Below.alloc (Below.refl _ _) (Nat.le_refl _) _)
        generalize w6.heap.size = gz at *
        generalize (w6.alloc (.cells #[.float .f64 0, .float .f64 0, .float .f64 0, .float .f64 0, .float .f64 0, .float .f64 0, .float .f64 0, .float .f64 0] 119)) = wz5 at *
        refine hK.out _ _ ⟨R.a0, R.a1, R.b0, R.b1⟩ (fun hHeld => ?_)
        clear hK
        (try simp only [p0, p1, p2, p3])
        refine pR1 26 (fun K hK => ?_)
        go_simp
        (go_at_call 68; with_reducible refine (HB.out _ _ _).mono ?_)
        rintro e5 w7z ⟨rfl, hb⟩
        (try go_wp2_with fail)
        replace R := R.on hb
        replace Z := Z.on hb
        clear hb
        refine hK.out _ _ ⟨R.a0, R.a1, R.b0, R.b1⟩ (fun hHeld => ?_)
        clear hK
        (try simp only [p0, p1, p2, p3])
        refine pR1 32 (fun K hK => ?_)
        go_simp
        rw [HN.out, Oper.upon_enter]
        with_reducible refine (HD.out _ _ _ (by first | exact .inl rfl | exact .inr rfl) (by first | exact .inl rfl | exact .inr rfl)).mono ?_
        rintro e6 w8z ⟨d4, u4, rfl, hb, fd4, fu4, hr4⟩
        (try go_wp2_with fail)
        replace R := R.on hb
        replace Z := Z.on hb
        clear hb
        refine hK.out _ _ ⟨R.a0, R.a1, R.b0, R.b1⟩ (fun hHeld => ?_)
        clear hK
        (try simp only [p0, p1, p2, p3])
        refine pT 33 ?_
        (try simp only [p0, p1, p2, p3])
        refine pT 34 ?_
        (try simp only [p0, p1, p2, p3])
        refine pR1 35 (fun K hK => ?_)
        go_simp
        (go_at_call 68; with_reducible refine (HB.out _ _ _).mono ?_)
        rintro e7 w9z ⟨rfl, hb⟩
        (try go_wp2_with fail)
        replace R := R.on hb
        replace Z := Z.on hb
        clear hb
        refine hK.out _ _ ⟨R.a0, R.a1, R.b0, R.b1⟩ (fun hHeld => ?_)
        clear hK
        (try simp only [p0, p1, p2, p3])
        refine pT 36 ?_
        (try simp only [p0, p1, p2, p3])
        have z0 := Z.c 0 (by decide)
        have z1 := Z.c 1 (by decide)
        have z2 := Z.c 2 (by decide)
        have z3 := Z.c 3 (by decide)
        have z4 := Z.c 4 (by decide)
        have z5 := Z.c 5 (by decide)
        have z6 := Z.c 6 (by decide)
        have z7 := Z.c 7 (by decide)
        have y0 := Z.f 0
        have y1 := Z.f 1
        have y2 := Z.f 2
        have y3 := Z.f 3
        have y4 := Z.f 4
        have y5 := Z.f 5
        have y6 := Z.f 6
        have y7 := Z.f 7
        refine pR1 38 (fun K hK => ?_)
        go_simp
        have hF := fill8 Z R hg d1 u1 d2 u2 d3 u3 d4 u4
        replace Z := hF.1
        replace R := hF.2
        clear hF z0 y0 z1 y1 z2 y2 z3 y3 z4 y4 z5 y5 z6 y6 z7 y7
        generalize ((((((((w9z.setCell ⟨gz, 0, none⟩ (.float .f64 d1)).setCell ⟨gz, 1, none⟩ (.float .f64 u1)).setCell ⟨gz, 2, none⟩ (.float .f64 d2)).setCell ⟨gz, 3, none⟩ (.float .f64 u2)).setCell ⟨gz, 4, none⟩ (.float .f64 d3)).setCell ⟨gz, 5, none⟩ (.float .f64 u3)).setCell ⟨gz, 6, none⟩ (.float .f64 d4)).setCell ⟨gz, 7, none⟩ (.float .f64 u4)) = Ws at *
        refine hK.out _ _ ⟨R.a0, R.a1, R.b0, R.b1⟩ (fun hHeld => ?_)
        clear hK
        (try simp only [p0, p1, p2, p3])
        refine wpAnyH_done (by kernel_rfl) (NoPanic.normal ?_) _
        go_wp2
        go_meet
        exact ⟨_, _, _, _, _, _, _, _, _, ⟨hr1, hr2, hr3, hr4⟩, ⟨fd1, fu1, fd2, fu2, fd3, fu3, fd4, fu4⟩, rfl, hg, Z, R⟩
      ·go_simp
       have Z := Zr.new w5 119
       have hg := R.lt
       replace R := R.on (W'' := w5.alloc (.cells #[.float .f64 0, .float .f64 0, .float .f64 0, .float .f64 0, .float .f64 0, .float .f64 0, .float .f64 0, .float .f64 0] 119)) (Below.alloc (Below.refl _ _) (Nat.le_refl _) _)
       generalize w5.heap.size = gz at *
       generalize (w5.alloc (.cells #[.float .f64 0, .float .f64 0, .float .f64 0, .float .f64 0, .float .f64 0, .float .f64 0, .float .f64 0, .float .f64 0] 119)) = wz4 at *
       refine hK.out _ _ ⟨R.a0, R.a1, R.b0, R.b1⟩ (fun hHeld => ?_)
       clear hK
       (try simp only [p0, p1, p2, p3])
       refine pR1 23 (fun K hK => ?_)
       go_simp
       rw [HN.out, Oper.upon_enter]
       with_reducible refine (HD.out _ _ _ (by first | exact .inl rfl | exact .inr rfl) (by first | exact .inl rfl | exact .inr rfl)).mono ?_
       rintro e4 w6z ⟨d3, u3, rfl, hb, fd3, fu3, hr3⟩
       (try go_wp2_with fail)
       replace R := R.on hb
       replace Z := Z.on hb
       clear hb
       refine hK.out _ _ ⟨R.a0, R.a1, R.b0, R.b1⟩ (fun hHeld => ?_)
       clear hK
       (try simp only [p0, p1, p2, p3])
       refine pT 24 ?_
       (try simp only [p0, p1, p2, p3])
       refine pT 25 ?_
       (try simp only [p0, p1, p2, p3])
       refine pR1 26 (fun K hK => ?_)
       go_simp
       (go_at_call 68; with_reducible refine (HB.out _ _ _).mono ?_)
       rintro e5 w7z ⟨rfl, hb⟩
       (try go_wp2_with fail)
       replace R := R.on hb
       replace Z := Z.on hb
       clear hb
       refine hK.out _ _ ⟨R.a0, R.a1, R.b0, R.b1⟩ (fun hHeld => ?_)
       clear hK
       (try simp only [p0, p1, p2, p3])
       refine pR1 32 (fun K hK => ?_)
       go_simp
       rw [HN.out, Oper.upon_enter]
       with_reducible refine (HD.out _ _ _ (by first | exact .inl rfl | exact .inr rfl) (by first | exact .inl rfl | exact .inr rfl)).mono ?_
       rintro e6 w8z ⟨d4, u4, rfl, hb, fd4, fu4, hr4⟩
       (try go_wp2_with fail)
       replace R := R.on hb
       replace Z := Z.on hb
       clear hb
       refine hK.out _ _ ⟨R.a0, R.a1, R.b0, R.b1⟩ (fun hHeld => ?_)
       clear hK
       (try simp only [p0, p1, p2, p3])
       refine pT 33 ?_
       (try simp only [p0, p1, p2, p3])
       refine pT 34 ?_
       (try simp only [p0, p1, p2, p3])
       refine pR1 35 (fun K hK => ?_)
       go_simp
       (go_at_call 68; with_reducible refine (HB.out _ _ _).mono ?_)
       rintro e7 w9z ⟨rfl, hb⟩
       (try go_wp2_with fail)
       replace R := R.on hb
       replace Z := Z.on hb
       clear hb
       refine hK.out _ _ ⟨R.a0, R.a1, R.b0, R.b1⟩ (fun hHeld => ?_)
       clear hK
       (try simp only [p0, p1, p2, p3])
       refine pT 36 ?_
       (try simp only [p0, p1, p2, p3])
       have z0 := Z.c 0 (by decide)
       have z1 := Z.c 1 (by decide)
       have z2 := Z.c 2 (by decide)
       have z3 := Z.c 3 (by decide)
       have z4 := Z.c 4 (by decide)
       have z5 := Z.c 5 (by decide)
       have z6 := Z.c 6 (by decide)
       have z7 := Z.c 7 (by decide)
       have y0 := Z.f 0
       have y1 := Z.f 1
       have y2 := Z.f 2
       have y3 := Z.f 3
       have y4 := Z.f 4
       have y5 := Z.f 5
       have y6 := Z.f 6
       have y7 := Z.f 7
       refine pR1 38 (fun K hK => ?_)
       go_simp
       have hF := fill8 Z R hg d1 u1 d2 u2 d3 u3 d4 u4
       replace Z := hF.1
       replace R := hF.2
       clear hF z0 y0 z1 y1 z2 y2 z3 y3 z4 y4 z5 y5 z6 y6 z7 y7
       generalize ((((((((w9z.setCell ⟨gz, 0, none⟩ (.float .f64 d1)).setCell ⟨gz, 1, none⟩ (.float .f64 u1)).setCell ⟨gz, 2, none⟩ (.float .f64 d2)).setCell ⟨gz, 3, none⟩ (.float .f64 u2)).setCell ⟨gz, 4, none⟩ (.float .f64 d3)).setCell ⟨gz, 5, none⟩ (.float .f64 u3)).setCell ⟨gz, 6, none⟩ (.float .f64 d4)).setCell ⟨gz, 7, none⟩ (.float .f64 u4)) = Ws at *
       refine hK.out _ _ ⟨R.a0, R.a1, R.b0, R.b1⟩ (fun hHeld => ?_)
       clear hK
       (try simp only [p0, p1, p2, p3])
       refine wpAnyH_done (by kernel_rfl) (NoPanic.normal ?_) _
       go_wp2
       go_meet
       exact ⟨_, _, _, _, _, _, _, _, _, ⟨hr1, hr2, hr3, hr4⟩, ⟨fd1, fu1, fd2, fu2, fd3, fu3, fd4, fu4⟩, rfl, hg, Z, R⟩
     ·go_simp
      have Z := Zr.new w4 119
      have hg := R.lt
      replace R := R.on (W'' := w4.alloc (.cells #[.float .f64 0, .float .f64 0, .float .f64 0, .float .f64 0, .float .f64 0, .float .f64 0, .float .f64 0, .float .f64 0] 119)) (Below.alloc (Below.refl _ _) (Nat.le_refl _) _)
      generalize w4.heap.size = gz at *
      generalize (w4.alloc (.cells #[.float .f64 0, .float .f64 0, .float .f64 0, .float .f64 0, .float .f64 0, .float .f64 0, .float .f64 0, .float .f64 0] 119)) = wz3 at *
      refine hK.out _ _ ⟨R.a0, R.a1, R.b0, R.b1⟩ (fun hHeld => ?_)
      clear hK
      (try simp only [p0, p1, p2, p3])
      refine pR1 17 (fun K hK => ?_)
      go_simp
      (go_at_call 68; with_reducible refine (HB.out _ _ _).mono ?_)
      rintro e3 w5z ⟨rfl, hb⟩
      (try go_wp2_with fail)
      replace R := R.on hb
      replace Z := Z.on hb
      clear hb
      refine hK.out _ _ ⟨R.a0, R.a1, R.b0, R.b1⟩ (fun hHeld => ?_)
      clear hK
      (try simp only [p0, p1, p2, p3])
      refine pR1 23 (fun K hK => ?_)
      go_simp
      rw [HN.out, Oper.upon_enter]
      with_reducible refine (HD.out _ _ _ (by first | exact .inl rfl | exact .inr rfl) (by first | exact .inl rfl | exact .inr rfl)).mono ?_
      rintro e4 w6z ⟨d3, u3, rfl, hb, fd3, fu3, hr3⟩
      (try go_wp2_with fail)
      replace R := R.on hb
      replace Z := Z.on hb
      clear hb
      refine hK.out _ _ ⟨R.a0, R.a1, R.b0, R.b1⟩ (fun hHeld => ?_)
      clear hK
      (try simp only [p0, p1, p2, p3])
      refine pT 24 ?_
      (try simp only [p0, p1, p2, p3])
      refine pT 25 ?_
      (try simp only [p0, p1, p2, p3])
      refine pR1 26 (fun K hK => ?_)
      go_simp
      (go_at_call 68; with_reducible refine (HB.out _ _ _).mono ?_)
      rintro e5 w7z ⟨rfl, hb⟩
      (try go_wp2_with fail)
      replace R := R.on hb
      replace Z := Z.on hb
      clear hb
      refine hK.out _ _ ⟨R.a0, R.a1, R.b0, R.b1⟩ (fun hHeld => ?_)
      clear hK
      (try simp only [p0, p1, p2, p3])
      refine pR1 32 (fun K hK => ?_)
      go_simp
      rw [HN.out, Oper.upon_enter]
      with_reducible refine (HD.out _ _ _ (by first | exact .inl rfl | exact .inr rfl) (by first | exact .inl rfl | exact .inr rfl)).mono ?_
      rintro e6 w8z ⟨d4, u4, rfl, hb, fd4, fu4, hr4⟩
      (try go_wp2_with fail)
      replace R := R.on hb
      replace Z := Z.on hb
      clear hb
      refine hK.out _ _ ⟨R.a0, R.a1, R.b0, R.b1⟩ (fun hHeld => ?_)
      clear hK
      (try simp only [p0, p1, p2, p3])
      refine pT 33 ?_
      (try simp only [p0, p1, p2, p3])
      refine pT 34 ?_
      (try simp only [p0, p1, p2, p3])
      refine pR1 35 (fun K hK => ?_)
      go_simp
      (go_at_call 68; with_reducible refine (HB.out _ _ _).mono ?_)
      rintro e7 w9z ⟨rfl, hb⟩
      (try go_wp2_with fail)
      replace R := R.on hb
      replace Z := Z.on hb
      clear hb
      refine hK.out _ _ ⟨R.a0, R.a1, R.b0, R.b1⟩ (fun hHeld => ?_)
      clear hK
      (try simp only [p0, p1, p2, p3])
      refine pT 36 ?_
      (try simp only [p0, p1, p2, p3])
      have z0 := Z.c 0 (by decide)
      have z1 := Z.c 1 (by decide)
      have z2 := Z.c 2 (by decide)
      have z3 := Z.c 3 (by decide)
      have z4 := Z.c 4 (by decide)
      have z5 := Z.c 5 (by decide)
      have z6 := Z.c 6 (by decide)
      have z7 := Z.c 7 (by decide)
      have y0 := Z.f 0
      have y1 := Z.f 1
      have y2 := Z.f 2
      have y3 := Z.f 3
      have y4 := Z.f 4
      have y5 := Z.f 5
      have y6 := Z.f 6
      have y7 := Z.f 7
      refine pR1 38 (fun K hK => ?_)
      go_simp
      have hF := fill8 Z R hg d1 u1 d2 u2 d3 u3 d4 u4
      replace Z := hF.1
      replace R := hF.2
      clear hF z0 y0 z1 y1 z2 y2 z3 y3 z4 y4 z5 y5 z6 y6 z7 y7
      generalize ((((((((w9z.setCell ⟨gz, 0, none⟩ (.float .f64 d1)).setCell ⟨gz, 1, none⟩ (.float .f64 u1)).setCell ⟨gz, 2, none⟩ (.float .f64 d2)).setCell ⟨gz, 3, none⟩ (.float .f64 u2)).setCell ⟨gz, 4, none⟩ (.float .f64 d3)).setCell ⟨gz, 5, none⟩ (.float .f64 u3)).setCell ⟨gz, 6, none⟩ (.float .f64 d4)).setCell ⟨gz, 7, none⟩ (.float .f64 u4)) = Ws at *
      refine hK.out _ _ ⟨R.a0, R.a1, R.b0, R.b1⟩ (fun hHeld => ?_)
      clear hK
      (try simp only [p0, p1, p2, p3])
      refine wpAnyH_done (by kernel_rfl) (NoPanic.normal ?_) _
      go_wp2
      go_meet
      exact ⟨_, _, _, _, _, _, _, _, _, ⟨hr1, hr2, hr3, hr4⟩, ⟨fd1, fu1, fd2, fu2, fd3, fu3, fd4, fu4⟩, rfl, hg, Z, R⟩
    ·go_simp
     have Z := Zr.new w3 119
     have hg := R.lt
     replace R := R.on (W'' := w3.alloc (.cells #[.float .f64 0, .float .f64 0, .float .f64 0, .float .f64 0, .float .f64 0, .float .f64 0, .float .f64 0, .float .f64 0] 119)) (Below.alloc (Below.refl _ _) (Nat.le_refl _) _)
     generalize w3.heap.size = gz at *
     generalize (w3.alloc (.cells #[.float .f64 0, .float .f64 0, .float .f64 0, .float .f64 0, .float .f64 0, .float .f64 0, .float .f64 0, .float .f64 0] 119)) = wz2 at *
     refine hK.out _ _ ⟨R.a0, R.a1, R.b0, R.b1⟩ (fun hHeld => ?_)
     clear hK
     (try simp only [p0, p1, p2, p3])
     refine pR1 14 (fun K hK => ?_)
     go_simp
     rw [HN.out, Oper.upon_enter]
     with_reducible refine (HD.out _ _ _ (by first | exact .inl rfl | exact .inr rfl) (by first | exact .inl rfl | exact .inr rfl)).mono ?_
     rintro e2 w4z ⟨d2, u2, rfl, hb, fd2, fu2, hr2⟩
     (try go_wp2_with fail)
     replace R := R.on hb
     replace Z := Z.on hb
     clear hb
     refine hK.out _ _ ⟨R.a0, R.a1, R.b0, R.b1⟩ (fun hHeld => ?_)
     clear hK
     (try simp only [p0, p1, p2, p3])
     refine pT 15 ?_
     (try simp only [p0, p1, p2, p3])
     refine pT 16 ?_
     (try simp only [p0, p1, p2, p3])
     refine pR1 17 (fun K hK => ?_)
     go_simp
     (go_at_call 68; with_reducible refine (HB.out _ _ _).mono ?_)
     rintro e3 w5z ⟨rfl, hb⟩
     (try go_wp2_with fail)
     replace R := R.on hb
     replace Z := Z.on hb
     clear hb
     refine hK.out _ _ ⟨R.a0, R.a1, R.b0, R.b1⟩ (fun hHeld => ?_)
     clear hK
     (try simp only [p0, p1, p2, p3])
     refine pR1 23 (fun K hK => ?_)
     go_simp
     rw [HN.out, Oper.upon_enter]
     with_reducible refine (HD.out _ _ _ (by first | exact .inl rfl | exact .inr rfl) (by first | exact .inl rfl | exact .inr rfl)).mono ?_
     rintro e4 w6z ⟨d3, u3, rfl, hb, fd3, fu3, hr3⟩
     (try go_wp2_with fail)
     replace R := R.on hb
     replace Z := Z.on hb
     clear hb
     refine hK.out _ _ ⟨R.a0, R.a1, R.b0, R.b1⟩ (fun hHeld => ?_)
     clear hK
     (try simp only [p0, p1, p2, p3])
     refine pT 24 ?_
     (try simp only [p0, p1, p2, p3])
     refine pT 25 ?_
     (try simp only [p0, p1, p2, p3])
     refine pR1 26 (fun K hK => ?_)
     go_simp
     (go_at_call 68; with_reducible refine (HB.out _ _ _).mono ?_)
     rintro e5 w7z ⟨rfl, hb⟩
     (try go_wp2_with fail)
     replace R := R.on hb
     replace Z := Z.on hb
     clear hb
     refine hK.out _ _ ⟨R.a0, R.a1, R.b0, R.b1⟩ (fun hHeld => ?_)
     clear hK
     (try simp only [p0, p1, p2, p3])
     refine pR1 32 (fun K hK => ?_)
     go_simp
     rw [HN.out, Oper.upon_enter]
     with_reducible refine (HD.out _ _ _ (by first | exact .inl rfl | exact .inr rfl) (by first | exact .inl rfl | exact .inr rfl)).mono ?_
     rintro e6 w8z ⟨d4, u4, rfl, hb, fd4, fu4, hr4⟩
     (try go_wp2_with fail)
     replace R := R.on hb
     replace Z := Z.on hb
     clear hb
     refine hK.out _ _ ⟨R.a0, R.a1, R.b0, R.b1⟩ (fun hHeld => ?_)
     clear hK
     (try simp only [p0, p1, p2, p3])
     refine pT 33 ?_
     (try simp only [p0, p1, p2, p3])
     refine pT 34 ?_
     (try simp only [p0, p1, p2, p3])
     refine pR1 35 (fun K hK => ?_)
     go_simp
     (go_at_call 68; with_reducible refine (HB.out _ _ _).mono ?_)
     rintro e7 w9z ⟨rfl, hb⟩
     (try go_wp2_with fail)
     replace R := R.on hb
     replace Z := Z.on hb
     clear hb
     refine hK.out _ _ ⟨R.a0, R.a1, R.b0, R.b1⟩ (fun hHeld => ?_)
     clear hK
     (try simp only [p0, p1, p2, p3])
     refine pT 36 ?_
     (try simp only [p0, p1, p2, p3])
     have z0 := Z.c 0 (by decide)
     have z1 := Z.c 1 (by decide)
     have z2 := Z.c 2 (by decide)
     have z3 := Z.c 3 (by decide)
     have z4 := Z.c 4 (by decide)
     have z5 := Z.c 5 (by decide)
     have z6 := Z.c 6 (by decide)
     have z7 := Z.c 7 (by decide)
     have y0 := Z.f 0
     have y1 := Z.f 1
     have y2 := Z.f 2
     have y3 := Z.f 3
     have y4 := Z.f 4
     have y5 := Z.f 5
     have y6 := Z.f 6
     have y7 := Z.f 7
     refine pR1 38 (fun K hK => ?_)
     go_simp
     have hF := fill8 Z R hg d1 u1 d2 u2 d3 u3 d4 u4
     replace Z := hF.1
     replace R := hF.2
     clear hF z0 y0 z1 y1 z2 y2 z3 y3 z4 y4 z5 y5 z6 y6 z7 y7
     generalize ((((((((w9z.setCell ⟨gz, 0, none⟩ (.float .f64 d1)).setCell ⟨gz, 1, none⟩ (.float .f64 u1)).setCell ⟨gz, 2, none⟩ (.float .f64 d2)).setCell ⟨gz, 3, none⟩ (.float .f64 u2)).setCell ⟨gz, 4, none⟩ (.float .f64 d3)).setCell ⟨gz, 5, none⟩ (.float .f64 u3)).setCell ⟨gz, 6, none⟩ (.float .f64 d4)).setCell ⟨gz, 7, none⟩ (.float .f64 u4)) = Ws at *
     refine hK.out _ _ ⟨R.a0, R.a1, R.b0, R.b1⟩ (fun hHeld => ?_)
     clear hK
     (try simp only [p0, p1, p2, p3])
     refine wpAnyH_done (by kernel_rfl) (NoPanic.normal ?_) _
     go_wp2
     go_meet
     exact ⟨_, _, _, _, _, _, _, _, _, ⟨hr1, hr2, hr3, hr4⟩, ⟨fd1, fu1, fd2, fu2, fd3, fu3, fd4, fu4⟩, rfl, hg, Z, R⟩
   ·go_simp
    have Z := Zr.new w2 119
    have hg := R.lt
    replace R := R.on (W'' := w2.alloc (.cells #[.float .f64 0, .float .f64 0, .float .f64 0, .float .f64 0, .float .f64 0, .float .f64 0, .float .f64 0, .float .f64 0] 119)) (Below.alloc (Below.refl _ _) (Nat.le_refl _) _)
    generalize w2.heap.size = gz at *
    generalize (w2.alloc (.cells #[.float .f64 0, .float .f64 0, .float .f64 0, .float .f64 0, .float .f64 0, .float .f64 0, .float .f64 0, .float .f64 0] 119)) = wz1 at *
    refine hK.out _ _ ⟨R.a0, R.a1, R.b0, R.b1⟩ (fun hHeld => ?_)
    clear hK
    (try simp only [p0, p1, p2, p3])
    refine pR1 8 (fun K hK => ?_)
    go_simp
    (go_at_call 68; with_reducible refine (HB.out _ _ _).mono ?_)
    rintro e1 w3z ⟨rfl, hb⟩
    (try go_wp2_with fail)
    replace R := R.on hb
    replace Z := Z.on hb
    clear hb
    refine hK.out _ _ ⟨R.a0, R.a1, R.b0, R.b1⟩ (fun hHeld => ?_)
    clear hK
    (try simp only [p0, p1, p2, p3])
    refine pR1 14 (fun K hK => ?_)
    go_simp
    rw [HN.out, Oper.upon_enter]
    with_reducible refine (HD.out _ _ _ (by first | exact .inl rfl | exact .inr rfl) (by first | exact .inl rfl | exact .inr rfl)).mono ?_
    rintro e2 w4z ⟨d2, u2, rfl, hb, fd2, fu2, hr2⟩
    (try go_wp2_with fail)
    replace R := R.on hb
    replace Z := Z.on hb
    clear hb
    refine hK.out _ _ ⟨R.a0, R.a1, R.b0, R.b1⟩ (fun hHeld => ?_)
    clear hK
    (try simp only [p0, p1, p2, p3])
    refine pT 15 ?_
    (try simp only [p0, p1, p2, p3])
    refine pT 16 ?_
    (try simp only [p0, p1, p2, p3])
    refine pR1 17 (fun K hK => ?_)
    go_simp
    (go_at_call 68; with_reducible refine (HB.out _ _ _).mono ?_)
    rintro e3 w5z ⟨rfl, hb⟩
    (try go_wp2_with fail)
    replace R := R.on hb
    replace Z := Z.on hb
    clear hb
    refine hK.out _ _ ⟨R.a0, R.a1, R.b0, R.b1⟩ (fun hHeld => ?_)
    clear hK
    (try simp only [p0, p1, p2, p3])
    refine pR1 23 (fun K hK => ?_)
    go_simp
    rw [HN.out, Oper.upon_enter]
    with_reducible refine (HD.out _ _ _ (by first | exact .inl rfl | exact .inr rfl) (by first | exact .inl rfl | exact .inr rfl)).mono ?_
    rintro e4 w6z ⟨d3, u3, rfl, hb, fd3, fu3, hr3⟩
    (try go_wp2_with fail)
    replace R := R.on hb
    replace Z := Z.on hb
    clear hb
    refine hK.out _ _ ⟨R.a0, R.a1, R.b0, R.b1⟩ (fun hHeld => ?_)
    clear hK
    (try simp only [p0, p1, p2, p3])
    refine pT 24 ?_
    (try simp only [p0, p1, p2, p3])
    refine pT 25 ?_
    (try simp only [p0, p1, p2, p3])
    refine pR1 26 (fun K hK => ?_)
    go_simp
    (go_at_call 68; with_reducible refine (HB.out _ _ _).mono ?_)
    rintro e5 w7z ⟨rfl, hb⟩
    (try go_wp2_with fail)
    replace R := R.on hb
    replace Z := Z.on hb
    clear hb
    refine hK.out _ _ ⟨R.a0, R.a1, R.b0, R.b1⟩ (fun hHeld => ?_)
    clear hK
    (try simp only [p0, p1, p2, p3])
    refine pR1 32 (fun K hK => ?_)
    go_simp
    rw [HN.out, Oper.upon_enter]
    with_reducible refine (HD.out _ _ _ (by first | exact .inl rfl | exact .inr rfl) (by first | exact .inl rfl | exact .inr rfl)).mono ?_
    rintro e6 w8z ⟨d4, u4, rfl, hb, fd4, fu4, hr4⟩
    (try go_wp2_with fail)
    replace R := R.on hb
    replace Z := Z.on hb
    clear hb
    refine hK.out _ _ ⟨R.a0, R.a1, R.b0, R.b1⟩ (fun hHeld => ?_)
    clear hK
    (try simp only [p0, p1, p2, p3])
    refine pT 33 ?_
    (try simp only [p0, p1, p2, p3])
    refine pT 34 ?_
    (try simp only [p0, p1, p2, p3])
    refine pR1 35 (fun K hK => ?_)
    go_simp
    (go_at_call 68; with_reducible refine (HB.out _ _ _).mono ?_)
    rintro e7 w9z ⟨rfl, hb⟩
    (try go_wp2_with fail)
    replace R := R.on hb
    replace Z := Z.on hb
    clear hb
    refine hK.out _ _ ⟨R.a0, R.a1, R.b0, R.b1⟩ (fun hHeld => ?_)
    clear hK
    (try simp only [p0, p1, p2, p3])
    refine pT 36 ?_
    (try simp only [p0, p1, p2, p3])
    have z0 := Z.c 0 (by decide)
    have z1 := Z.c 1 (by decide)
    have z2 := Z.c 2 (by decide)
    have z3 := Z.c 3 (by decide)
    have z4 := Z.c 4 (by decide)
    have z5 := Z.c 5 (by decide)
    have z6 := Z.c 6 (by decide)
    have z7 := Z.c 7 (by decide)
    have y0 := Z.f 0
    have y1 := Z.f 1
    have y2 := Z.f 2
    have y3 := Z.f 3
    have y4 := Z.f 4
    have y5 := Z.f 5
    have y6 := Z.f 6
    have y7 := Z.f 7
    refine pR1 38 (fun K hK => ?_)
    go_simp
    have hF := fill8 Z R hg d1 u1 d2 u2 d3 u3 d4 u4
    replace Z := hF.1
    replace R := hF.2
    clear hF z0 y0 z1 y1 z2 y2 z3 y3 z4 y4 z5 y5 z6 y6 z7 y7
    generalize ((((((((w9z.setCell ⟨gz, 0, none⟩ (.float .f64 d1)).setCell ⟨gz, 1, none⟩ (.float .f64 u1)).setCell ⟨gz, 2, none⟩ (.float .f64 d2)).setCell ⟨gz, 3, none⟩ (.float .f64 u2)).setCell ⟨gz, 4, none⟩ (.float .f64 d3)).setCell ⟨gz, 5, none⟩ (.float .f64 u3)).setCell ⟨gz, 6, none⟩ (.float .f64 d4)).setCell ⟨gz, 7, none⟩ (.float .f64 u4)) = Ws at *
    refine hK.out _ _ ⟨R.a0, R.a1, R.b0, R.b1⟩ (fun hHeld => ?_)
    clear hK
    (try simp only [p0, p1, p2, p3])
    refine wpAnyH_done (by kernel_rfl) (NoPanic.normal ?_) _
    go_wp2
    go_meet
    exact ⟨_, _, _, _, _, _, _, _, _, ⟨hr1, hr2, hr3, hr4⟩, ⟨fd1, fu1, fd2, fu2, fd3, fu3, fd4, fu4⟩, rfl, hg, Z, R⟩
  ·go_simp
   have Z := Zr.new Vd 119
   have hg := R.lt
   replace R := R.on (W'' := Vd.alloc (.cells #[.float .f64 0, .float .f64 0, .float .f64 0, .float .f64 0, .float .f64 0, .float .f64 0, .float .f64 0, .float .f64 0] 119)) (Below.alloc (Below.refl _ _) (Nat.le_refl _) _)
   generalize Vd.heap.size = gz at *
   generalize (Vd.alloc (.cells #[.float .f64 0, .float .f64 0, .float .f64 0, .float .f64 0, .float .f64 0, .float .f64 0, .float .f64 0, .float .f64 0] 119)) = wz0 at *
   refine hK.out _ _ ⟨R.a0, R.a1, R.b0, R.b1⟩ (fun hHeld => ?_)
   clear hK
   (try simp only [p0, p1, p2, p3])
   refine pR1 5 (fun K hK => ?_)
   go_simp
   rw [HN.out, Oper.upon_enter]
   with_reducible refine (HD.out _ _ _ (by first | exact .inl rfl | exact .inr rfl) (by first | exact .inl rfl | exact .inr rfl)).mono ?_
   rintro e0 w2z ⟨d1, u1, rfl, hb, fd1, fu1, hr1⟩
   (try go_wp2_with fail)
   replace R := R.on hb
   replace Z := Z.on hb
   clear hb
   refine hK.out _ _ ⟨R.a0, R.a1, R.b0, R.b1⟩ (fun hHeld => ?_)
   clear hK
   (try simp only [p0, p1, p2, p3])
   refine pT 6 ?_
   (try simp only [p0, p1, p2, p3])
   refine pT 7 ?_
   (try simp only [p0, p1, p2, p3])
   refine pR1 8 (fun K hK => ?_)
   go_simp
   (go_at_call 68; with_reducible refine (HB.out _ _ _).mono ?_)
   rintro e1 w3z ⟨rfl, hb⟩
   (try go_wp2_with fail)
   replace R := R.on hb
   replace Z := Z.on hb
   clear hb
   refine hK.out _ _ ⟨R.a0, R.a1, R.b0, R.b1⟩ (fun hHeld => ?_)
   clear hK
   (try simp only [p0, p1, p2, p3])
   refine pR1 14 (fun K hK => ?_)
   go_simp
   rw [HN.out, Oper.upon_enter]
   with_reducible refine (HD.out _ _ _ (by first | exact .inl rfl | exact .inr rfl) (by first | exact .inl rfl | exact .inr rfl)).mono ?_
   rintro e2 w4z ⟨d2, u2, rfl, hb, fd2, fu2, hr2⟩
   (try go_wp2_with fail)
   replace R := R.on hb
   replace Z := Z.on hb
   clear hb
   refine hK.out _ _ ⟨R.a0, R.a1, R.b0, R.b1⟩ (fun hHeld => ?_)
   clear hK
   (try simp only [p0, p1, p2, p3])
   refine pT 15 ?_
   (try simp only [p0, p1, p2, p3])
   refine pT 16 ?_
   (try simp only [p0, p1, p2, p3])
   refine pR1 17 (fun K hK => ?_)
   go_simp
   (go_at_call 68; with_reducible refine (HB.out _ _ _).mono ?_)
   rintro e3 w5z ⟨rfl, hb⟩
   (try go_wp2_with fail)
   replace R := R.on hb
   replace Z := Z.on hb
   clear hb
   refine hK.out _ _ ⟨R.a0, R.a1, R.b0, R.b1⟩ (fun hHeld => ?_)
   clear hK
   (try simp only [p0, p1, p2, p3])
   refine pR1 23 (fun K hK => ?_)
   go_simp
   rw [HN.out, Oper.upon_enter]
   with_reducible refine (HD.out _ _ _ (by first | exact .inl rfl | exact .inr rfl) (by first | exact .inl rfl | exact .inr rfl)).mono ?_
   rintro e4 w6z ⟨d3, u3, rfl, hb, fd3, fu3, hr3⟩
   (try go_wp2_with fail)
   replace R := R.on hb
   replace Z := Z.on hb
   clear hb
   refine hK.out _ _ ⟨R.a0, R.a1, R.b0, R.b1⟩ (fun hHeld => ?_)
   clear hK
   (try simp only [p0, p1, p2, p3])
   refine pT 24 ?_
   (try simp only [p0, p1, p2, p3])
   refine pT 25 ?_
   (try simp only [p0, p1, p2, p3])
   refine pR1 26 (fun K hK => ?_)
   go_simp
   (go_at_call 68; with_reducible refine (HB.out _ _ _).mono ?_)
   rintro e5 w7z ⟨rfl, hb⟩
   (try go_wp2_with fail)
   replace R := R.on hb
   replace Z := Z.on hb
   clear hb
   refine hK.out _ _ ⟨R.a0, R.a1, R.b0, R.b1⟩ (fun hHeld => ?_)
   clear hK
   (try simp only [p0, p1, p2, p3])
   refine pR1 32 (fun K hK => ?_)
   go_simp
   rw [HN.out, Oper.upon_enter]
   with_reducible refine (HD.out _ _ _ (by first | exact .inl rfl | exact .inr rfl) (by first | exact .inl rfl | exact .inr rfl)).mono ?_
   rintro e6 w8z ⟨d4, u4, rfl, hb, fd4, fu4, hr4⟩
   (try go_wp2_with fail)
   replace R := R.on hb
   replace Z := Z.on hb
   clear hb
   refine hK.out _ _ ⟨R.a0, R.a1, R.b0, R.b1⟩ (fun hHeld => ?_)
   clear hK
   (try simp only [p0, p1, p2, p3])
   refine pT 33 ?_
   (try simp only [p0, p1, p2, p3])
   refine pT 34 ?_
   (try simp only [p0, p1, p2, p3])
   refine pR1 35 (fun K hK => ?_)
   go_simp
   (go_at_call 68; with_reducible refine (HB.out _ _ _).mono ?_)
   rintro e7 w9z ⟨rfl, hb⟩
   (try go_wp2_with fail)
   replace R := R.on hb
   replace Z := Z.on hb
   clear hb
   refine hK.out _ _ ⟨R.a0, R.a1, R.b0, R.b1⟩ (fun hHeld => ?_)
   clear hK
   (try simp only [p0, p1, p2, p3])
   refine pT 36 ?_
   (try simp only [p0, p1, p2, p3])
   have z0 := Z.c 0 (by decide)
   have z1 := Z.c 1 (by decide)
   have z2 := Z.c 2 (by decide)
   have z3 := Z.c 3 (by decide)
   have z4 := Z.c 4 (by decide)
   have z5 := Z.c 5 (by decide)
   have z6 := Z.c 6 (by decide)
   have z7 := Z.c 7 (by decide)
   have y0 := Z.f 0
   have y1 := Z.f 1
   have y2 := Z.f 2
   have y3 := Z.f 3
   have y4 := Z.f 4
   have y5 := Z.f 5
   have y6 := Z.f 6
   have y7 := Z.f 7
   refine pR1 38 (fun K hK => ?_)
   go_simp
   have hF := fill8 Z R hg d1 u1 d2 u2 d3 u3 d4 u4
   replace Z := hF.1
   replace R := hF.2
   clear hF z0 y0 z1 y1 z2 y2 z3 y3 z4 y4 z5 y5 z6 y6 z7 y7
   generalize ((((((((w9z.setCell ⟨gz, 0, none⟩ (.float .f64 d1)).setCell ⟨gz, 1, none⟩ (.float .f64 u1)).setCell ⟨gz, 2, none⟩ (.float .f64 d2)).setCell ⟨gz, 3, none⟩ (.float .f64 u2)).setCell ⟨gz, 4, none⟩ (.float .f64 d3)).setCell ⟨gz, 5, none⟩ (.float .f64 u3)).setCell ⟨gz, 6, none⟩ (.float .f64 d4)).setCell ⟨gz, 7, none⟩ (.float .f64 u4)) = Ws at *
   refine hK.out _ _ ⟨R.a0, R.a1, R.b0, R.b1⟩ (fun hHeld => ?_)
   clear hK
   (try simp only [p0, p1, p2, p3])
   refine wpAnyH_done (by kernel_rfl) (NoPanic.normal ?_) _
   go_wp2
   go_meet
   exact ⟨_, _, _, _, _, _, _, _, _, ⟨hr1, hr2, hr3, hr4⟩, ⟨fd1, fu1, fd2, fu2, fd3, fu3, fd4, fu4⟩, rfl, hg, Z, R⟩
 case rest =>
  obtain ⟨g, d1, u1, d2, u2, d3, u3, d4, u4, hr, hfl, rfl, hg, Z, R⟩ := hcut
  have HR := Lib.hid hr
  have HF := Lib.hid hfl
  have HL : Hid (∀ W, Zr W g [d1, u1, d2, u2, d3, u3, d4, u4] → Calls Tryz.prog 69 #[spv d1 u1, .slice (some ⟨g, 2, none⟩) 3 3] W fun e w' => e = .returned (.tuple #[spv (leaLo d1 u1 [(d2, u2), (d3, u3), (d4, u4)]) (leaHi d1 u1 [(d2, u2), (d3, u3), (d4, u4)]), .int .i64 (leaE d1 u1 [(d2, u2), (d3, u3), (d4, u4)])]) ∧ Below W.heap.size W w') := Lib.hid fun W hZ =>
   least_any d1 u1 g 2 3 3 [(d2, u2), (d3, u3), (d4, u4)] W rfl (by decide) hfl.1 hfl.2.1 (flts3 hfl.2.2) hZ.lt (lies3 hZ)
  clear hr hfl HD HB
  go_wp2
  refine wp_region_noPanic ?_
  replace R := R.on (Below.drew (Below.refl _ _))
  replace Z := Z.on (Below.drew (Below.refl _ _))
  refine wp_region_held_drew (S := (fun wx => wx.cell? ⟨g, 0, none⟩ = some (.float .f64 d1) ∧ wx.cell? ⟨g, 1, none⟩ = some (.float .f64 u1))) (by kernel_rfl) ⟨Z.at_ 0 d1 rfl, Z.at_ 1 u1 rfl⟩ (fun hHeld => ?_)
  generalize wc.drew = Vd at *
  refine pT 0 ?_
  (try simp only [p0, p1, p2, p3])
  refine pT 1 ?_
  (try simp only [p0, p1, p2, p3])
  refine pT 2 ?_
  (try simp only [p0, p1, p2, p3])
  refine pR1 3 (fun K hK => ?_)
  go_simp
  (go_at_call 69; with_reducible refine (HL.out _ Z).mono ?_)
  rintro e2 w2 ⟨rfl, hb⟩
  (try go_wp2_with fail)
  replace R := R.on hb
  replace Z := Z.on hb
  clear hb HL
  refine hK.out _ _ ⟨Z.at_ 0 d1 rfl, Z.at_ 1 u1 rfl⟩ (fun hHeld => ?_)
  clear hK
  (try simp only [p0, p1, p2, p3])
  refine pT 4 ?_
  (try simp only [p0, p1, p2, p3])
  refine pT 5 ?_
  (try simp only [p0, p1, p2, p3])
  have r0 := R.r0
  have r1 := R.r1
  have r2 := R.f0
  have r3 := R.f1
  have r4 := R.lt
  have HB := R.below
  refine pR1 6 (fun K hK => ?_)
  go_simp
  have x0 := Z.at_ 0 d1 rfl
  have x1 := Z.at_ 1 u1 rfl
  refine hK.out _ _ ⟨by rw [far2 (by omega)]; exact x0, by rw [far2 (by omega)]; exact x1⟩ (fun hHeld => ?_)
  clear hK x0 x1
  (try simp only [p0, p1, p2, p3])
  refine pT 7 ?_
  (try simp only [p0, p1, p2, p3])
  refine wpAnyH_done (by kernel_rfl) (NoPanic.normal ?_) _
  go_wp2
  exact bodyPost_ret (v := .tuple #[spv (leaLo d1 u1 [(d2, u2), (d3, u3), (d4, u4)]) (leaHi d1 u1 [(d2, u2), (d3, u3), (d4, u4)]), .int .i64 (leaE d1 u1 [(d2, u2), (d3, u3), (d4, u4)])]) (by simp [results, Tryz.results51, go_sem, r0, r1]) rfl ⟨d1, u1, d2, u2, d3, u3, d4, u4, HR.out, HF.out, rfl, by (repeat (first | exact below_self _ _ | assumption | refine below_dn ?_ _ | refine Below.drew ?_ | refine Below.setCell ?_ (by (try simp) <;> (try omega)) _ | refine Below.alloc ?_ (by (try simp) <;> (try omega)) _))⟩
theorem reckon_add (al ah bl bh : Nat) (w : World) (Rel : Nat → Nat → Nat → Nat → Prop) (h1 : al < 18446744073709551616) (h3 : bl < 18446744073709551616) (hs : Spn al ah ∧ Spn bl bh)
  (hD : ∀ x y W, (x = al ∨ x = ah) → (y = bl ∨ y = bh) → Calls Tryz.prog 52 #[.float .f64 x, .float .f64 y] W fun e w' => ∃ d u, e = .returned (.tuple #[.float .f64 d, .float .f64 u]) ∧ Below W.heap.size W w' ∧ Flt d ∧ Flt u ∧ Rel x y d u) :
  Calls Tryz.prog 51 #[.func (.func 52) #[] #[], spv al ah, spv bl bh] w fun e w' => ∃ d1 u1 d2 u2 d3 u3 d4 u4, (Rel al bl d1 u1 ∧ Rel al bh d2 u2 ∧ Rel ah bl d3 u3 ∧ Rel ah bh d4 u4) ∧ (Flt d1 ∧ Flt u1 ∧ Flt d2 ∧ Flt u2 ∧ Flt d3 ∧ Flt u3 ∧ Flt d4 ∧ Flt u4) ∧
   e = .returned (.tuple #[spv (leaLo d1 u1 [(d2, u2), (d3, u3), (d4, u4)]) (leaHi d1 u1 [(d2, u2), (d3, u3), (d4, u4)]), .int .i64 (leaE d1 u1 [(d2, u2), (d3, u3), (d4, u4)])]) ∧ Below w.heap.size w w' :=
 reckon_any 52 (fun _ _ => by simp [go_sem]) al ah bl bh w Rel h1 h3 hs hD
theorem reckon_sub (al ah bl bh : Nat) (w : World) (Rel : Nat → Nat → Nat → Nat → Prop) (h1 : al < 18446744073709551616) (h3 : bl < 18446744073709551616) (hs : Spn al ah ∧ Spn bl bh)
  (hD : ∀ x y W, (x = al ∨ x = ah) → (y = bl ∨ y = bh) → Calls Tryz.prog 56 #[.float .f64 x, .float .f64 y] W fun e w' => ∃ d u, e = .returned (.tuple #[.float .f64 d, .float .f64 u]) ∧ Below W.heap.size W w' ∧ Flt d ∧ Flt u ∧ Rel x y d u) :
  Calls Tryz.prog 51 #[.func (.func 56) #[] #[], spv al ah, spv bl bh] w fun e w' => ∃ d1 u1 d2 u2 d3 u3 d4 u4, (Rel al bl d1 u1 ∧ Rel al bh d2 u2 ∧ Rel ah bl d3 u3 ∧ Rel ah bh d4 u4) ∧ (Flt d1 ∧ Flt u1 ∧ Flt d2 ∧ Flt u2 ∧ Flt d3 ∧ Flt u3 ∧ Flt d4 ∧ Flt u4) ∧
   e = .returned (.tuple #[spv (leaLo d1 u1 [(d2, u2), (d3, u3), (d4, u4)]) (leaHi d1 u1 [(d2, u2), (d3, u3), (d4, u4)]), .int .i64 (leaE d1 u1 [(d2, u2), (d3, u3), (d4, u4)])]) ∧ Below w.heap.size w w' :=
 reckon_any 56 (fun _ _ => by simp [go_sem]) al ah bl bh w Rel h1 h3 hs hD
theorem reckon_mul (al ah bl bh : Nat) (w : World) (Rel : Nat → Nat → Nat → Nat → Prop) (h1 : al < 18446744073709551616) (h3 : bl < 18446744073709551616) (hs : Spn al ah ∧ Spn bl bh)
  (hD : ∀ x y W, (x = al ∨ x = ah) → (y = bl ∨ y = bh) → Calls Tryz.prog 60 #[.float .f64 x, .float .f64 y] W fun e w' => ∃ d u, e = .returned (.tuple #[.float .f64 d, .float .f64 u]) ∧ Below W.heap.size W w' ∧ Flt d ∧ Flt u ∧ Rel x y d u) :
  Calls Tryz.prog 51 #[.func (.func 60) #[] #[], spv al ah, spv bl bh] w fun e w' => ∃ d1 u1 d2 u2 d3 u3 d4 u4, (Rel al bl d1 u1 ∧ Rel al bh d2 u2 ∧ Rel ah bl d3 u3 ∧ Rel ah bh d4 u4) ∧ (Flt d1 ∧ Flt u1 ∧ Flt d2 ∧ Flt u2 ∧ Flt d3 ∧ Flt u3 ∧ Flt d4 ∧ Flt u4) ∧
   e = .returned (.tuple #[spv (leaLo d1 u1 [(d2, u2), (d3, u3), (d4, u4)]) (leaHi d1 u1 [(d2, u2), (d3, u3), (d4, u4)]), .int .i64 (leaE d1 u1 [(d2, u2), (d3, u3), (d4, u4)])]) ∧ Below w.heap.size w w' :=
 reckon_any 60 (fun _ _ => by simp [go_sem]) al ah bl bh w Rel h1 h3 hs hD
theorem reckon_quo (al ah bl bh : Nat) (w : World) (Rel : Nat → Nat → Nat → Nat → Prop) (h1 : al < 18446744073709551616) (h3 : bl < 18446744073709551616) (hs : Spn al ah ∧ Spn bl bh)
  (hD : ∀ x y W, (x = al ∨ x = ah) → (y = bl ∨ y = bh) → Calls Tryz.prog 29 #[.float .f64 x, .float .f64 y] W fun e w' => ∃ d u, e = .returned (.tuple #[.float .f64 d, .float .f64 u]) ∧ Below W.heap.size W w' ∧ Flt d ∧ Flt u ∧ Rel x y d u) :
  Calls Tryz.prog 51 #[.func (.func 29) #[] #[], spv al ah, spv bl bh] w fun e w' => ∃ d1 u1 d2 u2 d3 u3 d4 u4, (Rel al bl d1 u1 ∧ Rel al bh d2 u2 ∧ Rel ah bl d3 u3 ∧ Rel ah bh d4 u4) ∧ (Flt d1 ∧ Flt u1 ∧ Flt d2 ∧ Flt u2 ∧ Flt d3 ∧ Flt u3 ∧ Flt d4 ∧ Flt u4) ∧
   e = .returned (.tuple #[spv (leaLo d1 u1 [(d2, u2), (d3, u3), (d4, u4)]) (leaHi d1 u1 [(d2, u2), (d3, u3), (d4, u4)]), .int .i64 (leaE d1 u1 [(d2, u2), (d3, u3), (d4, u4)])]) ∧ Below w.heap.size w w' :=
 reckon_any 29 (fun _ _ => by simp [go_sem]) al ah bl bh w Rel h1 h3 hs hD
end Go.Proofs.YtghcoijinihlnaaGreat.Fl
