/-
  Spans of floats: may a span be; the lesser and the greater of two floats; a nought's sign put away; what Check and the small functions of span return. Condition: floats of 64 bits.
-/
import Derived.Test.YtghcoijinihlnaaBes
import Derived.Test.YtghcoijinihlnaaExb
namespace Go.Proofs.Ytghcoijinihlnaa.Fl
open Go.RowKit Ieee
theorem run_store_f {P : Program} (k : FloatKind) (b : Nat) (a : Addr) (m : Mode) (w : World) : (store a (.float k b) m).run P w = stored P w a (.float k b) m := run_store P w a _ m rfl
/-- A span's value. -/
abbrev spv (l h : Nat) : Value := .agg #[.float .f64 l, .float .f64 h]
/-- May a span be? -/
def Spn (l h : Nat) : Prop := mg l < 9218868437227405312 ∧ mg h < 9218868437227405312 ∧ key l ≤ key h
instance (l h : Nat) : Decidable (Spn l h) := by unfold Spn; infer_instance
/-- Check's answer. -/
def spE (l h : Nat) : Int := if Spn l h then 0 else 1
theorem spE_ok {l h : Nat} (k : Spn l h) : spE l h = 0 := if_pos k
theorem spE_no {l h : Nat} (k : ¬ Spn l h) : spE l h = 1 := if_neg k
theorem ord_le (x y : Nat) : (FloatKind.f64.format.order x y == some .lt || FloatKind.f64.format.order x y == some .eq) = decide (mg x ≤ 9218868437227405312 ∧ mg y ≤ 9218868437227405312 ∧ key x ≤ key y) := by
  rw [ord_lt, ord_eq, ← Bool.decide_or]
  exact decide_eq_decide.2 (by omega)
theorem key_inf {x : Nat} (h : mg x ≤ 9218868437227405312) : -9218868437227405312 ≤ key x ∧ key x ≤ 9218868437227405312 := by unfold key; split <;> omega
theorem spn_bools (l h : Nat) : decide (Spn l h) = (decide (mg l ≤ 9218868437227405312 ∧ mg h ≤ 9218868437227405312 ∧ key l ≤ key h) && (!decide (mg l = 9218868437227405312 ∧ ng l = true)) && !decide (mg h = 9218868437227405312 ∧ ng h = false)) := by
  rw [← decide_not, ← decide_not, ← Bool.decide_and, ← Bool.decide_and]
  refine decide_eq_decide.2 ?_
  unfold Spn key
  cases ng l <;> cases ng h <;> simp <;> omega
set_option maxHeartbeats 400000 in
theorem check_span (l h : Nat) (w : World) (hl : l < 18446744073709551616) :
    Calls Try.prog 19 #[spv l h] w fun e w' => e = .returned (.int .i64 (spE l h)) ∧ w' = w.alloc (.cells #[.float .f64 l, .float .f64 h] 24) := by
  have HD := Lib.hid (fun W => isInfDown_any l W hl)
  have HU := Lib.hid (fun W => isInfUp_any h W)
  have e1 := ord_le l h
  have hs := spn_bools l h
  obtain ⟨p, hp⟩ : ∃ p, decide (mg l ≤ 9218868437227405312 ∧ mg h ≤ 9218868437227405312 ∧ key l ≤ key h) = p := ⟨_, rfl⟩
  obtain ⟨q, hq⟩ : ∃ q, decide (mg l = 9218868437227405312 ∧ ng l = true) = q := ⟨_, rfl⟩
  obtain ⟨r, hr⟩ : ∃ r, decide (mg h = 9218868437227405312 ∧ ng h = false) = r := ⟨_, rfl⟩
  rw [hp] at e1 hs
  rw [hq] at HD hs
  rw [hr] at HU hs
  clear hp hq hr hl
  cases p
  · rw [spE_no (fun k => by simp [k] at hs)]
    clear hs HD HU
    go_enter Try.func19, Try.ntmps19
    go_wp2
    go_ret; exact ⟨rfl, rfl⟩
  · cases q
    · cases r
      · rw [spE_ok (by simpa using hs)]
        clear hs
        go_enter Try.func19, Try.ntmps19
        go_wp2_with (go_at_call 35; first | (with_reducible refine (HU.out _).mono ?_; rintro e w' ⟨rfl, rfl⟩) | (with_reducible refine (HD.out _).mono ?_; rintro e w' ⟨rfl, rfl⟩))
        go_ret; exact ⟨rfl, rfl⟩
      · rw [spE_no (fun k => by simp [k] at hs)]
        clear hs
        go_enter Try.func19, Try.ntmps19
        go_wp2_with (go_at_call 35; first | (with_reducible refine (HU.out _).mono ?_; rintro e w' ⟨rfl, rfl⟩) | (with_reducible refine (HD.out _).mono ?_; rintro e w' ⟨rfl, rfl⟩))
        go_ret; exact ⟨rfl, rfl⟩
    · rw [spE_no (fun k => by simp [k] at hs)]
      clear hs
      go_enter Try.func19, Try.ntmps19
      go_wp2_with (go_at_call 35; first | (with_reducible refine (HU.out _).mono ?_; rintro e w' ⟨rfl, rfl⟩) | (with_reducible refine (HD.out _).mono ?_; rintro e w' ⟨rfl, rfl⟩))
      go_ret; exact ⟨rfl, rfl⟩
theorem spE_01 (l h : Nat) : spE l h = 0 ∧ Spn l h ∨ spE l h = 1 ∧ ¬ Spn l h := by
  by_cases k : Spn l h
  · exact .inl ⟨spE_ok k, k⟩
  · exact .inr ⟨spE_no k, k⟩
/-- check of two. -/
def spE2 (l h m k : Nat) : Int := if Spn l h ∧ Spn m k then 0 else 1
set_option maxHeartbeats 1000000 in
theorem check_two (g l h m k : Nat) (w : World) (hl : l < 18446744073709551616) (hm : m < 18446744073709551616) (hg : g < w.heap.size)
    (h0 : w.cell? ⟨g, 0, none⟩ = some (.float .f64 l)) (h1 : w.cell? ⟨g, 1, none⟩ = some (.float .f64 h)) (h2 : w.cell? ⟨g, 2, none⟩ = some (.float .f64 m)) (h3 : w.cell? ⟨g, 3, none⟩ = some (.float .f64 k)) :
    Calls Try.prog 13 #[.slice (some ⟨g, 0, none⟩) 2 2] w fun e w' => e = .returned (.int .i64 (spE2 l h m k)) ∧ Below w.heap.size w w' := by
  have HA := Lib.hid (fun W => check_span l h W hl)
  have HB := Lib.hid (fun W => check_span m k W hm)
  have hsf := @run_store_f Try.prog .f64
  clear hl hm
  rcases spE_01 l h with ⟨a1, a2⟩ | ⟨a1, a2⟩
  · rw [a1] at HA
    rcases spE_01 m k with ⟨b1, b2⟩ | ⟨b1, b2⟩
    · rw [b1] at HB
      have e : spE2 l h m k = 0 := if_pos ⟨a2, b2⟩
      rw [e]
      clear a1 a2 b1 b2 e
      go_enter Try.func13, Try.ntmps13
      go_wp2
      refine wp_loop_rounds 3 ?_
      rw [rounds_succ]
      go_wp2_with (go_at_call 19; refine (HA.out _).mono ?_; rintro e w' ⟨rfl, rfl⟩)
      rw [rounds_succ]
      go_wp2_with (go_at_call 19; refine (HB.out _).mono ?_; rintro e w' ⟨rfl, rfl⟩)
      rw [rounds_succ]
      go_wp2
      go_ret; exact ⟨rfl, by go_grown⟩
    · rw [b1] at HB
      have e : spE2 l h m k = 1 := if_neg (fun x => b2 x.2)
      rw [e]
      clear a1 a2 b1 b2 e
      go_enter Try.func13, Try.ntmps13
      go_wp2
      refine wp_loop_rounds 3 ?_
      rw [rounds_succ]
      go_wp2_with (go_at_call 19; refine (HA.out _).mono ?_; rintro e w' ⟨rfl, rfl⟩)
      rw [rounds_succ]
      go_wp2_with (go_at_call 19; refine (HB.out _).mono ?_; rintro e w' ⟨rfl, rfl⟩)
      go_ret; exact ⟨rfl, by go_grown⟩
  · rw [a1] at HA
    have e : spE2 l h m k = 1 := if_neg (fun x => a2 x.1)
    rw [e]
    clear a1 a2 e HB
    go_enter Try.func13, Try.ntmps13
    go_wp2
    refine wp_loop_rounds 3 ?_
    rw [rounds_succ]
    go_wp2_with (go_at_call 19; refine (HA.out _).mono ?_; rintro e w' ⟨rfl, rfl⟩)
    go_ret; exact ⟨rfl, by go_grown⟩
end Go.Proofs.Ytghcoijinihlnaa.Fl
