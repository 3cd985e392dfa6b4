/-
  What round's inner functions return: plain, about, left, Two. Condition: that the operands are floats of 64 bits.
-/
import Derived.Test.YtghcoijinihlnaaFl1
namespace Go.Proofs.Ytghcoijinihlnaa.Fl
open Go.RowKit Ieee
theorem run_fma_some {x y z r : Nat} (h : double.fma x y z = some r) (w : World) : (callFunc 46 #[.float .f64 x, .float .f64 y, .float .f64 z]).run Try.prog w = .ok (.value (.float .f64 r)) w := by
  rw [run_callFunc_extern Try.func46 (by kernel_rfl) (by kernel_rfl) (by kernel_rfl) (e := Extern.MathFMA.fma) (by kernel_rfl)]
  have e : Extern.MathFMA.fma #[.float .f64 x, .float .f64 y, .float .f64 z] = pure (.float .f64 r) := by
    have h' : FloatKind.f64.format.fma x y z = some r := h
    show (match FloatKind.f64.format.fma x y z with | some r => pure (Value.float .f64 r) | none => _) = _
    rw [h']
  rw [e]; rfl
theorem run_sqrt_some {x r : Nat} (h : double.sqrt x = some r) (w : World) : (callFunc 47 #[.float .f64 x]).run Try.prog w = .ok (.value (.float .f64 r)) w := by
  rw [run_callFunc_extern Try.func47 (by kernel_rfl) (by kernel_rfl) (by kernel_rfl) (e := Extern.MathSqrt.sqrt) (by kernel_rfl)]
  have e : Extern.MathSqrt.sqrt #[.float .f64 x] = pure (.float .f64 r) := by
    have h' : FloatKind.f64.format.sqrt x = some r := h
    show (match FloatKind.f64.format.sqrt x with | some r => pure (Value.float .f64 r) | none => _) = _
    rw [h']
  rw [e]; rfl
theorem run_sqrt_none {x : Nat} (h : double.sqrt x = none) (w : World) : (callFunc 47 #[.float .f64 x]).run Try.prog w = .ok (.value (.float .f64 (nanw w x x))) (w.drewN 1) := by
  rw [run_callFunc_extern Try.func47 (by kernel_rfl) (by kernel_rfl) (by kernel_rfl) (e := Extern.MathSqrt.sqrt) (by kernel_rfl)]
  have e : Extern.MathSqrt.sqrt #[.float .f64 x] = (do pure (.float .f64 (← choose (.nanBits .f64 x x)))) := by
    have h' : FloatKind.f64.format.sqrt x = none := h
    show (match FloatKind.f64.format.sqrt x with | some r => pure (Value.float .f64 r) | none => (do pure (Value.float .f64 (← choose (.nanBits .f64 x x))))) = _
    rw [h']
  rw [e]
  simp [Question.forced, nanw]
  rfl
/-- Finite and not nought. -/
def Pl (x : Nat) : Prop := 0 < mg x ∧ mg x < 9218868437227405312
theorem kd_pl (x : Nat) : (kd x = 1 ↔ Pl x) := by unfold kd Pl; split <;> (try split) <;> omega
theorem kd_cases (x : Nat) : kd x = 1 ∧ Pl x ∨ (kd x = 0 ∨ kd x = 2) ∧ ¬ Pl x := by unfold kd Pl; split <;> (try split) <;> omega
set_option maxHeartbeats 1000000 in
theorem plain1_any (g x : Nat) (w : World) (hx : x < 18446744073709551616) (hc : w.cell? ⟨g, 0, none⟩ = some (.float .f64 x)) :
    Calls Try.prog 36 #[.slice (some ⟨g, 0, none⟩) 1 1] w fun e w' => ∃ b, e = .returned (.bool b) ∧ (b = true ↔ Pl x) ∧ w' = w := by
  have HX := Lib.hid (fun W => kindOf_any x W hx)
  clear hx
  rcases kd_cases x with ⟨h, hp⟩ | ⟨h, hp⟩
  · rw [h] at HX
    have HP := Lib.hid hp
    clear h hp
    go_enter Try.func36, Try.ntmps36
    go_wp2
    refine wp_loop_rounds 2 ?_
    rw [rounds_succ]
    go_wp2_with (go_at_call 45; refine (HX.out _).mono ?_; rintro e w' ⟨rfl, rfl⟩)
    rw [rounds_succ]
    go_wp2
    go_ret; exact ⟨true, rfl, by simp [HP.out], rfl⟩
  · rcases h with h | h <;>
    (rw [h] at HX
     have HP := Lib.hid hp
     clear h hp
     go_enter Try.func36, Try.ntmps36
     go_wp2
     refine wp_loop_rounds 2 ?_
     rw [rounds_succ]
     go_wp2_with (go_at_call 45; refine (HX.out _).mono ?_; rintro e w' ⟨rfl, rfl⟩)
     go_ret; exact ⟨false, rfl, by simp [HP.out], rfl⟩)
set_option maxHeartbeats 1000000 in
theorem plain2_any (g x y : Nat) (w : World) (hx : x < 18446744073709551616) (hy : y < 18446744073709551616) (hc : w.cell? ⟨g, 0, none⟩ = some (.float .f64 x)) (hd : w.cell? ⟨g, 1, none⟩ = some (.float .f64 y)) :
    Calls Try.prog 36 #[.slice (some ⟨g, 0, none⟩) 2 2] w fun e w' => ∃ b, e = .returned (.bool b) ∧ (b = true ↔ Pl x ∧ Pl y) ∧ w' = w := by
  have HX := Lib.hid (fun W => kindOf_any x W hx)
  have HY := Lib.hid (fun W => kindOf_any y W hy)
  clear hx hy
  rcases kd_cases x with ⟨h, hp⟩ | ⟨h, hp⟩
  · rw [h] at HX
    have HP := Lib.hid hp
    clear h hp
    rcases kd_cases y with ⟨h, hp⟩ | ⟨h, hp⟩
    · rw [h] at HY
      have HQ := Lib.hid hp
      clear h hp
      go_enter Try.func36, Try.ntmps36
      go_wp2
      refine wp_loop_rounds 3 ?_
      rw [rounds_succ]
      go_wp2_with (go_at_call 45; refine (HX.out _).mono ?_; rintro e w' ⟨rfl, rfl⟩)
      rw [rounds_succ]
      go_wp2_with (go_at_call 45; refine (HY.out _).mono ?_; rintro e w' ⟨rfl, rfl⟩)
      rw [rounds_succ]
      go_wp2
      go_ret; exact ⟨true, rfl, by simp [HP.out, HQ.out], rfl⟩
    · rcases h with h | h <;>
      (rw [h] at HY
       have HQ := Lib.hid hp
       clear h hp
       go_enter Try.func36, Try.ntmps36
       go_wp2
       refine wp_loop_rounds 3 ?_
       rw [rounds_succ]
       go_wp2_with (go_at_call 45; refine (HX.out _).mono ?_; rintro e w' ⟨rfl, rfl⟩)
       rw [rounds_succ]
       go_wp2_with (go_at_call 45; refine (HY.out _).mono ?_; rintro e w' ⟨rfl, rfl⟩)
       go_ret; exact ⟨false, rfl, by simp [HP.out, HQ.out], rfl⟩)
  · rcases h with h | h <;>
    (rw [h] at HX
     have HP := Lib.hid hp
     clear h hp
     go_enter Try.func36, Try.ntmps36
     go_wp2
     refine wp_loop_rounds 3 ?_
     rw [rounds_succ]
     go_wp2_with (go_at_call 45; refine (HX.out _).mono ?_; rintro e w' ⟨rfl, rfl⟩)
     go_ret; exact ⟨false, rfl, by simp [HP.out], rfl⟩)
/-- Is the answer exact? -/
def exactly (own lost : Nat) : Bool := decide (0 < mg own ∧ mg own < 9218868437227405312) && (double.order lost 0 == some .eq)
/-- The rung behind which the exact result lies: that of the own answer, or the one before it. -/
def near (own lost : Nat) : Nat := if mg own = 0 then 0 else if mg own < 9218868437227405312 ∧ (double.order lost 0 == some .gt) = (double.order own 0 == some .gt) then mg own else mg own - 1
/-- The own answer twice, or the two floats at that rung. -/
def lo (own lost : Nat) : Nat := if exactly own lost then own else double.word (ng own) (near own lost + (ng own).toNat)
def hi (own lost : Nat) : Nat := if exactly own lost then own else double.word (ng own) (near own lost + (!ng own).toNat)
theorem lohi_exact {own lost : Nat} (h : 0 < mg own) (h1 : mg own < 9218868437227405312) (h2 : (double.order lost 0 == some .eq) = true) : lo own lost = own ∧ hi own lost = own := by
  have : exactly own lost = true := by unfold exactly; rw [h2, Bool.and_true]; exact decide_eq_true ⟨h, h1⟩
  unfold lo hi; rw [this]; exact ⟨rfl, rfl⟩
theorem lohi_out {own lost : Nat} (ho : own < 18446744073709551616) (hx : exactly own lost = false) (hn : near own lost = mg own) : (ng own = false → lo own lost = own ∧ hi own lost = own + 1) ∧ (ng own = true → lo own lost = own + 1 ∧ hi own lost = own) := by
  have hw := word_of own ho
  unfold lo hi
  rw [hx, hn]
  unfold Format.word at *
  rw [d_sw] at *
  cases h : ng own <;> rw [h] at hw <;> simp at hw ⊢ <;> omega
theorem lohi_in {own lost : Nat} (ho : own < 18446744073709551616) (hx : exactly own lost = false) (hn : near own lost + 1 = mg own) : (ng own = false → lo own lost = own - 1 ∧ hi own lost = own) ∧ (ng own = true → lo own lost = own ∧ hi own lost = own - 1) := by
  have hw := word_of own ho
  unfold lo hi
  rw [hx]
  unfold Format.word at *
  rw [d_sw] at *
  cases h : ng own <;> rw [h] at hw <;> simp at hw ⊢ <;> omega
set_option maxHeartbeats 4000000 in
theorem about_any (own lost : Nat) (w : World) (ho : own < 18446744073709551616) (hn : mg own ≤ 9218868437227405312) :
    Calls Try.prog 37 #[.float .f64 own, .float .f64 lost] w fun e w' => e = .returned (.tuple #[.float .f64 (lo own lost), .float .f64 (hi own lost)]) ∧ w' = w := by
  have HK := Lib.hid (fun W => kindOf_any own W ho)
  have HS := Lib.hid (fun W => signbit_any own W ho)
  have hfb := run_bits
  have hff := run_from
  have hlt : mg own ≤ own := Nat.mod_le _ _
  have hoi0 : (0 : Int) ≤ own := by omega
  have hoi : (own : Int) ≤ 18442240474082181120 := by unfold mg at hn; omega
  rcases Nat.eq_zero_or_pos (mg own) with h0 | h0
  · have hx : exactly own lost = false := by unfold exactly; rw [decide_eq_false (by omega)]; rfl
    have hr : near own lost = mg own := by unfold near; rw [if_pos h0, h0]
    have HV := Lib.hid (lohi_out ho hx hr)
    have hk : kd own = 0 := by unfold kd; rw [if_pos h0]
    rw [hk] at HK
    clear hx hr hk h0 hn ho hlt
    cases hs : ng own
    · rw [hs] at HS HV
      go_enter Try.func37, Try.ntmps37
      go_wp2_with (first | (go_at_call 45; refine (HK.out _).mono ?_; rintro e w' ⟨rfl, rfl⟩) | (go_at_call 43; refine (HS.out _).mono ?_; rintro e w' ⟨rfl, rfl⟩))
      go_ret2
      have h := (HV.out).1 (by trivial)
      rw [h.1, h.2]; exact ⟨rfl, rfl⟩
    · rw [hs] at HS HV
      go_enter Try.func37, Try.ntmps37
      go_wp2_with (first | (go_at_call 45; refine (HK.out _).mono ?_; rintro e w' ⟨rfl, rfl⟩) | (go_at_call 43; refine (HS.out _).mono ?_; rintro e w' ⟨rfl, rfl⟩))
      go_ret2
      have h := (HV.out).2 (by trivial)
      rw [h.1, h.2]; exact ⟨rfl, rfl⟩
  · have hpos : 0 < own := by omega
    have hpi : (1 : Int) ≤ own := by omega
    rcases Nat.lt_or_ge (mg own) 9218868437227405312 with h1 | h1
    · have hk : kd own = 1 := by unfold kd; rw [if_neg (by omega), if_pos h1]
      rw [hk] at HK
      cases he : (double.order lost 0 == some .eq)
      · have hx : exactly own lost = false := by unfold exactly; rw [he, Bool.and_false]
        have he' : (FloatKind.f64.format.order lost 0 == some .eq) = false := he
        obtain ⟨p, hp⟩ : ∃ p, (double.order lost 0 == some .gt) = p := ⟨_, rfl⟩
        obtain ⟨q, hq⟩ : ∃ q, (double.order own 0 == some .gt) = q := ⟨_, rfl⟩
        have hp' : (FloatKind.f64.format.order lost 0 == some .gt) = p := hp
        have hq' : (FloatKind.f64.format.order own 0 == some .gt) = q := hq
        by_cases hpq : p = q
        · have hr : near own lost = mg own := by unfold near; rw [if_neg (by omega), if_pos ⟨h1, by rw [hp, hq, hpq]⟩]
          have HV := Lib.hid (lohi_out ho hx hr)
          have hd : (p == q) = true := by simp [hpq]
          clear hx hr hk h0 hn ho hlt hpos h1 hp hq he hpq
          cases hs : ng own
          · rw [hs] at HS HV
            go_enter Try.func37, Try.ntmps37
            go_wp2_with (first | (go_at_call 45; refine (HK.out _).mono ?_; rintro e w' ⟨rfl, rfl⟩) | (go_at_call 43; refine (HS.out _).mono ?_; rintro e w' ⟨rfl, rfl⟩))
            go_ret2
            have h := (HV.out).1 (by trivial)
            rw [h.1, h.2]; exact ⟨rfl, rfl⟩
          · rw [hs] at HS HV
            go_enter Try.func37, Try.ntmps37
            go_wp2_with (first | (go_at_call 45; refine (HK.out _).mono ?_; rintro e w' ⟨rfl, rfl⟩) | (go_at_call 43; refine (HS.out _).mono ?_; rintro e w' ⟨rfl, rfl⟩))
            go_ret2
            have h := (HV.out).2 (by trivial)
            rw [h.1, h.2]; exact ⟨rfl, rfl⟩
        · have hr : near own lost + 1 = mg own := by unfold near; rw [if_neg (by omega), if_neg (fun h => hpq (by rw [← hp, ← hq]; exact h.2))]; omega
          have HV := Lib.hid (lohi_in ho hx hr)
          have hd : (p == q) = false := by simp [hpq]
          clear hx hr hk h0 hn ho hlt h1 hp hq he hpq
          cases hs : ng own
          · rw [hs] at HS HV
            go_enter Try.func37, Try.ntmps37
            go_wp2_with (first | (go_at_call 45; refine (HK.out _).mono ?_; rintro e w' ⟨rfl, rfl⟩) | (go_at_call 43; refine (HS.out _).mono ?_; rintro e w' ⟨rfl, rfl⟩))
            go_ret2
            have h := (HV.out).1 (by trivial)
            rw [h.1, h.2]; exact ⟨rfl, rfl⟩
          · rw [hs] at HS HV
            go_enter Try.func37, Try.ntmps37
            go_wp2_with (first | (go_at_call 45; refine (HK.out _).mono ?_; rintro e w' ⟨rfl, rfl⟩) | (go_at_call 43; refine (HS.out _).mono ?_; rintro e w' ⟨rfl, rfl⟩))
            go_ret2
            have h := (HV.out).2 (by trivial)
            rw [h.1, h.2]; exact ⟨rfl, rfl⟩
      · have hv := lohi_exact h0 h1 he
        have he' : (FloatKind.f64.format.order lost 0 == some .eq) = true := he
        clear hk h0 hn ho hlt h1 he HS
        rw [hv.1, hv.2]
        clear hv
        go_enter Try.func37, Try.ntmps37
        go_wp2_with (go_at_call 45; refine (HK.out _).mono ?_; rintro e w' ⟨rfl, rfl⟩)
        go_ret2
        exact ⟨rfl, rfl⟩
    · have hx : exactly own lost = false := by unfold exactly; rw [decide_eq_false (by omega)]; rfl
      have hr : near own lost + 1 = mg own := by unfold near; rw [if_neg (by omega), if_neg (by omega)]; omega
      have HV := Lib.hid (lohi_in ho hx hr)
      have hk : kd own = 2 := by unfold kd; rw [if_neg (by omega), if_neg (by omega)]
      rw [hk] at HK
      clear hx hr hk h0 hn ho hlt h1
      cases hs : ng own
      · rw [hs] at HS HV
        go_enter Try.func37, Try.ntmps37
        go_wp2_with (first | (go_at_call 45; refine (HK.out _).mono ?_; rintro e w' ⟨rfl, rfl⟩) | (go_at_call 43; refine (HS.out _).mono ?_; rintro e w' ⟨rfl, rfl⟩))
        go_ret2
        have h := (HV.out).1 (by trivial)
        rw [h.1, h.2]; exact ⟨rfl, rfl⟩
      · rw [hs] at HS HV
        go_enter Try.func37, Try.ntmps37
        go_wp2_with (first | (go_at_call 45; refine (HK.out _).mono ?_; rintro e w' ⟨rfl, rfl⟩) | (go_at_call 43; refine (HS.out _).mono ?_; rintro e w' ⟨rfl, rfl⟩))
        go_ret2
        have h := (HV.out).2 (by trivial)
        rw [h.1, h.2]; exact ⟨rfl, rfl⟩
end Go.Proofs.Ytghcoijinihlnaa.Fl
