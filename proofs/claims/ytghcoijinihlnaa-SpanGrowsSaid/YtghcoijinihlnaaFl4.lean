/-
  What round's left, Two, Add, Sub, Mul, Quo and Sqrt return. Condition: that the operands are floats of 64 bits.
-/
import Derived.Test.YtghcoijinihlnaaFl3
namespace Go.Proofs.Ytghcoijinihlnaa.Fl
open Go.RowKit Ieee
/-- math.FMA's answer in a world, and how many draws it takes. -/
def fmaw (x y z : Nat) (w : World) : Nat := (double.fma x y z).getD (if Extern.MathFMA.isNaN x then nanw w x y else if Extern.MathFMA.isNaN y then nanw w y z else nanw w z z)
def fman (x y z : Nat) : Nat := if (double.fma x y z).isSome then 0 else 1
theorem run_fma (x y z : Nat) (w : World) : (callFunc 46 #[.float .f64 x, .float .f64 y, .float .f64 z]).run Try.prog w = .ok (.value (.float .f64 (fmaw x y z w))) (w.drewN (fman x y z)) := by
  unfold fmaw fman
  cases h : double.fma x y z with
  | some r => exact run_fma_some h w
  | none =>
    rw [run_callFunc_extern Try.func46 (by kernel_rfl) (by kernel_rfl) (by kernel_rfl) (e := Extern.MathFMA.fma) (by kernel_rfl)]
    have e : Extern.MathFMA.fma #[.float .f64 x, .float .f64 y, .float .f64 z] = (do
      let (a, b) := if Extern.MathFMA.isNaN x then (x, y) else if Extern.MathFMA.isNaN y then (y, z) else (z, z)
      pure (.float .f64 (← choose (.nanBits .f64 a b)))) := by
      have h' : FloatKind.f64.format.fma x y z = none := h
      show (match FloatKind.f64.format.fma x y z with | some r => pure (Value.float .f64 r) | none => (do
        let (a, b) := if Extern.MathFMA.isNaN x then (x, y) else if Extern.MathFMA.isNaN y then (y, z) else (z, z)
        pure (Value.float .f64 (← choose (.nanBits .f64 a b))))) = _
      rw [h']
    rw [e]
    by_cases h1 : Extern.MathFMA.isNaN x
    · simp [h1, Question.forced, nanw]; rfl
    · by_cases h2 : Extern.MathFMA.isNaN y
      · simp [h1, h2, Question.forced, nanw]; rfl
      · simp [h1, h2, Question.forced, nanw]; rfl
theorem fmaw_some {x y z r : Nat} (h : double.fma x y z = some r) (w : World) : fmaw x y z w = r ∧ fman x y z = 0 := by simp [fmaw, fman, h]
def sqw (x : Nat) (w : World) : Nat := (double.sqrt x).getD (nanw w x x)
def sqn (x : Nat) : Nat := if (double.sqrt x).isSome then 0 else 1
theorem run_sqrt (x : Nat) (w : World) : (callFunc 47 #[.float .f64 x]).run Try.prog w = .ok (.value (.float .f64 (sqw x w))) (w.drewN (sqn x)) := by
  unfold sqw sqn
  cases h : double.sqrt x with
  | some r => exact run_sqrt_some h w
  | none => exact run_sqrt_none h w
theorem sqrt_any (x : Nat) (w : World) : Calls Try.prog 39 #[.float .f64 x] w fun e w' => e = .returned (.float .f64 (sqw x w)) ∧ w' = w.drewN (sqn x) := by
  have hs := run_sqrt
  go_enter Try.func39, Try.ntmps39
  go_wp2
  go_ret; exact ⟨rfl, rfl⟩
/-- Is the number so small that left lifts it? -/
def lsmall (z : Nat) : Bool := FloatKind.f64.format.order (mg z) 553942754166571008 == some .lt
/-- What left's formula says. -/
def LeftIs (x y z r : Nat) : Prop := ∃ x1 z1, (if lsmall z then double.mul x 5507902344274116608 = some x1 ∧ double.mul z 5507902344274116608 = some z1 else x1 = x ∧ z1 = z) ∧ double.fma (ngf x1) y z1 = some r
set_option maxHeartbeats 400000 in
theorem left_any (x y z : Nat) (w : World) (hz : z < 18446744073709551616) :
    Calls Try.prog 38 #[.float .f64 x, .float .f64 y, .float .f64 z] w fun e w' => ∃ l n, e = .returned (.float .f64 l) ∧ w' = w.drewN n ∧ ∀ r, LeftIs x y z r → l = r ∧ n = 0 := by
  have HA := Lib.hid (fun W => abs_any z W hz)
  have hf := run_fma
  have hm := fun t x y w => run_mul (P := Try.prog) t x y w
  have hn := run_ngf
  clear hz
  cases hs : lsmall z
  · have HL : Hid (∀ r, LeftIs x y z r → double.fma (ngf x) y z = some r) := Lib.hid (fun r ⟨x1, z1, h, h2⟩ => by
      rw [hs] at h; obtain ⟨rfl, rfl⟩ := h; exact h2)
    unfold lsmall at hs
    go_enter Try.func38, Try.ntmps38
    go_wp2_with (go_at_call 11; refine (HA.out _).mono ?_; rintro e w' ⟨rfl, rfl⟩)
    go_ret
    exact ⟨_, _, rfl, rfl, fun r hr => fmaw_some (HL.out r hr) _⟩
  · have HL : Hid (∀ r, LeftIs x y z r → ∃ x1 z1, double.mul x 5507902344274116608 = some x1 ∧ double.mul z 5507902344274116608 = some z1 ∧ double.fma (ngf x1) y z1 = some r) := Lib.hid (fun r ⟨x1, z1, h, h2⟩ => by
      rw [hs] at h; exact ⟨x1, z1, h.1, h.2, h2⟩)
    unfold lsmall at hs
    go_enter Try.func38, Try.ntmps38
    go_wp2_with (go_at_call 11; refine (HA.out _).mono ?_; rintro e w' ⟨rfl, rfl⟩)
    go_ret
    refine ⟨_, _, rfl, rfl, fun r hr => ?_⟩
    obtain ⟨x1, z1, h1, h2, h3⟩ := HL.out r hr
    have e1 := fop_some (op := .mul) h1
    have e2 := fop_some (op := .mul) h2
    rw [(e1 _).1, (e1 w').2, (e2 _).1, (e2 w').2, (fmaw_some h3 _).1, (fmaw_some h3 w').2]
    exact ⟨rfl, rfl⟩
/-- The sum and what it has lost: what Two's formula says. -/
def TwoIs (a b s l : Nat) : Prop := (9218868437227405312 ≤ mg s ∧ l = 0) ∨ (mg s < 9218868437227405312 ∧ ∃ z y, (if FloatKind.f64.format.order (mg a) (mg b) == some .lt then double.sub s b = some z ∧ double.sub a z = some y else double.sub s a = some z ∧ double.sub b z = some y) ∧ double.add y 0 = some l)
theorem sum_fin {x y r : Nat} (h : double.add x y = some r) (hr : mg r < 9218868437227405312) : mg x < 9218868437227405312 ∧ mg y < 9218868437227405312 := by
  have inf_w : ∀ s, mg (double.write (.infinity s)) = 9218868437227405312 := fun s => by
    show mg (double.word s double.infRung) = _; rw [d_inf]; exact (word_mg s _ (by omega)).1
  rcases Nat.lt_or_ge (mg x) 9218868437227405312 with g | g
  · refine ⟨g, ?_⟩
    rcases Nat.lt_or_ge (mg y) 9218868437227405312 with k | k
    · exact k
    · exfalso
      obtain ⟨M, P, e1, _, _⟩ := read_fin x g
      unfold Format.add at h
      rcases Nat.lt_or_eq_of_le k with k | k
      · rw [e1, read_nan y k] at h; cases h
      · rw [e1, read_inf y k.symm] at h; cases h; rw [inf_w] at hr; omega
  · exfalso
    unfold Format.add at h
    rcases Nat.lt_or_eq_of_le g with g | g
    · rw [read_nan x g] at h; cases h
    · rw [read_inf x g.symm] at h
      rcases Nat.lt_or_ge (mg y) 9218868437227405312 with k | k
      · obtain ⟨M, P, e1, _, _⟩ := read_fin y k
        rw [e1] at h; cases h; rw [inf_w] at hr; omega
      · rcases Nat.lt_or_eq_of_le k with k | k
        · rw [read_nan y k] at h; cases h
        · rw [read_inf y k.symm] at h
          simp only [Datum.sum] at h
          split at h
          · cases h; rw [inf_w] at hr; omega
          · cases h
theorem add_zero_some {y : Nat} (h : mg y ≤ 9218868437227405312) : ∃ l, double.add y 0 = some l := by
  rcases Nat.lt_or_eq_of_le h with g | g
  · exact add_fin g (by decide)
  · unfold Format.add
    obtain ⟨M, P, e1, _, _⟩ := read_fin 0 (by decide)
    rw [read_inf y g, e1]; exact ⟨_, rfl⟩
theorem sub_fin_any {x y : Nat} (hx : mg x < 9218868437227405312) (hy : mg y ≤ 9218868437227405312) : ∃ l, double.sub x y = some l := by
  rcases Nat.lt_or_eq_of_le hy with g | g
  · exact sub_fin hx g
  · unfold Format.sub
    obtain ⟨M, P, e1, _, _⟩ := read_fin x hx
    rw [read_inf y g, e1]; exact ⟨_, rfl⟩
theorem fop_lt (op : BinOp) (x y : Nat) (w : World) : fop op x y w < 18446744073709551616 := by
  unfold fop
  cases h : floatBits op .f64 x y with
  | none => exact (nanw_is w x y).2
  | some r =>
    have := floatBits_wf h
    simp [Lit.wf] at this
    exact this
theorem fop_mg (op : BinOp) (x y : Nat) (w : World) : mg (fop op x y w) ≤ 9218868437227405312 ∧ (∃ r, floatBits op .f64 x y = some r ∧ fop op x y w = r ∧ nd op x y = 0) ∨ 9218868437227405312 < mg (fop op x y w) ∧ floatBits op .f64 x y = none := by
  cases h : floatBits op .f64 x y with
  | none => right; rw [(fop_none h w).1]; exact ⟨(nanw_is w x y).1, rfl⟩
  | some r =>
    left
    have h2 := fop_some h w
    rw [h2.1]
    refine ⟨?_, r, rfl, rfl, h2.2⟩
    cases op <;> simp only [floatBits] at h <;> first | cases h | exact (add_told h).1 | exact (sub_told h).1 | exact (mul_told h).1 | exact (div_told h).1
theorem add_fop {x y s : Nat} (h : double.add x y = some s) (w : World) : fop .add x y w = s ∧ nd .add x y = 0 := fop_some (op := .add) h w
theorem sub_fop {x y s : Nat} (h : double.sub x y = some s) (w : World) : fop .sub x y w = s ∧ nd .sub x y = 0 := fop_some (op := .sub) h w
set_option maxHeartbeats 2000000 in
theorem two_any (a b : Nat) (w : World) (ha : a < 18446744073709551616) (hb : b < 18446744073709551616) :
    Calls Try.prog 44 #[.float .f64 a, .float .f64 b] w fun e w' => ∃ l, e = .returned (.tuple #[.float .f64 (fop .add a b w), .float .f64 l]) ∧ w' = w.drewN (nd .add a b) ∧ TwoIs a b (fop .add a b w) l := by
  have hadd := fun t x y w => run_add (P := Try.prog) t x y w
  have hsub := fun t x y w => run_sub (P := Try.prog) t x y w
  have HK := Lib.hid (fun W => kindOf_any (fop .add a b w) W (fop_lt .add a b w))
  have HA := Lib.hid (fun W => abs_any a W ha)
  have HB := Lib.hid (fun W => abs_any b W hb)
  obtain ⟨s, hs⟩ : ∃ s, fop .add a b w = s := ⟨_, rfl⟩
  obtain ⟨n, hn⟩ : ∃ n, nd .add a b = n := ⟨_, rfl⟩
  have hm := fop_mg .add a b w
  rw [hs] at HK hm
  have hadd0 : ∀ t, (binOp .add t (.float .f64 a) (.float .f64 b)).run Try.prog w = .ok (.float .f64 s) (w.drewN n) := fun t => by rw [hadd, hs, hn]
  rw [hs, hn]
  rcases Nat.lt_or_ge (mg s) 9218868437227405312 with h1 | h1
  · have hk : kd s ≠ 2 := by unfold kd; split <;> (try split) <;> omega
    rw [hn] at hm
    obtain ⟨r, hr, rfl, rfl⟩ : ∃ r, floatBits .add .f64 a b = some r ∧ s = r ∧ n = 0 := by
      rcases hm with ⟨_, r, h⟩ | ⟨h, _⟩
      · exact ⟨r, h⟩
      · omega
    have hfin := sum_fin (show double.add a b = some s from hr) h1
    cases ho : (FloatKind.f64.format.order (mg a) (mg b) == some .lt)
    · obtain ⟨z, hz⟩ := sub_fin h1 hfin.1
      obtain ⟨y, hy⟩ := sub_fin_any hfin.2 (sub_told hz).1
      obtain ⟨l, hl⟩ := add_zero_some (sub_told hy).1
      have hT : Hid (TwoIs a b s l) := Lib.hid (.inr ⟨h1, z, y, by rw [ho]; exact ⟨hz, hy⟩, hl⟩)
      have e1 : ∀ t W, (binOp .sub t (.float .f64 s) (.float .f64 a)).run Try.prog W = .ok (.float .f64 z) W := fun t W => by rw [hsub, (sub_fop hz W).1, (sub_fop hz W).2]; rfl
      have e2 : ∀ t W, (binOp .sub t (.float .f64 b) (.float .f64 z)).run Try.prog W = .ok (.float .f64 y) W := fun t W => by rw [hsub, (sub_fop hy W).1, (sub_fop hy W).2]; rfl
      have e3 : ∀ t W, (binOp .add t (.float .f64 y) (.float .f64 0)).run Try.prog W = .ok (.float .f64 l) W := fun t W => by rw [hadd, (add_fop hl W).1, (add_fop hl W).2]; rfl
      obtain ⟨k, hkk⟩ : ∃ k, kd s = k := ⟨_, rfl⟩
      rw [hkk] at HK hk
      have hkd : (k == 2) = false := by simpa using hk
      clear hz hy hl hfin hr h1 hm hs hn hadd hsub ha hb hkk
      go_enter Try.func44, Try.ntmps44
      go_wp2_with (first | (go_at_call 45; refine (HK.out _).mono ?_; rintro e w' ⟨rfl, rfl⟩) | (go_at_call 11; with_reducible refine (HA.out _).mono ?_; rintro e w' ⟨rfl, rfl⟩) | (go_at_call 11; with_reducible refine (HB.out _).mono ?_; rintro e w' ⟨rfl, rfl⟩))
      go_ret2
      exact ⟨_, rfl, rfl, hT.out⟩
    · obtain ⟨z, hz⟩ := sub_fin h1 hfin.2
      obtain ⟨y, hy⟩ := sub_fin_any hfin.1 (sub_told hz).1
      obtain ⟨l, hl⟩ := add_zero_some (sub_told hy).1
      have hT : Hid (TwoIs a b s l) := Lib.hid (.inr ⟨h1, z, y, by rw [ho]; exact ⟨hz, hy⟩, hl⟩)
      have e1 : ∀ t W, (binOp .sub t (.float .f64 s) (.float .f64 b)).run Try.prog W = .ok (.float .f64 z) W := fun t W => by rw [hsub, (sub_fop hz W).1, (sub_fop hz W).2]; rfl
      have e2 : ∀ t W, (binOp .sub t (.float .f64 a) (.float .f64 z)).run Try.prog W = .ok (.float .f64 y) W := fun t W => by rw [hsub, (sub_fop hy W).1, (sub_fop hy W).2]; rfl
      have e3 : ∀ t W, (binOp .add t (.float .f64 y) (.float .f64 0)).run Try.prog W = .ok (.float .f64 l) W := fun t W => by rw [hadd, (add_fop hl W).1, (add_fop hl W).2]; rfl
      obtain ⟨k, hkk⟩ : ∃ k, kd s = k := ⟨_, rfl⟩
      rw [hkk] at HK hk
      have hkd : (k == 2) = false := by simpa using hk
      clear hz hy hl hfin hr h1 hm hs hn hadd hsub ha hb hkk
      go_enter Try.func44, Try.ntmps44
      go_wp2_with (first | (go_at_call 45; refine (HK.out _).mono ?_; rintro e w' ⟨rfl, rfl⟩) | (go_at_call 11; with_reducible refine (HA.out _).mono ?_; rintro e w' ⟨rfl, rfl⟩) | (go_at_call 11; with_reducible refine (HB.out _).mono ?_; rintro e w' ⟨rfl, rfl⟩))
      go_ret2
      exact ⟨_, rfl, rfl, hT.out⟩
  · have hk : kd s = 2 := by unfold kd; split <;> (try split) <;> omega
    rw [hk] at HK
    have hT : Hid (TwoIs a b s 0) := Lib.hid (.inl ⟨h1, rfl⟩)
    clear h1 hm hs hn hadd hsub ha hb hk HA HB
    go_enter Try.func44, Try.ntmps44
    go_wp2_with (go_at_call 45; refine (HK.out _).mono ?_; rintro e w' ⟨rfl, rfl⟩)
    go_ret2
    exact ⟨_, rfl, rfl, hT.out⟩
end Go.Proofs.Ytghcoijinihlnaa.Fl
