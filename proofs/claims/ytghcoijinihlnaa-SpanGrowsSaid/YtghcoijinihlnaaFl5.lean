/-
  What round's Add, Sub, Mul, Quo and Sqrt return. Condition: that the operands are floats of 64 bits.
-/
import Derived.Test.YtghcoijinihlnaaFl4
namespace Go.Proofs.Ytghcoijinihlnaa.Fl
open Go.RowKit Ieee
theorem cells2 (w : World) (x y : Value) (t : TypeId) : (w.alloc (.cells #[x, y] t)).cell? ⟨w.heap.size, 0, none⟩ = some x ∧ (w.alloc (.cells #[x, y] t)).cell? ⟨w.heap.size, 1, none⟩ = some y := ⟨by go_cell, by go_cell⟩
theorem cells1 (w : World) (x : Value) (t : TypeId) : (w.alloc (.cells #[x] t)).cell? ⟨w.heap.size, 0, none⟩ = some x := by go_cell
theorem below_self (B : Nat) (w : World) : Below B w w := ⟨rfl, rfl, rfl, Nat.le_refl _, fun _ _ => rfl⟩
theorem below_dn {B : Nat} {a w : World} (h : Below B a w) (n : Nat) : Below B a (w.drewN n) := ⟨h.os, h.tape, h.output, h.size, h.block⟩
/-- What Add's formula says. -/
def AddIs (a b s d u : Nat) : Prop := ((¬ (Pl a ∧ Pl b) ∨ mg s = 0) ∧ d = s ∧ u = s) ∨ (Pl a ∧ Pl b ∧ mg s ≠ 0 ∧ ∃ l, TwoIs a b s l ∧ d = lo s l ∧ u = hi s l)
/-- What an operation of two answers, by what it has lost. -/
def OpIs (a b s : Nat) (L : Nat → Prop) (d u : Nat) : Prop := (¬ (Pl a ∧ Pl b) ∧ d = s ∧ u = s) ∨ (Pl a ∧ Pl b ∧ ∃ l, L l ∧ d = lo s l ∧ u = hi s l)
set_option maxHeartbeats 1000000 in
theorem add_any (a b : Nat) (w : World) (ha : a < 18446744073709551616) (hb : b < 18446744073709551616) :
    Calls Try.prog 32 #[.float .f64 a, .float .f64 b] w fun e w' => ∃ d u, e = .returned (.tuple #[.float .f64 d, .float .f64 u]) ∧ Below w.heap.size w w' ∧ AddIs a b (fop .add a b w) d u := by
  have HT := Lib.hid (two_any a b w ha hb)
  have HP := Lib.hid (fun (g : Nat) W h0 h1 => plain2_any g a b W ha hb h0 h1)
  obtain ⟨s, hs⟩ : ∃ s, fop .add a b w = s := ⟨_, rfl⟩
  rw [hs] at HT ⊢
  have hz := eq_zero s
  obtain ⟨z, hzz⟩ : ∃ z, decide (mg s = 0) = z := ⟨_, rfl⟩
  rw [hzz] at hz
  have HA := Lib.hid (fun l (hm : mg s ≤ 9218868437227405312) W => about_any s l W (by rw [← hs]; exact fop_lt .add a b w) hm)
  have HM : Hid (Pl a ∧ Pl b → mg s ≤ 9218868437227405312) := Lib.hid (fun ⟨h1, h2⟩ => by
    obtain ⟨r, hr⟩ := add_fin h1.2 h2.2
    rw [← hs, (add_fop hr w).1]; exact (add_told hr).1)
  have HZ : Hid (z = true ↔ mg s = 0) := Lib.hid (by rw [← hzz]; simp)
  clear ha hb hs hzz
  go_enter Try.func32, Try.ntmps32
  go_wp2_with fail
  refine (HT.out).mono ?_
  rintro e w1 ⟨l, rfl, hw1, hT⟩
  have HTW := Lib.hid hT
  have hb1 : Below w.heap.size w w1 := by rw [hw1]; exact below_dn (below_self _ _) _
  have HSZ : Hid (w1.heap.size = w.heap.size) := Lib.hid (by rw [hw1]; rfl)
  clear hw1 hT
  go_wp2_with fail
  refine (HP.out _ _ (cells2 _ _ _ _).1 (cells2 _ _ _ _).2).mono ?_
  rintro e w2 ⟨p, rfl, hp, rfl⟩
  have HPP := Lib.hid hp
  clear hp
  have hb2 : Below w.heap.size w (w1.alloc (.cells #[.float .f64 a, .float .f64 b] 22)) := hb1.alloc (by have := HSZ.out; omega) _
  cases p
  · go_wp2
    go_ret2
    refine ⟨_, _, rfl, hb2, .inl ⟨.inl ?_, rfl, rfl⟩⟩
    have := HPP.out; simpa using this
  · have hpl : Pl a ∧ Pl b := (HPP.out).1 rfl
    cases z
    · go_wp2_with fail
      refine (HA.out l (HM.out hpl) _).mono ?_
      rintro e w3 ⟨rfl, rfl⟩
      go_wp2
      go_ret2
      exact ⟨_, _, rfl, hb2, .inr ⟨hpl.1, hpl.2, fun h => (by have := (HZ.out).2 h; cases this), l, HTW.out, rfl, rfl⟩⟩
    · go_wp2
      go_ret2
      exact ⟨_, _, rfl, hb2, .inl ⟨.inr ((HZ.out).1 (by trivial)), rfl, rfl⟩⟩
theorem sub_any (a b : Nat) (w : World) (ha : a < 18446744073709551616) (hb : b < 18446744073709551616) :
    Calls Try.prog 34 #[.float .f64 a, .float .f64 b] w fun e w' => ∃ d u, e = .returned (.tuple #[.float .f64 d, .float .f64 u]) ∧ Below w.heap.size w w' ∧ AddIs a (ngf b) (fop .add a (ngf b) w) d u := by
  have HT := Lib.hid (add_any a (ngf b) w ha (ngf_lt hb))
  have hn := run_ngf
  clear ha hb
  go_enter Try.func34, Try.ntmps34
  go_wp2_with fail
  refine (HT.out).mono ?_
  rintro e w1 ⟨d, u, rfl, hw1, hT⟩
  have HTW := Lib.hid hT
  clear hT
  go_wp2
  go_ret2
  exact ⟨_, _, rfl, hw1, HTW.out⟩
/-- What Mul and Quo have lost. -/
def MulLost (a b s l : Nat) : Prop := ∃ k, l = ngf k ∧ ∀ r, LeftIs a b s r → k = r
def QuoLost (a b s l : Nat) : Prop := ∃ k, l = (if ng b then ngf k else k) ∧ ∀ r, LeftIs s b a r → k = r
def SqrtLost (a s l : Nat) : Prop := ∀ r, LeftIs s s a r → l = r
set_option maxHeartbeats 1000000 in
theorem mul_any (a b : Nat) (w : World) (ha : a < 18446744073709551616) (hb : b < 18446744073709551616) :
    Calls Try.prog 21 #[.float .f64 a, .float .f64 b] w fun e w' => ∃ d u, e = .returned (.tuple #[.float .f64 d, .float .f64 u]) ∧ Below w.heap.size w w' ∧ OpIs a b (fop .mul a b w) (MulLost a b (fop .mul a b w)) d u := by
  have hm := fun t => run_mul (P := Try.prog) t a b w
  have hn := run_ngf
  have HP := Lib.hid (fun (g : Nat) W h0 h1 => plain2_any g a b W ha hb h0 h1)
  have HL := Lib.hid (fun W => left_any a b (fop .mul a b w) W (fop_lt .mul a b w))
  obtain ⟨s, hs⟩ : ∃ s, fop .mul a b w = s := ⟨_, rfl⟩
  obtain ⟨n, hnn⟩ : ∃ n, nd .mul a b = n := ⟨_, rfl⟩
  have HA := Lib.hid (fun l (hm : mg s ≤ 9218868437227405312) W => about_any s l W (by rw [← hs]; exact fop_lt .mul a b w) hm)
  have HM : Hid (Pl a ∧ Pl b → mg s ≤ 9218868437227405312) := Lib.hid (fun ⟨h1, h2⟩ => by
    obtain ⟨r, hr⟩ := mul_fin h1.2 h2.2
    rw [← hs, (fop_some (op := .mul) hr w).1]; exact (mul_told hr).1)
  rw [hs] at HL ⊢
  rw [hs, hnn] at hm
  clear ha hb hs hnn
  go_enter Try.func21, Try.ntmps21
  go_wp2_with fail
  refine (HP.out _ _ (cells2 _ _ _ _).1 (cells2 _ _ _ _).2).mono ?_
  rintro e w2 ⟨p, rfl, hp, rfl⟩
  have HPP := Lib.hid hp
  clear hp
  have hb2 : Below w.heap.size w ((w.drewN n).alloc (.cells #[.float .f64 a, .float .f64 b] 22)) := (below_dn (below_self _ _) _).alloc (Nat.le_refl _) _
  cases p
  · go_wp2
    go_ret2
    refine ⟨_, _, rfl, hb2, .inl ⟨?_, rfl, rfl⟩⟩
    have := HPP.out; simpa using this
  · have hpl : Pl a ∧ Pl b := (HPP.out).1 rfl
    go_wp2_with fail
    refine (HL.out _).mono ?_
    rintro e w3 ⟨k, m, rfl, rfl, hk⟩
    have HKK := Lib.hid hk
    clear hk
    go_wp2_with fail
    refine (HA.out (ngf k) (HM.out hpl) _).mono ?_
    rintro e w3 ⟨rfl, rfl⟩
    go_wp2
    go_ret2
    exact ⟨_, _, rfl, below_dn hb2 _, .inr ⟨hpl.1, hpl.2, _, ⟨k, rfl, fun r hr => (HKK.out r hr).1⟩, rfl, rfl⟩⟩
theorem lt_zero (x : Nat) (h0 : 0 < mg x) (h : mg x ≤ 9218868437227405312) : (FloatKind.f64.format.order x 0 == some .lt) = ng x := by
  rw [ord_lt]
  have : mg 0 = 0 := by decide
  have hk : key 0 = 0 := by decide
  rw [this, hk]
  unfold key
  cases ng x <;> simp <;> omega
set_option maxHeartbeats 1000000 in
theorem quo_any (a b : Nat) (w : World) (ha : a < 18446744073709551616) (hb : b < 18446744073709551616) :
    Calls Try.prog 33 #[.float .f64 a, .float .f64 b] w fun e w' => ∃ d u, e = .returned (.tuple #[.float .f64 d, .float .f64 u]) ∧ Below w.heap.size w w' ∧ OpIs a b (fop .quo a b w) (QuoLost a b (fop .quo a b w)) d u := by
  have hm := fun t => run_quo (P := Try.prog) t a b w
  have hn := run_ngf
  have HP := Lib.hid (fun (g : Nat) W h0 h1 => plain2_any g a b W ha hb h0 h1)
  have HL := Lib.hid (fun W => left_any (fop .quo a b w) b a W ha)
  obtain ⟨s, hs⟩ : ∃ s, fop .quo a b w = s := ⟨_, rfl⟩
  obtain ⟨n, hnn⟩ : ∃ n, nd .quo a b = n := ⟨_, rfl⟩
  have HA := Lib.hid (fun l (hm : mg s ≤ 9218868437227405312) W => about_any s l W (by rw [← hs]; exact fop_lt .quo a b w) hm)
  have HM : Hid (Pl a ∧ Pl b → mg s ≤ 9218868437227405312) := Lib.hid (fun ⟨h1, h2⟩ => by
    obtain ⟨r, hr⟩ := div_fin h1.2 h2.2 h2.1
    rw [← hs, (fop_some (op := .quo) hr w).1]; exact (div_told hr).1)
  have HB : Hid (Pl b → (FloatKind.f64.format.order b 0 == some .lt) = ng b) := Lib.hid (fun h => lt_zero b h.1 (Nat.le_of_lt h.2))
  rw [hs] at HL ⊢
  rw [hs, hnn] at hm
  clear ha hb hs hnn
  go_enter Try.func33, Try.ntmps33
  go_wp2_with fail
  refine (HP.out _ _ (cells2 _ _ _ _).1 (cells2 _ _ _ _).2).mono ?_
  rintro e w2 ⟨p, rfl, hp, rfl⟩
  have HPP := Lib.hid hp
  clear hp
  have hb2 : Below w.heap.size w ((w.drewN n).alloc (.cells #[.float .f64 a, .float .f64 b] 22)) := (below_dn (below_self _ _) _).alloc (Nat.le_refl _) _
  cases p
  · go_wp2
    go_ret2
    refine ⟨_, _, rfl, hb2, .inl ⟨?_, rfl, rfl⟩⟩
    have := HPP.out; simpa using this
  · have hpl : Pl a ∧ Pl b := (HPP.out).1 rfl
    have hbb := HB.out hpl.2
    obtain ⟨q, hq⟩ : ∃ q, ng b = q := ⟨_, rfl⟩
    rw [hq] at hbb
    have HQ := Lib.hid hq
    clear hq
    cases q
    · go_wp2_with fail
      refine (HL.out _).mono ?_
      rintro e w3 ⟨k, m, rfl, rfl, hk⟩
      have HKK := Lib.hid hk
      clear hk
      go_wp2_with fail
      refine (HA.out k (HM.out hpl) _).mono ?_
      rintro e w3 ⟨rfl, rfl⟩
      go_wp2
      go_ret2
      exact ⟨_, _, rfl, below_dn hb2 _, .inr ⟨hpl.1, hpl.2, _, ⟨k, by rw [HQ.out]; rfl, fun r hr => (HKK.out r hr).1⟩, rfl, rfl⟩⟩
    · go_wp2_with fail
      refine (HL.out _).mono ?_
      rintro e w3 ⟨k, m, rfl, rfl, hk⟩
      have HKK := Lib.hid hk
      clear hk
      go_wp2_with fail
      refine (HA.out (ngf k) (HM.out hpl) _).mono ?_
      rintro e w3 ⟨rfl, rfl⟩
      go_wp2
      go_ret2
      exact ⟨_, _, rfl, below_dn hb2 _, .inr ⟨hpl.1, hpl.2, _, ⟨k, by rw [HQ.out]; rfl, fun r hr => (HKK.out r hr).1⟩, rfl, rfl⟩⟩
/-- What Sqrt's formula says. -/
def SqrtIs (a s d u : Nat) : Prop := (¬ (Pl a ∧ ng a = false) ∧ d = s ∧ u = s) ∨ (Pl a ∧ ng a = false ∧ ∃ l, SqrtLost a s l ∧ d = lo s l ∧ u = hi s l)
theorem sqw_lt (x : Nat) (w : World) : sqw x w < 18446744073709551616 := by
  unfold sqw
  cases h : double.sqrt x with
  | none => exact (nanw_is w x x).2
  | some r => exact (sqrt_told h).2
set_option maxHeartbeats 1000000 in
theorem sqrtd_any (a : Nat) (w : World) (ha : a < 18446744073709551616) :
    Calls Try.prog 23 #[.float .f64 a] w fun e w' => ∃ d u, e = .returned (.tuple #[.float .f64 d, .float .f64 u]) ∧ Below w.heap.size w w' ∧ SqrtIs a (sqw a w) d u := by
  have HR := Lib.hid (sqrt_any a w)
  have HP := Lib.hid (fun (g : Nat) W h0 => plain1_any g a W ha h0)
  have HL := Lib.hid (fun W => left_any (sqw a w) (sqw a w) a W ha)
  obtain ⟨s, hs⟩ : ∃ s, sqw a w = s := ⟨_, rfl⟩
  obtain ⟨n, hnn⟩ : ∃ n, sqn a = n := ⟨_, rfl⟩
  have HA := Lib.hid (fun l (hm : mg s ≤ 9218868437227405312) W => about_any s l W (by rw [← hs]; exact sqw_lt a w) hm)
  have HM : Hid (Pl a → ng a = false → mg s ≤ 9218868437227405312) := Lib.hid (fun h1 h2 => by
    obtain ⟨r, hr⟩ := sqrt_fin h1.2 (.inl h2)
    rw [← hs]; unfold sqw; rw [hr]; exact (sqrt_told hr).1)
  have HB : Hid (Pl a → (FloatKind.f64.format.order a 0 == some .lt) = ng a) := Lib.hid (fun h => lt_zero a h.1 (Nat.le_of_lt h.2))
  rw [hs] at HL HR ⊢
  rw [hnn] at HR
  clear ha hs hnn
  go_enter Try.func23, Try.ntmps23
  go_wp2_with fail
  refine (HR.out).mono ?_
  rintro e w1 ⟨rfl, rfl⟩
  go_wp2_with fail
  refine (HP.out _ _ (cells1 _ _ _)).mono ?_
  rintro e w2 ⟨p, rfl, hp, rfl⟩
  have HPP := Lib.hid hp
  clear hp
  have hb2 : Below w.heap.size w ((w.drewN n).alloc (.cells #[.float .f64 a] 22)) := (below_dn (below_self _ _) _).alloc (Nat.le_refl _) _
  cases p
  · go_wp2
    go_ret2
    refine ⟨_, _, rfl, hb2, .inl ⟨?_, rfl, rfl⟩⟩
    have := HPP.out; intro h; simp [h.1] at this
  · have hpl : Pl a := (HPP.out).1 rfl
    have hbb := HB.out hpl
    obtain ⟨q, hq⟩ : ∃ q, ng a = q := ⟨_, rfl⟩
    rw [hq] at hbb
    have HQ := Lib.hid hq
    clear hq
    cases q
    · go_wp2_with fail
      refine (HL.out _).mono ?_
      rintro e w3 ⟨k, m, rfl, rfl, hk⟩
      have HKK := Lib.hid hk
      clear hk
      go_wp2_with fail
      refine (HA.out k (HM.out hpl HQ.out) _).mono ?_
      rintro e w3 ⟨rfl, rfl⟩
      go_wp2
      go_ret2
      exact ⟨_, _, rfl, below_dn hb2 _, .inr ⟨hpl, HQ.out, _, fun r hr => (HKK.out r hr).1, rfl, rfl⟩⟩
    · go_wp2
      go_ret2
      refine ⟨_, _, rfl, hb2, .inl ⟨?_, rfl, rfl⟩⟩
      have := HQ.out; intro h; rw [h.2] at this; cases this
end Go.Proofs.Ytghcoijinihlnaa.Fl
