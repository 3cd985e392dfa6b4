/-
  What round's calls return of floats; floats turned, halves of units, sums that are exact; the statements' alive and SameFloat. Conditions: floats of 64 bits, as each theorem states.
-/
import Derived.Test.YtmcnhgakaodafaaNr1
namespace Go.Proofs.Ytmcnhgakaodafaa.Fl
open Go.RowKit Ieee
theorem cells2 (w : World) (x y : Value) (t : TypeId) : (w.alloc (.cells #[x, y] t)).cell? ⟨w.heap.size, 0, none⟩ = some x ∧ (w.alloc (.cells #[x, y] t)).cell? ⟨w.heap.size, 1, none⟩ = some y := ⟨by go_cell, by go_cell⟩
theorem cells1 (w : World) (x : Value) (t : TypeId) : (w.alloc (.cells #[x] t)).cell? ⟨w.heap.size, 0, none⟩ = some x := by go_cell
theorem below_self (B : Nat) (w : World) : Below B w w := ⟨rfl, rfl, rfl, Nat.le_refl _, fun _ _ => rfl⟩
theorem below_dn {B : Nat} {a w : World} (h : Below B a w) (n : Nat) : Below B a (w.drewN n) := ⟨h.os, h.tape, h.output, h.size, h.block⟩
/-- What Add's formula says. -/
def AddIs (a b s d u : Nat) : Prop := ((¬ (Pl a ∧ Pl b) ∨ mg s = 0) ∧ d = s ∧ u = s) ∨ (Pl a ∧ Pl b ∧ mg s ≠ 0 ∧ ∃ l, TwoIs a b s l ∧ d = lo s l ∧ u = hi s l)
/-- What an operation of two answers, by what it has lost. -/
def OpIs (a b s : Nat) (L : Nat → Prop) (d u : Nat) : Prop := (¬ (Pl a ∧ Pl b) ∧ d = s ∧ u = s) ∨ (Pl a ∧ Pl b ∧ ∃ l, L l ∧ d = lo s l ∧ u = hi s l)
/-- What Mul and Quo have lost. -/
def MulLost (a b s l : Nat) : Prop := ∃ k, l = ngf k ∧ ∀ r, LeftIs a b s r → k = r
def QuoLost (a b s l : Nat) : Prop := ∃ k, l = (if ng b then ngf k else k) ∧ ∀ r, LeftIs s b a r → k = r
def SqrtLost (a s l : Nat) : Prop := ∀ r, LeftIs s s a r → l = r
theorem lt_zero (x : Nat) (h0 : 0 < mg x) (h : mg x ≤ 9218868437227405312) : (FloatKind.f64.format.order x 0 == some .lt) = ng x := by
  rw [ord_lt]
  have : mg 0 = 0 := by decide
  have hk : key 0 = 0 := by decide
  rw [this, hk]
  unfold key
  cases ng x <;> simp <;> omega
set_option maxHeartbeats 1000000 in
theorem quo_any (a b : Nat) (w : World) (ha : a < 18446744073709551616) (hb : b < 18446744073709551616) :
    Calls Try.prog 15 #[.float .f64 a, .float .f64 b] w fun e w' => ∃ d u, e = .returned (.tuple #[.float .f64 d, .float .f64 u]) ∧ Below w.heap.size w w' ∧ OpIs a b (fop .quo a b w) (QuoLost a b (fop .quo a b w)) d u := by
  have hm := fun t => run_quo (P := Try.prog) t a b w
  have hn := run_ngf
  have HP := Lib.hid (fun (g : Nat) W h0 h1 => plain2_any g a b W ha hb h0 h1)
  have HL := Lib.hid (fun W => left_any (fop .quo a b w) b a W ha)
  obtain ⟨s, hs⟩ : ∃ s, fop .quo a b w = s := ⟨_, rfl⟩
  obtain ⟨n, hnn⟩ : ∃ n, nd .quo a b = n := ⟨_, rfl⟩
  have HA := Lib.hid (fun l (hm : mg s ≤ 9218868437227405312) W => about_any s l W (by rw [← hs]; exact fop_lt .quo a b w) hm)
  have HM : Hid (Pl a ∧ Pl b → mg s ≤ 9218868437227405312) := Lib.hid (fun ⟨h1, h2⟩ => by
    obtain ⟨r, hr⟩ := div_fin h1.2 h2.2 h2.1
    rw [← hs, (fop_some (op := .quo) hr w).1]; exact (div_told hr).1)
  have HB : Hid (Pl b → (FloatKind.f64.format.order b 0 == some .lt) = ng b) := Lib.hid (fun h => lt_zero b h.1 (Nat.le_of_lt h.2))
  rw [hs] at HL ⊢
  rw [hs, hnn] at hm
  clear ha hb hs hnn
  go_enter Try.func15, Try.ntmps15
  go_wp2_with fail
  refine (HP.out _ _ (cells2 _ _ _ _).1 (cells2 _ _ _ _).2).mono ?_
  rintro e w2 ⟨p, rfl, hp, rfl⟩
  have HPP := Lib.hid hp
  clear hp
  have hb2 : Below w.heap.size w ((w.drewN n).alloc (.cells #[.float .f64 a, .float .f64 b] 22)) := (below_dn (below_self _ _) _).alloc (Nat.le_refl _) _
  cases p
  · go_wp2
    go_ret2
    refine ⟨_, _, rfl, hb2, .inl ⟨?_, rfl, rfl⟩⟩
    have := HPP.out; simpa using this
  · have hpl : Pl a ∧ Pl b := (HPP.out).1 rfl
    have hbb := HB.out hpl.2
    obtain ⟨q, hq⟩ : ∃ q, ng b = q := ⟨_, rfl⟩
    rw [hq] at hbb
    have HQ := Lib.hid hq
    clear hq
    cases q
    · go_wp2_with fail
      refine (HL.out _).mono ?_
      rintro e w3 ⟨k, m, rfl, rfl, hk⟩
      have HKK := Lib.hid hk
      clear hk
      go_wp2_with fail
      refine (HA.out k (HM.out hpl) _).mono ?_
      rintro e w3 ⟨rfl, rfl⟩
      go_wp2
      go_ret2
      exact ⟨_, _, rfl, below_dn hb2 _, .inr ⟨hpl.1, hpl.2, _, ⟨k, by rw [HQ.out]; rfl, fun r hr => (HKK.out r hr).1⟩, rfl, rfl⟩⟩
    · go_wp2_with fail
      refine (HL.out _).mono ?_
      rintro e w3 ⟨k, m, rfl, rfl, hk⟩
      have HKK := Lib.hid hk
      clear hk
      go_wp2_with fail
      refine (HA.out (ngf k) (HM.out hpl) _).mono ?_
      rintro e w3 ⟨rfl, rfl⟩
      go_wp2
      go_ret2
      exact ⟨_, _, rfl, below_dn hb2 _, .inr ⟨hpl.1, hpl.2, _, ⟨k, by rw [HQ.out]; rfl, fun r hr => (HKK.out r hr).1⟩, rfl, rfl⟩⟩
/-- What Sqrt's formula says. -/
def SqrtIs (a s d u : Nat) : Prop := (¬ (Pl a ∧ ng a = false) ∧ d = s ∧ u = s) ∨ (Pl a ∧ ng a = false ∧ ∃ l, SqrtLost a s l ∧ d = lo s l ∧ u = hi s l)
theorem sqw_lt (x : Nat) (w : World) : sqw x w < 18446744073709551616 := by
  unfold sqw
  cases h : double.sqrt x with
  | none => exact (nanw_is w x x).2
  | some r => exact (sqrt_told h).2
set_option maxHeartbeats 1000000 in
theorem sqrtd_any (a : Nat) (w : World) (ha : a < 18446744073709551616) :
    Calls Try.prog 16 #[.float .f64 a] w fun e w' => ∃ d u, e = .returned (.tuple #[.float .f64 d, .float .f64 u]) ∧ Below w.heap.size w w' ∧ SqrtIs a (sqw a w) d u := by
  have HR := Lib.hid (sqrt_any a w)
  have HP := Lib.hid (fun (g : Nat) W h0 => plain1_any g a W ha h0)
  have HL := Lib.hid (fun W => left_any (sqw a w) (sqw a w) a W ha)
  obtain ⟨s, hs⟩ : ∃ s, sqw a w = s := ⟨_, rfl⟩
  obtain ⟨n, hnn⟩ : ∃ n, sqn a = n := ⟨_, rfl⟩
  have HA := Lib.hid (fun l (hm : mg s ≤ 9218868437227405312) W => about_any s l W (by rw [← hs]; exact sqw_lt a w) hm)
  have HM : Hid (Pl a → ng a = false → mg s ≤ 9218868437227405312) := Lib.hid (fun h1 h2 => by
    obtain ⟨r, hr⟩ := sqrt_fin h1.2 (.inl h2)
    rw [← hs]; unfold sqw; rw [hr]; exact (sqrt_told hr).1)
  have HB : Hid (Pl a → (FloatKind.f64.format.order a 0 == some .lt) = ng a) := Lib.hid (fun h => lt_zero a h.1 (Nat.le_of_lt h.2))
  rw [hs] at HL HR ⊢
  rw [hnn] at HR
  clear ha hs hnn
  go_enter Try.func16, Try.ntmps16
  go_wp2_with fail
  refine (HR.out).mono ?_
  rintro e w1 ⟨rfl, rfl⟩
  go_wp2_with fail
  refine (HP.out _ _ (cells1 _ _ _)).mono ?_
  rintro e w2 ⟨p, rfl, hp, rfl⟩
  have HPP := Lib.hid hp
  clear hp
  have hb2 : Below w.heap.size w ((w.drewN n).alloc (.cells #[.float .f64 a] 22)) := (below_dn (below_self _ _) _).alloc (Nat.le_refl _) _
  cases p
  · go_wp2
    go_ret2
    refine ⟨_, _, rfl, hb2, .inl ⟨?_, rfl, rfl⟩⟩
    have := HPP.out; intro h; simp [h.1] at this
  · have hpl : Pl a := (HPP.out).1 rfl
    have hbb := HB.out hpl
    obtain ⟨q, hq⟩ : ∃ q, ng a = q := ⟨_, rfl⟩
    rw [hq] at hbb
    have HQ := Lib.hid hq
    clear hq
    cases q
    · go_wp2_with fail
      refine (HL.out _).mono ?_
      rintro e w3 ⟨k, m, rfl, rfl, hk⟩
      have HKK := Lib.hid hk
      clear hk
      go_wp2_with fail
      refine (HA.out k (HM.out hpl HQ.out) _).mono ?_
      rintro e w3 ⟨rfl, rfl⟩
      go_wp2
      go_ret2
      exact ⟨_, _, rfl, below_dn hb2 _, .inr ⟨hpl, HQ.out, _, fun r hr => (HKK.out r hr).1, rfl, rfl⟩⟩
    · go_wp2
      go_ret2
      refine ⟨_, _, rfl, hb2, .inl ⟨?_, rfl, rfl⟩⟩
      have := HQ.out; intro h; rw [h.2] at this; cases this
end Go.Proofs.Ytmcnhgakaodafaa.Fl

namespace Go.Proofs.Ytmcnhgakaodafaa.Fl
open Go.RowKit Ieee
theorem lohi_cases (own lost : Nat) (hn : mg own ≤ 9218868437227405312) : (lo own lost = own ∧ hi own lost = own) ∨
    ∃ r, r < 9218868437227405312 ∧ (r = mg own ∨ r + 1 = mg own) ∧ lo own lost = double.word (ng own) (r + (ng own).toNat) ∧ hi own lost = double.word (ng own) (r + (!ng own).toNat) := by
  unfold lo hi
  cases h : exactly own lost
  · right
    refine ⟨near own lost, ?_, ?_, rfl, rfl⟩
    · unfold near; split
      · omega
      · split <;> omega
    · unfold near; split
      · omega
      · split
        · left; rfl
        · right; omega
  · left; exact ⟨rfl, rfl⟩
/-- What the statement's own 'beside' asks. -/
def BesOk (d u o : Nat) : Prop := (9218868437227405312 < mg d ∧ 9218868437227405312 < mg u ∧ 9218868437227405312 < mg o) ∨
  (mg d ≤ 9218868437227405312 ∧ mg u ≤ 9218868437227405312 ∧ mg o ≤ 9218868437227405312 ∧ (key o = key d ∨ key o = key u) ∧
    (key d = key u ∨ key d < key u ∧ mg (nextf d true) ≤ 9218868437227405312 ∧ key (nextf d true) = key u ∧ mg (nextf u false) ≤ 9218868437227405312 ∧ key (nextf u false) = key d))
theorem key_word (s : Bool) (k : Nat) (h : k < 9223372036854775808) : key (double.word s k) = if s then -(k : Int) else k := by
  unfold key; rw [(word_mg s k h).1, (word_mg s k h).2]
theorem word_succ (s : Bool) (k : Nat) : double.word s k + 1 = double.word s (k + 1) := by
  unfold Format.word; split <;> rfl
theorem word_pred (s : Bool) (k : Nat) : double.word s (k + 1) - 1 = double.word s k := by
  unfold Format.word; split <;> rfl
theorem word_one : double.word false 1 = 1 := by decide
theorem word_one' : double.word true 1 = 9223372036854775809 := by decide
/-- Which float is beside. -/
theorem nextf_word (s : Bool) (r : Nat) (h : r < 9218868437227405312) : nextf (double.word s r) (!s) = double.word s (r + 1) ∧ nextf (double.word s (r + 1)) s = double.word s r := by
  have a := word_mg s r (by omega)
  have b := word_mg s (r + 1) (by omega)
  constructor
  · unfold nextf
    rw [a.1, a.2, if_neg (by omega), if_neg (by omega)]
    by_cases h0 : r = 0
    · rw [if_pos h0, h0]
      cases s
      · exact word_one.symm
      · exact word_one'.symm
    · rw [if_neg h0, if_pos (by simp), word_succ]
  · unfold nextf
    rw [b.1, b.2, if_neg (by omega), if_neg (by cases s <;> simp), if_neg (by omega), if_neg (by cases s <;> simp), word_pred]
theorem bes_same {o o' : Nat} (h : (mg o ≤ 9218868437227405312 ∧ o' = o) ∨ (9218868437227405312 < mg o ∧ 9218868437227405312 < mg o')) : BesOk o o o' := by
  rcases h with ⟨h, rfl⟩ | ⟨h, h'⟩
  · exact .inr ⟨h, h, h, .inl rfl, .inl rfl⟩
  · exact .inl ⟨h, h, h'⟩
theorem bes_about {o : Nat} (lost : Nat) (ho : o < 18446744073709551616) (h : mg o ≤ 9218868437227405312) : BesOk (lo o lost) (hi o lost) o := by
  rcases lohi_cases o lost h with ⟨e1, e2⟩ | ⟨r, hr, ho2, e1, e2⟩
  · rw [e1, e2]; exact bes_same (.inl ⟨h, rfl⟩)
  · rw [e1, e2]
    have hw := word_of o ho
    obtain ⟨s, hs⟩ : ∃ s, ng o = s := ⟨_, rfl⟩
    rw [hs] at hw ⊢
    have n := nextf_word s r hr
    have a := word_mg s r (by omega)
    have b := word_mg s (r + 1) (by omega)
    have c := key_word s r (by omega)
    have d := key_word s (r + 1) (by omega)
    have ho3 : o = double.word s r ∨ o = double.word s (r + 1) := by
      rcases ho2 with h | h
      · left; rw [h]; exact hw.symm
      · right; rw [h]; exact hw.symm
    cases s
    · simp only [Bool.toNat_false, Bool.not_false, Bool.toNat_true, Nat.add_zero] at *
      refine .inr ⟨by omega, by omega, h, ?_, .inr ⟨?_, ?_, ?_, ?_, ?_⟩⟩
      · rcases ho3 with rfl | rfl
        · left; rfl
        · right; rfl
      · rw [c, d]; simp; omega
      · rw [n.1]; omega
      · rw [n.1]
      · rw [n.2]; omega
      · rw [n.2]
    · simp only [Bool.toNat_false, Bool.not_true, Bool.toNat_true, Nat.add_zero] at *
      refine .inr ⟨by omega, by omega, h, ?_, .inr ⟨?_, ?_, ?_, ?_, ?_⟩⟩
      · rcases ho3 with rfl | rfl
        · right; rfl
        · left; rfl
      · rw [c, d]; simp; omega
      · rw [n.2]; omega
      · rw [n.2]
      · rw [n.1]; omega
      · rw [n.1]
end Go.Proofs.Ytmcnhgakaodafaa.Fl

namespace Go.Proofs.Ytmcnhgakaodafaa.Fl
open Ieee
/-- Of two data each is the other one with the other sign (noughts by their worth). -/
def OppD : Datum → Datum → Prop
  | .number s m i, .number t n j => m = n ∧ i = j ∧ (t = !s ∨ m = 0)
  | .infinity s, .infinity t => t = !s
  | _, _ => False
theorem signed_opp {s t : Bool} {m : Nat} (h : t = !s ∨ m = 0) (k : Nat) : signed t m k = - signed s m k := by
  unfold signed
  rcases h with rfl | rfl
  · cases s <;> simp
  · simp
theorem sum_opp {a a' b b' d : Datum} (h : OppD a a') (k : OppD b b') (hs : a.sum b = some d) : ∃ d', a'.sum b' = some d' ∧ OppD d d' := by
  cases a with
  | nan => cases a' <;> exact h.elim
  | infinity s =>
    cases a' with
    | infinity s' =>
      obtain rfl : s' = !s := h
      cases b with
      | nan => cases b' <;> exact k.elim
      | infinity t =>
        cases b' with
        | infinity t' =>
          obtain rfl : t' = !t := k
          simp only [Datum.sum] at hs ⊢
          by_cases e : s = t
          · subst e; rw [if_pos rfl] at hs ⊢; cases hs; exact ⟨_, rfl, rfl⟩
          · rw [if_neg e] at hs; cases hs
        | number => exact k.elim
        | nan => exact k.elim
      | number t n j =>
        cases b' with
        | number t' n' j' => cases hs; exact ⟨_, rfl, rfl⟩
        | infinity => exact k.elim
        | nan => exact k.elim
    | number => exact h.elim
    | nan => exact h.elim
  | number s m i =>
    cases a' with
    | infinity => exact h.elim
    | nan => exact h.elim
    | number s' m' i' =>
      obtain ⟨rfl, rfl, h⟩ := h
      cases b with
      | nan => cases b' <;> exact k.elim
      | infinity t =>
        cases b' with
        | infinity t' => obtain rfl : t' = !t := k; cases hs; exact ⟨_, rfl, rfl⟩
        | number => exact k.elim
        | nan => exact k.elim
      | number t n j =>
        cases b' with
        | infinity => exact k.elim
        | nan => exact k.elim
        | number t' n' j' =>
          obtain ⟨rfl, rfl, k⟩ := k
          simp only [Datum.sum] at hs ⊢
          cases hs
          refine ⟨_, rfl, ?_⟩
          rw [signed_opp h, signed_opp k]
          obtain ⟨T, hT⟩ : ∃ T, signed s m (i - min i j).toNat + signed t n (j - min i j).toNat = T := ⟨_, rfl⟩
          rw [hT, show -signed s m (i - min i j).toNat + -signed t n (j - min i j).toNat = -T by omega]
          refine ⟨by rw [Int.natAbs_neg], rfl, ?_⟩
          by_cases e : T = 0
          · right; rw [e]; rfl
          · left
            rw [if_neg e, if_neg (by omega)]
            rcases Int.lt_or_lt_of_ne e with g | g
            · rw [decide_eq_true (p := T < 0) g, decide_eq_false (p := -T < 0) (by omega)]; rfl
            · rw [decide_eq_false (p := T < 0) (by omega), decide_eq_true (p := -T < 0) (by omega)]; rfl
theorem opp_self {d : Datum} (h : Told d) : OppD d d.opposite := by
  cases d with
  | number => exact ⟨rfl, rfl, .inl rfl⟩
  | infinity => rfl
  | nan => exact h.elim
theorem oppD_opp {a b : Datum} (h : OppD a b) : OppD a.opposite b.opposite := by
  cases a <;> cases b <;> simp only [OppD, Datum.opposite] at h ⊢ <;> first | (exact h.elim; done) | skip
  · exact ⟨h.1, h.2.1, by rcases h.2.2 with rfl | h; exact .inl rfl; exact .inr h⟩
  · rw [h]
theorem opp_opp (d : Datum) : d.opposite.opposite = d := by cases d <;> simp [Datum.opposite]
theorem xor_not (s t : Bool) : ((!s) ^^ t) = !(s ^^ t) := by cases s <;> cases t <;> rfl
theorem xor_not' (s t : Bool) : (s ^^ !t) = !(s ^^ t) := by cases s <;> cases t <;> rfl
theorem product_opp (a b : Datum) : a.opposite.product b = (a.product b).map Datum.opposite := by
  cases a <;> cases b <;> simp only [Datum.product, Datum.opposite, Option.map_none, Option.map_some, xor_not] <;> first | rfl | (split <;> simp [Datum.opposite])
theorem product_comm (a b : Datum) : a.product b = b.product a := by
  cases a <;> cases b <;> simp only [Datum.product] <;> first | rfl | (rw [Bool.xor_comm]; done) | (rw [Bool.xor_comm, Nat.mul_comm, Int.add_comm]) | (split <;> simp [Bool.xor_comm])
theorem quotient_opp (n : Nat) (a b : Datum) : a.quotient n b.opposite = (a.quotient n b).map Datum.opposite := by
  cases a <;> cases b <;> simp only [Datum.quotient, Datum.opposite, Option.map_none, Option.map_some, xor_not'] <;> first | rfl | (split <;> first | rfl | (split <;> simp [Datum.opposite]) | simp [Datum.opposite])
theorem sum_comm (a b : Datum) : a.sum b = b.sum a := by
  cases a <;> cases b <;> simp only [Datum.sum] <;> try rfl
  · rename_i s m i t n j
    rw [Int.min_comm, Int.add_comm]
    by_cases e : signed t n (j - min j i).toNat + signed s m (i - min j i).toNat = 0
    · rw [if_pos e, if_pos e, Bool.and_comm]
    · rw [if_neg e, if_neg e]
  · rename_i s t
    by_cases e : s = t
    · subst e; rfl
    · rw [if_neg e, if_neg (fun h => e h.symm)]
theorem ngf_word (s : Bool) (k : Nat) (h : k < 9223372036854775808) : ngf (double.word s k) = double.word (!s) k := by
  have hl := word_lt64 s k h
  have hn := ngf_is hl
  have hw := word_mg s k h
  have := word_of _ (ngf_lt hl)
  rw [hn.1, hn.2, hw.1, hw.2] at this
  exact this.symm
theorem write_opp {d : Datum} (h : Told d) : double.write d.opposite = ngf (double.write d) := by
  cases d with
  | nan => exact h.elim
  | infinity s => show double.word (!s) double.infRung = ngf (double.word s double.infRung); rw [d_inf, ngf_word s _ (by omega)]
  | number s m p =>
    obtain ⟨R, hR, e⟩ := nearest_sign s m p
    show double.nearest (!s) m p = ngf (double.nearest s m p)
    rw [e, e, ngf_word s _ (by omega)]
/-- Of two floats each is the other one with the other sign (noughts by their worth); none is a NaN. -/
def Opp (x y : Nat) : Prop := mg y = mg x ∧ (ng y = !ng x ∨ mg x = 0) ∧ mg x ≤ 9218868437227405312
theorem write_oppD {d e : Datum} (h : OppD d e) : Opp (double.write d) (double.write e) := by
  cases d <;> cases e <;> simp only [OppD] at h <;> first | (exact h.elim; done) | skip
  · rename_i s m i t n j
    obtain ⟨rfl, rfl, h⟩ := h
    obtain ⟨R, hR, e⟩ := nearest_sign s m i
    show Opp (double.nearest s m i) (double.nearest t m i)
    rw [e, e]
    have a := word_mg s R (by omega)
    have b := word_mg t R (by omega)
    refine ⟨by rw [a.1, b.1], ?_, by rw [a.1]; exact hR⟩
    rcases h with rfl | rfl
    · left; rw [a.2, b.2]
    · right
      have := e s
      simp [Format.nearest] at this
      have := congrArg mg this
      rw [(word_mg s 0 (by omega)).1, a.1] at this
      rw [a.1]; exact this.symm
  · rename_i s t
    subst h
    have a := word_mg s 9218868437227405312 (by omega)
    have b := word_mg (!s) 9218868437227405312 (by omega)
    show Opp (double.word s double.infRung) (double.word (!s) double.infRung)
    rw [d_inf]
    exact ⟨by rw [a.1, b.1], .inl (by rw [a.2, b.2]), by rw [a.1]; exact Nat.le_refl _⟩
/-- A word's datum hangs on its sign and its size. -/
def rd (s : Bool) (m : Nat) : Datum := if m < 4503599627370496 then .number s m (-1074) else if m < 9218868437227405312 then .number s (4503599627370496 + m % 4503599627370496) (-1074 + (m / 4503599627370496 - 1 : Nat)) else if m = 9218868437227405312 then .infinity s else .nan s (m - 9218868437227405312)
theorem read_rd (x : Nat) : double.read x = rd (ng x) (mg x) := by
  unfold Format.read
  rw [d_binade, d_inf, d_sw, d_lp]
  rfl
theorem rd_told {s : Bool} {m : Nat} (h : m ≤ 9218868437227405312) : Told (rd s m) := by
  unfold rd
  split
  · trivial
  · split
    · trivial
    · rw [if_pos (by omega)]; trivial
theorem read_opp {x y : Nat} (h : Opp x y) : OppD (double.read x) (double.read y) := by
  obtain ⟨h1, h2, h3⟩ := h
  rw [read_rd, read_rd, h1]
  unfold rd
  split
  · refine ⟨rfl, rfl, ?_⟩
    rcases h2 with h | h
    · exact .inl h
    · exact .inr h
  · have h4 : ng y = !ng x := by
      rcases h2 with h | h
      · exact h
      · omega
    split
    · exact ⟨rfl, rfl, .inl h4⟩
    · rw [if_pos (by omega), if_pos (by omega)]; exact h4
theorem opp_ngf {x : Nat} (h : x < 18446744073709551616) (h2 : mg x ≤ 9218868437227405312) : Opp x (ngf x) := ⟨(ngf_is h).1, .inl (ngf_is h).2, h2⟩
theorem ngf_ngf {x : Nat} (_h : x < 18446744073709551616) : ngf (ngf x) = x := by
  unfold ngf; rw [Nat.xor_assoc, Nat.xor_self, Nat.xor_zero]
theorem read_ngf' {y : Nat} (hy : y < 18446744073709551616) : double.read (ngf y) = (double.read y).opposite := by
  rw [read_rd, read_rd, (ngf_is hy).1, (ngf_is hy).2]
  unfold rd
  split
  · rfl
  · split
    · rfl
    · split <;> rfl
theorem add_comm' (x y : Nat) : double.add x y = double.add y x := by unfold Format.add; rw [sum_comm]
theorem mul_comm' (x y : Nat) : double.mul x y = double.mul y x := by unfold Format.mul; rw [product_comm]
theorem add_opp {x y x' y' r : Nat} (h : Opp x x') (k : Opp y y') (hr : double.add x y = some r) : ∃ r', double.add x' y' = some r' ∧ Opp r r' := by
  unfold Format.add at hr ⊢
  cases hd : (double.read x).sum (double.read y) with
  | none => rw [hd] at hr; cases hr
  | some d =>
    rw [hd] at hr; cases hr
    obtain ⟨d', e, ho⟩ := sum_opp (read_opp h) (read_opp k) hd
    rw [e]; exact ⟨_, rfl, write_oppD ho⟩
theorem sub_opp {x y x' y' r : Nat} (h : Opp x x') (k : Opp y y') (hr : double.sub x y = some r) : ∃ r', double.sub x' y' = some r' ∧ Opp r r' := by
  unfold Format.sub at hr ⊢
  cases hd : (double.read x).sum (double.read y).opposite with
  | none => rw [hd] at hr; cases hr
  | some d =>
    rw [hd] at hr; cases hr
    obtain ⟨d', e, ho⟩ := sum_opp (read_opp h) (oppD_opp (read_opp k)) hd
    rw [e]; exact ⟨_, rfl, write_oppD ho⟩
theorem map_opp {o : Option Datum} (h : ∀ d, o = some d → Told d) : (o.map Datum.opposite).map double.write = (o.map double.write).map ngf := by
  cases o with
  | none => rfl
  | some d => simp only [Option.map_some]; rw [write_opp (h d rfl)]
theorem mul_ngf {x : Nat} (hx : x < 18446744073709551616) (y : Nat) : double.mul (ngf x) y = (double.mul x y).map ngf := by
  unfold Format.mul
  rw [read_ngf' hx, product_opp]
  exact map_opp (fun _ => product_told)
theorem div_ngf (x : Nat) {y : Nat} (hy : y < 18446744073709551616) : double.div x (ngf y) = (double.div x y).map ngf := by
  unfold Format.div
  rw [read_ngf' hy, quotient_opp]
  exact map_opp (fun _ => quotient_told)
/-- x y + z with both x and z turned. -/
theorem fma_opp {x y z z' r : Nat} (hx : x < 18446744073709551616) (hz : Opp z z') (hr : double.fma x y z = some r) : ∃ r', double.fma (ngf x) y z' = some r' ∧ Opp r r' := by
  unfold Format.fma at hr ⊢
  rw [read_ngf' hx, product_opp]
  cases hp : (double.read x).product (double.read y) with
  | none => rw [hp] at hr; cases hr
  | some p =>
    rw [hp] at hr
    simp only [Option.bind_some, Option.map_some] at hr ⊢
    cases hd : p.sum (double.read z) with
    | none => rw [hd] at hr; cases hr
    | some d =>
      rw [hd] at hr; cases hr
      obtain ⟨d', e, ho⟩ := sum_opp (opp_self (product_told hp)) (read_opp hz) hd
      rw [e]; exact ⟨_, rfl, write_oppD ho⟩
theorem fma_turn {x y : Nat} (hx : x < 18446744073709551616) (hy : y < 18446744073709551616) (z : Nat) : double.fma (ngf x) (ngf y) z = double.fma x y z := by
  unfold Format.fma
  rw [read_ngf' hx, read_ngf' hy, product_opp, product_comm, product_opp, product_comm]
  cases (double.read x).product (double.read y) with
  | none => rfl
  | some p => simp only [Option.map_some, Option.bind_some, opp_opp]
end Go.Proofs.Ytmcnhgakaodafaa.Fl

namespace Go.Proofs.Ytmcnhgakaodafaa.Fl
open Ieee
/-- Each number of at most 53 binary digits, and noughts behind, is a float's size (infinity aside). -/
theorem uval_surj : ∀ (e k : Nat), k < 9007199254740992 → ∃ R, uval R = k * 2 ^ e
  | 0, k, hk => ⟨k, by have := uval_bin (e := 0) (k := k) (.inl rfl) (Nat.le_of_lt hk); simpa using this⟩
  | e + 1, k, hk => by
    by_cases h : 4503599627370496 ≤ k
    · exact ⟨_, uval_bin (.inr h) (Nat.le_of_lt hk)⟩
    · obtain ⟨R, hR⟩ := uval_surj e (2 * k) (by omega)
      exact ⟨R, by rw [hR, Nat.pow_succ, Nat.mul_comm 2 k, Nat.mul_assoc, Nat.mul_comm 2]⟩
theorem uval_form (m : Nat) : ∃ e k, k < 9007199254740992 ∧ uval m = k * 2 ^ e := by
  unfold uval
  by_cases h : m < 4503599627370496
  · exact ⟨0, m, by omega, by rw [if_pos h]; simp⟩
  · exact ⟨m / 4503599627370496 - 1, 4503599627370496 + m % 4503599627370496, by omega, by rw [if_neg h]⟩
theorem uval_inf (E : Nat) (h : E = 2098) : uval 9218868437227405312 = 2 ^ E := by
  unfold uval
  obtain ⟨k, hk⟩ : ∃ k, E = 52 + k := ⟨E - 52, by omega⟩
  rw [if_neg (by omega), show 4503599627370496 + 9218868437227405312 % 4503599627370496 = 2 ^ 52 by decide, show 9218868437227405312 / 4503599627370496 - 1 = k by omega, ← Nat.pow_add, hk]
theorem uval_le_inf {R : Nat} {n : Nat} (h : uval R ≤ 2 ^ n) (hn : n < 2098) : R < 9218868437227405312 := by
  obtain ⟨E, hE⟩ : ∃ E, E = 2098 := ⟨_, rfl⟩
  rw [← (uval_cmp R 9218868437227405312).1, uval_inf E hE]
  exact Nat.lt_of_le_of_lt h (Nat.pow_lt_pow_right (by omega) (by omega))
theorem mg_L : mg 5507902344274116608 = 5507902344274116608 ∧ ng 5507902344274116608 = false := by decide
theorem read_L : double.read 5507902344274116608 = .number false 4503599627370496 148 := by decide +kernel
/-- Two to the power 900 below one: left lifts what is less. -/
theorem uval_small900 : uval 553942754166571008 = 2 ^ 174 := by
  unfold uval
  rw [if_neg (by omega), show 4503599627370496 + 553942754166571008 % 4503599627370496 = 2 ^ 52 by decide, show 553942754166571008 / 4503599627370496 - 1 = 122 by decide, ← Nat.pow_add]
theorem lsmall_is {z : Nat} (h : mg z ≤ 9218868437227405312) : lsmall z = true ↔ mg z < 553942754166571008 := by
  unfold lsmall
  rw [ord_lt]
  have h1 : mg z < 9223372036854775808 := by omega
  have e1 : mg (mg z) = mg z := Nat.mod_eq_of_lt h1
  have e2 : ng (mg z) = false := by unfold ng; rw [Nat.div_eq_of_lt h1]; rfl
  have k1 : key (mg z) = mg z := by unfold key; rw [e1, e2]; rfl
  have k2 : key 553942754166571008 = 553942754166571008 := by decide
  have k3 : mg 553942754166571008 = 553942754166571008 := by decide
  rw [e1, k1, k2, k3]
  simp
  omega
/-- A product with 2 to the power 200 is exact where it is not too great. -/
theorem lift_exact {x n : Nat} (h : uval (mg x) ≤ 2 ^ n) (hn : n < 1898) : ∃ x1, double.mul x 5507902344274116608 = some x1 ∧ x1 < 18446744073709551616 ∧ ng x1 = ng x ∧ mg x1 < 9218868437227405312 ∧ uval (mg x1) = uval (mg x) * 2 ^ 200 := by
  have hf : mg x < 9218868437227405312 := uval_le_inf h (by omega)
  obtain ⟨M, P, e1, p1, v1⟩ := read_fin x hf
  obtain ⟨e, k, hk, hu⟩ := uval_form (mg x)
  obtain ⟨R, hR⟩ := uval_surj (e + 200) k hk
  have hR2 : uval R = uval (mg x) * 2 ^ 200 := by rw [hR, hu, Nat.pow_add, Nat.mul_assoc]
  have hRf : R < 9218868437227405312 := by
    refine uval_le_inf (n := n + 200) ?_ (by omega)
    rw [hR2, Nat.pow_add]
    exact Nat.mul_le_mul_right _ h
  have hw := word_mg (ng x) R (by omega)
  refine ⟨double.word (ng x) R, ?_, word_lt64 _ _ (by omega), hw.2, by rw [hw.1]; exact hRf, by rw [hw.1]; exact hR2⟩
  unfold Format.mul
  rw [e1, read_L]
  show some (double.nearest (ng x ^^ false) (M * 4503599627370496) (P + 148)) = _
  rw [Bool.xor_false]
  congr 1
  refine nearest_exact _ (P + 1074 + 148).toNat 0 (by omega) ?_ (by omega)
  rw [hR2, ← v1, Nat.pow_zero, Nat.mul_one]
  rw [show (P + 1074 + 148).toNat = (P + 1074).toNat + 148 by omega, Nat.pow_add]
  rw [show (4503599627370496 : Nat) = 2 ^ 52 by decide, show (2 : Nat) ^ 200 = 2 ^ 52 * 2 ^ 148 by rw [← Nat.pow_add]]
  simp only [Nat.mul_assoc, Nat.mul_left_comm]
theorem lift_small {z : Nat} (h : mg z < 553942754166571008) : ∃ z1, double.mul z 5507902344274116608 = some z1 ∧ z1 < 18446744073709551616 ∧ ng z1 = ng z ∧ mg z1 < 9218868437227405312 ∧ uval (mg z1) = uval (mg z) * 2 ^ 200 := by
  refine lift_exact (n := 174) ?_ (by omega)
  rw [← uval_small900]
  exact Nat.le_of_lt (uval_lt h)
theorem lift_any {x : Nat} (h : mg x ≤ 9218868437227405312) : ∃ x1, double.mul x 5507902344274116608 = some x1 ∧ x1 < 18446744073709551616 ∧ mg x1 ≤ 9218868437227405312 := by
  rcases Nat.lt_or_eq_of_le h with g | g
  · obtain ⟨r, hr⟩ := mul_fin g (show mg 5507902344274116608 < _ by decide)
    exact ⟨r, hr, (mul_told hr).2, (mul_told hr).1⟩
  · have : double.mul x 5507902344274116608 = some (double.write (.infinity (ng x ^^ false))) := by
      unfold Format.mul; rw [read_inf x g, read_L]; rfl
    exact ⟨_, this, (mul_told this).2, (mul_told this).1⟩
theorem fma_some' {x y z : Nat} (hx : x < 18446744073709551616) (hm : mg x ≤ 9218868437227405312) (hy : Pl y) (hz : mg z < 9218868437227405312) : ∃ r, double.fma (ngf x) y z = some r := by
  unfold Format.fma
  obtain ⟨N, Q, e2, _, v2⟩ := read_fin y hy.2
  obtain ⟨K, T, e3, _, _⟩ := read_fin z hz
  have hN : N ≠ 0 := by
    have := uval_pos hy.1
    intro h; subst h; simp at v2; omega
  have hn := ngf_is hx
  rcases Nat.lt_or_eq_of_le hm with g | g
  · obtain ⟨M, P, e1, _, _⟩ := read_fin (ngf x) (by rw [hn.1]; exact g)
    rw [e1, e2, e3]; exact ⟨_, rfl⟩
  · rw [read_inf (ngf x) (by rw [hn.1]; exact g), e2, e3]
    simp only [Datum.product, if_neg hN]
    exact ⟨_, rfl⟩
/-- What left reckons is a number. -/
theorem leftIs_ex {x y z : Nat} (hx : x < 18446744073709551616) (hm : mg x ≤ 9218868437227405312) (hy : Pl y) (hz : mg z < 9218868437227405312) : ∃ r, LeftIs x y z r ∧ mg r ≤ 9218868437227405312 ∧ r < 18446744073709551616 := by
  cases hs : lsmall z
  · obtain ⟨r, hr⟩ := fma_some' hx hm hy hz
    exact ⟨r, ⟨x, z, by rw [hs]; exact ⟨rfl, rfl⟩, hr⟩, fma_told hr⟩
  · obtain ⟨x1, e1, l1, m1⟩ := lift_any hm
    obtain ⟨z1, e2, l2, _, m2, _⟩ := lift_small ((lsmall_is (Nat.le_of_lt hz)).1 hs)
    obtain ⟨r, hr⟩ := fma_some' l1 m1 hy m2
    exact ⟨r, ⟨x1, z1, by rw [hs]; exact ⟨e1, e2⟩, hr⟩, fma_told hr⟩
theorem lsmall_mg {z z' : Nat} (h : mg z' = mg z) : lsmall z' = lsmall z := by unfold lsmall; rw [h]
/-- Both the first factor and what it is taken from turned. -/
theorem leftIs_opp {x y z r : Nat} (hx : x < 18446744073709551616) (hz : z < 18446744073709551616) (hzm : mg z ≤ 9218868437227405312) (h : LeftIs x y z r) : ∃ r', LeftIs (ngf x) y (ngf z) r' ∧ Opp r r' := by
  obtain ⟨x1, z1, hc, hr⟩ := h
  have hs := lsmall_mg (ngf_is hz).1
  cases hb : lsmall z
  · rw [hb] at hc
    obtain ⟨rfl, rfl⟩ := hc
    obtain ⟨r', e, ho⟩ := fma_opp (ngf_lt hx) (opp_ngf hz hzm) hr
    exact ⟨r', ⟨ngf x1, ngf z1, by rw [hs, hb]; exact ⟨rfl, rfl⟩, e⟩, ho⟩
  · rw [hb] at hc
    obtain ⟨h1, h2⟩ := hc
    have l1 := (mul_told h1).2
    have l2 := mul_told h2
    obtain ⟨r', e, ho⟩ := fma_opp (ngf_lt l1) (opp_ngf l2.2 l2.1) hr
    refine ⟨r', ⟨ngf x1, ngf z1, ?_, e⟩, ho⟩
    rw [hs, hb]
    simp only [if_true]
    rw [mul_ngf hx, mul_ngf hz, h1, h2]
    exact ⟨rfl, rfl⟩
/-- Both factors turned. -/
theorem leftIs_turn {x y z r : Nat} (hx : x < 18446744073709551616) (hy : y < 18446744073709551616) (h : LeftIs x y z r) : LeftIs (ngf x) (ngf y) z r := by
  obtain ⟨x1, z1, hc, hr⟩ := h
  cases hb : lsmall z
  · rw [hb] at hc
    obtain ⟨rfl, rfl⟩ := hc
    refine ⟨ngf x1, z1, by rw [hb]; exact ⟨rfl, rfl⟩, ?_⟩
    rw [fma_turn (ngf_lt hx) hy]; exact hr
  · rw [hb] at hc
    obtain ⟨h1, h2⟩ := hc
    refine ⟨ngf x1, z1, ?_, ?_⟩
    · rw [hb]; simp only [if_true]; rw [mul_ngf hx, h1]; exact ⟨rfl, h2⟩
    · rw [fma_turn (ngf_lt (mul_told h1).2) hy]; exact hr
end Go.Proofs.Ytmcnhgakaodafaa.Fl

namespace Go.Proofs.Ytmcnhgakaodafaa.Fl
open Ieee
theorem nearR_val {m m' : Nat} {p p' : Int} {a a' R : Nat} (hv : m * 2 ^ a = m' * 2 ^ a') (he : (a : Int) - a' = p - p') (h : NearR m p R) : NearR m' p' R := by
  intro A' B' hab
  have ha' := Nat.two_pow_pos a'
  have k := h (A' + a) (B' + a') (by omega)
  have e1 : 2 * (m * 2 ^ (A' + a)) = 2 * (m' * 2 ^ A') * 2 ^ a' := by
    rw [Nat.pow_add, Nat.mul_comm (2 ^ A'), ← Nat.mul_assoc m, hv]
    simp only [Nat.mul_assoc, Nat.mul_left_comm, Nat.mul_comm]
  have e2 : ∀ x, x * 2 ^ (B' + a') = x * 2 ^ B' * 2 ^ a' := fun x => by rw [Nat.pow_add, Nat.mul_assoc]
  rw [e1, e2] at k
  refine ⟨Nat.le_of_mul_le_mul_right k.1 ha', fun h => k.2.1 (by rw [h]), fun Q hQ => ?_⟩
  have k2 := k.2.2 Q hQ
  rw [e2] at k2
  exact ⟨Nat.le_of_mul_le_mul_right k2.1 ha', fun h => k2.2 (by rw [h])⟩
theorem nearest_val (s : Bool) {m m' : Nat} {p p' : Int} {a a' : Nat} (hv : m * 2 ^ a = m' * 2 ^ a') (he : (a : Int) - a' = p - p') : double.nearest s m p = double.nearest s m' p' := by
  obtain ⟨R, e, h⟩ := near_spec s m p
  obtain ⟨S, f, k⟩ := near_spec s m' p'
  rw [e, f, nearR_unique (nearR_val hv he h) k]
/-- The same number, written otherwise. -/
def SameV : Datum → Datum → Prop
  | .number s m i, .number t n j => t = s ∧ ∃ a b : Nat, (a : Int) - b = i - j ∧ m * 2 ^ a = n * 2 ^ b
  | _, _ => False
theorem signed_same {s : Bool} {m n : Nat} {i j L : Int} {a b : Nat} (h : m * 2 ^ a = n * 2 ^ b) (he : (a : Int) - b = i - j) (hi : L ≤ i) (hj : L ≤ j) : signed s m (i - L).toNat = signed s n (j - L).toNat := by
  have : m * 2 ^ (i - L).toNat = n * 2 ^ (j - L).toNat := by
    refine Nat.eq_of_mul_eq_mul_right (Nat.two_pow_pos b) ?_
    rw [Nat.mul_assoc, ← Nat.pow_add, show (i - L).toNat + b = a + (j - L).toNat by omega, Nat.pow_add, ← Nat.mul_assoc, h]
    exact Nat.mul_right_comm _ _ _
  unfold signed
  rw [Nat.shiftLeft_eq, Nat.shiftLeft_eq, this]
theorem sum_val {d d' : Datum} (h : SameV d d') (u : Bool) (K : Nat) (W : Int) : (d.sum (.number u K W)).map double.write = (d'.sum (.number u K W)).map double.write := by
  cases d <;> cases d' <;> simp only [SameV] at h <;> first | (exact h.elim; done) | skip
  rename_i s m i t n j
  obtain ⟨rfl, a, b, he, hv⟩ := h
  simp only [Datum.sum, Option.map_some]
  congr 1
  obtain ⟨L, hL⟩ : ∃ L, L = min (min i W) (min j W) := ⟨_, rfl⟩
  obtain ⟨x, hx⟩ : ∃ x : Nat, min i W = L + x := ⟨(min i W - L).toNat, by omega⟩
  obtain ⟨y, hy⟩ : ∃ y : Nat, min j W = L + y := ⟨(min j W - L).toNat, by omega⟩
  obtain ⟨T, hT⟩ : ∃ T, signed t m (i - min i W).toNat + signed u K (W - min i W).toNat = T := ⟨_, rfl⟩
  obtain ⟨S, hS⟩ : ∃ S, signed t n (j - min j W).toNat + signed u K (W - min j W).toNat = S := ⟨_, rfl⟩
  have e1 : T * (2 ^ x : Nat) = signed t m (i - L).toNat + signed u K (W - L).toNat := by
    rw [← hT, Int.add_mul, ← signed_scale, ← signed_scale]
    congr 2 <;> omega
  have e2 : S * (2 ^ y : Nat) = signed t n (j - L).toNat + signed u K (W - L).toNat := by
    rw [← hS, Int.add_mul, ← signed_scale, ← signed_scale]
    congr 2 <;> omega
  have e3 : T * (2 ^ x : Nat) = S * (2 ^ y : Nat) := by
    rw [e1, e2, signed_same hv he (by omega) (by omega)]
  have hxp : (0 : Int) < (2 ^ x : Nat) := Int.natCast_pos.2 (Nat.two_pow_pos _)
  have hyp : (0 : Int) < (2 ^ y : Nat) := Int.natCast_pos.2 (Nat.two_pow_pos _)
  have hab : T.natAbs * 2 ^ x = S.natAbs * 2 ^ y := by
    have := congrArg Int.natAbs e3
    rw [Int.natAbs_mul, Int.natAbs_mul, Int.natAbs_natCast, Int.natAbs_natCast] at this
    exact this
  have hz : T = 0 ↔ S = 0 := by
    constructor
    · intro h
      rw [h, Int.zero_mul] at e3
      rcases Int.mul_eq_zero.1 e3.symm with g | g
      · exact g
      · omega
    · intro h
      rw [h, Int.zero_mul] at e3
      rcases Int.mul_eq_zero.1 e3 with g | g
      · exact g
      · omega
  have hn : T < 0 ↔ S < 0 := by
    constructor
    · intro h
      have := Int.mul_neg_of_neg_of_pos h hxp
      rw [e3] at this
      rcases Int.lt_or_le S 0 with g | g
      · exact g
      · have := Int.mul_nonneg g (Int.le_of_lt hyp); omega
    · intro h
      have := Int.mul_neg_of_neg_of_pos h hyp
      rw [← e3] at this
      rcases Int.lt_or_le T 0 with g | g
      · exact g
      · have := Int.mul_nonneg g (Int.le_of_lt hxp); omega
  rw [hT, hS]
  show double.nearest _ T.natAbs (min i W) = double.nearest _ S.natAbs (min j W)
  have hsg : (if T = 0 then t && u else decide (T < 0)) = (if S = 0 then t && u else decide (S < 0)) := by
    by_cases h : T = 0
    · rw [if_pos h, if_pos (hz.1 h)]
    · rw [if_neg h, if_neg (fun g => h (hz.2 g))]
      exact decide_eq_decide.2 hn
  rw [hsg]
  exact nearest_val _ hab (by omega)
end Go.Proofs.Ytmcnhgakaodafaa.Fl

namespace Go.Proofs.Ytmcnhgakaodafaa.Fl
open Ieee
theorem fma_comm {x y : Nat} (hx : x < 18446744073709551616) (hy : y < 18446744073709551616) (z : Nat) : double.fma (ngf x) y z = double.fma (ngf y) x z := by
  unfold Format.fma
  rw [read_ngf' hx, read_ngf' hy, product_opp, product_opp, product_comm]
theorem pow_big {E : Nat} (_hE : E = 1074) {a b : Nat} (hb : 0 < b) (h : 2 * (a * b) ≤ (2 ^ 174 + 2 ^ 174) * 2 ^ E) : a ≤ 2 ^ (174 + E) := by
  rw [Nat.pow_add]
  have h1 := Nat.le_mul_of_pos_right a hb
  have h2 : (2 ^ 174 + 2 ^ 174) * 2 ^ E = 2 * (2 ^ 174 * 2 ^ E) := by rw [← Nat.two_mul, Nat.mul_assoc]
  omega
theorem prod_small {x y z : Nat} (hx : Pl x) (hy : Pl y) (hz : double.mul x y = some z) (hs : mg z < 553942754166571008) : (∃ E, E = 1074 ∧ uval (mg x) ≤ 2 ^ (174 + E)) ∧ ∃ E, E = 1074 ∧ uval (mg y) ≤ 2 ^ (174 + E) := by
  obtain ⟨M, P, e1, p1, v1⟩ := read_fin x hx.2
  obtain ⟨N, Q, e2, p2, v2⟩ := read_fin y hy.2
  unfold Format.mul at hz
  rw [e1, e2] at hz
  cases hz
  obtain ⟨R, e, hR⟩ := near_spec (ng x ^^ ng y) (M * N) (P + Q)
  have hzz : double.write (.number (ng x ^^ ng y) (M * N) (P + Q)) = double.word (ng x ^^ ng y) (min R 9218868437227405312) := e
  change mg (double.write (.number (ng x ^^ ng y) (M * N) (P + Q))) < _ at hs
  rw [hzz, (word_mg _ _ (by omega)).1] at hs
  have hRs : R < 553942754166571008 := by omega
  obtain ⟨E, hE⟩ : ∃ E, E = 1074 := ⟨_, rfl⟩
  have h1 := (hR ((P + 1074).toNat + (Q + 1074).toNat) E (by omega)).1
  have hu1 : uval R ≤ 2 ^ 174 := by rw [← uval_small900]; exact Nat.le_of_lt (uval_lt hRs)
  have hu2 : uval (R + 1) ≤ 2 ^ 174 := by
    rw [← uval_small900]
    rcases Nat.lt_or_eq_of_le (show R + 1 ≤ 553942754166571008 by omega) with g | g
    · exact Nat.le_of_lt (uval_lt g)
    · rw [g]; exact Nat.le_refl _
  have e3 : M * N * 2 ^ ((P + 1074).toNat + (Q + 1074).toNat) = uval (mg x) * uval (mg y) := by
    rw [← v1, ← v2, Nat.pow_add]
    simp only [Nat.mul_assoc, Nat.mul_left_comm]
  rw [e3] at h1
  have h2 := Nat.le_trans h1 (Nat.mul_le_mul_right (2 ^ E) (Nat.add_le_add hu1 hu2))
  exact ⟨⟨E, hE, pow_big hE (uval_pos hy.1) h2⟩, E, hE, pow_big hE (uval_pos hx.1) (by rw [Nat.mul_comm (uval (mg y))]; exact h2)⟩
/-- The lifted factor, times the other one: either may be lifted. -/
theorem prod_lift {x y x1 y1 : Nat} (_hx : x < 18446744073709551616) (_hy : y < 18446744073709551616) (px : Pl x) (py : Pl y) (hx1 : x1 < 18446744073709551616) (hy1 : y1 < 18446744073709551616) (fx : mg x1 < 9218868437227405312) (fy : mg y1 < 9218868437227405312)
    (sx : ng x1 = ng x) (sy : ng y1 = ng y) (ux : uval (mg x1) = uval (mg x) * 2 ^ 200) (uy : uval (mg y1) = uval (mg y) * 2 ^ 200) : ∃ d d', (double.read (ngf x1)).product (double.read y) = some d ∧ (double.read (ngf y1)).product (double.read x) = some d' ∧ SameV d d' := by
  obtain ⟨M, P, e1, p1, v1⟩ := read_fin x px.2
  obtain ⟨N, Q, e2, p2, v2⟩ := read_fin y py.2
  obtain ⟨M', P', e3, p3, v3⟩ := read_fin (ngf x1) (by rw [(ngf_is hx1).1]; exact fx)
  obtain ⟨N', Q', e4, p4, v4⟩ := read_fin (ngf y1) (by rw [(ngf_is hy1).1]; exact fy)
  rw [(ngf_is hx1).1, ux, ← v1] at v3
  rw [(ngf_is hy1).1, uy, ← v2] at v4
  rw [e1, e2, e3, e4, (ngf_is hx1).2, (ngf_is hy1).2, sx, sy]
  refine ⟨_, _, rfl, rfl, ?_, (P' + 1074).toNat + (Q + 1074).toNat, (Q' + 1074).toNat + (P + 1074).toNat, by omega, ?_⟩
  · cases ng x <;> cases ng y <;> rfl
  · have f1 : M' * N * 2 ^ ((P' + 1074).toNat + (Q + 1074).toNat) = M' * 2 ^ (P' + 1074).toNat * (N * 2 ^ (Q + 1074).toNat) := by
      rw [Nat.pow_add]; simp only [Nat.mul_assoc, Nat.mul_left_comm]
    have f2 : N' * M * 2 ^ ((Q' + 1074).toNat + (P + 1074).toNat) = N' * 2 ^ (Q' + 1074).toNat * (M * 2 ^ (P + 1074).toNat) := by
      rw [Nat.pow_add]; simp only [Nat.mul_assoc, Nat.mul_left_comm]
    rw [f1, f2, v3, v4]
    simp only [Nat.mul_assoc, Nat.mul_left_comm, Nat.mul_comm]
theorem leftIs_comm {x y z r s : Nat} (hx : x < 18446744073709551616) (hy : y < 18446744073709551616) (px : Pl x) (py : Pl y) (hz : double.mul x y = some z) (h : LeftIs x y z r) (k : LeftIs y x z s) : s = r := by
  obtain ⟨x1, z1, hc, hr⟩ := h
  obtain ⟨y1, z2, kc, ks⟩ := k
  cases hb : lsmall z
  · rw [hb] at hc kc
    obtain ⟨rfl, rfl⟩ := hc
    obtain ⟨rfl, rfl⟩ := kc
    rw [fma_comm hx hy, ks] at hr
    exact Option.some.inj hr
  · rw [hb] at hc kc
    obtain ⟨h1, h2⟩ := hc
    obtain ⟨k1, k2⟩ := kc
    rw [h2] at k2
    obtain rfl : z1 = z2 := Option.some.inj k2
    have hs := (lsmall_is (mul_told hz).1).1 hb
    obtain ⟨⟨E, hE, bx⟩, ⟨F, hF, bY⟩⟩ := prod_small px py hz hs
    obtain ⟨x1', f1, l1, s1, m1, u1⟩ := lift_exact bx (by omega)
    obtain ⟨y1', g1, l2, s2, m2, u2⟩ := lift_exact bY (by omega)
    rw [h1] at f1
    obtain rfl : x1 = x1' := Option.some.inj f1
    rw [k1] at g1
    obtain rfl : y1 = y1' := Option.some.inj g1
    obtain ⟨z1', f2, l3, s3, m3, u3⟩ := lift_small hs
    rw [h2] at f2
    obtain rfl : z1 = z1' := Option.some.inj f2
    obtain ⟨d, d', e1, e2, hv⟩ := prod_lift hx hy px py l1 l2 m1 m2 s1 s2 u1 u2
    obtain ⟨K, W, e3, _, _⟩ := read_fin z1 m3
    unfold Format.fma at hr ks
    rw [e1, e3] at hr
    rw [e2, e3] at ks
    simp only [Option.bind_some] at hr ks
    rw [sum_val hv, ks] at hr
    exact Option.some.inj hr
end Go.Proofs.Ytmcnhgakaodafaa.Fl

namespace Go.Proofs.Ytmcnhgakaodafaa.Fl
open Go.RowKit Ieee
/-- What the statement's 'turned' asks. -/
def TurnOk (d u e v : Nat) : Prop := (9218868437227405312 < mg d ∧ 9218868437227405312 < mg u ∧ 9218868437227405312 < mg e ∧ 9218868437227405312 < mg v) ∨
  (mg d ≤ 9218868437227405312 ∧ mg u ≤ 9218868437227405312 ∧ mg e ≤ 9218868437227405312 ∧ mg v ≤ 9218868437227405312 ∧ key d = - key v ∧ key u = - key e)
/-- What the statement's 'same' asks of two floats. -/
def SamOk (a c : Nat) : Prop := a = c ∨ (9218868437227405312 < mg a ∧ 9218868437227405312 < mg c)
theorem opp_key {x y : Nat} (h : Opp x y) : key x = - key y := by
  obtain ⟨h1, h2, _⟩ := h
  unfold key
  rw [h1]
  rcases h2 with h | h
  · rw [h]; cases ng x <;> simp
  · rw [h]; simp
theorem opp_sym {x y : Nat} (h : Opp x y) : Opp y x := by
  obtain ⟨h1, h2, h3⟩ := h
  refine ⟨h1.symm, ?_, by omega⟩
  rcases h2 with h | h
  · left; rw [h]; simp
  · right; omega
theorem opp_zero : Opp 0 0 := ⟨rfl, .inr (by decide), by decide⟩
theorem opp_both {x y : Nat} (hx : x < 18446744073709551616) (hy : y < 18446744073709551616) (h : Opp x y) : Opp (ngf x) (ngf y) := by
  obtain ⟨h1, h2, h3⟩ := h
  refine ⟨by rw [(ngf_is hx).1, (ngf_is hy).1, h1], ?_, by rw [(ngf_is hx).1]; exact h3⟩
  rw [(ngf_is hx).2, (ngf_is hy).2, (ngf_is hx).1]
  rcases h2 with h | h
  · left; rw [h]
  · right; exact h
theorem pl_ngf {x : Nat} (h : x < 18446744073709551616) : Pl (ngf x) ↔ Pl x := by unfold Pl; rw [(ngf_is h).1]
theorem eq_of {x y : Nat} (hx : x < 18446744073709551616) (hy : y < 18446744073709551616) (h1 : mg x = mg y) (h2 : ng x = ng y) : x = y := by
  rw [← word_of x hx, ← word_of y hy, h1, h2]
theorem turn_two {r r' : Nat} (h : Opp r r') : TurnOk r r r' r' := by
  have := h.1
  have := h.2.2
  exact .inr ⟨by omega, by omega, by omega, by omega, opp_key h, opp_key h⟩
theorem near_le {r l : Nat} (hm : mg r ≤ 9218868437227405312) : near r l + 1 ≤ 9218868437227405312 := by
  unfold near
  split
  · omega
  · split <;> omega
/-- Own answers of opposite signs, and what they have lost: all turns round. -/
theorem lohi_turn {r r' l l' : Nat} (hr : mg r' = mg r) (hs : ng r' = !ng r) (hm : mg r ≤ 9218868437227405312) (hl : mg r < 9218868437227405312 → mg r ≠ 0 → Opp l l') : TurnOk (lo r l) (hi r l) (lo r' l') (hi r' l') := by
  have hor : Opp r r' := ⟨hr, .inl hs, hm⟩
  have hex : exactly r l = exactly r' l' := by
    unfold exactly
    rw [hr]
    by_cases h : 0 < mg r ∧ mg r < 9218868437227405312
    · rw [decide_eq_true h, Bool.true_and, Bool.true_and]
      have a := eq_zero l
      have b := eq_zero l'
      rw [(hl h.2 (by omega)).1] at b
      exact a.trans b.symm
    · rw [decide_eq_false h]; rfl
  cases hb : exactly r l
  · have hnear : near r l = near r' l' := by
      unfold near
      rw [hr]
      by_cases h0 : mg r = 0
      · rw [if_pos h0, if_pos h0]
      · rw [if_neg h0, if_neg h0]
        by_cases h1 : mg r < 9218868437227405312
        · have ho := hl h1 h0
          have hl0 : mg l ≠ 0 := fun h => by
            have a := eq_zero l
            rw [decide_eq_true h] at a
            unfold exactly at hb
            rw [decide_eq_true ⟨by omega, h1⟩, Bool.true_and] at hb
            rw [show (double.order l 0 == some .eq) = true from a] at hb
            cases hb
          have hln : ng l' = !ng l := by
            rcases ho.2.1 with h | h
            · exact h
            · exact absurd h hl0
          have g1 := gt_zero l (by omega) ho.2.2
          have g2 := gt_zero l' (by have := ho.1; omega) (by have := ho.1; have := ho.2.2; omega)
          have g3 := gt_zero r (by omega) hm
          have g4 := gt_zero r' (by omega) (by omega)
          have k1 : (double.order l 0 == some .gt) = !ng l := g1
          have k2 : (double.order l' 0 == some .gt) = !ng l' := g2
          have k3 : (double.order r 0 == some .gt) = !ng r := g3
          have k4 : (double.order r' 0 == some .gt) = !ng r' := g4
          rw [k1, k2, k3, k4, hln, hs]
          cases ng l <;> cases ng r <;> simp
        · rw [if_neg (fun h => h1 h.1), if_neg (fun h => h1 h.1)]
    have hn := near_le (l := l) hm
    unfold lo hi
    rw [← hex, hb, hs, ← hnear]
    obtain ⟨n, hnn⟩ : ∃ n, near r l = n := ⟨_, rfl⟩
    rw [hnn] at hn ⊢
    have t1 : (ng r).toNat ≤ 1 := Bool.toNat_le _
    have t2 : (!ng r).toNat ≤ 1 := Bool.toNat_le _
    simp only [Bool.false_eq_true, if_false, Bool.not_not]
    have a := word_mg (ng r) (n + (ng r).toNat) (by omega)
    have b := word_mg (ng r) (n + (!ng r).toNat) (by omega)
    have c := word_mg (!ng r) (n + (!ng r).toNat) (by omega)
    have d := word_mg (!ng r) (n + (ng r).toNat) (by omega)
    refine .inr ⟨by omega, by omega, by omega, by omega, ?_, ?_⟩
    · unfold key; rw [a.1, a.2, d.1, d.2]; cases ng r <;> simp
    · unfold key; rw [b.1, b.2, c.1, c.2]; cases ng r <;> simp
  · unfold lo hi
    rw [← hex, hb]
    exact turn_two hor
theorem two_opp {a b r r' l l' : Nat} (ha : a < 18446744073709551616) (hb : b < 18446744073709551616) (ma : mg a ≤ 9218868437227405312) (mb : mg b ≤ 9218868437227405312) (hr : Opp r r') (hf : mg r < 9218868437227405312) (h : TwoIs a b r l) (k : TwoIs (ngf a) (ngf b) r' l') : Opp l l' := by
  rcases h with ⟨h, _⟩ | ⟨_, z, y, h1, h2⟩
  · omega
  · rcases k with ⟨k, _⟩ | ⟨_, z', y', k1, k2⟩
    · have := hr.1; omega
    · rw [(ngf_is ha).1, (ngf_is hb).1] at k1
      have oa := opp_ngf ha ma
      have ob := opp_ngf hb mb
      cases ho : (FloatKind.f64.format.order (mg a) (mg b) == some .lt)
      · rw [ho] at h1 k1
        obtain ⟨e1, e2⟩ := h1
        obtain ⟨f1, f2⟩ := k1
        obtain ⟨q, g, oz⟩ := sub_opp hr oa e1
        rw [f1] at g; cases g
        obtain ⟨q, g, oy⟩ := sub_opp ob oz e2
        rw [f2] at g; cases g
        obtain ⟨q, g, ol⟩ := add_opp oy opp_zero h2
        rw [k2] at g; cases g
        exact ol
      · rw [ho] at h1 k1
        obtain ⟨e1, e2⟩ := h1
        obtain ⟨f1, f2⟩ := k1
        obtain ⟨q, g, oz⟩ := sub_opp hr ob e1
        rw [f1] at g; cases g
        obtain ⟨q, g, oy⟩ := sub_opp oa oz e2
        rw [f2] at g; cases g
        obtain ⟨q, g, ol⟩ := add_opp oy opp_zero h2
        rw [k2] at g; cases g
        exact ol
theorem add_none {x y : Nat} (h : 9218868437227405312 < mg x ∨ 9218868437227405312 < mg y) : double.add x y = none := by
  unfold Format.add
  rcases h with h | h
  · rw [read_nan x h]; rfl
  · rw [read_nan y h]; cases double.read x <;> rfl
theorem add_both {a b : Nat} (ha : a < 18446744073709551616) (hb : b < 18446744073709551616) : (double.add a b = none ∧ double.add (ngf a) (ngf b) = none) ∨ ∃ r r', double.add a b = some r ∧ double.add (ngf a) (ngf b) = some r' ∧ Opp r r' ∧ mg a ≤ 9218868437227405312 ∧ mg b ≤ 9218868437227405312 := by
  by_cases h : mg a ≤ 9218868437227405312 ∧ mg b ≤ 9218868437227405312
  · have oa := opp_ngf ha h.1
    have ob := opp_ngf hb h.2
    cases e : double.add a b with
    | some r =>
      right
      obtain ⟨r', e', o⟩ := add_opp oa ob e
      exact ⟨r, r', rfl, e', o, h⟩
    | none =>
      left
      refine ⟨rfl, ?_⟩
      cases e' : double.add (ngf a) (ngf b) with
      | none => rfl
      | some r' =>
        obtain ⟨r, e2, _⟩ := add_opp (opp_sym oa) (opp_sym ob) e'
        rw [e] at e2; cases e2
  · left
    have hn : 9218868437227405312 < mg a ∨ 9218868437227405312 < mg b := by omega
    exact ⟨add_none hn, add_none (by rw [(ngf_is ha).1, (ngf_is hb).1]; exact hn)⟩
theorem nan_all {op : BinOp} {a b : Nat} (h : floatBits op .f64 a b = none) (w : World) : 9218868437227405312 < mg (fop op a b w) := by rw [(fop_none h w).1]; exact (nanw_is w a b).1
/-- Add with both signs turned. -/
theorem add_turn {a b d u e v : Nat} {w w' : World} (ha : a < 18446744073709551616) (hb : b < 18446744073709551616) (h : AddIs a b (fop .add a b w) d u) (k : AddIs (ngf a) (ngf b) (fop .add (ngf a) (ngf b) w') e v) : TurnOk d u e v := by
  rcases add_both ha hb with ⟨n1, n2⟩ | ⟨r, r', e1, e2, ho, ma, mb⟩
  · have m1 := nan_all (op := .add) n1 w
    have m2 := nan_all (op := .add) n2 w'
    rcases h with ⟨_, rfl, rfl⟩ | ⟨p, q, _⟩
    · rcases k with ⟨_, rfl, rfl⟩ | ⟨p, q, _⟩
      · exact .inl ⟨m1, m1, m2, m2⟩
      · obtain ⟨r, hr⟩ := add_fin p.2 q.2; rw [hr] at n2; cases n2
    · obtain ⟨r, hr⟩ := add_fin p.2 q.2; rw [hr] at n1; cases n1
  · rw [(add_fop e1 w).1] at h
    rw [(add_fop e2 w').1] at k
    rcases h with ⟨c, rfl, rfl⟩ | ⟨p, q, m, l, hl, rfl, rfl⟩
    · rcases k with ⟨_, rfl, rfl⟩ | ⟨p, q, m, _⟩
      · exact turn_two ho
      · rw [pl_ngf ha] at p
        rw [pl_ngf hb] at q
        rcases c with c | c
        · exact absurd ⟨p, q⟩ c
        · exact absurd (ho.1.trans c) m
    · rcases k with ⟨c, rfl, rfl⟩ | ⟨p', q', m', l', hl', rfl, rfl⟩
      · rcases c with c | c
        · exact absurd ⟨(pl_ngf ha).2 p, (pl_ngf hb).2 q⟩ c
        · exact absurd (ho.1.symm.trans c) m
      · have hs : ng r' = !ng r := by
          rcases ho.2.1 with h | h
          · exact h
          · exact absurd h m
        exact lohi_turn ho.1 hs ho.2.2 (fun hf _ => two_opp ha hb ma mb ho hf hl hl')
/-- Mul with the first sign turned. -/
theorem mul_turn {a b d u e v : Nat} {w w' : World} (ha : a < 18446744073709551616) (_hb : b < 18446744073709551616) (h : OpIs a b (fop .mul a b w) (MulLost a b (fop .mul a b w)) d u) (k : OpIs (ngf a) b (fop .mul (ngf a) b w') (MulLost (ngf a) b (fop .mul (ngf a) b w')) e v) : TurnOk d u e v := by
  have hmn := mul_ngf ha b
  cases hm : double.mul a b with
  | none =>
    rw [hm] at hmn
    have m1 := nan_all (op := .mul) hm w
    have m2 := nan_all (op := .mul) (a := ngf a) (b := b) hmn w'
    rcases h with ⟨_, rfl, rfl⟩ | ⟨p, q, _⟩
    · rcases k with ⟨_, rfl, rfl⟩ | ⟨p, q, _⟩
      · exact .inl ⟨m1, m1, m2, m2⟩
      · obtain ⟨r, hr⟩ := mul_fin p.2 q.2; rw [hmn] at hr; cases hr
    · obtain ⟨r, hr⟩ := mul_fin p.2 q.2; rw [hr] at hm; cases hm
  | some r =>
    rw [hm] at hmn
    have hr := mul_told hm
    have f1 := (fop_some (op := .mul) hm w).1
    have f2 : fop .mul (ngf a) b w' = ngf r := (fop_some (op := .mul) hmn w').1
    rw [f1] at h
    rw [f2] at k
    have ho := opp_ngf hr.2 hr.1
    rcases h with ⟨c, rfl, rfl⟩ | ⟨p, q, l, ⟨i, rfl, hi⟩, rfl, rfl⟩
    · rcases k with ⟨_, rfl, rfl⟩ | ⟨p, q, _⟩
      · exact turn_two ho
      · rw [pl_ngf ha] at p; exact absurd ⟨p, q⟩ c
    · rcases k with ⟨c, _⟩ | ⟨p', q', l', ⟨j, rfl, hj⟩, rfl, rfl⟩
      · exact absurd ⟨(pl_ngf ha).2 p, q⟩ c
      · refine lohi_turn ho.1 (ngf_is hr.2).2 hr.1 (fun hf _ => ?_)
        obtain ⟨x, hx, _, hx2⟩ := leftIs_ex ha (Nat.le_of_lt p.2) q hf
        obtain ⟨y, hy, hxy⟩ := leftIs_opp ha hr.2 hr.1 hx
        rw [hi _ hx, hj _ hy]
        have hy2 : y < 18446744073709551616 := by obtain ⟨_, _, _, h⟩ := hy; exact (fma_told h).2
        exact opp_both hx2 hy2 hxy
/-- Quo with the second sign turned. -/
theorem quo_turn {a b d u e v : Nat} {w w' : World} (_ha : a < 18446744073709551616) (hb : b < 18446744073709551616) (h : OpIs a b (fop .quo a b w) (QuoLost a b (fop .quo a b w)) d u) (k : OpIs a (ngf b) (fop .quo a (ngf b) w') (QuoLost a (ngf b) (fop .quo a (ngf b) w')) e v) : TurnOk d u e v := by
  have hmn := div_ngf a hb
  cases hm : double.div a b with
  | none =>
    rw [hm] at hmn
    have m1 := nan_all (op := .quo) hm w
    have m2 := nan_all (op := .quo) (a := a) (b := ngf b) hmn w'
    rcases h with ⟨_, rfl, rfl⟩ | ⟨p, q, _⟩
    · rcases k with ⟨_, rfl, rfl⟩ | ⟨p, q, _⟩
      · exact .inl ⟨m1, m1, m2, m2⟩
      · obtain ⟨r, hr⟩ := div_fin p.2 q.2 q.1; rw [hmn] at hr; cases hr
    · obtain ⟨r, hr⟩ := div_fin p.2 q.2 q.1; rw [hr] at hm; cases hm
  | some r =>
    rw [hm] at hmn
    have hr := div_told hm
    have f1 := (fop_some (op := .quo) hm w).1
    have f2 : fop .quo a (ngf b) w' = ngf r := (fop_some (op := .quo) hmn w').1
    rw [f1] at h
    rw [f2] at k
    have ho := opp_ngf hr.2 hr.1
    rcases h with ⟨c, rfl, rfl⟩ | ⟨p, q, l, ⟨i, rfl, hi⟩, rfl, rfl⟩
    · rcases k with ⟨_, rfl, rfl⟩ | ⟨p, q, _⟩
      · exact turn_two ho
      · rw [pl_ngf hb] at q; exact absurd ⟨p, q⟩ c
    · rcases k with ⟨c, _⟩ | ⟨p', q', l', ⟨j, rfl, hj⟩, rfl, rfl⟩
      · exact absurd ⟨p, (pl_ngf hb).2 q⟩ c
      · refine lohi_turn ho.1 (ngf_is hr.2).2 hr.1 (fun hf _ => ?_)
        obtain ⟨x, hx, hx1, hx2⟩ := leftIs_ex hr.2 hr.1 q p.2
        have hy := leftIs_turn hr.2 hb hx
        rw [hi _ hx, hj _ hy, (ngf_is hb).2]
        cases ng b
        · exact opp_ngf hx2 hx1
        · exact opp_sym (opp_ngf hx2 hx1)
theorem two_one {a b r l l' : Nat} (h : TwoIs a b r l) (k : TwoIs a b r l') : l = l' := by
  rcases h with ⟨h, rfl⟩ | ⟨h, z, y, h1, h2⟩
  · rcases k with ⟨_, rfl⟩ | ⟨k, _⟩
    · rfl
    · omega
  · rcases k with ⟨k, _⟩ | ⟨k, z', y', k1, k2⟩
    · omega
    · cases ho : (FloatKind.f64.format.order (mg a) (mg b) == some .lt)
      · rw [ho] at h1 k1
        obtain ⟨e1, e2⟩ := h1
        obtain ⟨f1, f2⟩ := k1
        rw [e1] at f1; cases f1
        rw [e2] at f2; cases f2
        rw [h2] at k2; exact Option.some.inj k2
      · rw [ho] at h1 k1
        obtain ⟨e1, e2⟩ := h1
        obtain ⟨f1, f2⟩ := k1
        rw [e1] at f1; cases f1
        rw [e2] at f2; cases f2
        rw [h2] at k2; exact Option.some.inj k2
theorem mg_order {a b : Nat} (ha : mg a ≤ 9218868437227405312) (hb : mg b ≤ 9218868437227405312) : (FloatKind.f64.format.order (mg a) (mg b) == some .lt) = decide (mg a < mg b) := by
  rw [ord_lt]
  have e1 : mg (mg a) = mg a := Nat.mod_eq_of_lt (by omega)
  have e2 : mg (mg b) = mg b := Nat.mod_eq_of_lt (by omega)
  have n1 : ng (mg a) = false := by unfold ng; rw [Nat.div_eq_of_lt (by omega)]; rfl
  have n2 : ng (mg b) = false := by unfold ng; rw [Nat.div_eq_of_lt (by omega)]; rfl
  unfold key
  rw [e1, e2, n1, n2]
  simp only [Bool.false_eq_true, if_false]
  exact decide_eq_decide.2 ⟨fun h => by have := h.2.2; omega, fun h => ⟨ha, hb, by omega⟩⟩
theorem add_self_opp {a r : Nat} (ha : a < 18446744073709551616) (hm : mg a < 9218868437227405312) (h : double.add a (ngf a) = some r) : mg r = 0 := by
  obtain ⟨M, P, e1, _, _⟩ := read_fin a hm
  unfold Format.add at h
  rw [read_ngf' ha, e1] at h
  have hT : signed (ng a) M (P - min P P).toNat + signed (!ng a) M (P - min P P).toNat = 0 := by
    rw [signed_opp (.inl rfl)]; omega
  simp only [Datum.opposite, Datum.sum, Option.map_some, hT] at h
  cases h
  show mg (double.nearest _ 0 _) = 0
  unfold Format.nearest
  rw [if_pos rfl]
  exact (word_mg _ 0 (by omega)).1
theorem two_comm {a b r l l' : Nat} (ha : a < 18446744073709551616) (hb : b < 18446744073709551616) (pa : Pl a) (pb : Pl b) (hr : double.add a b = some r) (h0 : mg r ≠ 0) (h : TwoIs a b r l) (k : TwoIs b a r l') : l = l' := by
  by_cases hab : mg a = mg b
  · by_cases hn : ng a = ng b
    · have := eq_of ha hb hab hn
      subst this
      exact two_one h k
    · exfalso
      have hba : b = ngf a := by
        refine eq_of hb (ngf_lt ha) ?_ ?_
        · rw [(ngf_is ha).1, hab]
        · rw [(ngf_is ha).2]; cases h1 : ng a <;> cases h2 : ng b <;> simp_all
      rw [hba] at hr
      exact h0 (add_self_opp ha pa.2 hr)
  · rcases h with ⟨h, rfl⟩ | ⟨h, z, y, h1, h2⟩
    · rcases k with ⟨_, rfl⟩ | ⟨k, _⟩
      · rfl
      · omega
    · rcases k with ⟨k, _⟩ | ⟨k, z', y', k1, k2⟩
      · omega
      · rw [mg_order (Nat.le_of_lt pa.2) (Nat.le_of_lt pb.2)] at h1
        rw [mg_order (Nat.le_of_lt pb.2) (Nat.le_of_lt pa.2)] at k1
        rcases Nat.lt_or_gt_of_ne hab with g | g
        · rw [decide_eq_true g] at h1
          rw [decide_eq_false (by omega)] at k1
          obtain ⟨e1, e2⟩ := h1
          obtain ⟨f1, f2⟩ := k1
          rw [e1] at f1; cases f1
          rw [e2] at f2; cases f2
          rw [h2] at k2; exact Option.some.inj k2
        · rw [decide_eq_false (by omega)] at h1
          rw [decide_eq_true g] at k1
          obtain ⟨e1, e2⟩ := h1
          obtain ⟨f1, f2⟩ := k1
          rw [e1] at f1; cases f1
          rw [e2] at f2; cases f2
          rw [h2] at k2; exact Option.some.inj k2
theorem add_same {a b d u e v : Nat} {w w' : World} (h : AddIs a b (fop .add a b w) d u) (k : AddIs a b (fop .add a b w') e v) : SamOk d e ∧ SamOk u v := by
  cases hm : double.add a b with
  | none =>
    have m1 := nan_all (op := .add) hm w
    have m2 := nan_all (op := .add) hm w'
    rcases h with ⟨_, rfl, rfl⟩ | ⟨p, q, _⟩
    · rcases k with ⟨_, rfl, rfl⟩ | ⟨p, q, _⟩
      · exact ⟨.inr ⟨m1, m2⟩, .inr ⟨m1, m2⟩⟩
      · obtain ⟨r, hr⟩ := add_fin p.2 q.2; rw [hr] at hm; cases hm
    · obtain ⟨r, hr⟩ := add_fin p.2 q.2; rw [hr] at hm; cases hm
  | some r =>
    rw [(add_fop hm w).1] at h
    rw [(add_fop hm w').1] at k
    rcases h with ⟨c, rfl, rfl⟩ | ⟨p, q, m, l, hl, rfl, rfl⟩
    · rcases k with ⟨_, rfl, rfl⟩ | ⟨p, q, m, _⟩
      · exact ⟨.inl rfl, .inl rfl⟩
      · rcases c with c | c
        · exact absurd ⟨p, q⟩ c
        · exact absurd c m
    · rcases k with ⟨c, rfl, rfl⟩ | ⟨p', q', m', l', hl', rfl, rfl⟩
      · rcases c with c | c
        · exact absurd ⟨p, q⟩ c
        · exact absurd c m
      · rw [two_one hl hl']; exact ⟨.inl rfl, .inl rfl⟩
theorem add_swap {a b d u e v : Nat} {w w' : World} (ha : a < 18446744073709551616) (hb : b < 18446744073709551616) (h : AddIs a b (fop .add a b w) d u) (k : AddIs b a (fop .add b a w') e v) : SamOk d e ∧ SamOk u v := by
  have hc := add_comm' a b
  cases hm : double.add a b with
  | none =>
    rw [hm] at hc
    have m1 := nan_all (op := .add) hm w
    have m2 := nan_all (op := .add) (a := b) (b := a) hc.symm w'
    rcases h with ⟨_, rfl, rfl⟩ | ⟨p, q, _⟩
    · rcases k with ⟨_, rfl, rfl⟩ | ⟨p, q, _⟩
      · exact ⟨.inr ⟨m1, m2⟩, .inr ⟨m1, m2⟩⟩
      · obtain ⟨r, hr⟩ := add_fin p.2 q.2; rw [hr] at hc; cases hc
    · obtain ⟨r, hr⟩ := add_fin p.2 q.2; rw [hr] at hm; cases hm
  | some r =>
    rw [hm] at hc
    rw [(add_fop hm w).1] at h
    rw [(add_fop hc.symm w').1] at k
    rcases h with ⟨c, rfl, rfl⟩ | ⟨p, q, m, l, hl, rfl, rfl⟩
    · rcases k with ⟨_, rfl, rfl⟩ | ⟨p, q, m, _⟩
      · exact ⟨.inl rfl, .inl rfl⟩
      · rcases c with c | c
        · exact absurd ⟨q, p⟩ c
        · exact absurd c m
    · rcases k with ⟨c, rfl, rfl⟩ | ⟨p', q', m', l', hl', rfl, rfl⟩
      · rcases c with c | c
        · exact absurd ⟨q, p⟩ c
        · exact absurd c m
      · rw [two_comm ha hb p q hm m hl hl']; exact ⟨.inl rfl, .inl rfl⟩
theorem lohi_beyond {r : Nat} (h : mg r = 9218868437227405312) (l l' : Nat) : lo r l = lo r l' ∧ hi r l = hi r l' := by
  have e1 : ∀ x, exactly r x = false := fun x => by unfold exactly; rw [decide_eq_false (by omega)]; rfl
  have e2 : near r l = near r l' := by unfold near; rw [if_neg (by omega), if_neg (by omega), if_neg (by omega), if_neg (by omega)]
  unfold lo hi
  rw [e1, e1, e2]; exact ⟨rfl, rfl⟩
theorem mul_swap {a b d u e v : Nat} {w w' : World} (ha : a < 18446744073709551616) (hb : b < 18446744073709551616) (h : OpIs a b (fop .mul a b w) (MulLost a b (fop .mul a b w)) d u) (k : OpIs b a (fop .mul b a w') (MulLost b a (fop .mul b a w')) e v) : SamOk d e ∧ SamOk u v := by
  have hc := mul_comm' a b
  cases hm : double.mul a b with
  | none =>
    rw [hm] at hc
    have m1 := nan_all (op := .mul) hm w
    have m2 := nan_all (op := .mul) (a := b) (b := a) hc.symm w'
    rcases h with ⟨_, rfl, rfl⟩ | ⟨p, q, _⟩
    · rcases k with ⟨_, rfl, rfl⟩ | ⟨p, q, _⟩
      · exact ⟨.inr ⟨m1, m2⟩, .inr ⟨m1, m2⟩⟩
      · obtain ⟨r, hr⟩ := mul_fin p.2 q.2; rw [hr] at hc; cases hc
    · obtain ⟨r, hr⟩ := mul_fin p.2 q.2; rw [hr] at hm; cases hm
  | some r =>
    rw [hm] at hc
    have hr := mul_told hm
    rw [(fop_some (op := .mul) hm w).1] at h
    rw [show fop .mul b a w' = r from (fop_some (op := .mul) hc.symm w').1] at k
    rcases h with ⟨c, rfl, rfl⟩ | ⟨p, q, l, ⟨i, rfl, hi⟩, rfl, rfl⟩
    · rcases k with ⟨_, rfl, rfl⟩ | ⟨p, q, _⟩
      · exact ⟨.inl rfl, .inl rfl⟩
      · exact absurd ⟨q, p⟩ c
    · rcases k with ⟨c, _⟩ | ⟨p', q', l', ⟨j, rfl, hj⟩, rfl, rfl⟩
      · exact absurd ⟨q, p⟩ c
      · rcases Nat.lt_or_eq_of_le hr.1 with g | g
        · obtain ⟨x, hx, _⟩ := leftIs_ex ha (Nat.le_of_lt p.2) q g
          obtain ⟨y, hy, _⟩ := leftIs_ex hb (Nat.le_of_lt q.2) p g
          rw [hi _ hx, hj _ hy, leftIs_comm ha hb p q hm hx hy]
          exact ⟨.inl rfl, .inl rfl⟩
        · have := lohi_beyond g (ngf i) (ngf j)
          exact ⟨.inl this.1, .inl this.2⟩
end Go.Proofs.Ytmcnhgakaodafaa.Fl

namespace Go.Proofs.Ytmcnhgakaodafaa.Fl
open Ieee
/-- R is the rung nearest to n units; between two the even one. -/
def Nr (n R : Nat) : Prop := 2 * n ≤ uval R + uval (R + 1) ∧ (2 * n = uval R + uval (R + 1) → R % 2 = 0) ∧ ∀ Q, R = Q + 1 → uval Q + uval R ≤ 2 * n ∧ (uval Q + uval R = 2 * n → R % 2 = 0)
theorem nr_of {m : Nat} {p : Int} {R n A : Nat} (h : NearR m p R) (hA : (A : Int) = p + 1074) (hn : m * 2 ^ A = n) : Nr n R := by
  have k := h A 0 (by omega)
  rw [hn, Nat.pow_zero, Nat.mul_one] at k
  refine ⟨k.1, k.2.1, fun Q hQ => ?_⟩
  have k2 := k.2.2 Q hQ
  rw [Nat.mul_one] at k2
  exact k2
theorem nr_near {n R : Nat} (h : Nr n R) : NearR n (-1074) R := by
  intro A B hab
  obtain rfl : A = B := by omega
  have hA := Nat.two_pow_pos A
  have e : 2 * (n * 2 ^ A) = 2 * n * 2 ^ A := by rw [Nat.mul_assoc]
  rw [e]
  refine ⟨Nat.mul_le_mul_right _ h.1, fun g => h.2.1 (Nat.eq_of_mul_eq_mul_right hA g), fun Q hQ => ?_⟩
  have k := h.2.2 Q hQ
  exact ⟨Nat.mul_le_mul_right _ k.1, fun g => k.2 (Nat.eq_of_mul_eq_mul_right hA g)⟩
theorem nr_unique {n R S : Nat} (h : Nr n R) (k : Nr n S) : R = S := nearR_unique (nr_near h) (nr_near k)
theorem nr_exact (R : Nat) : Nr (uval R) R := by
  have s := uval_step R
  refine ⟨by omega, fun h => by omega, fun Q hQ => ?_⟩
  subst hQ
  have t := uval_step Q
  exact ⟨by omega, fun h => by omega⟩
theorem nr_mono {n m R S : Nat} (h : Nr n R) (k : Nr m S) (hle : n ≤ m) : R ≤ S := nearR_mono (nr_near h) (nr_near k) 0 0 0 0 (by omega) (by omega) (by simpa using hle)
theorem uval_le {m n : Nat} (h : m ≤ n) : uval m ≤ uval n := by
  rcases Nat.lt_or_eq_of_le h with g | g
  · exact Nat.le_of_lt (uval_lt g)
  · rw [g]; exact Nat.le_refl _
/-- No float is nearer. -/
theorem nr_best {n R : Nat} (h : Nr n R) (Q : Nat) : ((n : Int) - uval R).natAbs ≤ ((n : Int) - uval Q).natAbs := by
  rcases Nat.lt_trichotomy Q R with g | g | g
  · obtain ⟨P, rfl⟩ : ∃ P, R = P + 1 := ⟨R - 1, by omega⟩
    have h1 := (h.2.2 P rfl).1
    have h2 := uval_le (show Q ≤ P by omega)
    have h3 := uval_step P
    omega
  · rw [g]; exact Nat.le_refl _
  · have h1 := h.1
    have h2 := uval_le (show R + 1 ≤ Q by omega)
    have h3 := uval_step R
    omega
/-- A float's size (of whatever exponent). -/
def Rep (n : Nat) : Prop := ∃ R, uval R = n
theorem rep_of {k e : Nat} (h : k < 9007199254740992) : Rep (k * 2 ^ e) := uval_surj e k h
theorem rep_zero : Rep 0 := ⟨0, uval_small (by omega)⟩
theorem rep_form {n : Nat} (h : Rep n) : ∃ e k, k < 9007199254740992 ∧ n = k * 2 ^ e ∧ (e = 0 ∨ 4503599627370496 ≤ k) := by
  obtain ⟨R, rfl⟩ := h
  unfold uval
  by_cases h : R < 4503599627370496
  · exact ⟨0, R, by omega, by rw [if_pos h]; simp, .inl rfl⟩
  · exact ⟨R / 4503599627370496 - 1, 4503599627370496 + R % 4503599627370496, by omega, by rw [if_neg h], .inr (by omega)⟩
theorem nr_rep {n R : Nat} (h : Nr n R) (k : Rep n) : uval R = n := by
  obtain ⟨S, rfl⟩ := k
  rw [nr_unique h (nr_exact S)]
theorem form_le {kx ex ky ey : Nat} (hx : kx < 9007199254740992) (hy : ey = 0 ∨ 4503599627370496 ≤ ky) (h : ky * 2 ^ ey ≤ kx * 2 ^ ex) (_h0 : 0 < kx) : ey ≤ ex := by
  rcases Nat.lt_or_ge ex ey with g | g
  · exfalso
    have hk : 4503599627370496 ≤ ky := by omega
    have h1 : kx * 2 ^ ex < 9007199254740992 * 2 ^ ex := Nat.mul_lt_mul_of_pos_right hx (Nat.two_pow_pos _)
    have h2 : 4503599627370496 * 2 ^ ey ≤ ky * 2 ^ ey := Nat.mul_le_mul_right _ hk
    have h3 : 2 ^ (ex + 1) ≤ 2 ^ ey := Nat.pow_le_pow_right (by omega) g
    rw [Nat.pow_succ] at h3
    omega
  · exact g
theorem sterbenz {X Y : Nat} (hX : Rep X) (hY : Rep Y) (h1 : Y ≤ X) (h2 : X ≤ 2 * Y) : Rep (X - Y) := by
  obtain ⟨ex, kx, bx, rfl, _⟩ := rep_form hX
  obtain ⟨ey, ky, bY, rfl, cy⟩ := rep_form hY
  rcases Nat.eq_zero_or_pos kx with h0 | h0
  · subst h0; simpa using rep_zero
  · have he := form_le bx cy h1 h0
    obtain ⟨d, rfl⟩ : ∃ d, ex = ey + d := ⟨ex - ey, by omega⟩
    have e1 : kx * 2 ^ (ey + d) = kx * 2 ^ d * 2 ^ ey := by rw [Nat.pow_add, Nat.mul_comm (2 ^ ey), Nat.mul_assoc]
    rw [e1] at h1 h2 ⊢
    rw [← Nat.sub_mul]
    refine rep_of ?_
    have hp := Nat.two_pow_pos ey
    have h3 : kx * 2 ^ d ≤ 2 * ky := by
      refine Nat.le_of_mul_le_mul_right ?_ hp
      rw [Nat.mul_assoc 2]; exact h2
    omega
/-- Both floats that a fast sum needs, where the greater one is above nought. -/
theorem fast_two {A : Nat} {B : Int} {R : Nat} (hA : Rep A) (hB : Rep B.natAbs) (hle : B.natAbs ≤ A) (h : Nr (A + B).natAbs R) : Rep ((uval R : Int) - A).natAbs ∧ Rep ((A : Int) + B - uval R).natAbs ∧ ((A : Int) + B - uval R).natAbs ≤ B.natAbs := by
  obtain ⟨a, ha⟩ := hA
  obtain ⟨S, hS⟩ : ∃ S : Nat, (A : Int) + B = S := ⟨(A + B).toNat, by omega⟩
  rw [hS] at h ⊢
  rw [Int.natAbs_natCast] at h
  have hbest : ((S : Int) - uval R).natAbs ≤ B.natAbs := by
    have := nr_best h a
    rw [ha] at this
    omega
  refine ⟨?_, ?_, hbest⟩
  · rcases Int.lt_or_le B 0 with hb | hb
    · by_cases h2 : A < 2 * B.natAbs
      · have hr : Rep S := by
          have := sterbenz ⟨a, ha⟩ hB hle (by omega)
          rw [show A - B.natAbs = S by omega] at this
          exact this
        rw [nr_rep h hr]
        rw [show ((S : Int) - A).natAbs = B.natAbs by omega]; exact hB
      · have hRA : uval R ≤ A := by
          have := nr_mono h (by rw [← ha]; exact nr_exact a : Nr A a) (by omega)
          rw [← ha]; exact uval_le this
        have hAR : A ≤ 2 * uval R := by
          by_cases h53 : S < 9007199254740992
          · have hr : Rep S := by simpa using rep_of (e := 0) h53
            rw [nr_rep h hr]; omega
          · obtain ⟨e, k, hk, hke, hc⟩ := rep_form (⟨a, ha⟩ : Rep A)
            obtain ⟨f, rfl⟩ : ∃ f, e = f + 1 := by
              rcases e with _ | f
              · exfalso; simp at hke; omega
              · exact ⟨f, rfl⟩
            obtain ⟨T, hT⟩ := uval_surj f k hk
            have h3 : 2 * uval T = A := by
              have e9 : k * 2 ^ (f + 1) = k * 2 ^ f * 2 := by rw [Nat.pow_succ, Nat.mul_assoc]
              rw [hT, hke, e9]; omega
            have := uval_le (nr_mono (nr_exact T) h (by omega))
            omega
        have := sterbenz ⟨a, ha⟩ ⟨R, rfl⟩ hRA hAR
        rw [show ((uval R : Int) - A).natAbs = A - uval R by omega]; exact this
    · have hAR : A ≤ uval R := by
        have := nr_mono (by rw [← ha]; exact nr_exact a : Nr A a) h (by omega)
        rw [← ha]; exact uval_le this
      have hR2 : uval R ≤ 2 * A := by
        obtain ⟨e, k, hk, hke, hc⟩ := rep_form (⟨a, ha⟩ : Rep A)
        obtain ⟨T, hT⟩ := uval_surj (e + 1) k hk
        have h3 : uval T = 2 * A := by
          have e9 : k * 2 ^ (e + 1) = k * 2 ^ e * 2 := by rw [Nat.pow_succ, Nat.mul_assoc]
          rw [hT, hke, e9]; omega
        have := uval_le (nr_mono h (nr_exact T) (by omega))
        omega
      have := sterbenz ⟨R, rfl⟩ ⟨a, ha⟩ hAR hR2
      rw [show ((uval R : Int) - A).natAbs = uval R - A by omega]; exact this
  · obtain ⟨ea, ka, bka, hka, ca⟩ := rep_form (⟨a, ha⟩ : Rep A)
    obtain ⟨eb, kb, bkb, hkb, cb⟩ := rep_form hB
    rcases Nat.eq_zero_or_pos A with h0 | h0
    · have : S = 0 := by omega
      subst this
      rw [nr_rep h rep_zero]; simpa using rep_zero
    · have hka0 : 0 < ka := by
        rcases Nat.eq_zero_or_pos ka with h | h
        · subst h; simp at hka; omega
        · exact h
      have hee := form_le bka cb (by rw [← hka, ← hkb]; exact hle) hka0
      obtain ⟨d, rfl⟩ : ∃ d, ea = eb + d := ⟨ea - eb, by omega⟩
      have hp := Nat.two_pow_pos eb
      have e1 : A = ka * 2 ^ d * 2 ^ eb := by rw [hka, Nat.pow_add, Nat.mul_comm (2 ^ eb), Nat.mul_assoc]
      obtain ⟨m, hm⟩ : ∃ m, S = m * 2 ^ eb := by
        rcases Int.lt_or_le B 0 with hb | hb
        · exact ⟨ka * 2 ^ d - kb, by rw [Nat.sub_mul, ← e1, ← hkb]; omega⟩
        · exact ⟨ka * 2 ^ d + kb, by rw [Nat.add_mul, ← e1, ← hkb]; omega⟩
      by_cases h53 : m < 9007199254740992
      · rw [nr_rep h (by rw [hm]; exact rep_of h53)]; simpa using rep_zero
      · have hlow : 9007199254740992 * 2 ^ eb ≤ uval R := by
          obtain ⟨T, hT⟩ := uval_surj (eb + 1) 4503599627370496 (by omega)
          have h3 : uval T = 9007199254740992 * 2 ^ eb := by rw [hT, Nat.pow_succ]; omega
          have h4 : 9007199254740992 * 2 ^ eb ≤ S := by rw [hm]; exact Nat.mul_le_mul_right _ (by omega)
          have := uval_le (nr_mono (nr_exact T) h (by omega))
          omega
        obtain ⟨er, kr, bkr, hkr, cr⟩ := rep_form (⟨R, rfl⟩ : Rep (uval R))
        have her : eb ≤ er := by
          rcases Nat.lt_or_ge er eb with g | g
          · exfalso
            have h1 : kr * 2 ^ er < 9007199254740992 * 2 ^ er := Nat.mul_lt_mul_of_pos_right bkr (Nat.two_pow_pos _)
            have h2 : 2 ^ er ≤ 2 ^ eb := Nat.pow_le_pow_right (by omega) (by omega)
            omega
          · exact g
        obtain ⟨f, rfl⟩ : ∃ f, er = eb + f := ⟨er - eb, by omega⟩
        have e2 : uval R = kr * 2 ^ f * 2 ^ eb := by rw [hkr, Nat.pow_add, Nat.mul_comm (2 ^ eb), Nat.mul_assoc]
        rw [hkb] at hbest
        rw [hm, e2] at hbest ⊢
        have e3 : (((m * 2 ^ eb : Nat) : Int) - ((kr * 2 ^ f * 2 ^ eb : Nat) : Int)).natAbs = ((m : Int) - (kr * 2 ^ f : Nat)).natAbs * 2 ^ eb := by
          rw [Int.natCast_mul m, Int.natCast_mul (kr * 2 ^ f), ← Int.sub_mul, Int.natAbs_mul, Int.natAbs_natCast]
        rw [e3] at hbest ⊢
        refine rep_of ?_
        have := Nat.le_of_mul_le_mul_right hbest hp
        omega
end Go.Proofs.Ytmcnhgakaodafaa.Fl

namespace Go.Proofs.Ytmcnhgakaodafaa.Fl
open Ieee
theorem sval_ngf {x : Nat} (h : x < 18446744073709551616) : sval (ngf x) = - sval x := by
  unfold sval; rw [(ngf_is h).1, (ngf_is h).2]; cases ng x <;> simp
theorem sval_abs (x : Nat) : (sval x).natAbs = uval (mg x) := by unfold sval; cases ng x <;> simp
theorem sval_rep (x : Nat) : Rep (sval x).natAbs := ⟨mg x, (sval_abs x).symm⟩
theorem uval_zero : uval 0 = 0 := uval_small (by omega)
theorem sval_zero {x : Nat} : sval x = 0 ↔ mg x = 0 := by
  have h := sval_abs x
  constructor
  · intro e; rw [e] at h
    rcases Nat.eq_zero_or_pos (mg x) with g | g
    · exact g
    · have := uval_pos g; simp at h; omega
  · intro e; rw [e, uval_zero] at h; omega
theorem sval_of {x : Nat} {S : Int} (h : uval (mg x) = S.natAbs) (hs : S ≠ 0 → ng x = decide (S < 0)) : sval x = S := by
  unfold sval
  rw [h]
  by_cases h0 : S = 0
  · subst h0; simp
  · rw [hs h0]
    by_cases h1 : S < 0
    · rw [decide_eq_true h1]; simp; omega
    · rw [decide_eq_false h1]; simp; omega
/-- The sum of two finite floats: the nearest float. -/
theorem add_nr {x y r : Nat} (hx : mg x < 9218868437227405312) (hy : mg y < 9218868437227405312) (h : double.add x y = some r) : ∃ R, mg r = min R 9218868437227405312 ∧ Nr (sval x + sval y).natAbs R ∧ (sval x + sval y ≠ 0 → ng r = decide (sval x + sval y < 0)) ∧ r < 18446744073709551616 := by
  obtain ⟨M, P, e1, p1, v1⟩ := read_fin x hx
  obtain ⟨N, Q, e2, p2, v2⟩ := read_fin y hy
  have hl := (add_told h).2
  unfold Format.add at h
  rw [e1, e2] at h
  cases h
  obtain ⟨T, hT⟩ : ∃ T, signed (ng x) M (P - min P Q).toNat + signed (ng y) N (Q - min P Q).toNat = T := ⟨_, rfl⟩
  have hS : T * (2 ^ (min P Q + 1074).toNat : Nat) = sval x + sval y := by
    rw [← hT, Int.add_mul, signed_sval v1 (Int.min_le_left P Q) (by omega), signed_sval v2 (Int.min_le_right P Q) (by omega)]
  have hp : (0 : Int) < (2 ^ (min P Q + 1074).toNat : Nat) := Int.natCast_pos.2 (Nat.two_pow_pos _)
  obtain ⟨sg, hsg⟩ : ∃ sg, (if T = 0 then ng x && ng y else decide (T < 0)) = sg := ⟨_, rfl⟩
  obtain ⟨R, e, hR⟩ := near_spec sg T.natAbs (min P Q)
  have hw : double.write (.number (if signed (ng x) M (P - min P Q).toNat + signed (ng y) N (Q - min P Q).toNat = 0 then ng x && ng y else decide (signed (ng x) M (P - min P Q).toNat + signed (ng y) N (Q - min P Q).toNat < 0)) (signed (ng x) M (P - min P Q).toNat + signed (ng y) N (Q - min P Q).toNat).natAbs (min P Q)) = double.word sg (min R 9218868437227405312) := by
    rw [hT, hsg]; exact e
  have hmw := word_mg sg (min R 9218868437227405312) (by omega)
  refine ⟨R, ?_, ?_, ?_, hl⟩
  · exact (congrArg mg hw).trans hmw.1
  · refine nr_of hR (A := (min P Q + 1074).toNat) (by omega) ?_
    rw [← hS, Int.natAbs_mul, Int.natAbs_natCast]
  · intro hne
    refine (congrArg ng hw).trans (hmw.2.trans ?_)
    have hT0 : T ≠ 0 := fun h => hne (by rw [← hS, h, Int.zero_mul])
    rw [← hsg, if_neg hT0]
    refine decide_eq_decide.2 ?_
    rw [← hS]
    constructor
    · intro h; exact Int.mul_neg_of_neg_of_pos h hp
    · intro h
      rcases Int.lt_or_le T 0 with g | g
      · exact g
      · have := Int.mul_nonneg g (Int.le_of_lt hp); omega
theorem sub_nr {x y r : Nat} (hx : mg x < 9218868437227405312) (hy : mg y < 9218868437227405312) (hyl : y < 18446744073709551616) (h : double.sub x y = some r) : ∃ R, mg r = min R 9218868437227405312 ∧ Nr (sval x - sval y).natAbs R ∧ (sval x - sval y ≠ 0 → ng r = decide (sval x - sval y < 0)) ∧ r < 18446744073709551616 := by
  have e : double.sub x y = double.add x (ngf y) := by unfold Format.sub Format.add; rw [read_ngf' hyl]
  rw [e] at h
  have k := add_nr hx (by rw [(ngf_is hyl).1]; exact hy) h
  rw [sval_ngf hyl] at k
  exact k
/-- Where the exact result is a float, it is told. -/
theorem nr_told {S : Int} {r R : Nat} (hm : mg r = min R 9218868437227405312) (hn : Nr S.natAbs R) (hs : S ≠ 0 → ng r = decide (S < 0)) (hrep : Rep S.natAbs) (hlt : S.natAbs < uval 9218868437227405312) : mg r < 9218868437227405312 ∧ sval r = S := by
  have hu := nr_rep hn hrep
  have hR : R < 9218868437227405312 := by rw [← (uval_cmp R 9218868437227405312).1, hu]; exact hlt
  have hmr : mg r = R := by omega
  exact ⟨by omega, sval_of (by rw [hmr]; exact hu) hs⟩
theorem uval_fin {m : Nat} (h : m < 9218868437227405312) : uval m < uval 9218868437227405312 := uval_lt h
/-- What Two tells, the greater one above nought. -/
theorem two_pos {a b r l : Nat} (ha : a < 18446744073709551616) (_hb : b < 18446744073709551616) (fa : mg a < 9218868437227405312) (fb : mg b < 9218868437227405312) (hab : mg b ≤ mg a) (sa : ng a = false) (hr : double.add a b = some r) (fr : mg r < 9218868437227405312) {z y : Nat}
    (h1 : double.sub r a = some z) (h2 : double.sub b z = some y) (h3 : double.add y 0 = some l) : mg l < 9218868437227405312 ∧ sval l = sval a + sval b - sval r := by
  obtain ⟨R, e1, e2, e3, hrl⟩ := add_nr fa fb hr
  have hrR : mg r = R := by omega
  subst hrR
  have hva : sval a = uval (mg a) := by unfold sval; rw [sa]; rfl
  have hB := sval_abs b
  have hle := uval_le hab
  rw [hva] at e2 e3
  have hfast := fast_two (A := uval (mg a)) (B := sval b) ⟨mg a, rfl⟩ (sval_rep b) (by rw [hB]; exact hle) e2
  have hsr : sval r = uval (mg r) := by
    by_cases h0 : (uval (mg a) : Int) + sval b = 0
    · rw [h0] at e2
      have hz : uval (mg r) = 0 := nr_rep e2 rep_zero
      have := sval_abs r
      rw [hz] at this ⊢
      omega
    · have h := e3 h0
      rw [decide_eq_false (by omega)] at h
      unfold sval; rw [h]; rfl
  have ia := uval_fin fa
  have ib := uval_fin fb
  have ir := uval_fin fr
  obtain ⟨Z, f1, f2, f3, hzl⟩ := sub_nr fr fa ha h1
  rw [hsr, hva] at f2 f3
  obtain ⟨fz, vz⟩ := nr_told f1 f2 f3 hfast.1 (by omega)
  obtain ⟨Y, g1, g2, g3, hyl⟩ := sub_nr fb fz hzl h2
  rw [vz] at g2 g3
  have hd : sval b - ((uval (mg r) : Int) - uval (mg a)) = (uval (mg a) : Int) + sval b - uval (mg r) := by omega
  rw [hd] at g2 g3
  obtain ⟨fy, vy⟩ := nr_told g1 g2 g3 hfast.2.1 (by omega)
  obtain ⟨L, k1, k2, k3, _⟩ := add_nr fy (show mg 0 < _ by decide) h3
  have hs0 : sval 0 = 0 := sval_zero.2 (by decide)
  rw [hs0, vy, Int.add_zero] at k2 k3
  obtain ⟨fl, vl⟩ := nr_told k1 k2 k3 hfast.2.1 (by omega)
  exact ⟨fl, by rw [vl, hva, hsr]⟩
/-- What Two tells is exact: either may be the greater one, of whatever sign. -/
theorem two_half {a b r l : Nat} (ha : a < 18446744073709551616) (hb : b < 18446744073709551616) (fa : mg a < 9218868437227405312) (fb : mg b < 9218868437227405312) (hab : mg b ≤ mg a) (hr : double.add a b = some r) (fr : mg r < 9218868437227405312) {z y : Nat}
    (h1 : double.sub r a = some z) (h2 : double.sub b z = some y) (h3 : double.add y 0 = some l) : mg l < 9218868437227405312 ∧ sval l = sval a + sval b - sval r := by
  cases sa : ng a
  · exact two_pos ha hb fa fb hab sa hr fr h1 h2 h3
  · have oa := opp_ngf ha (Nat.le_of_lt fa)
    have ob := opp_ngf hb (Nat.le_of_lt fb)
    obtain ⟨r', hr', or⟩ := add_opp oa ob hr
    obtain ⟨z', h1', oz⟩ := sub_opp or oa h1
    obtain ⟨y', h2', oy⟩ := sub_opp ob oz h2
    obtain ⟨l', h3', ol⟩ := add_opp oy opp_zero h3
    have hsv : ∀ {x x' : Nat}, Opp x x' → sval x' = - sval x := fun {x x'} h => by
      unfold sval
      rw [h.1]
      rcases h.2.1 with g | g
      · rw [g]; cases ng x <;> simp
      · rw [g, uval_zero]; simp
    have k := two_pos (ngf_lt ha) (ngf_lt hb) (by rw [(ngf_is ha).1]; exact fa) (by rw [(ngf_is hb).1]; exact fb) (by rw [(ngf_is ha).1, (ngf_is hb).1]; exact hab) (by rw [(ngf_is ha).2, sa]; rfl) hr' (by rw [or.1]; exact fr) h1' h2' h3'
    rw [ol.1, hsv ol, hsv or, sval_ngf ha, sval_ngf hb] at k
    exact ⟨k.1, by omega⟩
theorem two_exact {a b r l : Nat} (ha : a < 18446744073709551616) (hb : b < 18446744073709551616) (hr : double.add a b = some r) (fr : mg r < 9218868437227405312) (h : TwoIs a b r l) : mg l < 9218868437227405312 ∧ sval l = sval a + sval b - sval r := by
  obtain ⟨fa, fb⟩ := sum_fin hr fr
  rcases h with ⟨h, _⟩ | ⟨_, z, y, h1, h2⟩
  · omega
  · rw [mg_order (Nat.le_of_lt fa) (Nat.le_of_lt fb)] at h1
    by_cases hlt : mg a < mg b
    · rw [decide_eq_true hlt] at h1
      obtain ⟨e1, e2⟩ := h1
      have k := two_half hb ha fb fa (Nat.le_of_lt hlt) (by rw [add_comm']; exact hr) fr e1 e2 h2
      exact ⟨k.1, by rw [k.2]; omega⟩
    · rw [decide_eq_false hlt] at h1
      obtain ⟨e1, e2⟩ := h1
      exact two_half ha hb fa fb (by omega) hr fr e1 e2 h2
end Go.Proofs.Ytmcnhgakaodafaa.Fl

namespace Go.Proofs.Ytmcnhgakaodafaa.Fl
open Go.RowKit Ieee
end Go.Proofs.Ytmcnhgakaodafaa.Fl

namespace Go.Proofs.Ytmcnhgakaodafaa.Fl
open Go.RowKit Ieee
theorem pl_1 : Pl 4607182418800017408 := by unfold Pl; decide
theorem pl_3 : Pl 4613937818241073152 := by unfold Pl; decide
theorem pl_4 : Pl 4616189618054758400 := by unfold Pl; decide
theorem div_13 : double.div 4607182418800017408 4613937818241073152 = some 4599676419421066581 := by decide +kernel
theorem left_13 : LeftIs 4599676419421066581 4613937818241073152 4607182418800017408 4363988038922010624 := ⟨4599676419421066581, 4607182418800017408, by rw [show lsmall 4607182418800017408 = false by decide +kernel]; exact ⟨rfl, rfl⟩, by decide +kernel⟩
theorem lohi_13 : lo 4599676419421066581 4363988038922010624 = 4599676419421066581 ∧ hi 4599676419421066581 4363988038922010624 = 4599676419421066582 := by decide +kernel
theorem add_1 : double.add 4607182418800017408 4363988038922010624 = some 4607182418800017408 := by decide +kernel
theorem two_1 {l : Nat} (h : TwoIs 4607182418800017408 4363988038922010624 4607182418800017408 l) : l = 4363988038922010624 := by
  rcases h with ⟨h, _⟩ | ⟨_, z, y, h, h3⟩
  · exact absurd h (by decide)
  · rw [show (FloatKind.f64.format.order (mg 4607182418800017408) (mg 4363988038922010624) == some .lt) = false by decide +kernel] at h
    obtain ⟨h1, h2⟩ := h
    have e1 : double.sub 4607182418800017408 4607182418800017408 = some 0 := by decide +kernel
    rw [e1] at h1; cases h1
    have e2 : double.sub 4363988038922010624 0 = some 4363988038922010624 := by decide +kernel
    rw [e2] at h2; cases h2
    have e3 : double.add 4363988038922010624 0 = some 4363988038922010624 := by decide +kernel
    rw [e3] at h3; cases h3; rfl
theorem sqrt_4 : double.sqrt 4616189618054758400 = some 4611686018427387904 := by decide +kernel
theorem left_4 : LeftIs 4611686018427387904 4611686018427387904 4616189618054758400 0 := ⟨4611686018427387904, 4616189618054758400, by rw [show lsmall 4616189618054758400 = false by decide +kernel]; exact ⟨rfl, rfl⟩, by decide +kernel⟩
theorem lohi_4 : lo 4611686018427387904 0 = 4611686018427387904 ∧ hi 4611686018427387904 0 = 4611686018427387904 := by decide +kernel
set_option maxHeartbeats 1000000 in
theorem alive_any (w : World) : Calls Try.prog 6 #[] w fun e w' => e = .returned (.bool true) ∧ Below w.heap.size w w' := by
  have HQ : Hid (∀ W, Calls Try.prog 15 #[.float .f64 4607182418800017408, .float .f64 4613937818241073152] W fun e w' => e = .returned (.tuple #[.float .f64 4599676419421066581, .float .f64 4599676419421066582]) ∧ Below W.heap.size W w') := Lib.hid fun W =>
    (quo_any _ _ W (by decide) (by decide)).mono fun e w' ⟨d, u, he, hb, h⟩ => by
      rw [(fop_some (op := .quo) div_13 W).1] at h
      rcases h with ⟨h, _⟩ | ⟨_, _, l, ⟨k, hk, hk2⟩, hd, hu⟩
      · exact absurd ⟨pl_1, pl_3⟩ h
      · have := hk2 _ left_13
        subst this
        rw [show ng 4613937818241073152 = false by decide] at hk
        simp only [Bool.false_eq_true, if_false] at hk
        subst hk
        rw [he, hd, hu, lohi_13.1, lohi_13.2]; exact ⟨rfl, hb⟩
  have HT : Hid (∀ W, Calls Try.prog 4 #[.float .f64 4607182418800017408, .float .f64 4363988038922010624] W fun e w' => e = .returned (.tuple #[.float .f64 4607182418800017408, .float .f64 4363988038922010624]) ∧ Below W.heap.size W w') := Lib.hid fun W =>
    (two_any _ _ W (by decide) (by decide)).mono fun e w' ⟨l, he, hb, h⟩ => by
      rw [(add_fop add_1 W).1] at h he
      rw [he, two_1 h, hb]; exact ⟨rfl, below_dn (below_self _ _) _⟩
  have HS : Hid (∀ W, Calls Try.prog 16 #[.float .f64 4616189618054758400] W fun e w' => e = .returned (.tuple #[.float .f64 4611686018427387904, .float .f64 4611686018427387904]) ∧ Below W.heap.size W w') := Lib.hid fun W =>
    (sqrtd_any _ W (by decide)).mono fun e w' ⟨d, u, he, hb, h⟩ => by
      have e1 : sqw 4616189618054758400 W = 4611686018427387904 := by unfold sqw; rw [sqrt_4]; rfl
      rw [e1] at h
      rcases h with ⟨h, _⟩ | ⟨_, _, l, hl, hd, hu⟩
      · exact absurd ⟨pl_4, by decide⟩ h
      · have := hl _ left_4
        subst this
        rw [he, hd, hu, lohi_4.1, lohi_4.2]; exact ⟨rfl, hb⟩
  have hfb := run_bits
  have o1 : (FloatKind.f64.format.order 4607182418800017408 4607182418800017408 == some .eq) = true := by decide +kernel
  have o2 : (FloatKind.f64.format.order 4363988038922010624 4363988038922010624 == some .eq) = true := by decide +kernel
  have o3 : (FloatKind.f64.format.order 4611686018427387904 4611686018427387904 == some .eq) = true := by decide +kernel
  go_enter Try.func6, Try.ntmps6
  go_wp2_with fail
  refine (HQ.out _).mono ?_
  rintro e w1 ⟨rfl, hb1⟩
  go_wp2_with fail
  refine (HT.out _).mono ?_
  rintro e w2 ⟨rfl, hb2⟩
  go_wp2_with fail
  refine (HS.out _).mono ?_
  rintro e w3 ⟨rfl, hb3⟩
  have hb : Below w.heap.size w w3 := (hb1.trans (hb2.mono hb1.size)).trans (hb3.mono (Nat.le_trans hb1.size hb2.size))
  clear hb1 hb2 hb3
  go_wp2
  go_ret
  exact ⟨rfl, hb⟩
end Go.Proofs.Ytmcnhgakaodafaa.Fl

namespace Go.Proofs.Ytmcnhgakaodafaa.Fl
open Go.RowKit Ieee
set_option maxHeartbeats 1000000 in
theorem sameFloat_any (a c : Nat) (w : World) (h : SamOk a c) : Calls Try.prog 7 #[.float .f64 a, .float .f64 c] w fun x w' => x = .returned (.bool true) ∧ w' = w := by
  have hfb := run_bits
  rcases h with rfl | ⟨h1, h2⟩
  · go_enter Try.func7, Try.ntmps7
    go_wp2
    go_ret; exact ⟨rfl, rfl⟩
  · have HA := Lib.hid (fun W => isNaN_any a W)
    have HC := Lib.hid (fun W => isNaN_any c W)
    rw [decide_eq_true h1] at HA
    rw [decide_eq_true h2] at HC
    clear h1 h2
    by_cases hac : a = c
    · subst hac
      go_enter Try.func7, Try.ntmps7
      go_wp2
      go_ret; exact ⟨rfl, rfl⟩
    · have hne : ((a : Int) == (c : Int)) = false := beq_false_of_ne (by omega)
      clear hac
      go_enter Try.func7, Try.ntmps7
      go_wp2_with (go_at_call 8; first | (with_reducible refine (HA.out _).mono ?_; rintro e w' ⟨rfl, rfl⟩) | (with_reducible refine (HC.out _).mono ?_; rintro e w' ⟨rfl, rfl⟩))
      go_ret; exact ⟨rfl, rfl⟩
end Go.Proofs.Ytmcnhgakaodafaa.Fl
