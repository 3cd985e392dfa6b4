/-
  Floats with signs turned: sums, products, quotients and what is left of them turn with their operands; sums and products do not hang on the order. No conditions.
-/
import Derived.Test.YtghcoijinihlnaaNr1
import Derived.Test.YtghcoijinihlnaaBes
namespace Go.Proofs.Ytghcoijinihlnaa.Fl
open Ieee
/-- Of two data each is the other one with the other sign (noughts by their worth). -/
def OppD : Datum → Datum → Prop
  | .number s m i, .number t n j => m = n ∧ i = j ∧ (t = !s ∨ m = 0)
  | .infinity s, .infinity t => t = !s
  | _, _ => False
theorem signed_opp {s t : Bool} {m : Nat} (h : t = !s ∨ m = 0) (k : Nat) : signed t m k = - signed s m k := by
  unfold signed
  rcases h with rfl | rfl
  · cases s <;> simp
  · simp
theorem sum_opp {a a' b b' d : Datum} (h : OppD a a') (k : OppD b b') (hs : a.sum b = some d) : ∃ d', a'.sum b' = some d' ∧ OppD d d' := by
  cases a with
  | nan => cases a' <;> exact h.elim
  | infinity s =>
    cases a' with
    | infinity s' =>
      obtain rfl : s' = !s := h
      cases b with
      | nan => cases b' <;> exact k.elim
      | infinity t =>
        cases b' with
        | infinity t' =>
          obtain rfl : t' = !t := k
          simp only [Datum.sum] at hs ⊢
          by_cases e : s = t
          · subst e; rw [if_pos rfl] at hs ⊢; cases hs; exact ⟨_, rfl, rfl⟩
          · rw [if_neg e] at hs; cases hs
        | number => exact k.elim
        | nan => exact k.elim
      | number t n j =>
        cases b' with
        | number t' n' j' => cases hs; exact ⟨_, rfl, rfl⟩
        | infinity => exact k.elim
        | nan => exact k.elim
    | number => exact h.elim
    | nan => exact h.elim
  | number s m i =>
    cases a' with
    | infinity => exact h.elim
    | nan => exact h.elim
    | number s' m' i' =>
      obtain ⟨rfl, rfl, h⟩ := h
      cases b with
      | nan => cases b' <;> exact k.elim
      | infinity t =>
        cases b' with
        | infinity t' => obtain rfl : t' = !t := k; cases hs; exact ⟨_, rfl, rfl⟩
        | number => exact k.elim
        | nan => exact k.elim
      | number t n j =>
        cases b' with
        | infinity => exact k.elim
        | nan => exact k.elim
        | number t' n' j' =>
          obtain ⟨rfl, rfl, k⟩ := k
          simp only [Datum.sum] at hs ⊢
          cases hs
          refine ⟨_, rfl, ?_⟩
          rw [signed_opp h, signed_opp k]
          obtain ⟨T, hT⟩ : ∃ T, signed s m (i - min i j).toNat + signed t n (j - min i j).toNat = T := ⟨_, rfl⟩
          rw [hT, show -signed s m (i - min i j).toNat + -signed t n (j - min i j).toNat = -T by omega]
          refine ⟨by rw [Int.natAbs_neg], rfl, ?_⟩
          by_cases e : T = 0
          · right; rw [e]; rfl
          · left
            rw [if_neg e, if_neg (by omega)]
            rcases Int.lt_or_lt_of_ne e with g | g
            · rw [decide_eq_true (p := T < 0) g, decide_eq_false (p := -T < 0) (by omega)]; rfl
            · rw [decide_eq_false (p := T < 0) (by omega), decide_eq_true (p := -T < 0) (by omega)]; rfl
theorem opp_self {d : Datum} (h : Told d) : OppD d d.opposite := by
  cases d with
  | number => exact ⟨rfl, rfl, .inl rfl⟩
  | infinity => rfl
  | nan => exact h.elim
theorem oppD_opp {a b : Datum} (h : OppD a b) : OppD a.opposite b.opposite := by
  cases a <;> cases b <;> simp only [OppD, Datum.opposite] at h ⊢ <;> first | (exact h.elim; done) | skip
  · exact ⟨h.1, h.2.1, by rcases h.2.2 with rfl | h; exact .inl rfl; exact .inr h⟩
  · rw [h]
theorem opp_opp (d : Datum) : d.opposite.opposite = d := by cases d <;> simp [Datum.opposite]
theorem xor_not (s t : Bool) : ((!s) ^^ t) = !(s ^^ t) := by cases s <;> cases t <;> rfl
theorem xor_not' (s t : Bool) : (s ^^ !t) = !(s ^^ t) := by cases s <;> cases t <;> rfl
theorem product_opp (a b : Datum) : a.opposite.product b = (a.product b).map Datum.opposite := by
  cases a <;> cases b <;> simp only [Datum.product, Datum.opposite, Option.map_none, Option.map_some, xor_not] <;> first | rfl | (split <;> simp [Datum.opposite])
theorem product_comm (a b : Datum) : a.product b = b.product a := by
  cases a <;> cases b <;> simp only [Datum.product] <;> first | rfl | (rw [Bool.xor_comm]; done) | (rw [Bool.xor_comm, Nat.mul_comm, Int.add_comm]) | (split <;> simp [Bool.xor_comm])
theorem quotient_opp (n : Nat) (a b : Datum) : a.quotient n b.opposite = (a.quotient n b).map Datum.opposite := by
  cases a <;> cases b <;> simp only [Datum.quotient, Datum.opposite, Option.map_none, Option.map_some, xor_not'] <;> first | rfl | (split <;> first | rfl | (split <;> simp [Datum.opposite]) | simp [Datum.opposite])
theorem sum_comm (a b : Datum) : a.sum b = b.sum a := by
  cases a <;> cases b <;> simp only [Datum.sum] <;> try rfl
  · rename_i s m i t n j
    rw [Int.min_comm, Int.add_comm]
    by_cases e : signed t n (j - min j i).toNat + signed s m (i - min j i).toNat = 0
    · rw [if_pos e, if_pos e, Bool.and_comm]
    · rw [if_neg e, if_neg e]
  · rename_i s t
    by_cases e : s = t
    · subst e; rfl
    · rw [if_neg e, if_neg (fun h => e h.symm)]
theorem ngf_word (s : Bool) (k : Nat) (h : k < 9223372036854775808) : ngf (double.word s k) = double.word (!s) k := by
  have hl := word_lt64 s k h
  have hn := ngf_is hl
  have hw := word_mg s k h
  have := word_of _ (ngf_lt hl)
  rw [hn.1, hn.2, hw.1, hw.2] at this
  exact this.symm
theorem write_opp {d : Datum} (h : Told d) : double.write d.opposite = ngf (double.write d) := by
  cases d with
  | nan => exact h.elim
  | infinity s => show double.word (!s) double.infRung = ngf (double.word s double.infRung); rw [d_inf, ngf_word s _ (by omega)]
  | number s m p =>
    obtain ⟨R, hR, e⟩ := nearest_sign s m p
    show double.nearest (!s) m p = ngf (double.nearest s m p)
    rw [e, e, ngf_word s _ (by omega)]
/-- Of two floats each is the other one with the other sign (noughts by their worth); none is a NaN. -/
def Opp (x y : Nat) : Prop := mg y = mg x ∧ (ng y = !ng x ∨ mg x = 0) ∧ mg x ≤ 9218868437227405312
theorem write_oppD {d e : Datum} (h : OppD d e) : Opp (double.write d) (double.write e) := by
  cases d <;> cases e <;> simp only [OppD] at h <;> first | (exact h.elim; done) | skip
  · rename_i s m i t n j
    obtain ⟨rfl, rfl, h⟩ := h
    obtain ⟨R, hR, e⟩ := nearest_sign s m i
    show Opp (double.nearest s m i) (double.nearest t m i)
    rw [e, e]
    have a := word_mg s R (by omega)
    have b := word_mg t R (by omega)
    refine ⟨by rw [a.1, b.1], ?_, by rw [a.1]; exact hR⟩
    rcases h with rfl | rfl
    · left; rw [a.2, b.2]
    · right
      have := e s
      simp [Format.nearest] at this
      have := congrArg mg this
      rw [(word_mg s 0 (by omega)).1, a.1] at this
      rw [a.1]; exact this.symm
  · rename_i s t
    subst h
    have a := word_mg s 9218868437227405312 (by omega)
    have b := word_mg (!s) 9218868437227405312 (by omega)
    show Opp (double.word s double.infRung) (double.word (!s) double.infRung)
    rw [d_inf]
    exact ⟨by rw [a.1, b.1], .inl (by rw [a.2, b.2]), by rw [a.1]; exact Nat.le_refl _⟩
/-- A word's datum hangs on its sign and its size. -/
def rd (s : Bool) (m : Nat) : Datum := if m < 4503599627370496 then .number s m (-1074) else if m < 9218868437227405312 then .number s (4503599627370496 + m % 4503599627370496) (-1074 + (m / 4503599627370496 - 1 : Nat)) else if m = 9218868437227405312 then .infinity s else .nan s (m - 9218868437227405312)
theorem read_rd (x : Nat) : double.read x = rd (ng x) (mg x) := by
  unfold Format.read
  rw [d_binade, d_inf, d_sw, d_lp]
  rfl
theorem rd_told {s : Bool} {m : Nat} (h : m ≤ 9218868437227405312) : Told (rd s m) := by
  unfold rd
  split
  · trivial
  · split
    · trivial
    · rw [if_pos (by omega)]; trivial
theorem read_opp {x y : Nat} (h : Opp x y) : OppD (double.read x) (double.read y) := by
  obtain ⟨h1, h2, h3⟩ := h
  rw [read_rd, read_rd, h1]
  unfold rd
  split
  · refine ⟨rfl, rfl, ?_⟩
    rcases h2 with h | h
    · exact .inl h
    · exact .inr h
  · have h4 : ng y = !ng x := by
      rcases h2 with h | h
      · exact h
      · omega
    split
    · exact ⟨rfl, rfl, .inl h4⟩
    · rw [if_pos (by omega), if_pos (by omega)]; exact h4
theorem opp_ngf {x : Nat} (h : x < 18446744073709551616) (h2 : mg x ≤ 9218868437227405312) : Opp x (ngf x) := ⟨(ngf_is h).1, .inl (ngf_is h).2, h2⟩
theorem ngf_ngf {x : Nat} (_h : x < 18446744073709551616) : ngf (ngf x) = x := by
  unfold ngf; rw [Nat.xor_assoc, Nat.xor_self, Nat.xor_zero]
theorem read_ngf' {y : Nat} (hy : y < 18446744073709551616) : double.read (ngf y) = (double.read y).opposite := by
  rw [read_rd, read_rd, (ngf_is hy).1, (ngf_is hy).2]
  unfold rd
  split
  · rfl
  · split
    · rfl
    · split <;> rfl
theorem add_comm' (x y : Nat) : double.add x y = double.add y x := by unfold Format.add; rw [sum_comm]
theorem mul_comm' (x y : Nat) : double.mul x y = double.mul y x := by unfold Format.mul; rw [product_comm]
theorem add_opp {x y x' y' r : Nat} (h : Opp x x') (k : Opp y y') (hr : double.add x y = some r) : ∃ r', double.add x' y' = some r' ∧ Opp r r' := by
  unfold Format.add at hr ⊢
  cases hd : (double.read x).sum (double.read y) with
  | none => rw [hd] at hr; cases hr
  | some d =>
    rw [hd] at hr; cases hr
    obtain ⟨d', e, ho⟩ := sum_opp (read_opp h) (read_opp k) hd
    rw [e]; exact ⟨_, rfl, write_oppD ho⟩
theorem sub_opp {x y x' y' r : Nat} (h : Opp x x') (k : Opp y y') (hr : double.sub x y = some r) : ∃ r', double.sub x' y' = some r' ∧ Opp r r' := by
  unfold Format.sub at hr ⊢
  cases hd : (double.read x).sum (double.read y).opposite with
  | none => rw [hd] at hr; cases hr
  | some d =>
    rw [hd] at hr; cases hr
    obtain ⟨d', e, ho⟩ := sum_opp (read_opp h) (oppD_opp (read_opp k)) hd
    rw [e]; exact ⟨_, rfl, write_oppD ho⟩
theorem map_opp {o : Option Datum} (h : ∀ d, o = some d → Told d) : (o.map Datum.opposite).map double.write = (o.map double.write).map ngf := by
  cases o with
  | none => rfl
  | some d => simp only [Option.map_some]; rw [write_opp (h d rfl)]
theorem mul_ngf {x : Nat} (hx : x < 18446744073709551616) (y : Nat) : double.mul (ngf x) y = (double.mul x y).map ngf := by
  unfold Format.mul
  rw [read_ngf' hx, product_opp]
  exact map_opp (fun _ => product_told)
theorem div_ngf (x : Nat) {y : Nat} (hy : y < 18446744073709551616) : double.div x (ngf y) = (double.div x y).map ngf := by
  unfold Format.div
  rw [read_ngf' hy, quotient_opp]
  exact map_opp (fun _ => quotient_told)
/-- x y + z with both x and z turned. -/
theorem fma_opp {x y z z' r : Nat} (hx : x < 18446744073709551616) (hz : Opp z z') (hr : double.fma x y z = some r) : ∃ r', double.fma (ngf x) y z' = some r' ∧ Opp r r' := by
  unfold Format.fma at hr ⊢
  rw [read_ngf' hx, product_opp]
  cases hp : (double.read x).product (double.read y) with
  | none => rw [hp] at hr; cases hr
  | some p =>
    rw [hp] at hr
    simp only [Option.bind_some, Option.map_some] at hr ⊢
    cases hd : p.sum (double.read z) with
    | none => rw [hd] at hr; cases hr
    | some d =>
      rw [hd] at hr; cases hr
      obtain ⟨d', e, ho⟩ := sum_opp (opp_self (product_told hp)) (read_opp hz) hd
      rw [e]; exact ⟨_, rfl, write_oppD ho⟩
theorem fma_turn {x y : Nat} (hx : x < 18446744073709551616) (hy : y < 18446744073709551616) (z : Nat) : double.fma (ngf x) (ngf y) z = double.fma x y z := by
  unfold Format.fma
  rw [read_ngf' hx, read_ngf' hy, product_opp, product_comm, product_opp, product_comm]
  cases (double.read x).product (double.read y) with
  | none => rfl
  | some p => simp only [Option.map_some, Option.bind_some, opp_opp]
end Go.Proofs.Ytghcoijinihlnaa.Fl
