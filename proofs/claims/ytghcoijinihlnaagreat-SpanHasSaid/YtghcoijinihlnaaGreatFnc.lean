/-
 The floats on both sides of a fraction; what round.Frac returns. Conditions: that the fraction is no longer than memory.
-/
import Derived.Test.YtghcoijinihlnaaGreatFnf
import Derived.Test.YtghcoijinihlnaaGreatFrd
import Derived.Deep.RegionHeld3
import Derived.Deep.DeepCutAuto
import Derived.BigRegion
namespace Go.Proofs.YtghcoijinihlnaaGreat
open Go.RowKit Nb Fl Ieee
theorem tw_pos (k : Nat) : 0 < tw k := Nat.two_pow_pos k
theorem q_un (q : Rat) : un (q.num * (tw 1074 : Int)) q.den = q := by
 have h1 := two_ne 1074
 have h2 : ((q.den : Int) : Rat) ≠ 0 := by
  intro e
  have h : (q.den : Int) = 0 := by exact_mod_cast e
  have := q.den_pos
  omega
 have h3 := rat_whole q
 unfold un
 rw [Rat.intCast_mul]
 generalize ((tw 1074 : Int) : Rat) = T at *
 generalize ((q.den : Int) : Rat) = E at *
 generalize ((q.num : Int) : Rat) = M at *
 grind
theorem q_num (q : Rat) : q.num * (tw 1074 : Int) = if decide (q.num < 0) then -((q.num.natAbs * tw 1074 : Nat) : Int) else ((q.num.natAbs * tw 1074 : Nat) : Int) := by
 rw [Int.natCast_mul]
 by_cases h : q.num < 0
 ·rw [decide_eq_true h, if_pos rfl, show ((q.num.natAbs : Nat) : Int) = -q.num by omega, Int.neg_mul, Int.neg_neg]
 ·rw [decide_eq_false h, if_neg (by simp), show ((q.num.natAbs : Nat) : Int) = q.num by omega]
theorem fo_zero : floatOfInt .f64 0 = 0 := by decide +kernel
theorem fo_one : floatOfInt .f64 1 = 4607182418800017408 := by decide +kernel
theorem fo_neg : floatOfInt .f64 (-1) = 13830554455654793216 := by decide +kernel
theorem lost_eq {c : Int} (h : c = -1 ∨ c = 0 ∨ c = 1) : (double.order (floatOfInt .f64 c) 0 == some .eq) = decide (c = 0) ∧ (double.order (floatOfInt .f64 c) 0 == some .gt) = decide (c = 1) := by
 rcases h with rfl | rfl | rfl
 ·rw [fo_neg]; decide +kernel
 ·rw [fo_zero]; decide +kernel
 ·rw [fo_one]; decide +kernel
theorem cmpQ_three (x y : Rat) : cmpQ x y = -1 ∨ cmpQ x y = 0 ∨ cmpQ x y = 1 := by
 unfold cmpQ; split
 ·exact .inl rfl
 ·split
  ·exact .inr (.inl rfl)
  ·exact .inr (.inr rfl)
/-- Which side of a float it lies on, in its units. -/
theorem cmpQ_fl (q : Rat) (own : Nat) : (cmpQ q (fl own) = 0 ↔ sval own * (q.den : Int) = q.num * (tw 1074 : Int)) ∧ (cmpQ q (fl own) = 1 ↔ sval own * (q.den : Int) < q.num * (tw 1074 : Int)) ∧ (cmpQ q (fl own) = -1 ↔ q.num * (tw 1074 : Int) < sval own * (q.den : Int)) := by
 have hD := q.den_pos
 have z := cmpQ_zero q (fl own)
 have l := cmpQ_le q (fl own)
 have t := cmpQ_three q (fl own)
 have e1 : q = fl own ↔ q.num * (tw 1074 : Int) = sval own * (q.den : Int) := by
  have h := un_eq (N := q.num * (tw 1074 : Int)) (M := sval own * (q.den : Int)) hD
  rw [q_un, ← fl_un own q.den hD] at h
  exact h
 have e2 : q ≤ fl own ↔ q.num * (tw 1074 : Int) ≤ sval own * (q.den : Int) := by
  have h := un_le (N := q.num * (tw 1074 : Int)) (M := sval own * (q.den : Int)) hD
  rw [q_un, ← fl_un own q.den hD] at h
  exact h
 rw [e1] at z
 rw [e2] at l
 generalize cmpQ q (fl own) = c at *
 generalize q.num * (tw 1074 : Int) = N at *
 generalize sval own * (q.den : Int) = M at *
 refine ⟨⟨fun h => ?_, fun h => ?_⟩, ⟨fun h => ?_, fun h => ?_⟩, ⟨fun h => ?_, fun h => ?_⟩⟩
 ·exact (z.1 h).symm
 ·exact z.2 h.symm
 ·rcases Int.lt_or_le M N with g | g
  ·exact g
  ·have := l.2 g; omega
 ·rcases t with g | g | g
  ·have := l.1 (by omega); omega
  ·have := z.1 g; omega
  ·exact g
 ·have h1 := l.1 (by omega)
  rcases Int.lt_or_eq_of_le h1 with g | g
  ·exact g
  ·have := z.2 g; omega
 ·rcases t with g | g | g
  ·exact g
  ·have := z.1 g; omega
  ·have := l.2 (by omega); omega
/-- The two sides. -/
def Sides (q : Rat) (d u : Nat) : Prop := Dn (q.num * (tw 1074 : Int)) q.den d ∧ Up (q.num * (tw 1074 : Int)) q.den u
theorem Sides.bt {q : Rat} {d u : Nat} (h : Sides q d u) : Bt q d u := by
 have := bt_of q.den_pos h.1 h.2
 rwa [q_un] at this
theorem sides_rung {q : Rat} {r o l : Nat} (sg : Bool) (hs : sg = decide (q.num < 0)) (hr : r < 9218868437227405312) (h0 : uval r * q.den < q.num.natAbs * tw 1074) (h1 : r + 1 = 9218868437227405312 ∨ q.num.natAbs * tw 1074 < uval (r + 1) * q.den)
  (hx : exactly o l = false) (ho : ng o = sg) (hn : near o l = r) : Sides q (lo o l) (hi o l) := by
 have := rungs hr h0 h1 sg (N := q.num * (tw 1074 : Int)) (by rw [hs]; exact q_num q)
 unfold lo hi
 rw [hx, ho, hn]
 simp only [Bool.false_eq_true, if_false]
 exact this
theorem far_sides {q : Rat} {o l : Nat} (hF : FarQ q.num.natAbs q.den) (_hz : q.num ≠ 0) (hm : mg o = 9218868437227405312) (hs : ng o = decide (q.num < 0)) : Sides q (lo o l) (hi o l) := by
 have hx : exactly o l = false := by unfold exactly; rw [hm, decide_eq_false (by omega)]; rfl
 have hn : near o l = 9218868437227405311 := by unfold near; rw [hm, if_neg (by omega), if_neg (fun h => absurd h.1 (by omega))]
 refine sides_rung _ rfl (r := 9218868437227405311) (by omega) ?_ (.inl rfl) hx hs hn
 have hF' : (uval 9218868437227405311 + uval 9218868437227405312) * q.den ≤ 2 * (q.num.natAbs * tw 1074) := hF
 have h : uval 9218868437227405311 < uval 9218868437227405312 := uval_step 9218868437227405311
 have h2 := Nat.mul_lt_mul_of_pos_right (show uval 9218868437227405311 + uval 9218868437227405311 < uval 9218868437227405311 + uval 9218868437227405312 by omega) q.den_pos
 rw [Nat.add_mul] at h2
 generalize uval 9218868437227405311 * q.den = A at *
 omega
theorem near_sides {q : Rat} {R o : Nat} (hz : q.num ≠ 0) (hR : R < 9218868437227405312) (hN : NrQ q.num.natAbs q.den R) (hm : mg o = R) (hs : ng o = decide (q.num < 0)) :
  Sides q (lo o (floatOfInt .f64 (cmpQ q (fl o)))) (hi o (floatOfInt .f64 (cmpQ q (fl o)))) := by
 have hD := q.den_pos
 obtain ⟨c0, c1, c2⟩ := cmpQ_fl q o
 have t := cmpQ_three q (fl o)
 have hl := lost_eq t
 have hU : 0 < q.num.natAbs * tw 1074 := Nat.mul_pos (Int.natAbs_pos.2 hz) (tw_pos 1074)
 have hq := q_num q
 rcases Nat.eq_zero_or_pos R with h0 | hp
 ·subst h0
  have hx : ∀ l, exactly o l = false := fun l => by unfold exactly; rw [hm, decide_eq_false (by omega)]; rfl
  have hn : ∀ l, near o l = 0 := fun l => by unfold near; rw [hm, if_pos rfl]
  have hh : 2 * (q.num.natAbs * tw 1074) ≤ (uval 0 + uval (0 + 1)) * q.den := hN.hi
  have u0 : uval 0 = 0 := by decide +kernel
  refine sides_rung _ rfl (r := 0) hR ?_ (.inr ?_) (hx _) hs (hn _)
  ·rw [u0, Nat.zero_mul]; exact hU
  ·rw [u0, Nat.zero_add] at hh; omega
 ·have hsv : sval o = if decide (q.num < 0) then -(uval R : Int) else uval R := by unfold sval; rw [hm, hs]
  have hor : (double.order o 0 == some .gt) = !decide (q.num < 0) := by
   have := ord_gt o 0
   rw [show (double.order o 0 == some .gt) = (FloatKind.f64.format.order o 0 == some .gt) from rfl, this]
   have h0 : key 0 = 0 := by decide
   have hk : key o = if decide (q.num < 0) then -(R : Int) else R := by unfold key; rw [hm, hs]
   rw [h0, hk, hm, show mg 0 = 0 by decide]
   by_cases hneg : q.num < 0
   ·rw [decide_eq_true hneg]; simp <;> omega
   ·rw [decide_eq_false hneg]; simp <;> omega
  have hh := hN.hi
  obtain ⟨Q, rfl⟩ : ∃ Q, R = Q + 1 := ⟨R - 1, by omega⟩
  have hlo := (hN.lo Q rfl).1
  have kU : ∀ {x : Nat}, (q.num.natAbs * tw 1074) < x → ((q.num.natAbs * tw 1074 : Nat) : Int) < (x : Int) := fun h => by omega
  rw [Nat.add_mul] at hh hlo
  have hnr : ∀ l, near o l = if (double.order l 0 == some .gt) = !decide (q.num < 0) then Q + 1 else Q := fun l => by
   unfold near
   rw [hm, if_neg (by omega), hor]
   by_cases g : (double.order l 0 == some .gt) = !decide (q.num < 0)
   ·rw [if_pos ⟨hR, g⟩, if_pos g]
   ·rw [if_neg (fun e => g e.2), if_neg g]; (try omega)
  have hsD : sval o * (q.den : Int) = if decide (q.num < 0) then -((uval (Q + 1) * q.den : Nat) : Int) else ((uval (Q + 1) * q.den : Nat) : Int) := by
   rw [hsv, Int.natCast_mul]
   by_cases hneg : q.num < 0
   ·rw [decide_eq_true hneg, if_pos rfl, if_pos rfl, Int.neg_mul]
   ·rw [decide_eq_false hneg, if_neg (by simp), if_neg (by simp)]
  by_cases hc0 : cmpQ q (fl o) = 0
  ·have he := c0.1 hc0
   have hx : (double.order (floatOfInt .f64 (cmpQ q (fl o))) 0 == some .eq) = true := by rw [hl.1, decide_eq_true hc0]
   have e := lohi_exact (own := o) (by omega) (by omega) hx
   rw [e.1, e.2]
   exact exact_dn hD (by omega) he
  ·have hx : exactly o (floatOfInt .f64 (cmpQ q (fl o))) = false := by unfold exactly; rw [hl.1, decide_eq_false hc0, Bool.and_false]
   have hn := hnr (floatOfInt .f64 (cmpQ q (fl o)))
   rw [hl.2] at hn
   have hc : (cmpQ q (fl o) = 1 ↔ sval o * (q.den : Int) < q.num * (tw 1074 : Int)) := c1
   have hc' : (cmpQ q (fl o) = -1 ↔ q.num * (tw 1074 : Int) < sval o * (q.den : Int)) := c2
   rw [hsD, hq] at hc hc'
   clear hsD hsv hq c0 c1 c2 hl hnr hN
   generalize cmpQ q (fl o) = c at *
   generalize hUe : q.num.natAbs * tw 1074 = U at *
   generalize hA : uval (Q + 1) * q.den = A at *
   generalize hB : uval (Q + 1 + 1) * q.den = B at *
   generalize hC : uval Q * q.den = C at *
   have out : A < U → near o (floatOfInt .f64 c) = Q + 1 → Sides q (lo o (floatOfInt .f64 c)) (hi o (floatOfInt .f64 c)) := fun g k =>
    sides_rung _ rfl hR (by rw [hA, hUe]; exact g) (.inr (by rw [hB, hUe]; omega)) hx hs k
   have inn : U < A → near o (floatOfInt .f64 c) = Q → Sides q (lo o (floatOfInt .f64 c)) (hi o (floatOfInt .f64 c)) := fun g k =>
    sides_rung _ rfl (r := Q) (by omega) (by rw [hC, hUe]; omega) (.inr (by rw [hA, hUe]; exact g)) hx hs k
   by_cases hneg : q.num < 0
   ·rw [decide_eq_true hneg] at hc hc' hn
    simp only [if_true, Bool.not_true] at hc hc' hn
    rcases t with g | g | g
    ·have := hc'.1 g
     exact out (by omega) (by rw [hn, g]; rfl)
    ·omega
    ·have := hc.1 g
     exact inn (by omega) (by rw [hn, g]; rfl)
   ·rw [decide_eq_false hneg] at hc hc' hn
    simp only [Bool.false_eq_true, if_false, Bool.not_false] at hc hc' hn
    rcases t with g | g | g
    ·have := hc'.1 g
     exact inn (by omega) (by rw [hn, g]; rfl)
    ·omega
    ·have := hc.1 g
     exact out (by omega) (by rw [hn, g]; rfl)
/-- Of what a float is worth they are that float. -/
theorem Sides.own {v d u : Nat} (h : Sides (fl v) d u) (hv : mg v < 9218868437227405312) : key d = key v ∧ key u = key v ∧ mg d < 9218868437227405312 ∧ mg u < 9218868437227405312 := by
 have hD := (fl v).den_pos
 have e := (cmpQ_fl (fl v) v).1.1 ((cmpQ_zero _ _).2 rfl)
 have x := exact_dn hD hv e
 have kb : key v < 9218868437227405312 ∧ -9218868437227405312 < key v := by unfold key; split <;> omega
 have a := h.1.best v hv (by rw [e]; exact Int.le_refl _)
 have b := h.2.best v hv (by rw [e]; exact Int.le_refl _)
 have fd : mg d < 9218868437227405312 := by
  rcases Nat.lt_or_eq_of_le h.1.le with g | g
  ·exact g
  ·have := h.1.inf g
   have : key d = -9218868437227405312 := by unfold key; rw [this, g]; rfl
   omega
 have fu : mg u < 9218868437227405312 := by
  rcases Nat.lt_or_eq_of_le h.2.le with g | g
  ·exact g
  ·have := h.2.inf g
   have : key u = 9218868437227405312 := by unfold key; rw [this, g]; rfl
   omega
 have c := x.1.best d fd (h.1.below fd)
 have d' := x.2.best u fu (h.2.above fu)
 exact ⟨by omega, by omega, fd, fu⟩
end Go.Proofs.YtghcoijinihlnaaGreat
namespace Go.Proofs.YtghcoijinihlnaaGreat
open Go.RowKit Nb
open Fl Ieee
theorem and63 {x : Nat} (h : x < 18446744073709551616) : bits .and .u64 (x : Int) 9223372036854775808 = if ng x then 9223372036854775808 else 0 := by
 have h1 := u64_and_nat x 9223372036854775808 h (by omega)
 have h2 : x &&& 9223372036854775808 = (ng x).toNat * 9223372036854775808 := by
  have hn : ng x = x.testBit 63 := by rw [Nat.testBit_eq_decide_div_mod_eq]; rfl
  rw [hn, show (9223372036854775808 : Nat) = 2 ^ 63 from by decide]
  apply Nat.eq_of_testBit_eq
  intro i
  rw [Nat.testBit_and]
  by_cases hi : i = 63
  ·subst hi
   rw [Nat.testBit_two_pow_self, Bool.and_true]
   cases x.testBit 63
   ·rw [Bool.toNat_false, Nat.zero_mul, Nat.zero_testBit]
   ·rw [Bool.toNat_true, Nat.one_mul, Nat.testBit_two_pow_self]
  ·rw [Nat.testBit_two_pow_of_ne (by omega), Bool.and_false]
   cases x.testBit 63
   ·rw [Bool.toNat_false, Nat.zero_mul, Nat.zero_testBit]
   ·rw [Bool.toNat_true, Nat.one_mul, Nat.testBit_two_pow_of_ne (by omega)]
 rw [h2] at h1
 rw [show (9223372036854775808 : Int) = ((9223372036854775808 : Nat) : Int) from rfl, h1]
 cases ng x <;> rfl
theorem or63 {m : Nat} (h : m < 9223372036854775808) : bits .or .u64 (m : Int) 9223372036854775808 = ((m + 9223372036854775808 : Nat) : Int) := by
 have h1 := u64_or_nat m 9223372036854775808 (by omega) (by omega)
 have h2 : m ||| 9223372036854775808 = m + 9223372036854775808 := by
  have := Nat.two_pow_add_eq_or_of_lt (i := 63) (b := m) (by omega) 1
  rw [Nat.or_comm, ← show 2 ^ 63 * 1 = 9223372036854775808 by decide, ← this]
  exact Nat.add_comm _ _
 rw [h2] at h1
 exact h1
theorem or0 {m : Nat} (h : m < 9223372036854775808) : bits .or .u64 (m : Int) 0 = (m : Int) := by
 have h1 := u64_or_nat m 0 (by omega) (by omega)
 rw [Nat.or_zero] at h1
 exact h1
set_option maxHeartbeats 400000 in
theorem copysign_any (v s : Nat) (w : World) (hv : v < 18446744073709551616) (hs : s < 18446744073709551616) : Calls Tryz.prog 42 #[.float .f64 v, .float .f64 s] w fun e w' => e = .returned (.float .f64 (if ng s then mg v + 9223372036854775808 else mg v)) ∧ w' = w := by
 have hm : mg v < 9223372036854775808 := Nat.mod_lt _ (by decide)
 have hb := andNot63 v hv
 have ha := and63 hs
 have hfb := run_bits
 cases hn : ng s <;> rw [hn] at ha
 ·simp only [Bool.false_eq_true, if_false] at ha ⊢
  have ho := or0 hm
  have hff : ∀ w, (callFunc 47 #[.int .u64 (mg v : Int)]).run Tryz.prog w = .ok (.value (.float .f64 (mg v))) w := fun w => run_from (mg v : Int) w
  clear hm hn hv hs
  go_enter Tryz.func42, Tryz.ntmps42
  go_wp2
  go_ret; exact ⟨rfl, rfl⟩
 ·simp only [if_true] at ha ⊢
  have ho := or63 hm
  have hff : ∀ w, (callFunc 47 #[.int .u64 ((mg v + 9223372036854775808 : Nat) : Int)]).run Tryz.prog w = .ok (.value (.float .f64 (mg v + 9223372036854775808))) w := fun w => run_from ((mg v + 9223372036854775808 : Nat) : Int) w
  generalize hg : ((mg v + 9223372036854775808 : Nat) : Int) = b at *
  clear hm hn hv hs hg
  go_enter Tryz.func42, Tryz.ntmps42
  go_wp2
  go_ret; exact ⟨rfl, rfl⟩
set_option maxHeartbeats 400000 in
theorem inf_one (w : World) : Calls Tryz.prog 40 #[.int .i64 1] w fun e w' => e = .returned (.float .f64 9218868437227405312) ∧ w' = w := by
 have hff := run_from 9218868437227405312
 go_enter Tryz.func40, Tryz.ntmps40
 go_wp2
 go_ret; exact ⟨rfl, rfl⟩
theorem rq_zero (W : World) : Rq W none [] none [] := ⟨⟨fun h => absurd h (by decide), (by intro i hi; exact absurd hi (by simp)), by decide⟩, ⟨fun h => absurd h (by decide), (by intro i hi; exact absurd hi (by simp)), by decide⟩⟩
set_option maxHeartbeats 4000000 in
/-- Against the zero value, which may not be. -/
theorem r_cmp0 {W : World} {q : Rat} {f : Fv} (L : Ff W q f) : Calls Tryz.prog 45 #[fv f, fv fv0] W (fun e w' => e = .returned (.int .i64 0) ∧ Below W.heap.size W w') := by
 obtain ⟨n, A, xs, c, m, B, ds, d⟩ := f
 obtain ⟨rfl, h⟩ := L
 show Calls Tryz.prog 45 #[frq n A xs.length c false B ds.length d, frq false none 0 0 false none 0 0] W _
 obtain ⟨V, hV, BW, hz, KX, KY⟩ := box_pair W [.bool n, .slice A xs.length c, .bool false, .slice B ds.length d] [.bool false, .slice none 0 0, .bool false, .slice none 0 0] 26 26
 have LX := h.on BW
 clear h
 have hb : Below V.heap.size V (V.alloc (.cells #[.bool n, .slice A xs.length c, .bool false, .slice B ds.length d, .bool false, .slice none 0 0, .bool false, .slice none 0 0] 26)) := by go_grown
 have KB := Box.new V [.bool n, .slice A xs.length c, .bool false, .slice B ds.length d, .bool false, .slice none 0 0, .bool false, .slice none 0 0] 26
 replace KX := KX.on hb
 replace KY := KY.on hb
 replace LX := LX.on hb
 replace BW := BW.trans (hb.mono BW.size)
 clear hb
 rw [hz] at KB
 clear hz
 go_enter Tryz.func45, Tryz.ntmps45
 go_wp2_with fail
 rw [← hV]
 clear hV
 generalize (V.alloc (.cells #[.bool n, .slice A xs.length c, .bool false, .slice B ds.length d, .bool false, .slice none 0 0, .bool false, .slice none 0 0] 26)) = VB at *
 refine (fcheck_two (W.heap.size + 1 + 1) n false false false A B none none xs ds [] [] 2 c d 0 0 VB LX.rq (rq_zero VB) KB.lt (KB.c 0 _ rfl) (KB.c 1 _ rfl) (KB.c 2 _ rfl) (KB.c 3 _ rfl) (KB.c 4 _ rfl) (KB.c 5 _ rfl) (KB.c 6 _ rfl) (KB.c 7 _ rfl)).mono ?_
 rw [chkF_ok LX.okf, chkF_bad (n := false) (m := false) (xs := []) (ds := []) (fun h => absurd h.ne (by decide))]
 rintro _ w1 ⟨rfl, hb⟩
 replace BW := BW.trans (hb.mono BW.size)
 clear hb KB KX KY LX
 rw [if_pos rfl]
 go_wp2_with fail
 go_ret
 exact ⟨rfl, BW⟩
/-- What round.Frac answers. -/
def RfIs (q : Rat) (d u : Nat) : Prop := (q.num = 0 ∧ d = 0 ∧ u = 0) ∨ (q.num ≠ 0 ∧ Sides q d u ∧ ∃ o l, o < 18446744073709551616 ∧ mg o ≤ 9218868437227405312 ∧ d = lo o l ∧ u = hi o l)
theorem FloatIs.zero {q : Rat} {v : Nat} {er : Int} (h : FloatIs q v er) (hz : q.num = 0) : v = 0 ∧ er = 0 := by
 rcases h with ⟨rfl, R, hR, hN, rfl⟩ | ⟨_, _, hF⟩
 ·rw [hz, Int.natAbs_zero] at hN
  have := hN.unique q.den_pos nrq_zero
  subst this
  exact ⟨by rw [if_neg (fun e => e.2 rfl)], rfl⟩
 ·exfalso
  rw [hz, Int.natAbs_zero] at hF
  replace hF : FarT (0 * tw 1074) q.den := hF
  rw [Nat.zero_mul] at hF
  have h1 : (uval 9218868437227405311 + uval 9218868437227405312) * q.den ≤ 2 * 0 := hF
  have hs : uval 9218868437227405311 < uval 9218868437227405312 := uval_step 9218868437227405311
  generalize uval 9218868437227405311 = a at *
  generalize uval 9218868437227405312 = b at *
  have := Nat.mul_pos (show 0 < a + b by omega) q.den_pos
  omega
theorem FloatIs.far {q : Rat} {v : Nat} (h : FloatIs q v 6) : FarQ q.num.natAbs q.den := by
 rcases h with ⟨h, _⟩ | ⟨_, _, h⟩
 ·cases h
 ·exact h
theorem sgn_fo {q : Rat} (hz : q.num ≠ 0) : ng (floatOfInt .f64 (sgnQ q)) = decide (q.num < 0) ∧ floatOfInt .f64 (sgnQ q) < 18446744073709551616 ∧ (sgnQ q == 0) = false := by
 unfold sgnQ
 rcases Int.lt_or_gt_of_ne hz with h | h
 ·rw [Int.sign_eq_neg_one_of_neg h, fo_neg, decide_eq_true h]; decide
 ·rw [Int.sign_eq_one_of_pos h, fo_one, decide_eq_false (by omega)]; decide
theorem FloatIs.own {q : Rat} {v : Nat} (h : FloatIs q v 0) : ∃ R, R < 9218868437227405312 ∧ NrQ q.num.natAbs q.den R ∧ mg v = R ∧ v < 18446744073709551616 := by
 rcases h with ⟨_, R, hR, hN, rfl⟩ | ⟨h, _⟩
 ·refine ⟨R, hR, hN, ?_, ?_⟩
  ·unfold mg; split <;> omega
  ·split <;> omega
 ·cases h
theorem put_sign (b : Bool) {m : Nat} (h : m < 9223372036854775808) : mg (if b = true then m + 9223372036854775808 else m) = m ∧ ng (if b = true then m + 9223372036854775808 else m) = b ∧ (if b = true then m + 9223372036854775808 else m) < 18446744073709551616 := by
 cases b <;> simp [mg, ng] <;> omega
set_option maxHeartbeats 8000000 in
set_option maxRecDepth 100000 in
theorem rfrac_any {q : Rat} {f : Fv} {w : World} (L : Ff w q f) :
  Calls Tryz.prog 9 #[fv f] w (fun e w' => ∃ (d u : Nat), e = .returned (.tuple #[.float .f64 d, .float .f64 u, .int .i64 0]) ∧ RfIs q d u ∧ Below w.heap.size w w') := by
 by_cases hq : q.num = 0
 ·have HQ : Hid (q.num = 0) := Lib.hid hq
  clear hq
  have BW : Below w.heap.size w w := Below.refl _ _
  obtain ⟨V1, e2, hb3, K4, -, -⟩ := alloc_new w [.bool f.n, .slice f.A f.xs.length f.c, .bool f.m, .slice f.B f.ds.length f.d] 26
  replace L := L.kp (Kept.of hb3)
  replace BW := BW.trans (hb3.mono BW.size)
  clear hb3
  go_enter Tryz.func9, Tryz.ntmps9
  go_wp2_with fail
  rw [← e2]
  clear e2
  refine (float_any L).mono ?_
  rintro _ w5 ⟨v, er, rfl, hF, hb⟩
  replace K4 := K4.on hb
  replace L := L.kp (Kept.of hb)
  replace BW := BW.trans (hb.mono BW.size)
  clear hb
  obtain ⟨rfl, rfl⟩ := hF.zero HQ.out
  clear hF
  have hs : sgnQ q = 0 := by unfold sgnQ; rw [HQ.out]; rfl
  obtain ⟨c6, c7, c8, c9⟩ := K4.c4
  go_wp2_with fail
  clear c6 c7 c8 c9
  refine (r_sign L).mono ?_
  rintro _ w10 ⟨rfl, hb⟩
  replace BW := BW.trans (hb.mono BW.size)
  clear hb
  rw [hs]
  go_wp2_with fail
  exact bodyPost_ret (v := .tuple #[.float .f64 0, .float .f64 0, .int .i64 0]) (by simp [results, Tryz.results9, go_sem]) rfl ⟨0, 0, rfl, .inl ⟨HQ.out, rfl, rfl⟩, BW⟩
 ·have HQ : Hid (q.num ≠ 0) := Lib.hid hq
  clear hq
  have BW : Below w.heap.size w w := Below.refl _ _
  obtain ⟨V1, e2, hb3, K4, -, -⟩ := alloc_new w [.bool f.n, .slice f.A f.xs.length f.c, .bool f.m, .slice f.B f.ds.length f.d] 26
  replace L := L.kp (Kept.of hb3)
  replace BW := BW.trans (hb3.mono BW.size)
  clear hb3
  go_enter Tryz.func9, Tryz.ntmps9
  go_wp2_with fail
  rw [← e2]
  clear e2
  refine (float_any L).mono ?_
  rintro _ w5 ⟨v, er, rfl, hF, hb⟩
  replace K4 := K4.on hb
  replace L := L.kp (Kept.of hb)
  replace BW := BW.trans (hb.mono BW.size)
  clear hb
  obtain ⟨hs1, hs2, hs3⟩ := sgn_fo HQ.out
  have HS := Lib.hid (And.intro hs1 hs2)
  obtain ⟨sg, hsg⟩ : ∃ sg, floatOfInt .f64 (sgnQ q) = sg := ⟨_, rfl⟩
  rw [hsg] at HS
  obtain ⟨zs, hzs⟩ : ∃ zs, sgnQ q = zs := ⟨_, rfl⟩
  rw [hzs] at hs3 hsg
  have HZS := Lib.hid hzs
  have HSG := Lib.hid hsg
  clear hs1 hs2 hzs hsg
  rcases (show er = 0 ∨ er = 6 from by rcases hF with ⟨h, _⟩ | ⟨h, _⟩; exact .inl h; exact .inr h) with rfl | rfl
  ·obtain ⟨R, hR, hN, hm, hv⟩ := FloatIs.own hF
   have HR := Lib.hid (And.intro hR (And.intro hN (And.intro hm hv)))
   clear hR hN hm hv hF
   obtain ⟨c6, c7, c8, c9⟩ := K4.c4
   go_wp2_with fail
   clear c6 c7 c8 c9
   refine (r_sign L).mono ?_
   rintro _ w10 ⟨rfl, hb⟩
   replace K4 := K4.on hb
   replace L := L.kp (Kept.of hb)
   replace BW := BW.trans (hb.mono BW.size)
   clear hb
   rw [HZS.out]
   go_wp2_with fail
   rw [HSG.out]
   refine (copysign_any v sg _ HR.out.2.2.2 HS.out.2).mono ?_
   rintro _ w_ ⟨rfl, rfl⟩
   have hps := put_sign (ng sg) (show mg v < 9223372036854775808 from Nat.mod_lt _ (by decide))
   rw [HS.out.1] at hps ⊢
   generalize (if decide (q.num < 0) = true then mg v + 9223372036854775808 else mg v) = o at *
   have HO : Hid (mg o = R ∧ ng o = decide (q.num < 0) ∧ o < 18446744073709551616) := Lib.hid ⟨hps.1.trans HR.out.2.2.1, hps.2.1, hps.2.2⟩
   clear hps
   go_wp2_with fail
   refine (from_fl HO.out.2.2 (by rw [HO.out.1]; exact HR.out.1)).mono ?_
   rintro _ w12 ⟨g, rfl, G, hb⟩
   replace K4 := K4.on hb
   replace L := L.kp (Kept.of hb)
   replace BW := BW.trans (hb.mono BW.size)
   clear hb
   obtain ⟨V13, e14, hb15, K16, -, -⟩ := alloc_new w12 [.bool g.n, .slice g.A g.xs.length g.c, .bool g.m, .slice g.B g.ds.length g.d] 26
   replace K4 := K4.on hb15
   replace L := L.kp (Kept.of hb15)
   replace G := G.kp (Kept.of hb15)
   replace BW := BW.trans (hb15.mono BW.size)
   clear hb15
   obtain ⟨c17, c18, c19, c20⟩ := K4.c4
   rw [e14] at c17 c18 c19 c20
   go_wp2_with fail
   clear c17 c18 c19 c20
   rw [← e14]
   clear e14
   generalize w12.heap.size = b21 at *
   refine (r_cmp L G).mono ?_
   rintro _ w22 ⟨rfl, hb⟩
   replace BW := BW.trans (hb.mono BW.size)
   clear hb
   obtain ⟨cc, hcc⟩ : ∃ cc, cmpQ q (fl o) = cc := ⟨_, rfl⟩
   rw [hcc]
   have HCC := Lib.hid hcc
   clear hcc
   go_wp2_with fail
   refine (about_any o (floatOfInt .f64 cc) _ HO.out.2.2 (by rw [HO.out.1]; have := HR.out.1; omega)).mono ?_
   rintro _ w_ ⟨rfl, rfl⟩
   generalize hlo : lo o (floatOfInt .f64 cc) = dd at *
   generalize hhi : hi o (floatOfInt .f64 cc) = uu at *
   have HL := Lib.hid (And.intro hlo hhi)
   clear hlo hhi
   go_wp2_with fail
   exact bodyPost_ret (v := .tuple #[.float .f64 dd, .float .f64 uu, .int .i64 0]) (by simp [results, Tryz.results9, go_sem]) rfl ⟨dd, uu, rfl, .inr ⟨HQ.out, by rw [← HL.out.1, ← HL.out.2, ← HCC.out]; exact near_sides HQ.out HR.out.1 HR.out.2.1 HO.out.1 HO.out.2.1, o, floatOfInt .f64 cc, HO.out.2.2, by rw [HO.out.1]; have := HR.out.1; omega, HL.out.1.symm, HL.out.2.symm⟩, BW⟩
  ·have HF := Lib.hid hF.far
   clear hF
   go_wp2_with fail
   refine (inf_one _).mono ?_
   rintro _ w_ ⟨rfl, rfl⟩
   obtain ⟨c7, c8, c9, c10⟩ := K4.c4
   go_wp2_with fail
   clear c7 c8 c9 c10
   refine (r_sign L).mono ?_
   rintro _ w11 ⟨rfl, hb⟩
   replace K4 := K4.on hb
   replace L := L.kp (Kept.of hb)
   replace BW := BW.trans (hb.mono BW.size)
   clear hb
   rw [HZS.out]
   go_wp2_with fail
   rw [HSG.out]
   refine (copysign_any 9218868437227405312 sg _ (by decide) HS.out.2).mono ?_
   rintro _ w_ ⟨rfl, rfl⟩
   have hps := put_sign (ng sg) (show mg 9218868437227405312 < 9223372036854775808 from Nat.mod_lt _ (by decide))
   rw [HS.out.1] at hps ⊢
   generalize (if decide (q.num < 0) = true then mg 9218868437227405312 + 9223372036854775808 else mg 9218868437227405312) = o at *
   have HO : Hid (mg o = 9218868437227405312 ∧ ng o = decide (q.num < 0) ∧ o < 18446744073709551616) := Lib.hid ⟨hps.1.trans (by decide), hps.2.1, hps.2.2⟩
   clear hps
   go_wp2_with fail
   refine (from_no HO.out.2.2 (by rw [HO.out.1]; exact Nat.le_refl _)).mono ?_
   rintro _ w13 ⟨rfl, hb⟩
   replace K4 := K4.on hb
   replace L := L.kp (Kept.of hb)
   replace BW := BW.trans (hb.mono BW.size)
   clear hb
   obtain ⟨V14, e15, hb16, K17, -, -⟩ := alloc_new w13 [.bool fv0.n, .slice fv0.A fv0.xs.length fv0.c, .bool fv0.m, .slice fv0.B fv0.ds.length fv0.d] 26
   replace K4 := K4.on hb16
   replace L := L.kp (Kept.of hb16)
   replace BW := BW.trans (hb16.mono BW.size)
   clear hb16
   obtain ⟨c18, c19, c20, c21⟩ := K4.c4
   rw [e15] at c18 c19 c20 c21
   go_wp2_with fail
   clear c18 c19 c20 c21
   rw [← e15]
   clear e15
   generalize w13.heap.size = b22 at *
   refine (r_cmp0 L).mono ?_
   rintro _ w23 ⟨rfl, hb⟩
   replace BW := BW.trans (hb.mono BW.size)
   clear hb
   go_wp2_with fail
   refine (about_any o (floatOfInt .f64 0) _ HO.out.2.2 (by rw [HO.out.1]; exact Nat.le_refl _)).mono ?_
   rintro _ w_ ⟨rfl, rfl⟩
   generalize hlo : lo o (floatOfInt .f64 0) = dd at *
   generalize hhi : hi o (floatOfInt .f64 0) = uu at *
   have HL := Lib.hid (And.intro hlo hhi)
   clear hlo hhi
   go_wp2_with fail
   exact bodyPost_ret (v := .tuple #[.float .f64 dd, .float .f64 uu, .int .i64 0]) (by simp [results, Tryz.results9, go_sem]) rfl ⟨dd, uu, rfl, .inr ⟨HQ.out, by rw [← HL.out.1, ← HL.out.2]; exact far_sides HF.out HQ.out HO.out.1 HO.out.2.1, o, floatOfInt .f64 0, HO.out.2.2, by rw [HO.out.1]; exact Nat.le_refl _, HL.out.1.symm, HL.out.2.symm⟩, BW⟩
end Go.Proofs.YtghcoijinihlnaaGreat
