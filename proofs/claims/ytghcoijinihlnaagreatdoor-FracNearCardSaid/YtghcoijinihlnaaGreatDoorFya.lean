/-
  Some fractions that the statements ask at each input; what math.Nextafter returns toward either infinity; of the float nearest to a fraction the floats beside are no nearer; how far a float is from a fraction, as the statement reckons it. Conditions: floats of 64 bits; the table of digits.
-/
import Derived.Test.YtghcoijinihlnaaGreatDoorFfl
import Derived.Deep.RegionHeld3
import Derived.Deep.DeepCutAuto
import Derived.BigRegion
import Derived.Test.YtghcoijinihlnaaGreatDoorFnf
import Derived.Test.YtghcoijinihlnaaGreatDoorFrd
namespace Go.Proofs.YtghcoijinihlnaaGreatDoor
open Go.RowKit Nb
theorem half3 : (Rat.divInt 6 (-4)).num = -3 ∧ (Rat.divInt 6 (-4)).den = 2 := by decide +kernel
/-- Minus three by two. -/
abbrev q3 : Rat := Rat.divInt 6 (-4)
theorem q3_fits : FitsQ q3 := by
  refine ⟨?_, ?_⟩
  · rw [half3.1]; exact fits_low (by decide)
  · rw [half3.2]; exact fits_low (by decide)
theorem q3_sign : sgnQ q3 = -1 := by unfold sgnQ; rw [half3.1]; rfl
theorem t3 : (⟨((if true then [45] else []) ++ Lib.decDigits 3).toArray⟩ : ByteArray) = ⟨#[45, 51]⟩ := by decide +kernel
theorem Lf.q3n {W : World} {n : Bool} {A B : Option Addr} {xs ds : List Nat} {c d : Nat} (h : Lf W q3 n A xs c B ds d) : n = true ∧ Nl W (-3) n A xs c ∧ Nl W 2 false B ds d := by
  have h1 := h.num
  have h2 := h.den
  rw [half3.1] at h1
  rw [half3.2] at h2
  refine ⟨?_, h1, h2⟩
  cases n with
  | true => rfl
  | false =>
    have h3 : ((val W32 xs : Nat) : Int) = -3 := h1.v
    omega
set_option maxHeartbeats 8000000 in
set_option maxRecDepth 20000 in
theorem ftext_q3 (A B : Option Addr) (xs ds : List Nat) (c d : Nat) (w : World) (h : Lf w q3 true A xs c B ds d) (htab : Tab w) :
    Calls Tryz.prog 22 #[frq true A xs.length c false B ds.length d] w (fun e w' => e = .returned (.tuple #[.string ⟨#[45, 51, 47, 50]⟩, .int .i64 0]) ∧ Below w.heap.size w w') := by
  obtain ⟨V, hV⟩ : ∃ V, V = (w.alloc (.cells #[.bool true, .slice A xs.length c, .bool false, .slice B ds.length d] 26)) := ⟨_, rfl⟩
  have BW : Below w.heap.size w V := by rw [hV]; go_grown
  have KX : Box V w.heap.size [.bool true, .slice A xs.length c, .bool false, .slice B ds.length d] := by rw [hV]; exact Box.new w _ _
  have LX := h.on BW
  have HT := Lib.hid htab
  clear h htab
  have KX_0 := KX.c 0 _ rfl
  have KX_1 := KX.c 1 _ rfl
  have KX_2 := KX.c 2 _ rfl
  have KX_3 := KX.c 3 _ rfl
  go_enter Tryz.func22, Tryz.ntmps22
  go_wp2_with fail
  clear KX_0 KX_1 KX_2 KX_3
  rw [← hV]
  clear hV
  refine (fcheck_any true false A B xs ds c d V LX.rq).mono ?_
  rw [chkF_ok LX.okf]
  rintro _ w1 ⟨rfl, hb⟩
  replace KX := KX.on hb
  replace LX := LX.on hb
  replace BW := BW.trans (hb.mono BW.size)
  clear hb
  have KX_0 := KX.c 0 _ rfl
  have KX_1 := KX.c 1 _ rfl
  have KX_2 := KX.c 2 _ rfl
  have KX_3 := KX.c 3 _ rfl
  go_wp2_with fail
  clear KX_0 KX_1 KX_2 KX_3
  refine (wtext_n LX.q3n.2.1 (by decide) (tab_below HT.out BW) _ t3).mono ?_
  rintro _ w2 ⟨rfl, hb⟩
  replace KX := KX.on hb
  replace LX := LX.on hb
  replace BW := BW.trans (hb.mono BW.size)
  clear hb
  have KX_0 := KX.c 0 _ rfl
  have KX_1 := KX.c 1 _ rfl
  have KX_2 := KX.c 2 _ rfl
  have KX_3 := KX.c 3 _ rfl
  go_wp2_with fail
  clear KX_0 KX_1 KX_2 KX_3
  refine (wtext_n LX.q3n.2.2 (by decide) (tab_below HT.out BW) _ t2).mono ?_
  rintro _ w3 ⟨rfl, hb⟩
  replace KX := KX.on hb
  replace LX := LX.on hb
  replace BW := BW.trans (hb.mono BW.size)
  clear hb
  clear LX KX
  go_wp2
  go_ret2
  exact ⟨rfl, BW⟩
set_option maxHeartbeats 8000000 in
set_option maxRecDepth 20000 in
theorem lives_any (w : World) (htab : Tab w) :
    Calls Tryz.prog 7 #[] w (fun e w' => e = .returned (.bool true) ∧ Below w.heap.size w w') := by
  have HT := Lib.hid htab
  clear htab
  go_enter Tryz.func7, Tryz.ntmps7
  go_wp2_with fail
  refine (frac_of 6 (-4) w (by omega) (by omega) (by omega) (by omega)).mono ?_
  rintro _ w1 ⟨n, A, xs, c, m, B, ds, d, er, rfl, Rt, BW⟩
  obtain ⟨rfl, rfl, LX⟩ : er = 0 ∧ m = false ∧ Lf w1 q3 n A xs c B ds d := by
    rcases Rt with ⟨_, _, h1, h2, h3⟩ | ⟨⟨h, _⟩ | ⟨_, h, _⟩, _⟩
    · exact ⟨h1, h2, h3⟩
    · exact absurd h (by decide)
    · exact absurd q3_fits h
  obtain rfl := LX.q3n.1
  clear Rt
  have hb : Below w1.heap.size w1 (w1.alloc (.cells #[.bool true, .slice A xs.length c, .bool false, .slice B ds.length d] 26)) := by go_grown
  have KX := Box.new w1 [.bool true, .slice A xs.length c, .bool false, .slice B ds.length d] 26
  replace LX := LX.on hb
  replace BW := BW.trans (hb.mono BW.size)
  clear hb
  go_wp2_with fail
  generalize (w1.alloc (.cells #[.bool true, .slice A xs.length c, .bool false, .slice B ds.length d] 26)) = VX at *
  generalize w1.heap.size = pX at *
  refine (frac_of 1 0 VX (by omega) (by omega) (by omega) (by omega)).mono ?_
  rintro _ w2 ⟨n2, A2, x2, c2, m2, B2, d2, l2, er2, rfl, Rt, hb⟩
  obtain rfl : er2 = 3 := by
    rcases Rt with ⟨h, _⟩ | ⟨⟨_, h⟩ | ⟨h, _⟩, _⟩
    · exact absurd rfl h
    · exact h
    · exact absurd rfl h
  clear Rt
  replace KX := KX.on hb
  replace LX := LX.on hb
  replace BW := BW.trans (hb.mono BW.size)
  clear hb
  have hb : Below w2.heap.size w2 (w2.alloc (.cells #[.bool n2, .slice A2 x2.length c2, .bool m2, .slice B2 d2.length l2] 26)) := by go_grown
  replace KX := KX.on hb
  replace LX := LX.on hb
  replace BW := BW.trans (hb.mono BW.size)
  clear hb
  have KX_0 := KX.c 0 _ rfl
  have KX_1 := KX.c 1 _ rfl
  have KX_2 := KX.c 2 _ rfl
  have KX_3 := KX.c 3 _ rfl
  go_wp2_with fail
  clear KX_0 KX_1 KX_2 KX_3
  generalize (w2.alloc (.cells #[.bool n2, .slice A2 x2.length c2, .bool m2, .slice B2 d2.length l2] 26)) = VY at *
  refine (ftext_q3 A B xs ds c d VY LX (tab_below HT.out BW)).mono ?_
  rintro _ w3 ⟨rfl, hb⟩
  replace KX := KX.on hb
  replace LX := LX.on hb
  replace BW := BW.trans (hb.mono BW.size)
  clear hb
  have KX_0 := KX.c 0 _ rfl
  have KX_1 := KX.c 1 _ rfl
  have KX_2 := KX.c 2 _ rfl
  have KX_3 := KX.c 3 _ rfl
  go_wp2_with fail
  clear KX_0 KX_1 KX_2 KX_3
  refine (frac_sign q3 true A B xs ds c d w3 LX).mono ?_
  rw [q3_sign]
  rintro _ w4 ⟨rfl, hb⟩
  replace KX := KX.on hb
  replace LX := LX.on hb
  replace BW := BW.trans (hb.mono BW.size)
  clear hb
  clear LX KX
  go_wp2
  go_ret
  exact ⟨rfl, BW⟩
end Go.Proofs.YtghcoijinihlnaaGreatDoor

namespace Go.Proofs.YtghcoijinihlnaaGreatDoor
open Go.RowKit Nb Fl Ieee
set_option maxHeartbeats 400000 in
theorem infn_any (w : World) : Calls Tryz.prog 11 #[.int .i64 (-1)] w fun e w' => e = .returned (.float .f64 18442240474082181120) ∧ w' = w := by
  have hff := run_from
  go_enter Tryz.func11, Tryz.ntmps11
  go_wp2
  go_ret; exact ⟨rfl, rfl⟩
set_option maxHeartbeats 400000 in
theorem infp_any (w : World) : Calls Tryz.prog 11 #[.int .i64 1] w fun e w' => e = .returned (.float .f64 9218868437227405312) ∧ w' = w := by
  have hff := run_from
  go_enter Tryz.func11, Tryz.ntmps11
  go_wp2
  go_ret; exact ⟨rfl, rfl⟩
theorem copy_up (w : World) : Calls Tryz.prog 31 #[.float .f64 1, .float .f64 9218868437227405312] w fun e w' => e = .returned (.float .f64 1) ∧ w' = w := by
  have hfb := run_bits
  have hff := run_from
  have h1 : bits .andNot .u64 1 9223372036854775808 = 1 := by decide
  have h2 : bits .and .u64 9218868437227405312 9223372036854775808 = 0 := by decide
  have h3 : bits .or .u64 1 0 = 1 := by decide
  go_enter Tryz.func31, Tryz.ntmps31
  go_wp2
  go_ret; exact ⟨rfl, rfl⟩
theorem copy_dn (w : World) : Calls Tryz.prog 31 #[.float .f64 1, .float .f64 18442240474082181120] w fun e w' => e = .returned (.float .f64 9223372036854775809) ∧ w' = w := by
  have hfb := run_bits
  have hff := run_from
  have h1 : bits .andNot .u64 1 9223372036854775808 = 1 := by decide
  have h2 : bits .and .u64 18442240474082181120 9223372036854775808 = 9223372036854775808 := by decide
  have h3 : bits .or .u64 1 9223372036854775808 = 9223372036854775809 := by decide
  go_enter Tryz.func31, Tryz.ntmps31
  go_wp2
  go_ret; exact ⟨rfl, rfl⟩
theorem infp_mg : mg 9218868437227405312 = 9218868437227405312 ∧ key 9218868437227405312 = 9218868437227405312 := by decide
theorem infn_mg : mg 18442240474082181120 = 9218868437227405312 ∧ key 18442240474082181120 = -9218868437227405312 := by decide
set_option maxHeartbeats 1000000 in
theorem nextup_any (x : Nat) (w : World) (hx : x < 18446744073709551616) (hm : mg x < 9218868437227405312) :
    Calls Tryz.prog 10 #[.float .f64 x, .float .f64 9218868437227405312] w fun e w' => e = .returned (.float .f64 (nextf x true)) ∧ w' = w := by
  have HX := Lib.hid (fun W => isNaN_any x W)
  have HI := Lib.hid (fun W => isNaN_any 9218868437227405312 W)
  have HC := Lib.hid (fun W => copy_up W)
  have hfb := run_bits
  have hff := run_from
  rw [decide_eq_false (by omega)] at HX
  rw [decide_eq_false (by rw [infp_mg.1]; omega)] at HI
  have hk2 : key x < 9218868437227405312 := by unfold key; split <;> omega
  have e1 := ord_eq x 9218868437227405312
  rw [decide_eq_false (by rw [infp_mg.2]; omega)] at e1
  have e2 := ord_gt 9218868437227405312 x
  rw [decide_eq_true ⟨by rw [infp_mg.1]; exact Nat.le_refl _, by omega, by rw [infp_mg.2]; exact hk2⟩] at e2
  have e3 := eq_zero x
  by_cases h0 : mg x = 0
  · rw [decide_eq_true h0] at e3
    have hf : nextf x true = 1 := by unfold nextf; rw [if_neg (by omega), if_neg (by omega), if_pos h0, if_pos rfl]
    rw [hf]
    clear h0 hf hx hm hk2 e2
    go_enter Tryz.func10, Tryz.ntmps10
    go_wp2_with (first | (go_at_call 29; first | (with_reducible refine (HX.out _).mono ?_; rintro e w' ⟨rfl, rfl⟩) | (with_reducible refine (HI.out _).mono ?_; rintro e w' ⟨rfl, rfl⟩)) | (go_at_call 31; refine (HC.out _).mono ?_; rintro e w' ⟨rfl, rfl⟩))
    go_ret; exact ⟨rfl, rfl⟩
  · rw [decide_eq_false h0] at e3
    have hg := gt_zero x (by omega) (by omega)
    have hf : nextf x true = if ng x = false then x + 1 else x - 1 := by unfold nextf; rw [if_neg (by omega), if_neg (by omega), if_neg h0]; rfl
    have hle : mg x ≤ x := Nat.mod_le _ _
    have hv1 : (1 : Int) ≤ x := by omega
    have hvi : (x : Int) ≤ 18446744073709551614 := by unfold mg at hm; omega
    have HB := Lib.hid (And.intro hv1 hvi)
    obtain ⟨s, hs⟩ : ∃ s, ng x = s := ⟨_, rfl⟩
    rw [hs] at hf hg
    obtain ⟨r, hr⟩ : ∃ r, nextf x true = r := ⟨_, rfl⟩
    rw [hr] at hf ⊢
    clear h0 hx hm hk2 hs hr hle HC
    cases s
    · rw [if_pos rfl] at hf
      subst hf
      clear hv1
      go_enter Tryz.func10, Tryz.ntmps10
      go_wp2_with (go_at_call 29; first | (with_reducible refine (HX.out _).mono ?_; rintro e w' ⟨rfl, rfl⟩) | (with_reducible refine (HI.out _).mono ?_; rintro e w' ⟨rfl, rfl⟩))
      go_ret; exact ⟨by first | rfl | (have hb := HB.out; simp; rw [IntKind.wrap_u64]; omega), rfl⟩
    · rw [if_neg (by simp)] at hf
      subst hf
      clear hvi
      go_enter Tryz.func10, Tryz.ntmps10
      go_wp2_with (go_at_call 29; first | (with_reducible refine (HX.out _).mono ?_; rintro e w' ⟨rfl, rfl⟩) | (with_reducible refine (HI.out _).mono ?_; rintro e w' ⟨rfl, rfl⟩))
      go_ret; exact ⟨by first | rfl | (have hb := HB.out; simp; rw [IntKind.wrap_u64]; omega), rfl⟩
set_option maxHeartbeats 1000000 in
theorem nextdn_any (x : Nat) (w : World) (hx : x < 18446744073709551616) (hm : mg x < 9218868437227405312) :
    Calls Tryz.prog 10 #[.float .f64 x, .float .f64 18442240474082181120] w fun e w' => e = .returned (.float .f64 (nextf x false)) ∧ w' = w := by
  have HX := Lib.hid (fun W => isNaN_any x W)
  have HI := Lib.hid (fun W => isNaN_any 18442240474082181120 W)
  have HC := Lib.hid (fun W => copy_dn W)
  have hfb := run_bits
  have hff := run_from
  rw [decide_eq_false (by omega)] at HX
  rw [decide_eq_false (by rw [infn_mg.1]; omega)] at HI
  have hk2 : -9218868437227405312 < key x := by unfold key; split <;> omega
  have e1 := ord_eq x 18442240474082181120
  rw [decide_eq_false (by rw [infn_mg.2]; omega)] at e1
  have e2 := ord_gt 18442240474082181120 x
  rw [decide_eq_false (by rw [infn_mg.2]; omega)] at e2
  have e3 := eq_zero x
  by_cases h0 : mg x = 0
  · rw [decide_eq_true h0] at e3
    have hf : nextf x false = 9223372036854775809 := by unfold nextf; rw [if_neg (by omega), if_neg (by omega), if_pos h0, if_neg (by simp)]
    rw [hf]
    clear h0 hf hx hm hk2 e2
    go_enter Tryz.func10, Tryz.ntmps10
    go_wp2_with (first | (go_at_call 29; first | (with_reducible refine (HX.out _).mono ?_; rintro e w' ⟨rfl, rfl⟩) | (with_reducible refine (HI.out _).mono ?_; rintro e w' ⟨rfl, rfl⟩)) | (go_at_call 31; refine (HC.out _).mono ?_; rintro e w' ⟨rfl, rfl⟩))
    go_ret; exact ⟨rfl, rfl⟩
  · rw [decide_eq_false h0] at e3
    have hg := gt_zero x (by omega) (by omega)
    have hf : nextf x false = if ng x = true then x + 1 else x - 1 := by unfold nextf; rw [if_neg (by omega), if_neg (by omega), if_neg h0]; rfl
    have hle : mg x ≤ x := Nat.mod_le _ _
    have hv1 : (1 : Int) ≤ x := by omega
    have hvi : (x : Int) ≤ 18446744073709551614 := by unfold mg at hm; omega
    have HB := Lib.hid (And.intro hv1 hvi)
    obtain ⟨s, hs⟩ : ∃ s, ng x = s := ⟨_, rfl⟩
    rw [hs] at hf hg
    obtain ⟨r, hr⟩ : ∃ r, nextf x false = r := ⟨_, rfl⟩
    rw [hr] at hf ⊢
    clear h0 hx hm hk2 hs hr hle HC
    cases s
    · rw [if_neg (by simp)] at hf
      subst hf
      clear hvi
      go_enter Tryz.func10, Tryz.ntmps10
      go_wp2_with (go_at_call 29; first | (with_reducible refine (HX.out _).mono ?_; rintro e w' ⟨rfl, rfl⟩) | (with_reducible refine (HI.out _).mono ?_; rintro e w' ⟨rfl, rfl⟩))
      go_ret; exact ⟨by first | rfl | (have hb := HB.out; simp; rw [IntKind.wrap_u64]; omega), rfl⟩
    · rw [if_pos rfl] at hf
      subst hf
      clear hv1
      go_enter Tryz.func10, Tryz.ntmps10
      go_wp2_with (go_at_call 29; first | (with_reducible refine (HX.out _).mono ?_; rintro e w' ⟨rfl, rfl⟩) | (with_reducible refine (HI.out _).mono ?_; rintro e w' ⟨rfl, rfl⟩))
      go_ret; exact ⟨by first | rfl | (have hb := HB.out; simp; rw [IntKind.wrap_u64]; omega), rfl⟩
/-! ### Nearness -/
theorem q_un2 (q : Rat) : un (q.num * (tw 1074 : Int)) q.den = q := by
  have h1 := two_ne 1074
  have h2 : ((q.den : Int) : Rat) ≠ 0 := by
    intro e
    have h : (q.den : Int) = 0 := by exact_mod_cast e
    have := q.den_pos
    omega
  have h3 := rat_whole q
  unfold un
  rw [Rat.intCast_mul]
  generalize ((tw 1074 : Int) : Rat) = T at *
  generalize ((q.den : Int) : Rat) = E at *
  generalize ((q.num : Int) : Rat) = M at *
  grind
theorem un_two (N : Int) (D : Nat) : un (2 * N) D = 2 * un N D := by
  unfold un
  rw [Rat.intCast_mul, show ((2 : Int) : Rat) = 2 from rfl, Rat.div_def, Rat.div_def, Rat.mul_assoc]
theorem un_scale (M : Int) {D : Nat} (hD : 0 < D) : un (M * (D : Int)) D = un M 1 := by
  unfold un
  have h1 := two_ne 1074
  have h2 : ((D : Int) : Rat) ≠ 0 := by
    intro e
    have h : (D : Int) = 0 := by exact_mod_cast e
    omega
  rw [Rat.intCast_mul, show (((1 : Nat) : Int) : Rat) = 1 from rfl]
  generalize ((tw 1074 : Int) : Rat) = T at *
  generalize ((D : Int) : Rat) = E at *
  generalize (M : Rat) = m at *
  grind
theorem two_units (q : Rat) (a b : Nat) : (2 * q ≤ fl a + fl b ↔ 2 * (q.num * (tw 1074 : Int)) ≤ (sval a + sval b) * (q.den : Int)) ∧ (2 * q = fl a + fl b ↔ 2 * (q.num * (tw 1074 : Int)) = (sval a + sval b) * (q.den : Int)) ∧ (fl a + fl b ≤ 2 * q ↔ (sval a + sval b) * (q.den : Int) ≤ 2 * (q.num * (tw 1074 : Int))) := by
  have hD := q.den_pos
  have e1 : 2 * q = un (2 * (q.num * (tw 1074 : Int))) q.den := by rw [un_two, q_un2]
  have e2 : fl a + fl b = un ((sval a + sval b) * (q.den : Int)) q.den := by rw [un_scale _ hD, un_sum]
  rw [e1, e2]
  exact ⟨un_le hD, un_eq hD, un_le hD⟩
theorem sval_w (s : Bool) {r : Nat} (h : r < 9223372036854775808) : sval (double.word s r) = if s then -(uval r : Int) else uval r := by
  unfold sval; rw [(word_mg s r h).1, (word_mg s r h).2]
/-- How far one is from the other. -/
def ab (x : Rat) : Rat := if x < 0 then -x else x
theorem ab_up {q p r : Rat} (h : p < r) (k : 2 * q ≤ p + r) : ab (q - p) ≤ ab (q - r) ∧ (ab (q - p) = ab (q - r) → 2 * q = p + r) := by
  unfold ab
  by_cases h1 : q - p < 0
  · rw [if_pos h1, if_pos (by grind)]; constructor <;> grind
  · by_cases h2 : q - r < 0
    · rw [if_neg h1, if_pos h2]; constructor <;> grind
    · rw [if_neg h1, if_neg h2]; constructor <;> grind
theorem ab_dn {q p r : Rat} (h : r < p) (k : p + r ≤ 2 * q) : ab (q - p) ≤ ab (q - r) ∧ (ab (q - p) = ab (q - r) → 2 * q = p + r) := by
  unfold ab
  by_cases h1 : q - p < 0
  · by_cases h2 : q - r < 0
    · rw [if_pos h1, if_pos h2]; constructor <;> grind
    · rw [if_pos h1, if_neg h2]; constructor <;> grind
  · rw [if_neg h1, if_neg (by grind)]; constructor <;> grind
theorem fl_lt {a b : Nat} (h : sval a < sval b) : fl a < fl b := by
  have hle : fl a ≤ fl b ↔ sval a ≤ sval b := by
    rw [fl_un a 1 (by decide), fl_un b 1 (by decide), un_le (by decide)]; simp
  have hge : fl b ≤ fl a ↔ sval b ≤ sval a := by
    rw [fl_un a 1 (by decide), fl_un b 1 (by decide), un_le (by decide)]; simp
  have h1 : ¬ fl b ≤ fl a := fun e => by have := hge.1 e; omega
  have h2 := hle.2 (by omega)
  grind
/-- The float that is told and those beside it. -/
theorem near_beside {q : Rat} {v : Nat} (h : FloatIs q v 0) : v < 18446744073709551616 ∧ mg v < 9218868437227405312 ∧ (mg v = 0 → v = 0) ∧
    (ab (q - fl v) ≤ ab (q - fl (nextf v true)) ∧ (ab (q - fl v) = ab (q - fl (nextf v true)) → v % 2 = 0)) ∧ (ab (q - fl v) ≤ ab (q - fl (nextf v false)) ∧ (ab (q - fl v) = ab (q - fl (nextf v false)) → v % 2 = 0)) := by
  have hN0 : q.num * (tw 1074 : Int) = if q.num < 0 then -((q.num.natAbs * tw 1074 : Nat) : Int) else ((q.num.natAbs * tw 1074 : Nat) : Int) := by
    rw [Int.natCast_mul]
    by_cases g : q.num < 0
    · rw [if_pos g, show ((q.num.natAbs : Nat) : Int) = -q.num by omega, Int.neg_mul, Int.neg_neg]
    · rw [if_neg g, show ((q.num.natAbs : Nat) : Int) = q.num by omega]
  have hD := q.den_pos
  rcases h with ⟨_, R, hR, hN, rfl⟩ | ⟨h, _⟩
  · have fin : ∀ v, (∀ b, sval v < sval b ∨ sval b < sval v → True) → True := fun _ _ => trivial
    clear fin
    have step : ∀ v : Nat, (2 * (q.num * (tw 1074 : Int)) ≤ (sval v + sval (nextf v true)) * (q.den : Int) ∧ (2 * (q.num * (tw 1074 : Int)) = (sval v + sval (nextf v true)) * (q.den : Int) → v % 2 = 0)) → sval v < sval (nextf v true) →
        ((sval v + sval (nextf v false)) * (q.den : Int) ≤ 2 * (q.num * (tw 1074 : Int)) ∧ (2 * (q.num * (tw 1074 : Int)) = (sval v + sval (nextf v false)) * (q.den : Int) → v % 2 = 0)) → sval (nextf v false) < sval v →
        (ab (q - fl v) ≤ ab (q - fl (nextf v true)) ∧ (ab (q - fl v) = ab (q - fl (nextf v true)) → v % 2 = 0)) ∧ (ab (q - fl v) ≤ ab (q - fl (nextf v false)) ∧ (ab (q - fl v) = ab (q - fl (nextf v false)) → v % 2 = 0)) := fun v a1 a2 a3 a4 => by
      have t1 := two_units q v (nextf v true)
      have t2 := two_units q v (nextf v false)
      have u1 := ab_up (fl_lt a2) (t1.1.2 a1.1)
      have u2 := ab_dn (fl_lt a4) (t2.2.2.2 a3.1)
      exact ⟨⟨u1.1, fun e => a1.2 (t1.2.1.1 (u1.2 e))⟩, ⟨u2.1, fun e => a3.2 (t2.2.1.1 (u2.2 e))⟩⟩
    have hU : ∀ x : Nat, ((x * q.den : Nat) : Int) = (x : Int) * (q.den : Int) := fun x => Int.natCast_mul ..
    have hh := hN.hi
    have hhe := hN.hie
    have hs := uval_step R
    rcases Nat.eq_zero_or_pos R with h0 | hp
    · subst h0
      rw [if_neg (fun e => e.2 rfl)]
      have n1 : nextf 0 true = double.word false 1 := by decide +kernel
      have n2 : nextf 0 false = double.word true 1 := by decide +kernel
      have s0 : sval 0 = 0 := by decide +kernel
      have s1 := sval_w false (r := 1) (by decide)
      have s2 := sval_w true (r := 1) (by decide)
      simp only [Bool.false_eq_true, if_false, if_true] at s1 s2
      have u0 : uval 0 = 0 := by decide +kernel
      replace hs : uval 0 < uval 1 := hs
      replace hh : 2 * (q.num.natAbs * tw 1074) ≤ (uval 0 + uval 1) * q.den := hh
      clear hhe
      rw [u0, Nat.zero_add] at hh
      rw [u0] at hs
      refine ⟨by decide, by decide, fun _ => rfl, step 0 ?_ ?_ ?_ ?_⟩
      · rw [n1, s0, s1, Int.zero_add, ← hU, hN0]
        refine ⟨?_, fun _ => rfl⟩
        split <;> omega
      · rw [n1, s0, s1]; omega
      · rw [n2, s0, s2, Int.zero_add, Int.neg_mul, ← hU, hN0]
        refine ⟨?_, fun _ => rfl⟩
        split <;> omega
      · rw [n2, s0, s2]; omega
    · obtain ⟨Q, rfl⟩ : ∃ Q, R = Q + 1 := ⟨R - 1, by omega⟩
      have hl := hN.lo Q rfl
      have hs0 := uval_step Q
      have w1 : ∀ r : Nat, r < 9223372036854775808 → double.word true r = r + 9223372036854775808 := fun r _ => by unfold Format.word; rw [d_sw]; simp <;> omega
      have w0 : ∀ r : Nat, double.word false r = r := fun r => by unfold Format.word; simp <;> omega
      rw [Nat.add_mul] at hh hhe
      rw [Nat.add_mul] at hl
      by_cases hneg : q.num < 0
      · rw [if_pos ⟨hneg, by omega⟩, ← w1 _ (by omega)]
        rw [if_pos hneg] at hN0
        have n1 := (nextf_word true Q (by omega)).2
        have n2 := (nextf_word true (Q + 1) hR).1
        rw [Bool.not_true] at n2
        have sv := sval_w true (r := Q + 1) (by omega)
        have sa := sval_w true (r := Q) (by omega)
        have sb := sval_w true (r := Q + 1 + 1) (by omega)
        simp only [if_true] at sv sa sb
        have par : double.word true (Q + 1) % 2 = (Q + 1) % 2 := by rw [w1 _ (by omega)]; omega
        refine ⟨by rw [w1 _ (by omega)]; omega, by rw [(word_mg true (Q + 1) (by omega)).1]; exact hR, fun e => ?_, step _ ?_ ?_ ?_ ?_⟩
        · rw [(word_mg true (Q + 1) (by omega)).1] at e; omega
        · rw [n1, sv, sa, par, hN0, Int.add_mul, Int.neg_mul, Int.neg_mul, ← hU, ← hU]
          exact ⟨by omega, fun e => hl.2 (by omega)⟩
        · rw [n1, sv, sa]; omega
        · rw [n2, sv, sb, par, hN0, Int.add_mul, Int.neg_mul, Int.neg_mul, ← hU, ← hU]
          exact ⟨by omega, fun e => hhe (by omega)⟩
        · rw [n2, sv, sb]; omega
      · rw [if_neg (fun e => hneg e.1), ← w0 (Q + 1)]
        rw [if_neg hneg] at hN0
        have n1 := (nextf_word false (Q + 1) hR).1
        have n2 := (nextf_word false Q (by omega)).2
        rw [Bool.not_false] at n1
        have sv := sval_w false (r := Q + 1) (by omega)
        have sa := sval_w false (r := Q) (by omega)
        have sb := sval_w false (r := Q + 1 + 1) (by omega)
        simp only [Bool.false_eq_true, if_false] at sv sa sb
        have par : double.word false (Q + 1) % 2 = (Q + 1) % 2 := by rw [w0]
        refine ⟨by rw [w0]; omega, by rw [(word_mg false (Q + 1) (by omega)).1]; exact hR, fun e => ?_, step _ ?_ ?_ ?_ ?_⟩
        · rw [(word_mg false (Q + 1) (by omega)).1] at e; omega
        · rw [n1, sv, sb, par, hN0, Int.add_mul, ← hU, ← hU]
          exact ⟨by omega, fun e => hhe (by omega)⟩
        · rw [n1, sv, sb]; omega
        · rw [n2, sv, sa, par, hN0, Int.add_mul, ← hU, ← hU]
          exact ⟨by omega, fun e => hl.2 (by omega)⟩
        · rw [n2, sv, sa]; omega
  · cases h
end Go.Proofs.YtghcoijinihlnaaGreatDoor

namespace Go.Proofs.YtghcoijinihlnaaGreatDoor
open Go.RowKit Nb

open Fl Ieee
theorem sgnQ_lt (x : Rat) : sgnQ x < 0 ↔ x < 0 := by
  unfold sgnQ
  rcases Int.lt_trichotomy x.num 0 with h | h | h
  · rw [Int.sign_eq_neg_one_of_neg h]
    have : x < 0 := by rw [Rat.lt_iff]; simpa using h
    exact ⟨fun _ => this, fun _ => by decide⟩
  · have : x = 0 := Rat.num_eq_zero.1 h
    subst this
    exact ⟨fun e => by revert e; decide, fun e => by revert e; decide⟩
  · rw [Int.sign_eq_one_of_pos h]
    have : 0 < x := by rw [Rat.lt_iff]; simpa using h
    exact ⟨fun e => by omega, fun e => by grind⟩
/-- A fraction, if the mark says so. -/
def Af (W : World) (z : Rat) (g : Fv) (ok : Bool) : Prop := ok = true → Ff W z g
theorem Af.kp {W W' : World} {z : Rat} {g : Fv} {ok : Bool} (h : Af W z g ok) (k : Kept W W') : Af W' z g ok := fun e => (h e).kp k
theorem Af.no {W : World} {z : Rat} {g : Fv} : Af W z g false := fun e => by cases e
theorem Af.ofFf {W : World} {z : Rat} {g : Fv} (h : Ff W z g) : Af W z g true := fun _ => h
theorem ab_neg {x : Rat} (h : x < 0) : ab x = -x := if_pos h
theorem ab_pos {x : Rat} (h : ¬ x < 0) : ab x = x := if_neg h
set_option maxHeartbeats 8000000 in
set_option maxRecDepth 100000 in
theorem away_no {q : Rat} {f : Fv} {v : Nat} {w : World} (_L : Ff w q f) (hv : v < 18446744073709551616 ∧ 9218868437227405312 ≤ mg v) :
    Calls Tryz.prog 9 #[fv f, .float .f64 v] w (fun e w' => ∃ (g : Fv) (ok : Bool), e = .returned (.tuple #[fv g, .bool ok]) ∧ (ok = true → mg v < 9218868437227405312) ∧ Af w' (ab (q - fl v)) g ok ∧ Below w.heap.size w w') := by
  have HV := Lib.hid hv
  clear hv
  have BW : Below w.heap.size w w := Below.refl _ _
  obtain ⟨V2, e3, hb4, K5, -, z1⟩ := alloc_new w [.bool f.n, .slice f.A f.xs.length f.c, .bool f.m, .slice f.B f.ds.length f.d] 26
  replace BW := BW.trans (hb4.mono BW.size)
  clear hb4
  obtain ⟨V6, e7, hb8, K9, Z10, -⟩ := alloc_new V2 [.bool false, .slice none 0 0, .bool false, .slice none 0 0] 26
  rw [z1] at K9 Z10
  have n11 : w.heap.size ≠ w.heap.size + 1 := Nat.ne_of_lt (z1 ▸ K5.lt)
  have g12 : w.heap.size ≤ w.heap.size + 1 := z1 ▸ BW.size
  replace BW := BW.trans (hb8.mono BW.size)
  clear hb8
  clear z1
  go_enter Tryz.func9, Tryz.ntmps9
  go_wp2_with fail
  rw [← e3, ← e7]
  clear e3 e7
  refine (from_no HV.out.1 HV.out.2).mono ?_
  rintro _ w13 ⟨rfl, hb⟩
  replace K9 := K9.on hb
  replace Z10 := Z10.on hb
  replace BW := BW.trans (hb.mono BW.size)
  clear hb
  obtain ⟨V14, e15, hb16, K17, -, -⟩ := alloc_new w13 [.bool fv0.n, .slice fv0.A fv0.xs.length fv0.c, .bool fv0.m, .slice fv0.B fv0.ds.length fv0.d] 26
  have n18 : w.heap.size + 1 ≠ w13.heap.size := Nat.ne_of_lt (K9.lt)
  replace K9 := K9.on hb16
  replace Z10 := Z10.on hb16
  replace BW := BW.trans (hb16.mono BW.size)
  clear hb16
  obtain ⟨c19, c20, c21, c22⟩ := K9.c4
  obtain ⟨c23, c24, c25, c26⟩ := Z10.f4
  rw [e15] at c19 c20 c21 c22 c23 c24 c25 c26
  obtain ⟨V27, hk29⟩ : ∃ V27, V27 = V14.setCells (w.heap.size + 1) 0 [.bool false, .slice none 0 0, .bool false, .slice none 0 0] := ⟨_, rfl⟩
  have e28 := hk29
  simp only [World.setCells, Nat.zero_add, Nat.reduceAdd] at e28
  have hk30 := Kept.overE hk29 K9 rfl (by simp)
  replace K9 := K9.overE hk29 rfl
  replace BW := Below.putE BW hk29 g12
  clear hk29 hk30
  go_wp2_with fail
  clear c19 c20 c21 c22 c23 c24 c25 c26
  rw [← e15, ← e28]
  clear e15 e28
  generalize w13.heap.size = b31 at *
  obtain ⟨c32, c33, c34, c35⟩ := K9.c4
  exact bodyPost_ret (v := .tuple #[.agg #[.bool false, .slice none 0 0, .bool false, .slice none 0 0], .bool false]) (by simp [results, Tryz.results9, go_sem, c32, c33, c34, c35]) rfl ⟨fv0, false, rfl, (fun e => by cases e), Af.no, BW⟩
set_option maxHeartbeats 8000000 in
set_option maxRecDepth 100000 in
theorem away_fin {q : Rat} {f : Fv} {v : Nat} {w : World} (L : Ff w q f) (hv : v < 18446744073709551616 ∧ mg v < 9218868437227405312) :
    Calls Tryz.prog 9 #[fv f, .float .f64 v] w (fun e w' => ∃ (g : Fv) (ok : Bool), e = .returned (.tuple #[fv g, .bool ok]) ∧ (ok = true → mg v < 9218868437227405312) ∧ Af w' (ab (q - fl v)) g ok ∧ Below w.heap.size w w') := by
  have HV := Lib.hid hv
  clear hv
  have BW : Below w.heap.size w w := Below.refl _ _
  obtain ⟨V2, e3, hb4, K5, -, z1⟩ := alloc_new w [.bool f.n, .slice f.A f.xs.length f.c, .bool f.m, .slice f.B f.ds.length f.d] 26
  replace L := L.kp (Kept.of hb4)
  replace BW := BW.trans (hb4.mono BW.size)
  clear hb4
  obtain ⟨V6, e7, hb8, K9, Z10, -⟩ := alloc_new V2 [.bool false, .slice none 0 0, .bool false, .slice none 0 0] 26
  rw [z1] at K9 Z10
  have n11 : w.heap.size ≠ w.heap.size + 1 := Nat.ne_of_lt (z1 ▸ K5.lt)
  have g12 : w.heap.size ≤ w.heap.size + 1 := z1 ▸ BW.size
  replace K5 := K5.on hb8
  replace L := L.kp (Kept.of hb8)
  replace BW := BW.trans (hb8.mono BW.size)
  clear hb8
  clear z1
  go_enter Tryz.func9, Tryz.ntmps9
  go_wp2_with fail
  rw [← e3, ← e7]
  clear e3 e7
  refine (from_fl HV.out.1 HV.out.2).mono ?_
  rintro _ w13 ⟨g, rfl, G, hb⟩
  replace K5 := K5.on hb
  replace K9 := K9.on hb
  replace Z10 := Z10.on hb
  replace L := L.kp (Kept.of hb)
  replace BW := BW.trans (hb.mono BW.size)
  clear hb
  obtain ⟨V14, e15, hb16, K17, -, -⟩ := alloc_new w13 [.bool g.n, .slice g.A g.xs.length g.c, .bool g.m, .slice g.B g.ds.length g.d] 26
  have n18 : w.heap.size + 1 ≠ w13.heap.size := Nat.ne_of_lt (K9.lt)
  replace K5 := K5.on hb16
  replace K9 := K9.on hb16
  replace Z10 := Z10.on hb16
  replace L := L.kp (Kept.of hb16)
  replace G := G.kp (Kept.of hb16)
  replace BW := BW.trans (hb16.mono BW.size)
  clear hb16
  obtain ⟨c19, c20, c21, c22⟩ := K5.c4
  rw [e15] at c19 c20 c21 c22
  go_wp2_with fail
  clear c19 c20 c21 c22
  rw [← e15]
  clear e15
  generalize w13.heap.size = b23 at *
  refine (r_sub L G).mono ?_
  rintro _ w24 ⟨d, er, rfl, R, hb⟩
  replace K5 := K5.on hb
  replace K9 := K9.on hb
  replace K17 := K17.on hb
  replace Z10 := Z10.on hb
  replace L := L.kp (Kept.of hb)
  replace G := G.kp (Kept.of hb)
  replace BW := BW.trans (hb.mono BW.size)
  clear hb
  rcases R with ⟨_, _, rfl, D⟩ | ⟨hbad, rfl⟩
  · obtain ⟨V25, e26, hb27, K28, Z29, -⟩ := alloc_new w24 [.bool d.n, .slice d.A d.xs.length d.c, .bool d.m, .slice d.B d.ds.length d.d] 26
    have n30 : w.heap.size ≠ w24.heap.size := Nat.ne_of_lt (K5.lt)
    have n31 : w.heap.size + 1 ≠ w24.heap.size := Nat.ne_of_lt (K9.lt)
    have n32 : b23 ≠ w24.heap.size := Nat.ne_of_lt (K17.lt)
    have g33 : w.heap.size ≤ w24.heap.size := BW.size
    replace K5 := K5.on hb27
    replace K9 := K9.on hb27
    replace K17 := K17.on hb27
    replace Z10 := Z10.on hb27
    replace L := L.kp (Kept.of hb27)
    replace G := G.kp (Kept.of hb27)
    replace D := D.kp (Kept.of hb27)
    replace BW := BW.trans (hb27.mono BW.size)
    clear hb27
    go_wp2_with fail
    rw [← e26]
    clear e26
    generalize w24.heap.size = b34 at *
    refine (r_sign D).mono ?_
    rintro _ w35 ⟨rfl, hb⟩
    replace K5 := K5.on hb
    replace K9 := K9.on hb
    replace K17 := K17.on hb
    replace K28 := K28.on hb
    replace Z10 := Z10.on hb
    replace Z29 := Z29.on hb
    replace L := L.kp (Kept.of hb)
    replace G := G.kp (Kept.of hb)
    replace D := D.kp (Kept.of hb)
    replace BW := BW.trans (hb.mono BW.size)
    clear hb
    obtain ⟨z, hz⟩ : ∃ z, sgnQ (q - fl v) = z := ⟨_, rfl⟩
    rw [hz]
    have hzl := sgnQ_lt (q - fl v)
    rw [hz] at hzl
    have HZ := Lib.hid hzl
    clear hz hzl
    by_cases hs : z < 0
    · have hs2 : z < 0 := hs
      clear hs
      obtain ⟨c36, c37, c38, c39⟩ := K5.c4
      obtain ⟨c40, c41, c42, c43⟩ := K17.c4
      go_wp2_with fail
      clear c36 c37 c38 c39 c40 c41 c42 c43
      refine (r_sub G L).mono ?_
      rintro _ w44 ⟨d2, er2, rfl, R2, hb⟩
      replace K9 := K9.on hb
      replace K28 := K28.on hb
      replace Z10 := Z10.on hb
      replace Z29 := Z29.on hb
      replace D := D.kp (Kept.of hb)
      replace BW := BW.trans (hb.mono BW.size)
      clear hb
      rcases R2 with ⟨_, _, rfl, D2⟩ | ⟨hbad, rfl⟩
      · obtain ⟨c45, c46, c47, c48⟩ := K28.c4
        obtain ⟨c49, c50, c51, c52⟩ := Z29.f4
        obtain ⟨V53, hk55⟩ : ∃ V53, V53 = w44.setCells (b34) 0 [.bool d2.n, .slice d2.A d2.xs.length d2.c, .bool d2.m, .slice d2.B d2.ds.length d2.d] := ⟨_, rfl⟩
        have e54 := hk55
        simp only [World.setCells, Nat.zero_add, Nat.reduceAdd] at e54
        have hk56 := Kept.overE hk55 K28 rfl (by simp)
        replace K9 := K9.awayE hk55 n31
        replace K28 := K28.overE hk55 rfl
        replace Z10 := Z10.putE hk55
        replace Z29 := Z29.putE hk55
        replace D := D.kp hk56
        replace D2 := D2.kp hk56
        replace BW := Below.putE BW hk55 g33
        clear hk55 hk56
        obtain ⟨c57, c58, c59, c60⟩ := K28.c4
        rw [e54] at c57 c58 c59 c60
        obtain ⟨c61, c62, c63, c64⟩ := K9.c4
        obtain ⟨c65, c66, c67, c68⟩ := Z10.f4
        rw [e54] at c61 c62 c63 c64 c65 c66 c67 c68
        obtain ⟨V69, hk71⟩ : ∃ V69, V69 = V53.setCells (w.heap.size + 1) 0 [.bool d2.n, .slice d2.A d2.xs.length d2.c, .bool d2.m, .slice d2.B d2.ds.length d2.d] := ⟨_, rfl⟩
        have e70 := hk71
        simp only [World.setCells, Nat.zero_add, Nat.reduceAdd] at e70
        have hk72 := Kept.overE hk71 K9 rfl (by simp)
        replace K9 := K9.overE hk71 rfl
        replace K28 := K28.awayE hk71 n31.symm
        replace Z10 := Z10.putE hk71
        replace Z29 := Z29.putE hk71
        replace D := D.kp hk72
        replace D2 := D2.kp hk72
        replace BW := Below.putE BW hk71 g12
        clear hk71 hk72
        go_wp2_with fail
        clear c45 c46 c47 c48 c49 c50 c51 c52 c57 c58 c59 c60 c61 c62 c63 c64 c65 c66 c67 c68
        rw [← e54, ← e70]
        clear e54 e70
        obtain ⟨c73, c74, c75, c76⟩ := K9.c4
        exact bodyPost_ret (v := .tuple #[fv d2, .bool true]) (by simp [results, Tryz.results9, go_sem, c73, c74, c75, c76]) rfl ⟨d2, true, rfl, fun _ => HV.out.2, Af.ofFf (D2.to (by rw [ab_neg (HZ.out.1 hs2)]; grind)), BW⟩
      · obtain rfl : er2 = 4 := by rcases hbad with ⟨h, _⟩ | ⟨_, _, h⟩; exact absurd h not_false; exact h
        clear hbad
        obtain ⟨c45, c46, c47, c48⟩ := K28.c4
        obtain ⟨c49, c50, c51, c52⟩ := Z29.f4
        obtain ⟨V53, hk55⟩ : ∃ V53, V53 = w44.setCells (b34) 0 [.bool fv0.n, .slice fv0.A fv0.xs.length fv0.c, .bool fv0.m, .slice fv0.B fv0.ds.length fv0.d] := ⟨_, rfl⟩
        have e54 := hk55
        simp only [World.setCells, Nat.zero_add, Nat.reduceAdd] at e54
        have hk56 := Kept.overE hk55 K28 rfl (by simp)
        replace K9 := K9.awayE hk55 n31
        replace K28 := K28.overE hk55 rfl
        replace Z10 := Z10.putE hk55
        replace D := D.kp hk56
        replace BW := Below.putE BW hk55 g33
        clear hk55 hk56
        obtain ⟨c57, c58, c59, c60⟩ := K28.c4
        rw [e54] at c57 c58 c59 c60
        obtain ⟨c61, c62, c63, c64⟩ := K9.c4
        obtain ⟨c65, c66, c67, c68⟩ := Z10.f4
        rw [e54] at c61 c62 c63 c64 c65 c66 c67 c68
        obtain ⟨V69, hk71⟩ : ∃ V69, V69 = V53.setCells (w.heap.size + 1) 0 [.bool fv0.n, .slice fv0.A fv0.xs.length fv0.c, .bool fv0.m, .slice fv0.B fv0.ds.length fv0.d] := ⟨_, rfl⟩
        have e70 := hk71
        simp only [World.setCells, Nat.zero_add, Nat.reduceAdd] at e70
        have hk72 := Kept.overE hk71 K9 rfl (by simp)
        replace K9 := K9.overE hk71 rfl
        replace K28 := K28.awayE hk71 n31.symm
        replace Z10 := Z10.putE hk71
        replace D := D.kp hk72
        replace BW := Below.putE BW hk71 g12
        clear hk71 hk72
        go_wp2_with fail
        clear c45 c46 c47 c48 c49 c50 c51 c52 c57 c58 c59 c60 c61 c62 c63 c64 c65 c66 c67 c68
        rw [← e54, ← e70]
        clear e54 e70
        obtain ⟨c73, c74, c75, c76⟩ := K9.c4
        exact bodyPost_ret (v := .tuple #[fv fv0, .bool false]) (by simp [results, Tryz.results9, go_sem, c73, c74, c75, c76]) rfl ⟨fv0, false, rfl, (fun e => by cases e), Af.no, BW⟩
    · have hs2 : ¬ z < 0 := hs
      clear hs
      obtain ⟨c36, c37, c38, c39⟩ := K9.c4
      obtain ⟨c40, c41, c42, c43⟩ := Z10.f4
      obtain ⟨c44, c45, c46, c47⟩ := K28.c4
      obtain ⟨V48, hk50⟩ : ∃ V48, V48 = w35.setCells (w.heap.size + 1) 0 [.bool d.n, .slice d.A d.xs.length d.c, .bool d.m, .slice d.B d.ds.length d.d] := ⟨_, rfl⟩
      have e49 := hk50
      simp only [World.setCells, Nat.zero_add, Nat.reduceAdd] at e49
      have hk51 := Kept.overE hk50 K9 rfl (by simp)
      replace K9 := K9.overE hk50 rfl
      replace K28 := K28.awayE hk50 n31.symm
      replace Z10 := Z10.putE hk50
      replace D := D.kp hk51
      replace BW := Below.putE BW hk50 g12
      clear hk50 hk51
      go_wp2_with fail
      clear c36 c37 c38 c39 c40 c41 c42 c43 c44 c45 c46 c47
      rw [← e49]
      clear e49
      obtain ⟨c52, c53, c54, c55⟩ := K9.c4
      exact bodyPost_ret (v := .tuple #[fv d, .bool true]) (by simp [results, Tryz.results9, go_sem, c52, c53, c54, c55]) rfl ⟨d, true, rfl, fun _ => HV.out.2, Af.ofFf (D.to (by rw [ab_pos (fun e => by have := HZ.out.2 e; omega)])), BW⟩
  · obtain rfl : er = 4 := by rcases hbad with ⟨h, _⟩ | ⟨_, _, h⟩; exact absurd h not_false; exact h
    clear hbad
    obtain ⟨V25, e26, hb27, K28, -, -⟩ := alloc_new w24 [.bool fv0.n, .slice fv0.A fv0.xs.length fv0.c, .bool fv0.m, .slice fv0.B fv0.ds.length fv0.d] 26
    have n29 : w.heap.size + 1 ≠ w24.heap.size := Nat.ne_of_lt (K9.lt)
    replace K9 := K9.on hb27
    replace Z10 := Z10.on hb27
    replace BW := BW.trans (hb27.mono BW.size)
    clear hb27
    obtain ⟨c30, c31, c32, c33⟩ := K9.c4
    obtain ⟨c34, c35, c36, c37⟩ := Z10.f4
    rw [e26] at c30 c31 c32 c33 c34 c35 c36 c37
    obtain ⟨V38, hk40⟩ : ∃ V38, V38 = V25.setCells (w.heap.size + 1) 0 [.bool fv0.n, .slice fv0.A fv0.xs.length fv0.c, .bool fv0.m, .slice fv0.B fv0.ds.length fv0.d] := ⟨_, rfl⟩
    have e39 := hk40
    simp only [World.setCells, Nat.zero_add, Nat.reduceAdd] at e39
    have hk41 := Kept.overE hk40 K9 rfl (by simp)
    replace K9 := K9.overE hk40 rfl
    replace BW := Below.putE BW hk40 g12
    clear hk40 hk41
    go_wp2_with fail
    clear c30 c31 c32 c33 c34 c35 c36 c37
    rw [← e26, ← e39]
    clear e26 e39
    generalize w24.heap.size = b42 at *
    obtain ⟨c43, c44, c45, c46⟩ := K9.c4
    exact bodyPost_ret (v := .tuple #[fv fv0, .bool false]) (by simp [results, Tryz.results9, go_sem, c43, c44, c45, c46]) rfl ⟨fv0, false, rfl, (fun e => by cases e), Af.no, BW⟩
theorem away_any {q : Rat} {f : Fv} {v : Nat} {w : World} (L : Ff w q f) (hv : v < 18446744073709551616) : Calls Tryz.prog 9 #[fv f, .float .f64 v] w (fun e w' => ∃ (g : Fv) (ok : Bool), e = .returned (.tuple #[fv g, .bool ok]) ∧ (ok = true → mg v < 9218868437227405312) ∧ Af w' (ab (q - fl v)) g ok ∧ Below w.heap.size w w') := by
  rcases Nat.lt_or_ge (mg v) 9218868437227405312 with h | h
  · exact away_fin L ⟨hv, h⟩
  · exact away_no L ⟨hv, h⟩
end Go.Proofs.YtghcoijinihlnaaGreatDoor
