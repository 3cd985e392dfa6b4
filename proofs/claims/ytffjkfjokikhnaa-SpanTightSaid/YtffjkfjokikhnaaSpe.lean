/-
  Sums and products of single floats are as narrow as may be: their ends are one float, or two beside one another, and the own answer is one of them (SpanTight's walk). Condition: floats of 64 bits.
-/
import Derived.Test.YtffjkfjokikhnaaSpd
namespace Go.Proofs.Ytffjkfjokikhnaa.Fl
open Go.RowKit Ieee

theorem sam_flt {d e : Nat} (h : SamOk d e) (f : Flt d) : d = e := by
  rcases h with h | h
  · exact h
  · have := f.2; omega
theorem sum_det {x y d u e v : Nat} (w : World) (h : SumIs x y d u) (k : SumIs x y e v) : d = e ∧ u = v := by
  obtain ⟨r, hr, h⟩ := h
  obtain ⟨s, hs, k⟩ := k
  rw [hr] at hs; cases hs
  have f := add_flt hr h
  rw [← (add_fop hr w).1] at h k
  have := add_same h k
  exact ⟨sam_flt this.1 f.1, sam_flt this.2 f.2⟩
theorem pro_det {x y d u e v : Nat} (hx : x < 18446744073709551616) (h : ProIs x y d u) (k : ProIs x y e v) : d = e ∧ u = v := by
  obtain ⟨r, hr, h⟩ := h
  obtain ⟨s, hs, k⟩ := k
  rw [hr] at hs; cases hs
  have ht := mul_told hr
  rcases h with ⟨c, rfl, rfl⟩ | ⟨p, q, l, ⟨i, rfl, hi⟩, rfl, rfl⟩
  · rcases k with ⟨_, rfl, rfl⟩ | ⟨p, q, _⟩
    · exact ⟨rfl, rfl⟩
    · exact absurd ⟨p, q⟩ c
  · rcases k with ⟨c, _⟩ | ⟨p', q', l', ⟨j, rfl, hj⟩, rfl, rfl⟩
    · exact absurd ⟨p, q⟩ c
    · rcases Nat.lt_or_eq_of_le ht.1 with g | g
      · obtain ⟨a, ha, _⟩ := leftIs_ex hx (Nat.le_of_lt p.2) q g
        rw [hi _ ha, hj _ ha]; exact ⟨rfl, rfl⟩
      · exact lohi_beyond g _ _
theorem key_abs (x : Nat) : (key x).natAbs = mg x := by unfold key; split <;> simp
theorem nextf_pls (d : Nat) : nextf (pls d) true = nextf d true := by
  by_cases h : mg d = 0
  · have e : pls d = 0 := if_pos h
    have h0 : mg 0 = 0 := by decide
    rw [e]
    unfold nextf
    rw [h, h0]
    simp
  · rw [show pls d = d from if_neg h]
theorem pls_sign {x : Nat} (h : mg (pls x) = 0) : ng (pls x) = false := by
  rw [pls_mg] at h
  rw [show pls x = 0 from if_pos h]; decide
theorem tight_of {d u o : Nat} (hd : Flt d) (hu : Flt u) (hs : Spn d u) (h : BesOk d u o) : Tight (pls d) (pls u) o := by
  rcases h with ⟨h, _⟩ | ⟨_, _, ho, hk, h⟩
  · have := hd.2; omega
  · have a := key_abs d
    have b := key_abs u
    have c := key_abs o
    have f1 := hs.1
    have f2 := hs.2.1
    refine ⟨pls_lt hd.1, pls_lt hu.1, by rw [pls_mg]; exact f1, by rw [pls_mg]; exact f2, by rcases hk with e | e <;> rw [e] at c <;> omega, by rw [pls_key, pls_key]; exact hk, ?_, pls_sign, pls_sign⟩
    rw [nextf_pls, pls_key, pls_key]
    rcases h with e | ⟨e1, e2, e3, _⟩
    · exact .inl e
    · exact .inr ⟨e1, e2, e3⟩
theorem lea_one (d u : Nat) : lmn d [(d, u), (d, u), (d, u)] = d ∧ lmx u [(d, u), (d, u), (d, u)] = u := by
  have h1 : fmin d d = d := by rcases fmin_or d d with h | h <;> exact h
  have h2 : fmax u u = u := by rcases fmax_or u u with h | h <;> exact h
  unfold lmn lmx
  simp [h1, h2]
theorem spn_self {v : Nat} (h : mg v < 9218868437227405312) : Spn v v := ⟨h, h, Int.le_refl _⟩
/-- What 'tight' is asked of an answer. -/
def IsTight (e : Ending) (r : Nat) : Prop := ∃ (l h : Nat) (er : Int), e = .returned (.tuple #[spv l h, .int .i64 er]) ∧ ∀ W, Calls Try.prog 37 #[spv l h, .int .i64 er, .float .f64 r] W fun e w' => e = .returned (.bool true) ∧ Below W.heap.size W w'
theorem isTight_of {Rel : Nat → Nat → Nat → Nat → Prop} {v w r : Nat} {e : Ending} (fv : mg v < 9218868437227405312) (fw : mg w < 9218868437227405312) (h : SpRes Rel v v w w e)
    (hdet : ∀ d u d' u', Rel v w d u → Rel v w d' u' → d = d' ∧ u = u') (hbes : ∀ d u, Rel v w d u → BesOk d u r) : IsTight e r := by
  rcases h with ⟨h, _⟩ | ⟨_, d1, u1, d2, u2, d3, u3, d4, u4, ⟨a, b, c, d⟩, ⟨k1, k2, _⟩, rfl⟩
  · exact absurd ⟨spn_self fv, spn_self fw⟩ h
  · obtain ⟨rfl, rfl⟩ := hdet _ _ _ _ a b
    obtain ⟨rfl, rfl⟩ := hdet _ _ _ _ a c
    obtain ⟨rfl, rfl⟩ := hdet _ _ _ _ a d
    have hl := lea_one d1 u1
    by_cases hs : Spn d1 u1
    · have e1 : leaLo d1 u1 [(d1, u1), (d1, u1), (d1, u1)] = pls d1 := by unfold leaLo; rw [hl.1, hl.2, if_pos hs]
      have e2 : leaHi d1 u1 [(d1, u1), (d1, u1), (d1, u1)] = pls u1 := by unfold leaHi; rw [hl.1, hl.2, if_pos hs]
      have e3 : leaE d1 u1 [(d1, u1), (d1, u1), (d1, u1)] = 0 := by unfold leaE; rw [hl.1, hl.2, if_pos hs]
      rw [e1, e2, e3]
      exact ⟨_, _, _, rfl, fun W => tight_yes _ _ _ W (tight_of k1 k2 hs (hbes _ _ a))⟩
    · have e1 : leaLo d1 u1 [(d1, u1), (d1, u1), (d1, u1)] = 0 := by unfold leaLo; rw [hl.1, hl.2, if_neg hs]
      have e2 : leaHi d1 u1 [(d1, u1), (d1, u1), (d1, u1)] = 0 := by unfold leaHi; rw [hl.1, hl.2, if_neg hs]
      have e3 : leaE d1 u1 [(d1, u1), (d1, u1), (d1, u1)] = 6 := by unfold leaE; rw [hl.1, hl.2, if_neg hs]
      rw [e1, e2, e3]
      exact ⟨_, _, _, rfl, fun W => tight_no _ W⟩

set_option maxHeartbeats 4000000 in
theorem spanTight_walk (v u : Nat) (w : World) (h1 : v < 18446744073709551616) (h2 : u < 18446744073709551616) :
    Calls Try.prog 9 #[.float .f64 v, .float .f64 u] w fun e w' => e = .returned (.bool true) ∧ Below w.heap.size w w' := by
  have C9 := Lib.hid (fun W => lives_any W)
  have hsf := @run_store_f Try.prog .f64
  by_cases fv : mg v < 9218868437227405312
  · obtain ⟨r0, hr0, hz0⟩ := sub_self h1 fv
    have hs1 : ∀ t W, (binOp .sub t (.float .f64 v) (.float .f64 v)).run Try.prog W = .ok (.float .f64 r0) W := fun t W => by rw [run_sub, (fop_some (op := .sub) hr0 W).1, (fop_some (op := .sub) hr0 W).2]; rfl
    have o1 : (FloatKind.f64.format.order r0 0 != some .eq) = false := by
      show (!(FloatKind.f64.format.order r0 0 == some .eq)) = false
      rw [eq_zero, decide_eq_true hz0]; rfl
    clear hz0
    by_cases fu : mg u < 9218868437227405312
    · obtain ⟨r1, hr1, hz1⟩ := sub_self h2 fu
      have hs2 : ∀ t W, (binOp .sub t (.float .f64 u) (.float .f64 u)).run Try.prog W = .ok (.float .f64 r1) W := fun t W => by rw [run_sub, (fop_some (op := .sub) hr1 W).1, (fop_some (op := .sub) hr1 W).2]; rfl
      have o2 : (FloatKind.f64.format.order r1 0 != some .eq) = false := by
        show (!(FloatKind.f64.format.order r1 0 == some .eq)) = false
        rw [eq_zero, decide_eq_true hz1]; rfl
      clear hz1
      obtain ⟨r, hr⟩ := add_fin fv fu
      obtain ⟨m, hm⟩ := mul_fin fv fu
      have hadd : ∀ t W, (binOp .add t (.float .f64 v) (.float .f64 u)).run Try.prog W = .ok (.float .f64 r) W := fun t W => by rw [run_add, (add_fop hr W).1, (fop_some (op := .add) hr W).2]; rfl
      have hmul : ∀ t W, (binOp .mul t (.float .f64 v) (.float .f64 u)).run Try.prog W = .ok (.float .f64 m) W := fun t W => by rw [run_mul, (fop_some (op := .mul) hm W).1, (fop_some (op := .mul) hm W).2]; rfl
      have H1 : Hid (∀ W, Calls Try.prog 35 #[spv v v, spv u u] W fun e w' => IsTight e r ∧ Below W.heap.size W w') := Lib.hid fun W =>
        (spanadd_any v v u u W h1 h1 h2 h2).mono fun e w' ⟨h, hb⟩ => ⟨isTight_of fv fu h (fun _ _ _ _ => sum_det W) (fun d u' ⟨s, hs, hd⟩ => by
          rw [hr] at hs; cases hs
          rcases hd with ⟨_, rfl, rfl⟩ | ⟨_, _, _, l, _, rfl, rfl⟩
          · exact bes_same (.inl ⟨(add_told hr).1, rfl⟩)
          · exact bes_about l (add_told hr).2 (add_told hr).1), hb⟩
      have H2 : Hid (∀ W, Calls Try.prog 36 #[spv v v, spv u u] W fun e w' => IsTight e m ∧ Below W.heap.size W w') := Lib.hid fun W =>
        (spanmul_any v v u u W h1 h1 h2 h2).mono fun e w' ⟨h, hb⟩ => ⟨isTight_of fv fu h (fun _ _ _ _ => pro_det h1) (fun d u' ⟨s, hs, hd⟩ => by
          rw [hm] at hs; cases hs
          rcases hd with ⟨_, rfl, rfl⟩ | ⟨_, _, l, _, rfl, rfl⟩
          · exact bes_same (.inl ⟨(mul_told hm).1, rfl⟩)
          · exact bes_about l (mul_told hm).2 (mul_told hm).1), hb⟩
      clear h1 h2 fv fu hr hm hr0 hr1
      go_enter Try.func9, Try.ntmps9
      go_wp2_with fail
      refine (H1.out _).mono ?_
      rintro e w1 ⟨⟨l1, k1, e1, rfl, T1⟩, hb⟩
      have HT1 := Lib.hid T1
      have KA := ((Cel.new w 31 v v).on ((Below.refl _ _).alloc (Nat.le_refl _) (.cells #[.float .f64 u, .float .f64 u] 31))).on hb
      have KB := (Cel.new (w.alloc (.cells #[.float .f64 v, .float .f64 v] 31)) 31 u u).on hb
      rw [World.size_alloc] at KB
      have g1 : Below w.heap.size w w1 := Below.trans (by (repeat (first | exact below_self _ _ | assumption | refine below_dn ?_ _ | refine Below.drew ?_ | refine Below.setCell ?_ (by (try simp) <;> (try omega)) _ | refine Below.alloc ?_ (by (try simp) <;> (try omega)) _))) (hb.mono (by (try simp) <;> (try omega)))
      clear hb T1 H1
      have q : Below w1.heap.size w1 (w1.alloc (.cells #[.float .f64 l1, .float .f64 k1] 31)) := (Below.refl _ _).alloc (Nat.le_refl _) _
      replace KA := KA.on q
      replace KB := KB.on q
      have KX := Cel.new w1 31 l1 k1
      replace g1 := g1.trans (q.mono g1.size)
      clear q
      have a0 := KA.c0
      have a1 := KA.c1
      have b0 := KB.c0
      have b1 := KB.c1
      go_wp2_with fail
      refine (H2.out _).mono ?_
      rintro e w2 ⟨⟨l2, k2, e2, rfl, T2⟩, hb⟩
      have HT2 := Lib.hid T2
      clear a0 a1 b0 b1 KA KB T2 H2
      replace KX := KX.on hb
      replace g1 := g1.trans (hb.mono g1.size)
      clear hb
      have q : Below w2.heap.size w2 (w2.alloc (.cells #[.float .f64 l2, .float .f64 k2] 31)) := (Below.refl _ _).alloc (Nat.le_refl _) _
      replace KX := KX.on q
      have KY := Cel.new w2 31 l2 k2
      replace g1 := g1.trans (q.mono g1.size)
      clear q
      have x0 := KX.c0
      have x1 := KX.c1
      go_wp2_with fail
      refine (HT1.out _).mono ?_
      rintro e w3 ⟨rfl, hb⟩
      clear x0 x1
      replace KY := KY.on hb
      replace g1 := g1.trans (hb.mono g1.size)
      clear hb
      have y0 := KY.c0
      have y1 := KY.c1
      go_wp2_with fail
      refine (HT2.out _).mono ?_
      rintro e w4 ⟨rfl, hb⟩
      replace g1 := g1.trans (hb.mono g1.size)
      clear hb y0 y1
      go_wp2_with fail
      refine (C9.out _).mono ?_
      rintro e w5 ⟨rfl, hb⟩
      replace g1 := g1.trans (hb.mono g1.size)
      clear hb
      go_wp2
      go_ret
      exact ⟨rfl, g1⟩
    · obtain ⟨n, hn⟩ : ∃ n, nd .sub u u = n := ⟨_, rfl⟩
      have hs2 := fun t W => run_sub (P := Try.prog) t u u W
      rw [hn] at hs2
      have o2 : ∀ W, (FloatKind.f64.format.order (fop .sub u u W) 0 != some .eq) = true := fun W => by
        show (!(FloatKind.f64.format.order (fop .sub u u W) 0 == some .eq)) = true
        rw [fin_order h2, show finB u = false from decide_eq_false fu]; rfl
      clear h1 h2 fv fu hr0 hn
      go_enter Try.func9, Try.ntmps9
      go_wp2_with fail
      refine (C9.out _).mono ?_
      rintro e w5 ⟨rfl, hb⟩
      have g1 : Below w.heap.size w w5 := Below.trans (by (repeat (first | exact below_self _ _ | assumption | refine below_dn ?_ _ | refine Below.drew ?_ | refine Below.setCell ?_ (by (try simp) <;> (try omega)) _ | refine Below.alloc ?_ (by (try simp) <;> (try omega)) _))) (hb.mono (by (try simp) <;> (try omega)))
      clear hb
      go_wp2
      go_ret
      exact ⟨rfl, g1⟩
  · obtain ⟨n, hn⟩ : ∃ n, nd .sub v v = n := ⟨_, rfl⟩
    have hs2 := fun t W => run_sub (P := Try.prog) t v v W
    rw [hn] at hs2
    have o2 : ∀ W, (FloatKind.f64.format.order (fop .sub v v W) 0 != some .eq) = true := fun W => by
      show (!(FloatKind.f64.format.order (fop .sub v v W) 0 == some .eq)) = true
      rw [fin_order h1, show finB v = false from decide_eq_false fv]; rfl
    clear h1 h2 fv hn
    go_enter Try.func9, Try.ntmps9
    go_wp2_with fail
    refine (C9.out _).mono ?_
    rintro e w5 ⟨rfl, hb⟩
    have g1 : Below w.heap.size w w5 := Below.trans (by (repeat (first | exact below_self _ _ | assumption | refine below_dn ?_ _ | refine Below.drew ?_ | refine Below.setCell ?_ (by (try simp) <;> (try omega)) _ | refine Below.alloc ?_ (by (try simp) <;> (try omega)) _))) (hb.mono (by (try simp) <;> (try omega)))
    clear hb
    go_wp2
    go_ret
    exact ⟨rfl, g1⟩
end Go.Proofs.Ytffjkfjokikhnaa.Fl
