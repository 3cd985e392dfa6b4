/-
  A sum of floats, rounded; what Two tells of it is exact. Condition: the sum is finite.
-/
import Derived.Test.YtghcoijinihlnaaExa
namespace Go.Proofs.Ytghcoijinihlnaa.Fl
open Ieee
theorem sval_ngf {x : Nat} (h : x < 18446744073709551616) : sval (ngf x) = - sval x := by
  unfold sval; rw [(ngf_is h).1, (ngf_is h).2]; cases ng x <;> simp
theorem sval_abs (x : Nat) : (sval x).natAbs = uval (mg x) := by unfold sval; cases ng x <;> simp
theorem sval_rep (x : Nat) : Rep (sval x).natAbs := ⟨mg x, (sval_abs x).symm⟩
theorem uval_zero : uval 0 = 0 := uval_small (by omega)
theorem sval_zero {x : Nat} : sval x = 0 ↔ mg x = 0 := by
  have h := sval_abs x
  constructor
  · intro e; rw [e] at h
    rcases Nat.eq_zero_or_pos (mg x) with g | g
    · exact g
    · have := uval_pos g; simp at h; omega
  · intro e; rw [e, uval_zero] at h; omega
theorem sval_of {x : Nat} {S : Int} (h : uval (mg x) = S.natAbs) (hs : S ≠ 0 → ng x = decide (S < 0)) : sval x = S := by
  unfold sval
  rw [h]
  by_cases h0 : S = 0
  · subst h0; simp
  · rw [hs h0]
    by_cases h1 : S < 0
    · rw [decide_eq_true h1]; simp; omega
    · rw [decide_eq_false h1]; simp; omega
/-- The sum of two finite floats: the nearest float. -/
theorem add_nr {x y r : Nat} (hx : mg x < 9218868437227405312) (hy : mg y < 9218868437227405312) (h : double.add x y = some r) : ∃ R, mg r = min R 9218868437227405312 ∧ Nr (sval x + sval y).natAbs R ∧ (sval x + sval y ≠ 0 → ng r = decide (sval x + sval y < 0)) ∧ r < 18446744073709551616 := by
  obtain ⟨M, P, e1, p1, v1⟩ := read_fin x hx
  obtain ⟨N, Q, e2, p2, v2⟩ := read_fin y hy
  have hl := (add_told h).2
  unfold Format.add at h
  rw [e1, e2] at h
  cases h
  obtain ⟨T, hT⟩ : ∃ T, signed (ng x) M (P - min P Q).toNat + signed (ng y) N (Q - min P Q).toNat = T := ⟨_, rfl⟩
  have hS : T * (2 ^ (min P Q + 1074).toNat : Nat) = sval x + sval y := by
    rw [← hT, Int.add_mul, signed_sval v1 (Int.min_le_left P Q) (by omega), signed_sval v2 (Int.min_le_right P Q) (by omega)]
  have hp : (0 : Int) < (2 ^ (min P Q + 1074).toNat : Nat) := Int.natCast_pos.2 (Nat.two_pow_pos _)
  obtain ⟨sg, hsg⟩ : ∃ sg, (if T = 0 then ng x && ng y else decide (T < 0)) = sg := ⟨_, rfl⟩
  obtain ⟨R, e, hR⟩ := near_spec sg T.natAbs (min P Q)
  have hw : double.write (.number (if signed (ng x) M (P - min P Q).toNat + signed (ng y) N (Q - min P Q).toNat = 0 then ng x && ng y else decide (signed (ng x) M (P - min P Q).toNat + signed (ng y) N (Q - min P Q).toNat < 0)) (signed (ng x) M (P - min P Q).toNat + signed (ng y) N (Q - min P Q).toNat).natAbs (min P Q)) = double.word sg (min R 9218868437227405312) := by
    rw [hT, hsg]; exact e
  have hmw := word_mg sg (min R 9218868437227405312) (by omega)
  refine ⟨R, ?_, ?_, ?_, hl⟩
  · exact (congrArg mg hw).trans hmw.1
  · refine nr_of hR (A := (min P Q + 1074).toNat) (by omega) ?_
    rw [← hS, Int.natAbs_mul, Int.natAbs_natCast]
  · intro hne
    refine (congrArg ng hw).trans (hmw.2.trans ?_)
    have hT0 : T ≠ 0 := fun h => hne (by rw [← hS, h, Int.zero_mul])
    rw [← hsg, if_neg hT0]
    refine decide_eq_decide.2 ?_
    rw [← hS]
    constructor
    · intro h; exact Int.mul_neg_of_neg_of_pos h hp
    · intro h
      rcases Int.lt_or_le T 0 with g | g
      · exact g
      · have := Int.mul_nonneg g (Int.le_of_lt hp); omega
theorem sub_nr {x y r : Nat} (hx : mg x < 9218868437227405312) (hy : mg y < 9218868437227405312) (hyl : y < 18446744073709551616) (h : double.sub x y = some r) : ∃ R, mg r = min R 9218868437227405312 ∧ Nr (sval x - sval y).natAbs R ∧ (sval x - sval y ≠ 0 → ng r = decide (sval x - sval y < 0)) ∧ r < 18446744073709551616 := by
  have e : double.sub x y = double.add x (ngf y) := by unfold Format.sub Format.add; rw [read_ngf' hyl]
  rw [e] at h
  have k := add_nr hx (by rw [(ngf_is hyl).1]; exact hy) h
  rw [sval_ngf hyl] at k
  exact k
/-- Where the exact result is a float, it is told. -/
theorem nr_told {S : Int} {r R : Nat} (hm : mg r = min R 9218868437227405312) (hn : Nr S.natAbs R) (hs : S ≠ 0 → ng r = decide (S < 0)) (hrep : Rep S.natAbs) (hlt : S.natAbs < uval 9218868437227405312) : mg r < 9218868437227405312 ∧ sval r = S := by
  have hu := nr_rep hn hrep
  have hR : R < 9218868437227405312 := by rw [← (uval_cmp R 9218868437227405312).1, hu]; exact hlt
  have hmr : mg r = R := by omega
  exact ⟨by omega, sval_of (by rw [hmr]; exact hu) hs⟩
theorem uval_fin {m : Nat} (h : m < 9218868437227405312) : uval m < uval 9218868437227405312 := uval_lt h
/-- What Two tells, the greater one above nought. -/
theorem two_pos {a b r l : Nat} (ha : a < 18446744073709551616) (_hb : b < 18446744073709551616) (fa : mg a < 9218868437227405312) (fb : mg b < 9218868437227405312) (hab : mg b ≤ mg a) (sa : ng a = false) (hr : double.add a b = some r) (fr : mg r < 9218868437227405312) {z y : Nat}
    (h1 : double.sub r a = some z) (h2 : double.sub b z = some y) (h3 : double.add y 0 = some l) : mg l < 9218868437227405312 ∧ sval l = sval a + sval b - sval r := by
  obtain ⟨R, e1, e2, e3, hrl⟩ := add_nr fa fb hr
  have hrR : mg r = R := by omega
  subst hrR
  have hva : sval a = uval (mg a) := by unfold sval; rw [sa]; rfl
  have hB := sval_abs b
  have hle := uval_le hab
  rw [hva] at e2 e3
  have hfast := fast_two (A := uval (mg a)) (B := sval b) ⟨mg a, rfl⟩ (sval_rep b) (by rw [hB]; exact hle) e2
  have hsr : sval r = uval (mg r) := by
    by_cases h0 : (uval (mg a) : Int) + sval b = 0
    · rw [h0] at e2
      have hz : uval (mg r) = 0 := nr_rep e2 rep_zero
      have := sval_abs r
      rw [hz] at this ⊢
      omega
    · have h := e3 h0
      rw [decide_eq_false (by omega)] at h
      unfold sval; rw [h]; rfl
  have ia := uval_fin fa
  have ib := uval_fin fb
  have ir := uval_fin fr
  obtain ⟨Z, f1, f2, f3, hzl⟩ := sub_nr fr fa ha h1
  rw [hsr, hva] at f2 f3
  obtain ⟨fz, vz⟩ := nr_told f1 f2 f3 hfast.1 (by omega)
  obtain ⟨Y, g1, g2, g3, hyl⟩ := sub_nr fb fz hzl h2
  rw [vz] at g2 g3
  have hd : sval b - ((uval (mg r) : Int) - uval (mg a)) = (uval (mg a) : Int) + sval b - uval (mg r) := by omega
  rw [hd] at g2 g3
  obtain ⟨fy, vy⟩ := nr_told g1 g2 g3 hfast.2.1 (by omega)
  obtain ⟨L, k1, k2, k3, _⟩ := add_nr fy (show mg 0 < _ by decide) h3
  have hs0 : sval 0 = 0 := sval_zero.2 (by decide)
  rw [hs0, vy, Int.add_zero] at k2 k3
  obtain ⟨fl, vl⟩ := nr_told k1 k2 k3 hfast.2.1 (by omega)
  exact ⟨fl, by rw [vl, hva, hsr]⟩
/-- What Two tells is exact: either may be the greater one, of whatever sign. -/
theorem two_half {a b r l : Nat} (ha : a < 18446744073709551616) (hb : b < 18446744073709551616) (fa : mg a < 9218868437227405312) (fb : mg b < 9218868437227405312) (hab : mg b ≤ mg a) (hr : double.add a b = some r) (fr : mg r < 9218868437227405312) {z y : Nat}
    (h1 : double.sub r a = some z) (h2 : double.sub b z = some y) (h3 : double.add y 0 = some l) : mg l < 9218868437227405312 ∧ sval l = sval a + sval b - sval r := by
  cases sa : ng a
  · exact two_pos ha hb fa fb hab sa hr fr h1 h2 h3
  · have oa := opp_ngf ha (Nat.le_of_lt fa)
    have ob := opp_ngf hb (Nat.le_of_lt fb)
    obtain ⟨r', hr', or⟩ := add_opp oa ob hr
    obtain ⟨z', h1', oz⟩ := sub_opp or oa h1
    obtain ⟨y', h2', oy⟩ := sub_opp ob oz h2
    obtain ⟨l', h3', ol⟩ := add_opp oy opp_zero h3
    have hsv : ∀ {x x' : Nat}, Opp x x' → sval x' = - sval x := fun {x x'} h => by
      unfold sval
      rw [h.1]
      rcases h.2.1 with g | g
      · rw [g]; cases ng x <;> simp
      · rw [g, uval_zero]; simp
    have k := two_pos (ngf_lt ha) (ngf_lt hb) (by rw [(ngf_is ha).1]; exact fa) (by rw [(ngf_is hb).1]; exact fb) (by rw [(ngf_is ha).1, (ngf_is hb).1]; exact hab) (by rw [(ngf_is ha).2, sa]; rfl) hr' (by rw [or.1]; exact fr) h1' h2' h3'
    rw [ol.1, hsv ol, hsv or, sval_ngf ha, sval_ngf hb] at k
    exact ⟨k.1, by omega⟩
theorem two_exact {a b r l : Nat} (ha : a < 18446744073709551616) (hb : b < 18446744073709551616) (hr : double.add a b = some r) (fr : mg r < 9218868437227405312) (h : TwoIs a b r l) : mg l < 9218868437227405312 ∧ sval l = sval a + sval b - sval r := by
  obtain ⟨fa, fb⟩ := sum_fin hr fr
  rcases h with ⟨h, _⟩ | ⟨_, z, y, h1, h2⟩
  · omega
  · rw [mg_order (Nat.le_of_lt fa) (Nat.le_of_lt fb)] at h1
    by_cases hlt : mg a < mg b
    · rw [decide_eq_true hlt] at h1
      obtain ⟨e1, e2⟩ := h1
      have k := two_half hb ha fb fa (Nat.le_of_lt hlt) (by rw [add_comm']; exact hr) fr e1 e2 h2
      exact ⟨k.1, by rw [k.2]; omega⟩
    · rw [decide_eq_false hlt] at h1
      obtain ⟨e1, e2⟩ := h1
      exact two_half ha hb fa fb (by omega) hr fr e1 e2 h2
end Go.Proofs.Ytghcoijinihlnaa.Fl
