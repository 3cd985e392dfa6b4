/-
  left does not hang on the order of its factors, where their product is what is taken. No conditions but those that each law names.
-/
import Derived.Test.YtghcoijinihlnaaVal
namespace Go.Proofs.Ytghcoijinihlnaa.Fl
open Ieee
theorem fma_comm {x y : Nat} (hx : x < 18446744073709551616) (hy : y < 18446744073709551616) (z : Nat) : double.fma (ngf x) y z = double.fma (ngf y) x z := by
  unfold Format.fma
  rw [read_ngf' hx, read_ngf' hy, product_opp, product_opp, product_comm]
theorem pow_big {E : Nat} (_hE : E = 1074) {a b : Nat} (hb : 0 < b) (h : 2 * (a * b) ≤ (2 ^ 174 + 2 ^ 174) * 2 ^ E) : a ≤ 2 ^ (174 + E) := by
  rw [Nat.pow_add]
  have h1 := Nat.le_mul_of_pos_right a hb
  have h2 : (2 ^ 174 + 2 ^ 174) * 2 ^ E = 2 * (2 ^ 174 * 2 ^ E) := by rw [← Nat.two_mul, Nat.mul_assoc]
  omega
theorem prod_small {x y z : Nat} (hx : Pl x) (hy : Pl y) (hz : double.mul x y = some z) (hs : mg z < 553942754166571008) : (∃ E, E = 1074 ∧ uval (mg x) ≤ 2 ^ (174 + E)) ∧ ∃ E, E = 1074 ∧ uval (mg y) ≤ 2 ^ (174 + E) := by
  obtain ⟨M, P, e1, p1, v1⟩ := read_fin x hx.2
  obtain ⟨N, Q, e2, p2, v2⟩ := read_fin y hy.2
  unfold Format.mul at hz
  rw [e1, e2] at hz
  cases hz
  obtain ⟨R, e, hR⟩ := near_spec (ng x ^^ ng y) (M * N) (P + Q)
  have hzz : double.write (.number (ng x ^^ ng y) (M * N) (P + Q)) = double.word (ng x ^^ ng y) (min R 9218868437227405312) := e
  change mg (double.write (.number (ng x ^^ ng y) (M * N) (P + Q))) < _ at hs
  rw [hzz, (word_mg _ _ (by omega)).1] at hs
  have hRs : R < 553942754166571008 := by omega
  obtain ⟨E, hE⟩ : ∃ E, E = 1074 := ⟨_, rfl⟩
  have h1 := (hR ((P + 1074).toNat + (Q + 1074).toNat) E (by omega)).1
  have hu1 : uval R ≤ 2 ^ 174 := by rw [← uval_small900]; exact Nat.le_of_lt (uval_lt hRs)
  have hu2 : uval (R + 1) ≤ 2 ^ 174 := by
    rw [← uval_small900]
    rcases Nat.lt_or_eq_of_le (show R + 1 ≤ 553942754166571008 by omega) with g | g
    · exact Nat.le_of_lt (uval_lt g)
    · rw [g]; exact Nat.le_refl _
  have e3 : M * N * 2 ^ ((P + 1074).toNat + (Q + 1074).toNat) = uval (mg x) * uval (mg y) := by
    rw [← v1, ← v2, Nat.pow_add]
    simp only [Nat.mul_assoc, Nat.mul_left_comm]
  rw [e3] at h1
  have h2 := Nat.le_trans h1 (Nat.mul_le_mul_right (2 ^ E) (Nat.add_le_add hu1 hu2))
  exact ⟨⟨E, hE, pow_big hE (uval_pos hy.1) h2⟩, E, hE, pow_big hE (uval_pos hx.1) (by rw [Nat.mul_comm (uval (mg y))]; exact h2)⟩
/-- The lifted factor, times the other one: either may be lifted. -/
theorem prod_lift {x y x1 y1 : Nat} (_hx : x < 18446744073709551616) (_hy : y < 18446744073709551616) (px : Pl x) (py : Pl y) (hx1 : x1 < 18446744073709551616) (hy1 : y1 < 18446744073709551616) (fx : mg x1 < 9218868437227405312) (fy : mg y1 < 9218868437227405312)
    (sx : ng x1 = ng x) (sy : ng y1 = ng y) (ux : uval (mg x1) = uval (mg x) * 2 ^ 200) (uy : uval (mg y1) = uval (mg y) * 2 ^ 200) : ∃ d d', (double.read (ngf x1)).product (double.read y) = some d ∧ (double.read (ngf y1)).product (double.read x) = some d' ∧ SameV d d' := by
  obtain ⟨M, P, e1, p1, v1⟩ := read_fin x px.2
  obtain ⟨N, Q, e2, p2, v2⟩ := read_fin y py.2
  obtain ⟨M', P', e3, p3, v3⟩ := read_fin (ngf x1) (by rw [(ngf_is hx1).1]; exact fx)
  obtain ⟨N', Q', e4, p4, v4⟩ := read_fin (ngf y1) (by rw [(ngf_is hy1).1]; exact fy)
  rw [(ngf_is hx1).1, ux, ← v1] at v3
  rw [(ngf_is hy1).1, uy, ← v2] at v4
  rw [e1, e2, e3, e4, (ngf_is hx1).2, (ngf_is hy1).2, sx, sy]
  refine ⟨_, _, rfl, rfl, ?_, (P' + 1074).toNat + (Q + 1074).toNat, (Q' + 1074).toNat + (P + 1074).toNat, by omega, ?_⟩
  · cases ng x <;> cases ng y <;> rfl
  · have f1 : M' * N * 2 ^ ((P' + 1074).toNat + (Q + 1074).toNat) = M' * 2 ^ (P' + 1074).toNat * (N * 2 ^ (Q + 1074).toNat) := by
      rw [Nat.pow_add]; simp only [Nat.mul_assoc, Nat.mul_left_comm]
    have f2 : N' * M * 2 ^ ((Q' + 1074).toNat + (P + 1074).toNat) = N' * 2 ^ (Q' + 1074).toNat * (M * 2 ^ (P + 1074).toNat) := by
      rw [Nat.pow_add]; simp only [Nat.mul_assoc, Nat.mul_left_comm]
    rw [f1, f2, v3, v4]
    simp only [Nat.mul_assoc, Nat.mul_left_comm, Nat.mul_comm]
theorem leftIs_comm {x y z r s : Nat} (hx : x < 18446744073709551616) (hy : y < 18446744073709551616) (px : Pl x) (py : Pl y) (hz : double.mul x y = some z) (h : LeftIs x y z r) (k : LeftIs y x z s) : s = r := by
  obtain ⟨x1, z1, hc, hr⟩ := h
  obtain ⟨y1, z2, kc, ks⟩ := k
  cases hb : lsmall z
  · rw [hb] at hc kc
    obtain ⟨rfl, rfl⟩ := hc
    obtain ⟨rfl, rfl⟩ := kc
    rw [fma_comm hx hy, ks] at hr
    exact Option.some.inj hr
  · rw [hb] at hc kc
    obtain ⟨h1, h2⟩ := hc
    obtain ⟨k1, k2⟩ := kc
    rw [h2] at k2
    obtain rfl : z1 = z2 := Option.some.inj k2
    have hs := (lsmall_is (mul_told hz).1).1 hb
    obtain ⟨⟨E, hE, bx⟩, ⟨F, hF, bY⟩⟩ := prod_small px py hz hs
    obtain ⟨x1', f1, l1, s1, m1, u1⟩ := lift_exact bx (by omega)
    obtain ⟨y1', g1, l2, s2, m2, u2⟩ := lift_exact bY (by omega)
    rw [h1] at f1
    obtain rfl : x1 = x1' := Option.some.inj f1
    rw [k1] at g1
    obtain rfl : y1 = y1' := Option.some.inj g1
    obtain ⟨z1', f2, l3, s3, m3, u3⟩ := lift_small hs
    rw [h2] at f2
    obtain rfl : z1 = z1' := Option.some.inj f2
    obtain ⟨d, d', e1, e2, hv⟩ := prod_lift hx hy px py l1 l2 m1 m2 s1 s2 u1 u2
    obtain ⟨K, W, e3, _, _⟩ := read_fin z1 m3
    unfold Format.fma at hr ks
    rw [e1, e3] at hr
    rw [e2, e3] at ks
    simp only [Option.bind_some] at hr ks
    rw [sum_val hv, ks] at hr
    exact Option.some.inj hr
end Go.Proofs.Ytghcoijinihlnaa.Fl
