/-
  What bits.Div64 returns where the divisor is above the high word: the quotient of two words by one, and what is left. Condition: hi < y.
-/
import Derived.Test.YtjamfkafgfpobaaGreatProd2
import Derived.Test.YtjamfkafgfpobaaGreatNums
import Derived.Deep.CutBlock
import Derived.Deep.DeepCutAuto
namespace Go.Proofs.YtjamfkafgfpobaaGreat
open Go.RowKit Nb
theorem lz64_ex (y : Nat) (hy : 0 < y) (hy2 : y < W64) : ∃ s : Nat, (∀ w, Calls Tryz.prog 149 #[.int .u64 y] w fun e w' => e = .returned (.int .i64 s) ∧ w = w') ∧ s ≤ 63 ∧ 9223372036854775808 ≤ y * 2 ^ s ∧ y * 2 ^ s < W64 := by
  have hb := bitLen_spec y
  have hp := bitLen_pos (x := y) (by omega)
  have hl := bitLen_le64 y hy2
  refine ⟨64 - bitLen y, fun w => ?_, by omega, ?_, ?_⟩
  · have hx := len64_any y w hy2
    have he : ((64 : Int) - (bitLen y : Nat)) = ((64 - bitLen y : Nat) : Int) := by omega
    have HE := Lib.hid he
    clear hb hp he hy
    go_enter Tryz.func149, Tryz.ntmps149
    go_wp2_with (go_at_call 157; refine hx.mono ?_; rintro e w' ⟨rfl, rfl⟩)
    go_ret
    exact ⟨by rw [← HE.out]; rfl, rfl⟩
  · have h1 := hb.2 (by omega)
    have h2 : 2 ^ (bitLen y - 1) * 2 ^ (64 - bitLen y) ≤ y * 2 ^ (64 - bitLen y) := Nat.mul_le_mul_right _ h1
    rw [← Nat.pow_add, show bitLen y - 1 + (64 - bitLen y) = 63 by omega] at h2
    exact h2
  · have h2 : y * 2 ^ (64 - bitLen y) < 2 ^ bitLen y * 2 ^ (64 - bitLen y) := Nat.mul_lt_mul_of_pos_right hb.1 (Nat.pow_pos (by decide))
    rw [← Nat.pow_add, show bitLen y + (64 - bitLen y) = 64 by omega] at h2
    exact h2
theorem natmod (t : Nat) : (t : Int) % 18446744073709551616 = ((t % W64 : Nat) : Int) := by
  show (t : Int) % 18446744073709551616 = ((t % 18446744073709551616 : Nat) : Int)
  omega
theorem wmul (a b : Nat) : IntKind.u64.wrap ((a : Int) * (b : Int)) = ((a * b % W64 : Nat) : Int) := by rw [IntKind.wrap_u64, ← Int.natCast_mul, natmod]
theorem wmulK (a : Nat) : IntKind.u64.wrap ((a : Int) * 4294967296) = ((a * 4294967296 % W64 : Nat) : Int) := wmul a 4294967296
theorem wKmul (a : Nat) : IntKind.u64.wrap (4294967296 * (a : Int)) = ((4294967296 * a % W64 : Nat) : Int) := wmul 4294967296 a
theorem wadd (a b : Nat) : IntKind.u64.wrap ((a : Int) + (b : Int)) = (((a + b) % W64 : Nat) : Int) := by rw [IntKind.wrap_u64, ← Int.natCast_add, natmod]
theorem wsub {a b r : Nat} (hr : r < W64) (h : (r + b) % W64 = a % W64) : IntKind.u64.wrap ((a : Int) - (b : Int)) = (r : Int) := by
  rw [IntKind.wrap_u64]; simp only [W64] at *; omega
theorem wpow (a s : Nat) : IntKind.u64.wrap ((a : Int) * 2 ^ s) = ((a * 2 ^ s % W64 : Nat) : Int) := by
  rw [show ((2 : Int) ^ s) = ((2 ^ s : Nat) : Int) by rw [Int.natCast_pow]; rfl]
  exact wmul a (2 ^ s)
theorem wdiv {a b : Nat} (ha : a < W64) : IntKind.u64.wrap ((a : Int) / (b : Int)) = ((a / b : Nat) : Int) := by
  have : a / b ≤ a := Nat.div_le_self a b
  rw [IntKind.wrap_u64, ← Int.natCast_ediv, natmod, Nat.mod_eq_of_lt (by omega)]
theorem and_mask (a : Nat) (ha : a < W64) : bits .and .u64 (a : Int) 4294967295 = ((a % 4294967296 : Nat) : Int) := by
  have h := u64_and_nat a 4294967295 ha (by decide)
  rw [show a &&& 4294967295 = a % 4294967296 from Nat.and_two_pow_sub_one_eq_mod a 32] at h
  exact h
theorem or_parts {hi lo s : Nat} (hs : s ≤ 63) (hlo : lo < W64) (hh : hi * 2 ^ s < W64) : bits .or .u64 ((hi * 2 ^ s : Nat) : Int) ((lo : Int) / 2 ^ (64 - s)) = ((hi * 2 ^ s + lo / 2 ^ (64 - s) : Nat) : Int) := by
  have hl : lo / 2 ^ (64 - s) < 2 ^ s := by
    refine (Nat.div_lt_iff_lt_mul (Nat.pow_pos (by decide))).2 ?_
    rw [← Nat.pow_add, show s + (64 - s) = 64 by omega]; exact hlo
  have hl2 : lo / 2 ^ (64 - s) < W64 := Nat.lt_of_le_of_lt (Nat.div_le_self _ _) hlo
  have h1 := u64_or_nat (hi * 2 ^ s) (lo / 2 ^ (64 - s)) hh hl2
  have h2 := nat_join s (hi * 2 ^ s) (lo / 2 ^ (64 - s)) (Nat.mul_mod_left _ _) hl
  rw [h2] at h1
  rw [← h1]
  congr 1
/-- Two words by one, both shifted: what Div64 reckons with. -/
theorem div_plan {N y s : Nat} (hy : 0 < y) (hN : N < y * W64) (_hY : y * 2 ^ s < W64) :
    N * 2 ^ s / W64 < y * 2 ^ s ∧
    N / y = ((N * 2 ^ s / W64) * 4294967296 + N * 2 ^ s % W64 / 4294967296) / (y * 2 ^ s) * 4294967296 + (((N * 2 ^ s / W64) * 4294967296 + N * 2 ^ s % W64 / 4294967296) % (y * 2 ^ s) * 4294967296 + N * 2 ^ s % W64 % 4294967296) / (y * 2 ^ s) ∧
    (N % y) * 2 ^ s = (((N * 2 ^ s / W64) * 4294967296 + N * 2 ^ s % W64 / 4294967296) % (y * 2 ^ s) * 4294967296 + N * 2 ^ s % W64 % 4294967296) % (y * 2 ^ s) := by
  have hp : 0 < 2 ^ s := Nat.pow_pos (by decide)
  have hU : N * 2 ^ s = ((N * 2 ^ s / W64) * 4294967296 + N * 2 ^ s % W64 / 4294967296) * 4294967296 + N * 2 ^ s % W64 % 4294967296 := by
    generalize N * 2 ^ s = U
    simp only [W64]; omega
  refine ⟨?_, ?_, ?_⟩
  · refine (Nat.div_lt_iff_lt_mul (by decide)).2 ?_
    have := Nat.mul_lt_mul_of_pos_right hN hp
    rw [Nat.mul_right_comm] at this
    exact this
  · rw [← long_quo _ _ _ _ (Nat.mul_pos hy hp), ← hU, Nat.mul_div_mul_right _ _ hp]
  · rw [← long_rem, ← hU, Nat.mul_mod_mul_right]
theorem gs_bound {u y1 y0 : Nat} (hy1 : 2147483648 ≤ y1) (hy0 : y0 < 4294967296) (hu : u < y1 * 4294967296 + y0) : u / y1 ≤ 4294967297 := by
  have h : u / y1 < 4294967298 := (Nat.div_lt_iff_lt_mul (by omega)).2 (by omega)
  omega
end Go.Proofs.YtjamfkafgfpobaaGreat
namespace Go.Proofs.YtjamfkafgfpobaaGreat
open Go.RowKit Nb
theorem Nb.Gs.dec {K u v y1 y0 q r : Nat} (g : Gs K u v y1 y0 q r) (hy1 : 0 < y1 * K) (hu : u < y1 * K + y0) (hv : v < K) (hc : K ≤ q ∨ r * K + v < q * y0) : 0 < q ∧ Gs K u v y1 y0 (q - 1) (r + y1) := by
  have hlt : (u * K + v) / (y1 * K + y0) < q := by
    rcases hc with h | h
    · have := quo_lt hu hv; omega
    · exact g.big hy1 h
  have h0 : 0 < q := Nat.lt_of_le_of_lt (Nat.zero_le _) hlt
  exact ⟨h0, g.less h0 hlt⟩
theorem Nb.Gs.out {K u v y1 y0 q r : Nat} (g : Gs K u v y1 y0 q r) (hy1 : 0 < y1 * K) (hr : K ≤ r) (hq : q ≤ K) (hy0 : y0 < K) : q = (u * K + v) / (y1 * K + y0) := by
  refine g.done hy1 ?_
  have h1 : q * y0 ≤ K * y0 := Nat.mul_le_mul_right _ hq
  have h2 : K * y0 ≤ K * K := Nat.mul_le_mul_left _ (by omega)
  have h3 : K * K ≤ r * K := Nat.mul_le_mul_right _ hr
  omega
theorem div_parts (hi lo : Nat) {s : Nat} (hs : s ≤ 63) : (hi * W64 + lo) * 2 ^ s / W64 = hi * 2 ^ s + lo / 2 ^ (64 - s) ∧ (hi * W64 + lo) * 2 ^ s % W64 = lo * 2 ^ s % W64 := by
  have e : (hi * W64 + lo) * 2 ^ s = W64 * (hi * 2 ^ s) + lo * 2 ^ s := by rw [Nat.add_mul, Nat.mul_right_comm, Nat.mul_comm]
  rw [e]
  refine ⟨?_, Nat.mul_add_mod _ _ _⟩
  rw [Nat.mul_add_div (by decide)]
  congr 1
  have h : W64 = 2 ^ (64 - s) * 2 ^ s := by rw [← Nat.pow_add, show 64 - s + s = 64 by omega]
  rw [h, Nat.mul_div_mul_right _ _ (Nat.pow_pos (by decide))]
theorem small_mul {a b : Nat} (ha : a < 4294967296) (hb : b < 4294967296) : a * b < W64 := by
  have h : a * b ≤ 4294967295 * 4294967295 := Nat.mul_le_mul (by omega) (by omega)
  have h2 : 4294967295 * 4294967295 < W64 := by decide
  exact Nat.lt_of_le_of_lt h h2
theorem small_join {r v : Nat} (hr : r < 4294967296) (hv : v < 4294967296) : 4294967296 * r < W64 ∧ 4294967296 * r + v < W64 := by
  simp only [W64]; omega
set_option maxHeartbeats 400000 in
theorem div64_low (lo y : Nat) (w : World) (hlo : lo < W64) (hy : 0 < y) (_hy2 : y < W64) :
    Calls Tryz.prog 155 #[.int .u64 0, .int .u64 lo, .int .u64 y] w fun e w' => e = .returned (.tuple #[.int .u64 (lo / y : Nat), .int .u64 (lo % y : Nat)]) ∧ Qu w w' := by
  have h0 : ((y : Int) == 0) = false := beq_false_of_ne (by omega)
  have h1 : ¬ ((y : Int) ≤ 0) := by omega
  have h2 : (0 : Int) < (y : Int) := by omega
  have hd : IntKind.u64.wrap ((lo : Int) / (y : Int)) = ((lo / y : Nat) : Int) := wdiv hlo
  generalize lo / y = q at *
  go_enter Tryz.func155, Tryz.ntmps155
  go_wp2
  go_quiet (fail)
  go_wp2
  go_ret2
  exact ⟨rfl, ⟨_, rfl⟩⟩
set_option maxHeartbeats 1600000 in
theorem div64_high (hi lo y : Nat) (w : World) (hlo : lo < W64) (hhi : 0 < hi) (hy : hi < y) (hy2 : y < W64) :
    Calls Tryz.prog 155 #[.int .u64 hi, .int .u64 lo, .int .u64 y] w fun e w' => e = .returned (.tuple #[.int .u64 ((hi * W64 + lo) / y : Nat), .int .u64 ((hi * W64 + lo) % y : Nat)]) ∧ w = w' := by
  obtain ⟨s, hs, hs63, hyl, hyh⟩ := lz64_ex y (by omega) hy2
  have hN : hi * W64 + lo < y * W64 := by
    have := Nat.mul_le_mul_right W64 hy
    rw [Nat.succ_mul] at this
    omega
  obtain ⟨hu, hL⟩ := div_parts hi lo hs63
  obtain ⟨N, hNd⟩ : ∃ N, hi * W64 + lo = N := ⟨_, rfl⟩
  rw [hNd] at hu hL hN ⊢
  obtain ⟨hP1, hP2, hP3⟩ := div_plan (s := s) (by omega) hN hyh
  have hHlt : hi * 2 ^ s < W64 := Nat.lt_trans (Nat.mul_lt_mul_of_pos_right hy (Nat.pow_pos (by decide))) hyh
  have eY := wpow y s
  rw [Nat.mod_eq_of_lt hyh] at eY
  have eH := wpow hi s
  rw [Nat.mod_eq_of_lt hHlt] at eH
  have eU := or_parts hs63 hlo hHlt
  have eL := wpow lo s
  rw [hu] at hP1
  rw [hu, hL] at hP2 hP3
  have hulim : hi * 2 ^ s + lo / 2 ^ (64 - s) < W64 := Nat.lt_trans hP1 hyh
  have hLlim : lo * 2 ^ s % W64 < W64 := Nat.mod_lt _ (by decide)
  have hrem : ∀ R : Nat, N % y * 2 ^ s = R → ((R : Int) / 2 ^ s) = ((N % y : Nat) : Int) := fun R h => by
    rw [← h, Int.natCast_mul, Int.natCast_pow]
    exact Int.mul_ediv_cancel _ (Int.ne_of_gt (Int.pow_pos (by decide)))
  generalize hi * 2 ^ s + lo / 2 ^ (64 - s) = u at *
  generalize lo * 2 ^ s % W64 = L at *
  generalize y * 2 ^ s = Y at *
  generalize hi * 2 ^ s = H at *
  have hQQ : N / y < W64 := (Nat.div_lt_iff_lt_mul (by omega)).2 (by rw [Nat.mul_comm]; exact hN)
  generalize N / y = QQ at *
  generalize N % y = RR at *
  clear hu hL hN hNd
  have hYe : Y / 4294967296 * 4294967296 + Y % 4294967296 = Y := by omega
  have hy1l : 2147483648 ≤ Y / 4294967296 := by omega
  have hy1h : Y / 4294967296 < 4294967296 := by simp only [W64] at hyh; omega
  have hy0h : Y % 4294967296 < 4294967296 := Nat.mod_lt _ (by decide)
  have hv1h : L / 4294967296 < 4294967296 := by simp only [W64] at hLlim; omega
  have hv0h : L % 4294967296 < 4294967296 := Nat.mod_lt _ (by decide)
  have eY1 : ((Y : Int) / 4294967296) = ((Y / 4294967296 : Nat) : Int) := by omega
  have eY0 := and_mask Y hyh
  have eV1 : ((L : Int) / 4294967296) = ((L / 4294967296 : Nat) : Int) := by omega
  have eV0 := and_mask L hLlim
  generalize Y / 4294967296 = y1 at *
  generalize Y % 4294967296 = y0 at *
  generalize L / 4294967296 = v1 at *
  generalize L % 4294967296 = v0 at *
  have hy1p : 0 < y1 := by omega
  have hy1i : (0 : Int) < (y1 : Int) := by omega
  have g1 : Gs 4294967296 u v1 y1 y0 (u / y1) (u % y1) := Gs.start hy1p hv1h
  have eQ : IntKind.u64.wrap ((u : Int) / (y1 : Int)) = ((u / y1 : Nat) : Int) := wdiv hulim
  have hqb : u / y1 ≤ 4294967297 := gs_bound hy1l hy0h (by rw [hYe]; exact hP1)
  have hrb : u % y1 < 4294967296 := Nat.lt_trans (Nat.mod_lt _ hy1p) hy1h
  have eP : IntKind.u64.wrap (((u / y1 : Nat) : Int) * (y1 : Int)) = ((u / y1 * y1 : Nat) : Int) := by
    rw [wmul, Nat.mod_eq_of_lt (Nat.lt_of_le_of_lt (Nat.div_mul_le_self _ _) hulim)]
  have eR : IntKind.u64.wrap ((u : Int) - ((u / y1 * y1 : Nat) : Int)) = ((u % y1 : Nat) : Int) :=
    wsub (by simp only [W64]; omega) (by rw [Nat.mul_comm (u / y1), Nat.mod_add_div])
  generalize u / y1 * y1 = p at *
  generalize u / y1 = q at *
  generalize u % y1 = r at *
  have HP2 := Lib.hid hP2
  have HP3 := Lib.hid hP3
  have HYE := Lib.hid hYe
  have HREM := Lib.hid hrem
  have h0 : ((y : Int) == 0) = false := beq_false_of_ne (by omega)
  have h0' : ((hi : Int) == 0) = false := beq_false_of_ne (by omega)
  have h1 : ¬ ((y : Int) ≤ hi) := by omega
  have hy1n : ¬ ((y1 : Int) = 0) := by omega
  clear hP2 hP3 hYe hrem hlo hhi hy hy2
  obtain ⟨T1, hT1⟩ : ∃ T1, (u * 4294967296 + v1) / (y1 * 4294967296 + y0) = T1 := ⟨_, rfl⟩
  have HT1 := Lib.hid hT1
  have hyK : 0 < y1 * 4294967296 := by omega
  have hu1 : u < y1 * 4294967296 + y0 := by rw [HYE.out]; exact hP1
  clear hT1
  go_enter Tryz.func155, Tryz.ntmps155
  go_upto_block 0 with (go_at_call 149; refine (hs _).mono ?_; rintro e w' ⟨rfl, rfl⟩)
  go_cut [15] (fun qv wx => qv = .int .u64 (T1 : Nat) ∧ wx = w)
  case first =>
    go_wp2_with fail
    go_loop [15, 16] (fun qv rv => ∃ q' r' : Nat, qv = .int .u64 q' ∧ rv = .int .u64 r' ∧ Gs 4294967296 u v1 y1 y0 q' r' ∧ r' < 4294967296 ∧ q' ≤ 4294967297) (fun qv _ => (intOf qv).toNat)
    case atStart => exact ⟨q, r, rfl, rfl, g1, hrb, hqb⟩
    case round =>
      obtain ⟨q', r', rfl, rfl, g, hr, hq⟩ := hrel
      by_cases hb : 4294967296 ≤ q'
      · have hbi : (4294967296 : Int) ≤ (q' : Int) := by omega
        obtain ⟨hq0, gd⟩ := g.dec hyK hu1 hv1h (.inl hb)
        clear g
        by_cases hr2 : 4294967296 ≤ r' + y1
        · have hr2i : (4294967296 : Int) ≤ (r' : Int) + (y1 : Int) := by omega
          have hq2 : q' - 1 ≤ 4294967296 := by omega
          have ho := gd.out hyK hr2 hq2 hy0h
          rw [HT1.out] at ho
          have HO := Lib.hid ho
          clear ho gd
          go_wp2
          go_meet
          case rel => exact ⟨by have := HO.out; go_num, rfl⟩
        · have hr2i : ¬ ((4294967296 : Int) ≤ (r' : Int) + (y1 : Int)) := by omega
          go_wp2
          go_round
          case rel => exact ⟨q' - 1, r' + y1, by go_num, by go_num, gd, by omega, by omega⟩
          case measure => simp [intOf]; omega
      · by_cases hc : r' * 4294967296 + v1 < q' * y0
        · obtain ⟨hq0, gd⟩ := g.dec hyK hu1 hv1h (.inr hc)
          have hbi : ¬ ((4294967296 : Int) ≤ (q' : Int)) := by omega
          have e1 := wmul q' y0
          rw [Nat.mod_eq_of_lt (small_mul (by omega) hy0h)] at e1
          have e2 := wKmul r'
          rw [Nat.mod_eq_of_lt (small_join hr hv1h).1] at e2
          have e3 := wadd (4294967296 * r') v1
          rw [Nat.mod_eq_of_lt (small_join hr hv1h).2] at e3
          have hcm := Nat.mul_comm r' 4294967296
          have hgt : ((4294967296 * r' + v1 : Nat) : Int) < ((q' * y0 : Nat) : Int) := by rw [← hcm]; exact Int.ofNat_lt.2 hc
          generalize 4294967296 * r' + v1 = m3 at *
          generalize 4294967296 * r' = m2 at *
          generalize q' * y0 = m1 at *
          clear g hcm hc
          by_cases hr2 : 4294967296 ≤ r' + y1
          · have hr2i : (4294967296 : Int) ≤ (r' : Int) + (y1 : Int) := by omega
            have hq2 : q' - 1 ≤ 4294967296 := by omega
            have ho := gd.out hyK hr2 hq2 hy0h
            rw [HT1.out] at ho
            have HO := Lib.hid ho
            clear ho gd
            go_wp2
            go_meet
            case rel => exact ⟨by have := HO.out; go_num, rfl⟩
          · have hr2i : ¬ ((4294967296 : Int) ≤ (r' : Int) + (y1 : Int)) := by omega
            go_wp2
            go_round
            case rel => exact ⟨q' - 1, r' + y1, by go_num, by go_num, gd, by omega, by omega⟩
            case measure => simp [intOf]; omega
        · have hd := g.done hyK (by omega)
          rw [HT1.out] at hd
          have HDD := Lib.hid hd
          have hbi : ¬ ((4294967296 : Int) ≤ (q' : Int)) := by omega
          have e1 := wmul q' y0
          rw [Nat.mod_eq_of_lt (small_mul (by omega) hy0h)] at e1
          have e2 := wKmul r'
          rw [Nat.mod_eq_of_lt (small_join hr hv1h).1] at e2
          have e3 := wadd (4294967296 * r') v1
          rw [Nat.mod_eq_of_lt (small_join hr hv1h).2] at e3
          have hcm := Nat.mul_comm r' 4294967296
          have hgt : ¬ (((4294967296 * r' + v1 : Nat) : Int) < ((q' * y0 : Nat) : Int)) := by rw [← hcm]; exact fun h => hc (Int.ofNat_lt.1 h)
          generalize 4294967296 * r' + v1 = m3 at *
          generalize 4294967296 * r' = m2 at *
          generalize q' * y0 = m1 at *
          clear g hcm hc hd
          go_wp2
          go_meet
          case rel => exact ⟨by have := HDD.out; go_num, rfl⟩
  case rest =>
    obtain ⟨rfl, rfl⟩ := hcut
    have f1 := wmulK u
    have f2 := wadd (u * 4294967296 % W64) v1
    rw [Nat.mod_add_mod] at f2
    have f3 := wmul T1 Y
    have f4 : IntKind.u64.wrap ((((u * 4294967296 + v1) % W64 : Nat) : Int) - ((T1 * Y % W64 : Nat) : Int)) = (((u * 4294967296 + v1) % Y : Nat) : Int) := by
      refine wsub (Nat.lt_trans (Nat.mod_lt _ (by omega)) hyh) ?_
      rw [Nat.add_mod_mod, Nat.mod_mod, ← HT1.out, HYE.out, Nat.mod_add_div']
    have hR1 : (u * 4294967296 + v1) % (y1 * 4294967296 + y0) = (u * 4294967296 + v1) % Y := by rw [HYE.out]
    have hR1l : (u * 4294967296 + v1) % Y < Y := Nat.mod_lt _ (by omega)
    obtain ⟨a1, ha1⟩ : ∃ a1, u * 4294967296 % W64 = a1 := ⟨_, rfl⟩
    obtain ⟨b1, hb1⟩ : ∃ b1, (u * 4294967296 + v1) % W64 = b1 := ⟨_, rfl⟩
    obtain ⟨p2, hp2⟩ : ∃ p2, T1 * Y % W64 = p2 := ⟨_, rfl⟩
    obtain ⟨R1, hR1d⟩ : ∃ R1, (u * 4294967296 + v1) % Y = R1 := ⟨_, rfl⟩
    rw [ha1] at f1 f2
    rw [hb1] at f2 f4
    rw [hp2] at f3 f4
    rw [hR1d] at f4 hR1 hR1l
    have HR1D := Lib.hid hR1d
    have HR1 := Lib.hid hR1
    clear hR1 ha1 hb1 hp2 hR1d
    have hR1w : R1 < W64 := Nat.lt_trans hR1l hyh
    obtain ⟨T0, hT0⟩ : ∃ T0, (R1 * 4294967296 + v0) / (y1 * 4294967296 + y0) = T0 := ⟨_, rfl⟩
    have HT0 := Lib.hid hT0
    clear hT0
    have hu2 : R1 < y1 * 4294967296 + y0 := by rw [HYE.out]; exact hR1l
    have g2 : Gs 4294967296 R1 v0 y1 y0 (R1 / y1) (R1 % y1) := Gs.start hy1p hv0h
    have eQ2 : IntKind.u64.wrap ((R1 : Int) / (y1 : Int)) = ((R1 / y1 : Nat) : Int) := wdiv hR1w
    have hqb2 : R1 / y1 ≤ 4294967297 := gs_bound hy1l hy0h hu2
    have hrb2 : R1 % y1 < 4294967296 := Nat.lt_trans (Nat.mod_lt _ hy1p) hy1h
    have eP2 : IntKind.u64.wrap (((R1 / y1 : Nat) : Int) * (y1 : Int)) = ((R1 / y1 * y1 : Nat) : Int) := by
      rw [wmul, Nat.mod_eq_of_lt (Nat.lt_of_le_of_lt (Nat.div_mul_le_self _ _) hR1w)]
    have eR2 : IntKind.u64.wrap ((R1 : Int) - ((R1 / y1 * y1 : Nat) : Int)) = ((R1 % y1 : Nat) : Int) :=
      wsub (by simp only [W64]; omega) (by rw [Nat.mul_comm (R1 / y1), Nat.mod_add_div])
    obtain ⟨p3, hp3⟩ : ∃ p3, R1 / y1 * y1 = p3 := ⟨_, rfl⟩
    rw [hp3] at eP2 eR2
    obtain ⟨q2, hq2⟩ : ∃ q2, R1 / y1 = q2 := ⟨_, rfl⟩
    rw [hq2] at eP2 eQ2 g2 hqb2
    obtain ⟨r2, hr2⟩ : ∃ r2, R1 % y1 = r2 := ⟨_, rfl⟩
    rw [hr2] at eR2 g2 hrb2
    clear hp3 hq2 hr2
    go_upto_block 2 with fail
    go_cut [18] (fun qv wx => qv = .int .u64 (T0 : Nat) ∧ wx = wc)
    case first =>
      go_wp2_with fail
      go_loop [18, 16] (fun qv rv => ∃ q' r' : Nat, qv = .int .u64 q' ∧ rv = .int .u64 r' ∧ Gs 4294967296 R1 v0 y1 y0 q' r' ∧ r' < 4294967296 ∧ q' ≤ 4294967297) (fun qv _ => (intOf qv).toNat)
      case atStart => exact ⟨q2, r2, rfl, rfl, g2, hrb2, hqb2⟩
      case round =>
        obtain ⟨q', r', rfl, rfl, g, hr, hq⟩ := hrel
        by_cases hb : 4294967296 ≤ q'
        · have hbi : (4294967296 : Int) ≤ (q' : Int) := by omega
          obtain ⟨hq0, gd⟩ := g.dec hyK hu2 hv0h (.inl hb)
          clear g
          by_cases hr2 : 4294967296 ≤ r' + y1
          · have hr2i : (4294967296 : Int) ≤ (r' : Int) + (y1 : Int) := by omega
            have hq2 : q' - 1 ≤ 4294967296 := by omega
            have ho := gd.out hyK hr2 hq2 hy0h
            rw [HT0.out] at ho
            have HO := Lib.hid ho
            clear ho gd
            go_wp2
            go_meet
            case rel => exact ⟨by have := HO.out; go_num, rfl⟩
          · have hr2i : ¬ ((4294967296 : Int) ≤ (r' : Int) + (y1 : Int)) := by omega
            go_wp2
            go_round
            case rel => exact ⟨q' - 1, r' + y1, by go_num, by go_num, gd, by omega, by omega⟩
            case measure => simp [intOf]; omega
        · by_cases hc : r' * 4294967296 + v0 < q' * y0
          · obtain ⟨hq0, gd⟩ := g.dec hyK hu2 hv0h (.inr hc)
            have hbi : ¬ ((4294967296 : Int) ≤ (q' : Int)) := by omega
            have e1 := wmul q' y0
            rw [Nat.mod_eq_of_lt (small_mul (by omega) hy0h)] at e1
            have e2 := wKmul r'
            rw [Nat.mod_eq_of_lt (small_join hr hv0h).1] at e2
            have e3 := wadd (4294967296 * r') v0
            rw [Nat.mod_eq_of_lt (small_join hr hv0h).2] at e3
            have hcm := Nat.mul_comm r' 4294967296
            have hgt : ((4294967296 * r' + v0 : Nat) : Int) < ((q' * y0 : Nat) : Int) := by rw [← hcm]; exact Int.ofNat_lt.2 hc
            generalize 4294967296 * r' + v0 = m3 at *
            generalize 4294967296 * r' = m2 at *
            generalize q' * y0 = m1 at *
            clear g hcm hc
            by_cases hr2 : 4294967296 ≤ r' + y1
            · have hr2i : (4294967296 : Int) ≤ (r' : Int) + (y1 : Int) := by omega
              have hq2 : q' - 1 ≤ 4294967296 := by omega
              have ho := gd.out hyK hr2 hq2 hy0h
              rw [HT0.out] at ho
              have HO := Lib.hid ho
              clear ho gd
              go_wp2
              go_meet
              case rel => exact ⟨by have := HO.out; go_num, rfl⟩
            · have hr2i : ¬ ((4294967296 : Int) ≤ (r' : Int) + (y1 : Int)) := by omega
              go_wp2
              go_round
              case rel => exact ⟨q' - 1, r' + y1, by go_num, by go_num, gd, by omega, by omega⟩
              case measure => simp [intOf]; omega
          · have hd := g.done hyK (by omega)
            rw [HT0.out] at hd
            have HDD := Lib.hid hd
            have hbi : ¬ ((4294967296 : Int) ≤ (q' : Int)) := by omega
            have e1 := wmul q' y0
            rw [Nat.mod_eq_of_lt (small_mul (by omega) hy0h)] at e1
            have e2 := wKmul r'
            rw [Nat.mod_eq_of_lt (small_join hr hv0h).1] at e2
            have e3 := wadd (4294967296 * r') v0
            rw [Nat.mod_eq_of_lt (small_join hr hv0h).2] at e3
            have hcm := Nat.mul_comm r' 4294967296
            have hgt : ¬ (((4294967296 * r' + v0 : Nat) : Int) < ((q' * y0 : Nat) : Int)) := by rw [← hcm]; exact fun h => hc (Int.ofNat_lt.1 h)
            generalize 4294967296 * r' + v0 = m3 at *
            generalize 4294967296 * r' = m2 at *
            generalize q' * y0 = m1 at *
            clear g hcm hc hd
            go_wp2
            go_meet
            case rel => exact ⟨by have := HDD.out; go_num, rfl⟩
    case rest =>
      obtain ⟨rfl, rfl⟩ := hcut
      have k1 := wmulK T1
      have k2 : IntKind.u64.wrap (((T1 * 4294967296 % W64 : Nat) : Int) + ((T0 : Nat) : Int)) = (QQ : Int) := by
        rw [wadd, Nat.mod_add_mod]
        have h := HP2.out
        rw [HR1D.out, ← HYE.out, HT1.out, HT0.out] at h
        rw [← h, Nat.mod_eq_of_lt hQQ]
      have k3 := wmulK R1
      have k4 := wadd (R1 * 4294967296 % W64) v0
      rw [Nat.mod_add_mod] at k4
      have k5 := wmul T0 Y
      have k6 : IntKind.u64.wrap ((((R1 * 4294967296 + v0) % W64 : Nat) : Int) - ((T0 * Y % W64 : Nat) : Int)) = (((R1 * 4294967296 + v0) % Y : Nat) : Int) := by
        refine wsub (Nat.lt_trans (Nat.mod_lt _ (by omega)) hyh) ?_
        rw [Nat.add_mod_mod, Nat.mod_mod, ← HT0.out, HYE.out, Nat.mod_add_div']
      have k7 := HREM.out ((R1 * 4294967296 + v0) % Y) (by have h := HP3.out; rw [HR1D.out] at h; exact h)
      obtain ⟨c1, hc1⟩ : ∃ c1, T1 * 4294967296 % W64 = c1 := ⟨_, rfl⟩
      obtain ⟨a2, ha2⟩ : ∃ a2, R1 * 4294967296 % W64 = a2 := ⟨_, rfl⟩
      obtain ⟨b2, hb2⟩ : ∃ b2, (R1 * 4294967296 + v0) % W64 = b2 := ⟨_, rfl⟩
      obtain ⟨p4, hp4⟩ : ∃ p4, T0 * Y % W64 = p4 := ⟨_, rfl⟩
      obtain ⟨R0, hR0⟩ : ∃ R0, (R1 * 4294967296 + v0) % Y = R0 := ⟨_, rfl⟩
      rw [hc1] at k1 k2
      rw [ha2] at k3 k4
      rw [hb2] at k4 k6
      rw [hp4] at k5 k6
      rw [hR0] at k6 k7
      clear hc1 ha2 hb2 hp4 hR0
      go_wp2_with fail
      go_ret2
      exact ⟨rfl, rfl⟩
/-- The quotient of two words by one, and what is left. -/
theorem div64_any (hi lo y : Nat) (w : World) (hlo : lo < W64) (hy : hi < y) (hy2 : y < W64) :
    Calls Tryz.prog 155 #[.int .u64 hi, .int .u64 lo, .int .u64 y] w fun e w' => e = .returned (.tuple #[.int .u64 ((hi * W64 + lo) / y : Nat), .int .u64 ((hi * W64 + lo) % y : Nat)]) ∧ Qu w w' := by
  rcases Nat.eq_zero_or_pos hi with rfl | hhi
  · rw [Nat.zero_mul, Nat.zero_add]
    exact div64_low lo y w hlo hy hy2
  · exact (div64_high hi lo y w hlo hhi hy hy2).mono fun _ _ h => ⟨h.1, h.2 ▸ Qu.refl _⟩
end Go.Proofs.YtjamfkafgfpobaaGreat
