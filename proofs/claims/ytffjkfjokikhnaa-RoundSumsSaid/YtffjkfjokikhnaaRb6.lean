/-
  What the document's own Halved returns of a number that is not negative. Condition: that the number is one.
-/
import Derived.Test.YtffjkfjokikhnaaRb4
namespace Go.Proofs.Ytffjkfjokikhnaa.Rb
open Go.RowKit Nb
theorem val_halved (xs : List Nat) (dx : Dig W32 xs) (q r : Nat) (hq : q ≤ xs.length) : val W32 (xs.drop q) / 2 ^ r = val W32 xs / 2 ^ (32 * q + r) := by
  have h := val_take_drop W32 xs q hq
  have hlt : val W32 (xs.take q) < W32 ^ q := by
    have h2 := Nb.val_lt (B := W32) (xs := xs.take q) (dx.take q)
    rwa [List.length_take, Nat.min_eq_left hq] at h2
  have e : W32 ^ q = 2 ^ (32 * q) := by rw [Nat.pow_mul]
  have e3 : val W32 xs / W32 ^ q = val W32 (xs.drop q) := by
    rw [h, Nat.add_mul_div_left _ _ (Nat.pow_pos (by decide)), Nat.div_eq_of_lt hlt, Nat.zero_add]
  rw [Nat.pow_add, ← Nat.div_div_eq_div_mul, ← e, e3]
theorem val_halved_none (xs : List Nat) (dx : Dig W32 xs) (N : Nat) (h : 32 * xs.length ≤ N) : val W32 xs / 2 ^ N = 0 := by
  have h2 := Nb.val_lt (B := W32) (xs := xs) dx
  have e : W32 ^ xs.length = 2 ^ (32 * xs.length) := by rw [Nat.pow_mul]
  refine Nat.div_eq_of_lt (Nat.lt_of_lt_of_le h2 ?_)
  rw [e]
  exact Nat.pow_le_pow_right (by omega) h
set_option maxHeartbeats 4000000 in
set_option maxRecDepth 20000 in
theorem rhalved_any (A : Option Addr) (xs : List Nat) (c N : Nat) (w : World) (hx : Bg w false A xs c maxLen) (hl : xs.length ≤ 1000000) (hN : N ≤ 100000000) (Z : Nat) (hZ : val W32 xs / 2 ^ N = Z) :
    Calls Try.prog 111 #[big false A xs.length c, .int .i64 N] w (Givl w (Z : Int) xs.length) := by
  have hr := Rest.new (w.alloc (.cells #[.bool false, .slice A xs.length c] 49))
  rw [show (w.alloc (.cells #[.bool false, .slice A xs.length c] 49)).heap.size = w.heap.size + 1 by go_size] at hr
  have hb0 : Below w.heap.size w ((w.alloc (.cells #[.bool false, .slice A xs.length c] 49)).alloc (.cells #[.bool false, .slice none 0 0] 49)) := by go_grown
  have hsl := (hx.sl.below hb0).more hb0.size
  have hc0 : ((w.alloc (.cells #[.bool false, .slice A xs.length c] 49)).alloc (.cells #[.bool false, .slice none 0 0] 49)).cell? ⟨w.heap.size, 0, none⟩ = some (.bool false) := by go_cell
  have hc1 : ((w.alloc (.cells #[.bool false, .slice A xs.length c] 49)).alloc (.cells #[.bool false, .slice none 0 0] 49)).cell? ⟨w.heap.size, 1, none⟩ = some (.slice A xs.length c) := by go_cell
  have hdx := hx.dig
  have hlc := hx.len
  have hcm := hx.cap
  unfold maxLen at hcm
  clear hx
  generalize hW : ((w.alloc (.cells #[.bool false, .slice A xs.length c] 49)).alloc (.cells #[.bool false, .slice none 0 0] 49)) = W at *
  by_cases h0 : 32 * xs.length ≤ N
  · obtain rfl : Z = 0 := by rw [← hZ]; exact val_halved_none xs hdx N h0
    clear hZ
    have HB : Hid (Bg W false none ([] : List Nat) 0 maxLen) := Lib.hid ⟨Sl.none_, Dig.nil _, Norm.nil, fun _ => rfl, Nat.le_refl _, Nat.zero_le _⟩
    have hL := Lib.hid (hr.laid hb0 (by omega) HB.out)
    have HQ : Hid (Bg W false none ([] : List Nat) 0 maxLen ∧ Below w.heap.size w W) := Lib.hid ⟨HB.out, hb0⟩
    have g0 := hr.r0
    have g1 := hr.r1
    have g2 := hr.f0
    have g3 := hr.f1
    clear hr hsl hdx hb0
    have h0i : (32 : Int) * xs.length ≤ N := by omega
    go_enter Try.func111, Try.ntmps111
    rw [← hW] at *
    go_wp2
    refine bodyPost_ret (v := big false none ([] : List Nat).length 0) (by simp [results, Try.results111, go_sem, g0, g1]) rfl ?_
    refine ⟨false, none, [], 0, rfl, ?_, by simp [sv, val], Nat.zero_le _, ?_⟩
    · first | exact HQ.out.1 | exact hL.out.1
    · first | exact HQ.out.2 | exact hL.out.2
  · obtain ⟨q, hq⟩ : ∃ q, N / 32 = q := ⟨_, rfl⟩
    obtain ⟨r, hrr⟩ : ∃ r, N % 32 = r := ⟨_, rfl⟩
    have hqi : (N : Int) / 32 = (q : Int) := by omega
    have hri : (N : Int) % 32 = (r : Int) := by omega
    have hqb : q < xs.length := by omega
    have hqc : q < c := by omega
    have hrb : r ≤ 31 := by omega
    obtain ⟨ad, rfl, _, hcell⟩ := hsl.at_ (i := q) hqb
    have HC : Hid (∀ i, (h : i < xs.length) → W.cell? (ad.add i) = some (.int .u32 (xs[i] : Nat))) := Lib.hid (fun i h => by
      obtain ⟨ad', e1, _, h2⟩ := hsl.at_ h
      injection e1 with e1
      subst e1
      exact h2)
    have HZ : Hid (val W32 (xs.drop q) / 2 ^ r = Z) := Lib.hid (by
      rw [val_halved xs hdx q r (by omega), show 32 * q + r = N by omega]; exact hZ)
    have HS := Lib.hid hsl
    have HR := Lib.hid hr
    have HB := Lib.hid hb0
    have h0i : ¬ ((32 : Int) * xs.length ≤ N) := by omega
    clear hZ hq hrr hsl hr hb0 hcell
    have HSH : Hid (∀ (F : Nat) V, F = 2 ^ r → F ≤ 4294967295 → Sl .u32 V V.heap.size (some (ad.add q)) (xs.drop q) → Calls Try.prog 110 #[.slice (some (ad.add q)) (xs.length - q) (c - q), .int .u32 F] V fun e w' => ∃ (v : Value) (R : Nat), e = .returned (.tuple #[v, .int .u32 R]) ∧ Limbs V Z (xs.length - q) v w') := Lib.hid (fun F V hF hF2 h => by
      have h1 := short_any (some (ad.add q)) (xs.drop q) (c - q) F V h (hdx.drop q) (by rw [hF]; exact Nat.two_pow_pos _) hF2 (by rw [List.length_drop]; omega)
      rw [List.length_drop, hF, HZ.out, ← hF] at h1
      exact h1.mono fun e w' ⟨v, he, hl⟩ => ⟨v, _, he, hl⟩)
    clear hdx
    subst hW
    go_enter Try.func111, Try.ntmps111
    go_wp2
    generalize ((w.alloc (.cells #[.bool false, .slice (some ad) xs.length c] 49)).alloc (.cells #[.bool false, .slice none 0 0] 49)) = W at *
    go_loop [6, 7] (fun lv iv => ∃ (b : Bool) (i : Nat), i ≤ q ∧ lv = .bool b ∧ iv = .int .i64 i) (fun _ iv => ((q : Int) - intOf iv).toNat)
    case atStart => exact ⟨false, 0, by omega, rfl, rfl⟩
    case round =>
      obtain ⟨b, i, hi, rfl, rfl⟩ := hrel
      by_cases hiq : i < q
      · have hcell := HC.out i (by omega)
        have hiq' : (i : Int) < (q : Int) := by omega
        have hix : (i : Int) < (xs.length : Int) := by omega
        generalize xs[i] = x at hcell
        cases b
        · go_wp2
          go_round
          case rel => exact ⟨_, i + 1, by omega, rfl, by go_num⟩
          case measure => simp [intOf]; omega
        · go_wp2
          go_round
          case rel => exact ⟨_, i + 1, by omega, rfl, by go_num⟩
          case measure => simp [intOf]; omega
      · obtain rfl : q = i := by omega
        go_wp2_with fail
        go_loop [8, 9] (fun fv iv => ∃ j F : Nat, j ≤ r ∧ iv = .int .i64 j ∧ fv = .int .u32 F ∧ Hid (F = 2 ^ j)) (fun _ iv => ((r : Int) - intOf iv).toNat)
        case atStart => exact ⟨0, 1, by omega, rfl, rfl, rfl⟩
        case round =>
          obtain ⟨j, F, hj, rfl, rfl, hF⟩ := hrel
          by_cases hjr : j < r
          · have hF2 : F * 2 = 2 ^ (j + 1) := by rw [Nat.pow_succ, ← (hF : F = 2 ^ j)]
            have hFb : F ≤ 2147483647 := by
              have h2 : 2 ^ (j + 1) ≤ 2 ^ 31 := Nat.pow_le_pow_right (by omega) (by omega)
              omega
            have HF2 := Lib.hid hF2
            have hjr' : (j : Int) < (r : Int) := by omega
            clear hF2
            go_wp2
            go_round
            case rel => exact ⟨j + 1, 2 * F, by omega, by go_num, by first | rfl | go_num, by have := HF2.out; show 2 * F = _; omega⟩
            case measure => simp [intOf]; omega
          · obtain rfl : j = r := by omega
            have hFb : F ≤ 4294967295 := by
              have h1 : F = 2 ^ j := hF
              have h2 : 2 ^ j ≤ 2 ^ 31 := Nat.pow_le_pow_right (by omega) hrb
              omega
            have hS1 := HSH.out F W hF hFb (by
              have := HS.out.drop (n := q) (cap := c) (by omega) hlc
              rw [if_neg (by omega)] at this
              exact this)
            have HS1 := Lib.hid hS1
            clear hS1 hF
            go_wp2_with fail
            refine (HS1.out).mono ?_
            rintro e w1 ⟨v, R, rfl, V, us, k, rfl, hs1, hd1, hn1, hv1, hk1, hk2, hb1⟩
            have k0 : w1.cell? ⟨w.heap.size, 0, none⟩ = some (.bool false) := (hb1.cell (p := ⟨w.heap.size, 0, none⟩) (by have := HR.out.lr; show w.heap.size < _; omega)).trans hc0
            have hr1 := Lib.hid (HR.out.on hb1)
            have hw1 := Lib.hid (HB.out.trans (hb1.mono HB.out.size))
            have hm := Lib.hid (sgd_any false V us k w1 hs1 hd1 hk1 (by unfold maxLen; omega))
            have HT : Hid (trimL us = us) := Lib.hid (trimL_norm hn1)
            have HV1 := Lib.hid hv1
            have HK := Lib.hid (show us.length ≤ xs.length by omega)
            clear hc0 hc1 hb1 hs1 hd1 hn1 hv1
            go_wp2_with fail
            refine (hm.out).mono ?_
            rw [HT.out]
            rintro e w2 ⟨V2, k3, rfl, hB2, hb2⟩
            have hr2 := hr1.out.on hb2
            have hw2 := hw1.out.trans (hb2.mono hw1.out.size)
            have g0 := hr2.r0
            have g1 := hr2.r1
            have g2 := hr2.f0
            have g3 := hr2.f1
            have hL := Lib.hid (hr2.laid hw2 (by omega) hB2)
            clear hr2 hw2 hB2 hb2
            go_wp2
            refine bodyPost_ret (v := big (false && decide (0 < us.length)) V2 us.length k3) (by simp [results, Try.results111, go_sem, g0, g1]) rfl ⟨_, V2, us, k3, rfl, hL.out.1, ?_, HK.out, hL.out.2⟩
            rw [HV1.out]
            simp [sv]
end Go.Proofs.Ytffjkfjokikhnaa.Rb
