/-
  What the document's own Under returns where the divisor is 1: the walk, where the answer has all its digits. Condition: that the number is one and not beyond some thousand bits.
-/
import Derived.Test.YtffjkfjokikhnaaRw8
namespace Go.Proofs.Ytffjkfjokikhnaa.Rb
open Go.RowKit Nb Fl
theorem high_parts (A B : Option Addr) (xs ys : List Nat) (hys : ys = [1]) (c d E L : Nat) (w : World) (hx : Bg w false A xs c maxLen) (hy : Bg w false B ys d maxLen) (hl : xs.length ≤ 1000) (hL : bitLen (val W32 xs) = L) (hT : 54 ≤ L + E) (hT2 : L + E ≤ 10000) (s : Int) (hs : s = 54 - (L : Int)) :
    ∃ (N : Nat) (ex : Bool), N / 2 = val W32 xs * 2 ^ E / 2 ^ (L + E - 53) ∧ (ex && decide (N % 2 = 0)) = decide (val W32 xs * 2 ^ E % 2 ^ (L + E - 53) = 0) ∧ (N ≤ 9223372036854775807 →
      ∀ W : World, Sl .u32 W W.heap.size A xs → Sl .u32 W W.heap.size B ys → Calls Try.prog 102 #[big false A xs.length c, big false B ys.length d, .int .i64 s] W fun e w' => e = .returned (.tuple #[.int .u64 N, .bool ex]) ∧ Below W.heap.size W w') := by
  subst hs
  rcases Nat.lt_or_ge 54 L with h | h
  · obtain ⟨t, rfl⟩ : ∃ t, L = 54 + t := ⟨L - 54, by omega⟩
    have hu := under_down (P := val W32 xs) (E := E) (t := t)
    rw [show E + t + 1 = 54 + t + E - 53 by omega] at hu
    refine ⟨_, _, hu.1, hu.2, fun hN W h1 h2 => ?_⟩
    rw [show (54 : Int) - ((54 + t : Nat) : Int) = -(t : Int) by omega]
    exact quotient_down A B xs ys hys c d t W ⟨h1, hx.dig, hx.norm, hx.sign, hx.len, hx.cap⟩ ⟨h2, hy.dig, hy.norm, hy.sign, hy.len, hy.cap⟩ hl (by omega) (by omega) _ rfl hN _ rfl
  · have hu := under_up (P := val W32 xs) (E := E) (s := 54 - L) (by omega)
    rw [show E - (54 - L) + 1 = L + E - 53 by omega] at hu
    refine ⟨_, _, hu.1, hu.2, fun hN W h1 h2 => ?_⟩
    rw [show (54 : Int) - (L : Int) = ((54 - L : Nat) : Int) by omega]
    exact quotient_up A B xs ys hys c d (54 - L) W ⟨h1, hx.dig, hx.norm, hx.sign, hx.len, hx.cap⟩ ⟨h2, hy.dig, hy.norm, hy.sign, hy.len, hy.cap⟩ (by omega) (by omega) _ rfl hN
set_option maxHeartbeats 4000000 in
set_option maxRecDepth 100000 in
theorem under_high (A B : Option Addr) (xs ys : List Nat) (hys : ys = [1]) (c d E : Nat) (e : Int) (he : e = (E : Int) - 1074) (w : World) (hx : Bg w false A xs c maxLen) (hy : Bg w false B ys d maxLen) (hl : xs.length ≤ 1000) (h0 : 0 < val W32 xs) (hT : 54 ≤ bitLen (val W32 xs) + E) (hT2 : bitLen (val W32 xs) + E ≤ 10000) :
    Calls Try.prog 61 #[big false A xs.length c, big false B ys.length d, .int .i64 e] w (UnderIs (val W32 xs * 2 ^ E) w) := by
  have ht := Duo.boxed (n1 := false) (n2 := false) (l1 := xs.length) (c := c) (l2 := ys.length) (d := d) hx.sl hy.sl
  have hxl : 0 < xs.length := by
    rcases Nat.eq_zero_or_pos xs.length with h | h
    · rw [List.eq_nil_of_length_eq_zero h] at h0; simp [val] at h0
    · exact h
  have HS : Hid (∀ W : World, Calls Try.prog 56 #[big false A xs.length c] W fun e w' => e = .returned (.int .i64 1) ∧ Below W.heap.size W w') := Lib.hid (fun W => by
    obtain ⟨r, _, hr, h⟩ := sign_some false A xs c W hxl (by omega)
    have h2 := h W
    rw [hr] at h2
    exact h2)
  have HB1 : Hid (∀ W : World, Sl .u32 W W.heap.size A xs → Calls Try.prog 98 #[big false A xs.length c] W fun e w' => e = .returned (.int .i64 (bitLen (val W32 xs))) ∧ Below W.heap.size W w') := Lib.hid (fun W h => rbits_any false A xs c W h hx.dig hx.norm (by omega))
  have HB2 : Hid (∀ W : World, Sl .u32 W W.heap.size B ys → Calls Try.prog 98 #[big false B ys.length d] W fun e w' => e = .returned (.int .i64 1) ∧ Below W.heap.size W w') := Lib.hid (fun W h => by
    have := rbits_any false B ys d W h hy.dig hy.norm (by rw [hys]; simp)
    rw [show bitLen (val W32 ys) = 1 by rw [hys]; decide] at this
    exact this)
  obtain ⟨N, ex, hN1, hN2, hq⟩ := high_parts A B xs ys hys c d E (bitLen (val W32 xs)) w hx hy hl rfl hT hT2 (54 - (bitLen (val W32 xs) : Int)) rfl
  have hUb : bitLen (val W32 xs * 2 ^ E) = bitLen (val W32 xs) + E := bitLen_shift h0 E
  have hrg := undr_range (h := bitLen (val W32 xs) + E - 53) (by rw [hUb]; omega) hN1
  have HQ := Lib.hid (hq (by omega))
  have HIN : Hid (bitLen (val W32 xs) + E ≤ 2098 → undr (val W32 xs * 2 ^ E) = ((bitLen (val W32 xs) + E - 53) * 4503599627370496 + N / 2, ex && decide (N % 2 = 0))) := Lib.hid (fun h => undr_in (by rw [hUb]; omega) (by omega) (by omega) hN1 hN2)
  have HOUT : Hid (2099 ≤ bitLen (val W32 xs) + E → undr (val W32 xs * 2 ^ E) = (9218868437227405311, false)) := Lib.hid (fun h => undr_out (by rw [hUb]; exact h))
  clear hq hN1 hN2 hUb
  unfold UnderIs
  have HT := Lib.hid ht.all
  have k0 := ht.a0
  have k1 := ht.a1
  generalize bitLen (val W32 xs) = L at *
  generalize undr (val W32 xs * 2 ^ E) = R at *
  obtain ⟨l1, hl1⟩ : ∃ l1 : Int, (L : Int) - 1 = l1 := ⟨_, rfl⟩
  obtain ⟨l2, hl2⟩ : ∃ l2 : Int, l1 + e = l2 := ⟨_, rfl⟩
  obtain ⟨k, hkk⟩ : ∃ k : Int, l2 - 53 = k := ⟨_, rfl⟩
  obtain ⟨s, hs⟩ : ∃ s : Int, 54 - (L : Int) = s := ⟨_, rfl⟩
  obtain ⟨k1, hk1⟩ : ∃ k1 : Int, k + 1 = k1 := ⟨_, rfl⟩
  obtain ⟨g, hg⟩ : ∃ g : Int, k1 + 1075 = g := ⟨_, rfl⟩
  obtain ⟨u, hu⟩ : ∃ u : Int, ((N : Nat) : Int) = u := ⟨_, rfl⟩
  obtain ⟨v, hv⟩ : ∃ v : Int, u / 2 = v := ⟨_, rfl⟩
  simp only [hs, hu] at HQ
  have hks : e - k = s := by omega
  have hk : -1074 ≤ k := by omega
  have hk2 : k ≤ 9000 := by omega
  have hu0 : 9007199254740992 ≤ u := by omega
  have hu1 : u < 18014398509481984 := by omega
  have hv0 : 4503599627370496 ≤ v := by omega
  have hv1 : v < 9007199254740992 := by omega
  have hss : s ≤ 54 := by omega
  have hss0 : -10000 ≤ s := by omega
  have HFIN : Hid (k1 ≤ 971 → R = ((g * 4503599627370496 + v - 4503599627370496).toNat, ex && decide (u % 2 = 0))) := Lib.hid (fun h => by
    rw [HIN.out (by omega)]
    refine Prod.ext ?_ ?_
    · show _ = (g * 4503599627370496 + v - 4503599627370496).toNat
      omega
    · show (ex && decide (N % 2 = 0)) = (ex && decide (u % 2 = 0))
      congr 1
      exact decide_eq_decide.2 (by omega))
  have HFOUT : Hid (971 < k1 → R = (9218868437227405311, false)) := Lib.hid (fun h => HOUT.out (by omega))
  have hg0 : -1 ≤ g := by omega
  have hg1 : g ≤ 11000 := by omega
  have hk10 : -1073 ≤ k1 := by omega
  have hk11 : k1 ≤ 9001 := by omega
  have hLL : (L : Int) ≤ 10000 := by omega
  have hL0 : 0 ≤ (L : Int) := by omega
  have he0 : -1074 ≤ e := by omega
  have he1 : e ≤ 9000 := by omega
  have HW1 : Hid (IntKind.i64.wrap ((L : Int) - 1) = l1) := Lib.hid (by rw [IntKind.wrap_i64]; omega)
  have HW2 : Hid (IntKind.i64.wrap (l1 + e) = l2) := Lib.hid (by rw [IntKind.wrap_i64]; omega)
  have HW3 : Hid (IntKind.i64.wrap (l2 - 53) = k) := Lib.hid (by rw [IntKind.wrap_i64]; omega)
  clear hl1 hl2 hkk
  have HGK := Lib.hid hg
  clear ht hx hy hys he hxl h0 hT hT2 hrg hs hu HIN HOUT
  have hff := run_from
  go_enter Try.func61, Try.ntmps61
  go_wp2_with fail
  generalize ((w.alloc (.cells #[.bool false, .slice A xs.length c] 49)).alloc (.cells #[.bool false, .slice B ys.length d] 49)) = W at *
  refine (HS.out _).mono ?_
  rintro _ w1 ⟨rfl, hb1⟩
  have hall := Duo.keep HT.out hb1
  clear k0 k1 hb1 HT
  go_wp2_with fail
  go_region_held3 (fun W' => Duo w W' w.heap.size (w.heap.size + 1) false false A B xs ys xs.length c ys.length d ∧ W'.cell? ⟨w.heap.size, 0, none⟩ = some (.bool false) ∧ W'.cell? ⟨w.heap.size, 1, none⟩ = some (.slice A xs.length c) ∧ W'.cell? ⟨w.heap.size + 1, 0, none⟩ = some (.bool false) ∧ W'.cell? ⟨w.heap.size + 1, 1, none⟩ = some (.slice B ys.length d))
    (first | exact hall | exact Duo.keep hall ((Below.refl _ _).drew) | exact Duo.keep (by assumption) (by assumption) | exact Duo.keep (by assumption) ((Below.refl _ _).drew))
    (first
      | (go_at_call 98; (with_reducible refine (HB1.out _ (Duo.sa' (by assumption))).mono ?_); rintro _ wi ⟨rfl, hbi⟩)
      | (go_at_call 98; (with_reducible refine (HB2.out _ (Duo.sb' (by assumption))).mono ?_); rintro _ wj ⟨rfl, hbj⟩))
  rename_i hD
  rw [HW1.out, HW2.out, HW3.out]
  have hD' : DuoS w wj w.heap.size (w.heap.size + 1) false false A B xs ys xs.length c ys.length d := hD
  have hq := Lib.hid (HQ.out wj (Duo.sa' hD') (Duo.sb' hD'))
  have k0 := hD'.1.a0
  have k1 := hD'.1.a1
  have k2 := hD'.1.b0
  have k3 := hD'.1.b1
  have HW := Lib.hid hD'.1.below
  clear hD hall hbi hbj
  rcases Int.lt_or_le 2000 k with hk3 | hk3
  · have hR := Lib.hid (HFOUT.out (by omega))
    go_wp2
    go_ret2
    exact ⟨by rw [hR.out]; rfl, HW.out⟩
  go_wp2_with fail
  refine (hq.out).mono ?_
  rintro _ w2 ⟨rfl, hb2⟩
  clear hD' k0 k1 k2 k3
  rcases Int.lt_or_le 971 k1 with gi | gi
  · have hR := Lib.hid (HFOUT.out gi)
    rcases Int.emod_two_eq u with hm | hm <;> cases ex <;>
    · go_wp2
      go_ret2
      exact ⟨by rw [hR.out]; rfl, HW.out.trans (hb2.mono HW.out.size)⟩
  · have hR := Lib.hid (HFIN.out gi)
    have hg2 : g ≤ 2046 := by have := HGK.out; omega
    have hg3 : 2 ≤ g := by have := HGK.out; omega
    rcases Int.emod_two_eq u with hm | hm <;> cases ex <;>
    · go_wp2
      go_ret2
      refine ⟨?_, HW.out.trans (hb2.mono HW.out.size)⟩
      rw [hR.out, hm]
      rfl
end Go.Proofs.Ytffjkfjokikhnaa.Rb
