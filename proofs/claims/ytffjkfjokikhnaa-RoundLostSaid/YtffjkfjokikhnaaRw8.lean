/-
  What the document's own Under returns where the divisor is 1: the walk. Condition: that the number is one and not beyond some thousand bits.
-/
import Derived.Test.YtffjkfjokikhnaaRw7
namespace Go.Proofs.Ytffjkfjokikhnaa.Rb
open Go.RowKit Nb Fl
set_option maxHeartbeats 4000000 in
set_option maxRecDepth 100000 in
theorem under_low (A B : Option Addr) (xs ys : List Nat) (hys : ys = [1]) (c d E : Nat) (e : Int) (he : e = (E : Int) - 1074) (w : World) (hx : Bg w false A xs c maxLen) (hy : Bg w false B ys d maxLen) (hl : xs.length ≤ 1000) (h0 : 0 < val W32 xs) (hT : bitLen (val W32 xs) + E ≤ 53) :
    Calls Try.prog 61 #[big false A xs.length c, big false B ys.length d, .int .i64 e] w (UnderIs (val W32 xs * 2 ^ E) w) := by
  have ht := Duo.boxed (n1 := false) (n2 := false) (l1 := xs.length) (c := c) (l2 := ys.length) (d := d) hx.sl hy.sl
  have hxl : 0 < xs.length := by
    rcases Nat.eq_zero_or_pos xs.length with h | h
    · rw [List.eq_nil_of_length_eq_zero h] at h0; simp [val] at h0
    · exact h
  have HS : Hid (∀ W : World, Calls Try.prog 56 #[big false A xs.length c] W fun e w' => e = .returned (.int .i64 1) ∧ Below W.heap.size W w') := Lib.hid (fun W => by
    obtain ⟨r, _, hr, h⟩ := sign_some false A xs c W hxl (by omega)
    have h2 := h W
    rw [hr] at h2
    exact h2)
  have hU : val W32 xs * 2 ^ E < 9007199254740992 := by rw [← undr_bits, bitLen_shift h0]; exact hT
  have HB1 : Hid (∀ W : World, Sl .u32 W W.heap.size A xs → Calls Try.prog 98 #[big false A xs.length c] W fun e w' => e = .returned (.int .i64 (bitLen (val W32 xs))) ∧ Below W.heap.size W w') := Lib.hid (fun W h => rbits_any false A xs c W h hx.dig hx.norm (by omega))
  have HB2 : Hid (∀ W : World, Sl .u32 W W.heap.size B ys → Calls Try.prog 98 #[big false B ys.length d] W fun e w' => e = .returned (.int .i64 1) ∧ Below W.heap.size W w') := Lib.hid (fun W h => by
    have := rbits_any false B ys d W h hy.dig hy.norm (by rw [hys]; simp)
    rw [show bitLen (val W32 ys) = 1 by rw [hys]; decide] at this
    exact this)
  have HQ : Hid (∀ W : World, Sl .u32 W W.heap.size A xs → Sl .u32 W W.heap.size B ys → Calls Try.prog 102 #[big false A xs.length c, big false B ys.length d, .int .i64 E] W fun e w' => e = .returned (.tuple #[.int .u64 (val W32 xs * 2 ^ E : Nat), .bool true]) ∧ Below W.heap.size W w') := Lib.hid (fun W h1 h2 =>
    quotient_up A B xs ys hys c d E W ⟨h1, hx.dig, hx.norm, hx.sign, hx.len, hx.cap⟩ ⟨h2, hy.dig, hy.norm, hy.sign, hy.len, hy.cap⟩ (by omega) (by omega) _ rfl (by omega))
  have hund := undr_low hU
  unfold UnderIs
  rw [hund]
  have HT := Lib.hid ht.all
  have k0 := ht.a0
  have k1 := ht.a1
  have hUi : ((val W32 xs * 2 ^ E : Nat) : Int) < 9007199254740992 := by omega
  generalize bitLen (val W32 xs) = L at *
  generalize val W32 xs * 2 ^ E = U at *
  generalize hu : ((U : Nat) : Int) = u at *
  have HU : Hid (u.toNat = U) := Lib.hid (by omega)
  have hu0 : 0 ≤ u := by omega
  obtain ⟨l1, hl1⟩ : ∃ l1 : Int, (L : Int) - 1 = l1 := ⟨_, rfl⟩
  obtain ⟨l2, hl2⟩ : ∃ l2 : Int, l1 + e = l2 := ⟨_, rfl⟩
  obtain ⟨k, hkk⟩ : ∃ k : Int, l2 - 53 = k := ⟨_, rfl⟩
  have hk : k < -1074 := by omega
  have hk2 : -3000 ≤ k := by omega
  have HW1 : Hid (IntKind.i64.wrap ((L : Int) - 1) = l1) := Lib.hid (by rw [IntKind.wrap_i64]; omega)
  have HW2 : Hid (IntKind.i64.wrap (l1 + e) = l2) := Lib.hid (by rw [IntKind.wrap_i64]; omega)
  have HW3 : Hid (IntKind.i64.wrap (l2 - 53) = k) := Lib.hid (by rw [IntKind.wrap_i64]; omega)
  have hLi : (L : Int) ≤ 53 := by omega
  have he0 : -1074 ≤ e := by omega
  have he1 : e ≤ 0 := by omega
  have hs1 : e - (-1074) = (E : Int) := by omega
  have hs2 : e + 1074 = (E : Int) := by omega
  have HUI := Lib.hid hUi
  clear hl1 hl2 hkk
  clear ht hx hy hys he hxl h0 hT hund hU hUi hu
  have hff := run_from
  go_enter Try.func61, Try.ntmps61
  go_wp2_with fail
  generalize ((w.alloc (.cells #[.bool false, .slice A xs.length c] 49)).alloc (.cells #[.bool false, .slice B ys.length d] 49)) = W at *
  refine (HS.out _).mono ?_
  rintro _ w1 ⟨rfl, hb1⟩
  have hall := Duo.keep HT.out hb1
  clear k0 k1 hb1 HT
  go_wp2_with fail
  go_region_held3 (fun W' => Duo w W' w.heap.size (w.heap.size + 1) false false A B xs ys xs.length c ys.length d ∧ W'.cell? ⟨w.heap.size, 0, none⟩ = some (.bool false) ∧ W'.cell? ⟨w.heap.size, 1, none⟩ = some (.slice A xs.length c) ∧ W'.cell? ⟨w.heap.size + 1, 0, none⟩ = some (.bool false) ∧ W'.cell? ⟨w.heap.size + 1, 1, none⟩ = some (.slice B ys.length d))
    (first | exact hall | exact Duo.keep hall ((Below.refl _ _).drew) | exact Duo.keep (by assumption) (by assumption) | exact Duo.keep (by assumption) ((Below.refl _ _).drew))
    (first
      | (go_at_call 98; (with_reducible refine (HB1.out _ (Duo.sa' (by assumption))).mono ?_); rintro _ wi ⟨rfl, hbi⟩)
      | (go_at_call 98; (with_reducible refine (HB2.out _ (Duo.sb' (by assumption))).mono ?_); rintro _ wj ⟨rfl, hbj⟩))
  rename_i hD
  rw [HW1.out, HW2.out, HW3.out]
  have hD' : DuoS w wj w.heap.size (w.heap.size + 1) false false A B xs ys xs.length c ys.length d := hD
  have hq := Lib.hid (HQ.out wj (Duo.sa' hD') (Duo.sb' hD'))
  have k0 := hD'.1.a0
  have k1 := hD'.1.a1
  have k2 := hD'.1.b0
  have k3 := hD'.1.b1
  have HW := Lib.hid hD'.1.below
  clear hD hall hbi hbj
  go_wp2_with fail
  refine (hq.out).mono ?_
  rintro _ w2 ⟨rfl, hb2⟩
  clear hD' k0 k1 k2 k3
  have hUi := HUI.out
  rcases Int.lt_or_le u 4503599627370496 with gi | gi
  · go_wp2
    go_ret2
    exact ⟨by rw [← HU.out]; rfl, HW.out.trans (hb2.mono HW.out.size)⟩
  · go_wp2
    go_ret2
    refine ⟨?_, HW.out.trans (hb2.mono HW.out.size)⟩
    rw [← HU.out]
    rw [show (4503599627370496 : Int) + u - 4503599627370496 = u by omega]
    rfl
end Go.Proofs.Ytffjkfjokikhnaa.Rb
