/-
  What the document's own Under and Beside return where the divisor is 1. Condition: that the number is one and not beyond some thousand bits.
-/
import Derived.Test.YtffjkfjokikhnaaRw9
import Derived.Test.YtffjkfjokikhnaaRw4
namespace Go.Proofs.Ytffjkfjokikhnaa.Rb
open Go.RowKit Nb Fl Ieee
set_option maxHeartbeats 1000000 in
theorem under_zero (A B : Option Addr) (xs ys : List Nat) (c d : Nat) (e : Int) (w : World) (h0 : xs.length = 0) :
    Calls Try.prog 61 #[big false A xs.length c, big false B ys.length d, .int .i64 e] w fun r w' => r = .returned (.tuple #[.float .f64 0, .bool true]) ∧ Below w.heap.size w w' := by
  have HS : Hid (∀ W : World, Calls Try.prog 56 #[big false A xs.length c] W fun e w' => e = .returned (.int .i64 0) ∧ Below W.heap.size W w') := Lib.hid (fun W => sign_zero false A xs c W h0)
  clear h0
  go_enter Try.func61, Try.ntmps61
  go_wp2_with fail
  refine (HS.out _).mono ?_
  rintro _ w1 ⟨rfl, hb1⟩
  have HB := Lib.hid hb1
  clear hb1
  go_wp2
  go_ret2
  exact ⟨rfl, Below.trans (by go_grown) (HB.out.mono (by go_size))⟩
theorem under_any (A B : Option Addr) (xs ys : List Nat) (hys : ys = [1]) (c d E : Nat) (e : Int) (he : e = (E : Int) - 1074) (w : World) (hx : Bg w false A xs c maxLen) (hy : Bg w false B ys d maxLen) (hl : xs.length ≤ 1000) (hT2 : bitLen (val W32 xs) + E ≤ 10000) :
    Calls Try.prog 61 #[big false A xs.length c, big false B ys.length d, .int .i64 e] w (UnderIs (val W32 xs * 2 ^ E) w) := by
  rcases Nat.eq_zero_or_pos (val W32 xs) with h | h
  · rw [h, Nat.zero_mul]
    exact under_zero A B xs ys c d e w (val_zero hx.norm h)
  · rcases Nat.lt_or_ge (bitLen (val W32 xs) + E) 54 with g | g
    · exact under_low A B xs ys hys c d E e he w hx hy hl h (by omega)
    · exact under_high A B xs ys hys c d E e he w hx hy hl h g hT2
theorem undr_le (U : Nat) : (undr U).1 ≤ 9218868437227405311 := by
  unfold undr
  split
  · show U ≤ _; omega
  · split
    · exact Nat.le_refl _
    · rename_i h1 h2
      have hb : U < 2 ^ bitLen U := bitLen_le_iff.1 (Nat.le_refl _)
      have h3 : bitLen U = bitLen U - 53 + 53 := by
        have := undr_bits (U := U)
        omega
      have h4 : U / 2 ^ (bitLen U - 53) < 2 ^ 53 := by rw [Nat.div_lt_iff_lt_mul (Nat.two_pow_pos _), ← Nat.pow_add, Nat.add_comm, ← h3]; exact hb
      have h5 : (2 : Nat) ^ 53 = 9007199254740992 := by decide
      show (bitLen U - 53) * 4503599627370496 + U / 2 ^ (bitLen U - 53) ≤ _
      generalize U / 2 ^ (bitLen U - 53) = q at *
      omega
/-- The float above. -/
def ovr (U : Nat) : Nat := if (undr U).2 then (undr U).1 else (undr U).1 + 1
set_option maxHeartbeats 4000000 in
theorem beside_any (n : Bool) (A B : Option Addr) (xs ys : List Nat) (hys : ys = [1]) (c d E : Nat) (e : Int) (he : e = (E : Int) - 1074) (w : World) (hx : Bg w n A xs c maxLen) (hy : Bg w false B ys d maxLen) (hl : xs.length ≤ 1000) (hT2 : bitLen (val W32 xs) + E ≤ 10000) (U : Nat) (hU : val W32 xs * 2 ^ E = U) (D : Nat) (hD : n = true → double.sub 0 (ovr U) = some D) :
    Calls Try.prog 69 #[big n A xs.length c, big false B ys.length d, .int .i64 e] w fun r w' => r = .returned (.tuple #[.float .f64 (if n then D else (undr U).1), .float .f64 (if n then (undr U).1 + 9223372036854775808 else ovr U : Nat)]) ∧ Below w.heap.size w w' := by
  have ht := Duo.boxed (n1 := n) (n2 := false) (l1 := xs.length) (c := c) (l2 := ys.length) (d := d) hx.sl hy.sl
  have HZ : Hid (∀ W : World, Sl .u32 W W.heap.size A xs → Calls Try.prog 58 #[big n A xs.length c] W fun e w' => ∃ A' c', e = .returned (big false A' xs.length c') ∧ Bg w' false A' xs c' maxLen ∧ Below W.heap.size W w') := Lib.hid (fun W h => rsize_any n A xs c W ⟨h, hx.dig, hx.norm, hx.sign, hx.len, hx.cap⟩)
  have HU : Hid (∀ (W : World) A' c', Bg W false A' xs c' maxLen → Sl .u32 W W.heap.size B ys → Calls Try.prog 61 #[big false A' xs.length c', big false B ys.length d, .int .i64 e] W (UnderIs U W)) := Lib.hid (fun W A' c' h1 h2 => by
    have := under_any A' B xs ys hys c' d E e he W h1 ⟨h2, hy.dig, hy.norm, hy.sign, hy.len, hy.cap⟩ hl hT2
    rw [hU] at this
    exact this)
  have hsg : ∃ r : Int, (∀ W : World, Calls Try.prog 56 #[big n A xs.length c] W fun e w' => e = .returned (.int .i64 r) ∧ Below W.heap.size W w') ∧ decide (r < 0) = n := by
    rcases Nat.eq_zero_or_pos xs.length with h | h
    · refine ⟨0, fun W => sign_zero n A xs c W h, ?_⟩
      rw [hx.sign (List.eq_nil_of_length_eq_zero h)]; rfl
    · obtain ⟨r, _, h1, h2⟩ := sign_some n A xs c w h (by omega)
      refine ⟨r, h2, ?_⟩
      rw [h1]; cases n <;> rfl
  obtain ⟨r, hS, hr⟩ := hsg
  have HS := Lib.hid hS
  have hle := undr_le U
  have HT := Lib.hid ht.all
  have k0 := ht.a0
  have k1 := ht.a1
  have k2 := ht.b0
  have k3 := ht.b1
  unfold UnderIs at HU
  unfold ovr at hD ⊢
  generalize (undr U).1 = m at *
  generalize (undr U).2 = ex at *
  have HAB : Hid (∀ W : World, Calls Try.prog 62 #[.float .f64 m] W fun e w' => e = .returned (.float .f64 (m + 1 : Nat)) ∧ w' = W) := Lib.hid (fun W => above_any m W (by omega))
  have HMI : Hid (∀ W : World, Calls Try.prog 103 #[.float .f64 m] W fun e w' => e = .returned (.float .f64 (m + 9223372036854775808 : Nat)) ∧ w' = W) := Lib.hid (fun W => by
    have := minus_any m W (by omega)
    rw [show mg m = m from Nat.mod_eq_of_lt (by omega)] at this
    exact this)
  have hrb : r < 0 ∨ 0 ≤ r := by omega
  clear ht hx hy hys he hl hT2 hU hS hle
  go_enter Try.func69, Try.ntmps69
  go_wp2_with fail
  generalize ((w.alloc (.cells #[.bool n, .slice A xs.length c] 49)).alloc (.cells #[.bool false, .slice B ys.length d] 49)) = W at *
  have hall := HT.out
  go_region_held3 (fun W' => Duo w W' w.heap.size (w.heap.size + 1) n false A B xs ys xs.length c ys.length d ∧ W'.cell? ⟨w.heap.size, 0, none⟩ = some (.bool n) ∧ W'.cell? ⟨w.heap.size, 1, none⟩ = some (.slice A xs.length c) ∧ W'.cell? ⟨w.heap.size + 1, 0, none⟩ = some (.bool false) ∧ W'.cell? ⟨w.heap.size + 1, 1, none⟩ = some (.slice B ys.length d))
    (first | exact hall | exact Duo.keep hall ((Below.refl _ _).drew) | exact Duo.keep (by assumption) (by assumption) | exact Duo.keep (by assumption) ((Below.refl _ _).drew))
    (first
      | (go_at_call 58; refine (HZ.out _ (Duo.sa' (by assumption))).mono ?_; rintro _ wi ⟨A', c', rfl, hBg, hbi⟩)
      | (go_at_call 61; refine (HU.out _ A' c' hBg (Duo.sb' (by assumption))).mono ?_; rintro _ wj ⟨rfl, hbj⟩))
  rename_i hDD
  have hD' : DuoS w wj w.heap.size (w.heap.size + 1) n false A B xs ys xs.length c ys.length d := hDD
  have HW := Lib.hid hD'.1.below
  have j0 := hD'.1.a0
  have j1 := hD'.1.a1
  clear hDD hall hbi hbj hD' k0 k1 k2 k3 hBg HT
  cases ex
  · go_wp2_with fail
    refine (HAB.out _).mono ?_
    rintro _ w2 ⟨rfl, rfl⟩
    go_wp2_with fail
    refine (HS.out _).mono ?_
    rintro _ w3 ⟨rfl, hb3⟩
    have HB3 := Lib.hid hb3
    clear j0 j1 hb3
    cases n
    · have hr0 : ¬ r < 0 := of_decide_eq_false hr
      clear hr
      go_wp2
      go_ret2
      exact ⟨rfl, HW.out.trans (HB3.out.mono HW.out.size)⟩
    · have hr0 : r < 0 := of_decide_eq_true hr
      have hsub : ∀ (t : TypeId) (W : World), (binOp .sub t (.float .f64 0) (.float .f64 (m + 1 : Nat))).run Try.prog W = .ok (.float .f64 D) W := fun t W => by
        have hf := fop_some (op := .sub) (hD rfl) W
        rw [run_sub]
        simp only [Bool.false_eq_true, if_false] at hf
        rw [hf.1, hf.2]
        rfl
      clear hr hD
      go_wp2_with fail
      refine (HMI.out _).mono ?_
      rintro _ w4 ⟨rfl, rfl⟩
      go_wp2
      go_ret2
      exact ⟨rfl, HW.out.trans (HB3.out.mono HW.out.size)⟩
  · go_wp2_with fail
    refine (HS.out _).mono ?_
    rintro _ w3 ⟨rfl, hb3⟩
    have HB3 := Lib.hid hb3
    clear j0 j1 hb3
    cases n
    · have hr0 : ¬ r < 0 := of_decide_eq_false hr
      clear hr
      go_wp2
      go_ret2
      exact ⟨rfl, HW.out.trans (HB3.out.mono HW.out.size)⟩
    · have hr0 : r < 0 := of_decide_eq_true hr
      have hsub : ∀ (t : TypeId) (W : World), (binOp .sub t (.float .f64 0) (.float .f64 (m : Nat))).run Try.prog W = .ok (.float .f64 D) W := fun t W => by
        have hf := fop_some (op := .sub) (hD rfl) W
        rw [run_sub]
        simp only [if_true] at hf
        rw [hf.1, hf.2]
        rfl
      clear hr hD
      go_wp2_with fail
      refine (HMI.out _).mono ?_
      rintro _ w4 ⟨rfl, rfl⟩
      go_wp2
      go_ret2
      exact ⟨rfl, HW.out.trans (HB3.out.mono HW.out.size)⟩
end Go.Proofs.Ytffjkfjokikhnaa.Rb
