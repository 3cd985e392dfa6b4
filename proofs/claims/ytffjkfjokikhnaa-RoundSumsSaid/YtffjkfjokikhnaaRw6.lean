/-
  What the document's own quotient returns where the divisor is 1 and the power of two is negative. Condition: that the answer fits.
-/
import Derived.Test.YtffjkfjokikhnaaRw5
import Derived.Test.YtffjkfjokikhnaaRb6
namespace Go.Proofs.Ytffjkfjokikhnaa.Rb
open Go.RowKit Nb Fl
theorem exact_cmp {X t Z r : Nat} (hZ : X / 2 ^ t = Z) (hr : X % 2 ^ t = r) : (cmpI ((Z * 2 ^ t : Nat) : Int) (X : Int) == 0) = decide (r = 0) := by
  have h := Nat.div_add_mod X (2 ^ t)
  rw [hZ, hr, Nat.mul_comm] at h
  generalize Z * 2 ^ t = Y at *
  by_cases h0 : r = 0
  · rw [cmpI_eq (by omega)]; simp [h0]
  · rw [cmpI_lt (by omega)]; simp [h0]
theorem Duo.box {w W : World} {p q : Nat} {n1 n2 : Bool} {A B V : Option Addr} {xs ys zs : List Nat} {l1 c l2 d k : Nat} (h : Duo w W p q n1 n2 A B xs ys l1 c l2 d) (hz : Sl .u32 W W.heap.size V zs) :
    Duo W (W.alloc (.cells #[.bool false, .slice V zs.length k] 49)) W.heap.size p false n1 V A zs xs zs.length k l1 c := by
  have hlp := h.lp
  have h0 := h.a0
  have h1 := h.a1
  refine ⟨by go_grown, by simp, by simp; omega, hz.alloc (Nat.le_refl _) _, (h.sa.more h.below.size).alloc (Nat.le_refl _) _, by go_cell, by go_cell, ?_, ?_⟩
  · have hb : Below W.heap.size W (W.alloc (.cells #[.bool false, .slice V zs.length k] 49)) := by go_grown
    exact (hb.cell (p := ⟨p, 0, none⟩) hlp).trans h0
  · have hb : Below W.heap.size W (W.alloc (.cells #[.bool false, .slice V zs.length k] 49)) := by go_grown
    exact (hb.cell (p := ⟨p, 1, none⟩) hlp).trans h1
set_option maxHeartbeats 4000000 in
set_option maxRecDepth 20000 in
theorem quotient_down (A B : Option Addr) (xs ys : List Nat) (hys : ys = [1]) (c d t : Nat) (w : World) (hx : Bg w false A xs c maxLen) (hy : Bg w false B ys d maxLen) (hl : xs.length ≤ 1000) (ht0 : 0 < t) (ht1 : t ≤ 20000) (Z : Nat) (hZ : val W32 xs / 2 ^ t = Z) (hZ2 : Z ≤ 9223372036854775807) (ex : Bool) (hex : decide (val W32 xs % 2 ^ t = 0) = ex) :
    Calls Try.prog 102 #[big false A xs.length c, big false B ys.length d, .int .i64 (-(t : Int))] w fun e w' => e = .returned (.tuple #[.int .u64 Z, .bool ex]) ∧ Below w.heap.size w w' := by
  have ht := Duo.boxed (n1 := false) (n2 := false) (l1 := xs.length) (c := c) (l2 := ys.length) (d := d) hx.sl hy.sl
  have HONE : Hid (∀ W : World, Calls Try.prog 52 #[] W fun e w' => ∃ A c, e = .returned (big false A ys.length c) ∧ Sl .u32 w' w'.heap.size A ys ∧ Below W.heap.size W w') := Lib.hid (fun W => by
    subst hys
    exact (one_any W).mono fun e w' ⟨A, c, h1, h2, h3⟩ => ⟨A, c, h1, h2.sl, h3⟩)
  have HCMP : Hid (∀ (W : World) A1 c1, Sl .u32 W W.heap.size B ys → Sl .u32 W W.heap.size A1 ys → Calls Try.prog 101 #[big false B ys.length d, big false A1 ys.length c1] W fun e w' => e = .returned (.int .i64 0) ∧ Below W.heap.size W w') := Lib.hid (fun W A1 c1 h1 h2 => by
    have hlen : ys.length ≤ 2048 := by rw [hys]; simp
    have := rCmp_any false false B A1 ys ys d c1 W h1 h2 hy.dig hy.dig ⟨hlen, hy.norm, hy.sign⟩ ⟨hlen, hy.norm, hy.sign⟩
    rw [cmpI_eq rfl] at this
    exact this)
  have HHV : Hid (∀ W, Sl .u32 W W.heap.size A xs → Calls Try.prog 111 #[big false A xs.length c, .int .i64 t] W (Givn W Z xs.length)) := Lib.hid (fun W h =>
    (rhalved_any A xs c t W ⟨h, hx.dig, hx.norm, hx.sign, hx.len, hx.cap⟩ (by omega) (by omega) Z hZ).mono fun e w' h => h.nat)
  have HDB : Hid (∀ W V zs k, Bg W false V zs k maxLen → val W32 zs = Z → zs.length ≤ xs.length → Calls Try.prog 51 #[big false V zs.length k, .int .i64 t] W (Givn W (Z * 2 ^ t) (xs.length + t / 32 + 1))) := Lib.hid (fun W V zs k h1 h2 h3 => by
    have := rdouble_any false V zs k t W h1 (by omega) (by omega)
    rw [show sv false (val W32 zs) * ((2 ^ t : Nat) : Int) = ((Z * 2 ^ t : Nat) : Int) by rw [h2]; simp [sv]] at this
    exact this.mono fun e w' h => by
      obtain ⟨A, zs', c, e1, e2, e3, e4, e5⟩ := h.nat
      exact ⟨A, zs', c, e1, e2, e3, by omega, e5⟩)
  obtain ⟨r, hr⟩ : ∃ r, cmpI ((Z * 2 ^ t : Nat) : Int) (val W32 xs : Nat) = r := ⟨_, rfl⟩
  have hre := exact_cmp hZ (rfl : val W32 xs % 2 ^ t = _)
  rw [hr, hex] at hre
  have HCM2 : Hid (∀ (W : World) V zs k, Bg W false V zs k maxLen → val W32 zs = Z * 2 ^ t → zs.length ≤ xs.length + t / 32 + 1 → Sl .u32 W W.heap.size A xs → Calls Try.prog 101 #[big false V zs.length k, big false A xs.length c] W fun e w' => e = .returned (.int .i64 r) ∧ Below W.heap.size W w') := Lib.hid (fun W V zs k h1 h2 h3 h4 => by
    have := rCmp_any false false V A zs xs k c W h1.sl h4 h1.dig hx.dig ⟨by omega, h1.norm, h1.sign⟩ ⟨by omega, hx.norm, hx.sign⟩
    rw [show sv false (val W32 zs) = ((Z * 2 ^ t : Nat) : Int) by rw [← h2]; rfl, show sv false (val W32 xs) = ((val W32 xs : Nat) : Int) from rfl, hr] at this
    exact this)
  have HT := Lib.hid ht.all
  have k0 := ht.a0
  have k1 := ht.a1
  have k2 := ht.b0
  have k3 := ht.b1
  have hneg : -(-(t : Int)) = t := Int.neg_neg _
  clear ht hx hy hZ hys hr hex
  have hd : decide (-(t : Int) < 0) = true := by simp; omega
  have hti : (t : Int) ≤ 20000 := by omega
  have hti0 : 0 < (t : Int) := by omega
  have HWR : Hid (IntKind.i64.wrap (t : Int) = t) := Lib.hid (by rw [IntKind.wrap_i64]; omega)
  go_enter Try.func102, Try.ntmps102
  go_wp2_with fail
  generalize ((w.alloc (.cells #[.bool false, .slice A xs.length c] 49)).alloc (.cells #[.bool false, .slice B ys.length d] 49)) = W at *
  have hall := HT.out
  go_region_held3 (fun W' => Duo w W' w.heap.size (w.heap.size + 1) false false A B xs ys xs.length c ys.length d ∧ W'.cell? ⟨w.heap.size, 0, none⟩ = some (.bool false) ∧ W'.cell? ⟨w.heap.size, 1, none⟩ = some (.slice A xs.length c) ∧ W'.cell? ⟨w.heap.size + 1, 0, none⟩ = some (.bool false) ∧ W'.cell? ⟨w.heap.size + 1, 1, none⟩ = some (.slice B ys.length d))
    (first | exact hall | exact Duo.keep hall ((Below.refl _ _).drew) | exact Duo.keep (by assumption) (by assumption) | exact Duo.keep (by assumption) ((Below.refl _ _).drew))
    (first
      | (go_at_call 52; refine (HONE.out _).mono ?_; rintro e wi ⟨A1, c1, rfl, hs1, hbi⟩)
      | (go_at_call 101; refine (HCMP.out _ A1 c1 (Duo.sb' (by assumption)) hs1).mono ?_; rintro e wj ⟨rfl, hbj⟩))
  rename_i hD
  have hh := Lib.hid (HHV.out wj (Duo.sa' hD))
  have HD := Lib.hid hD
  have k0 := hD.1.a0
  have k1 := hD.1.a1
  clear hbi hbj hs1 hall hD
  go_wp2_with fail
  refine (hh.out).mono ?_
  rintro e w2 ⟨V, zs, k, rfl, hbg, hv, hzl, hb2⟩
  have hD2 := HD.out.1.on hb2
  have HW2 := Lib.hid hD2.below
  have hbx := Lib.hid (hD2.box hbg.sl (k := k)).all
  have HN : Hid (∀ W, Sl .u32 W W.heap.size V zs → Calls Try.prog 112 #[big false V zs.length k] W fun e w' => e = .returned (.int .u64 Z) ∧ Below W.heap.size W w') := Lib.hid (fun W h => by
    have := number_any V zs k W ⟨h, hbg.dig, hbg.norm, hbg.sign, hbg.len, hbg.cap⟩ (by omega)
    rw [hv] at this
    exact this)
  have HD3 : Hid (∀ W, Sl .u32 W W.heap.size V zs → Calls Try.prog 51 #[big false V zs.length k, .int .i64 t] W (Givn W (Z * 2 ^ t) (xs.length + t / 32 + 1))) := Lib.hid (fun W h => HDB.out W V zs k ⟨h, hbg.dig, hbg.norm, hbg.sign, hbg.len, hbg.cap⟩ hv hzl)
  clear k0 k1 k2 k3 hD2 hbg hv hzl hb2 hh HD HDB HHV
  go_wp2_with fail
  generalize (w2.alloc (.cells #[.bool false, .slice V zs.length k] 49)) = W5 at *
  have hall := hbx.out
  go_region_held3 (fun W' => Duo w2 W' w2.heap.size w.heap.size false false V A zs xs zs.length k xs.length c ∧ W'.cell? ⟨w2.heap.size, 0, none⟩ = some (.bool false) ∧ W'.cell? ⟨w2.heap.size, 1, none⟩ = some (.slice V zs.length k) ∧ W'.cell? ⟨w.heap.size, 0, none⟩ = some (.bool false) ∧ W'.cell? ⟨w.heap.size, 1, none⟩ = some (.slice A xs.length c))
    (first | exact hall | exact Duo.keep hall ((Below.refl _ _).drew) | exact Duo.keep (by assumption) (by assumption) | exact Duo.keep (by assumption) ((Below.refl _ _).drew))
    (first
      | (go_at_call 112; refine (HN.out _ (Duo.sa' (by assumption))).mono ?_; rintro e wi2 ⟨rfl, hbi⟩)
      | (go_at_call 51; rw [HWR.out]; refine (HD3.out _ (Duo.sa' (by assumption))).mono ?_; rintro e wj2 ⟨V3, us, k3, rfl, hbg3, hv3, hl3, hbj⟩
         have HV3 := Lib.hid (And.intro hv3 hl3)
         clear hv3 hl3)
      | (go_at_call 101; refine (HCM2.out _ V3 us k3 hbg3 HV3.out.1 HV3.out.2 (Duo.sb' (by assumption))).mono ?_; rintro e wk2 ⟨rfl, hbk⟩))
  go_wp2
  go_ret2
  exact ⟨rfl, HW2.out.trans ((Duo.below' (by assumption)).mono HW2.out.size)⟩
end Go.Proofs.Ytffjkfjokikhnaa.Rb
