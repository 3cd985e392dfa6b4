/-
  What large.addTimes and large.product return: the product of two lists of words. No conditions but that the lists are lists of words.
-/
import Derived.Test.YtplgheabhekedaaGreatDoorDiff
import Derived.Deep.RegionLaw
namespace Go.Proofs.YtplgheabhekedaaGreatDoor
open Go.RowKit Nb

theorem mul64_ex (x y : Nat) (hx : x < W64) (hy : y < W64) : ∃ h l : Nat, (∀ w, Calls Tryz.prog 194 #[.int .u64 x, .int .u64 y] w fun e w' => e = .returned (.tuple #[.int .u64 h, .int .u64 l]) ∧ w = w') ∧ l < W64 ∧ l + W64 * h = x * y ∧ h + 2 ≤ W64 := by
  refine ⟨x * y / W64, x * y % W64, fun w => (Tryz.bits_Mul64 x y hx hy w).mono fun _ _ h => ⟨h.1, h.2.symm⟩, Nat.mod_lt _ (by decide), Nat.mod_add_div _ _, ?_⟩
  have h1 : x * y ≤ (W64 - 1) * (W64 - 1) := Nat.mul_le_mul (by omega) (by omega)
  have h2 : x * y / W64 ≤ (W64 - 1) * (W64 - 1) / W64 := Nat.div_le_div_right h1
  have h3 : (W64 - 1) * (W64 - 1) / W64 = W64 - 2 := by decide
  have h4 : 2 ≤ W64 := by decide
  omega

theorem mulad_eq {K v h l xw z d1 o1 o2 c : Nat} (h1 : l + K * h = xw) (h2 : d1 + K * o1 = l + z + 0) (h3 : v + K * o2 = d1 + c + 0) : v + K * (h + o1 + o2) = xw + z + c := by
  rw [Nat.mul_add, Nat.mul_add]; omega

set_option maxHeartbeats 800000 in
/-- x times one word is added to z, which has as many words. -/
theorem addTimes_any (g off : Nat) (pre zs post xs : List Nat) (A : Option Addr) (c d q : Nat) (w : World) (hoff : pre.length = off) (hz : Row .u64 w g 182 (pre ++ (zs ++ post))) (hx : Sl .u64 w g A xs)
    (hl : xs.length = zs.length) (hc : zs.length ≤ c) (dz : Dig W64 zs) (dx : Dig W64 xs) (hq : q < W64) (hb : (off + zs.length) * 8 ≤ 140737488351232) :
    Calls Tryz.prog 172 #[.slice (some ⟨g, off, none⟩) zs.length c, .slice A xs.length d, .int .u64 q] w fun e w' => ∃ (zs' : List Nat) (o : Nat), e = .returned (.int .u64 o) ∧ zs'.length = zs.length ∧ Dig W64 zs' ∧ o < W64 ∧
      val W64 zs' + W64 ^ zs.length * o = val W64 zs + val W64 xs * q ∧ Row .u64 w' g 182 (pre ++ (zs' ++ post)) ∧ Upd g w w' := by
  have HL := Lib.hid hl
  have HO := Lib.hid hoff
  have hxl : xs.length * 8 ≤ 140737488351232 := by omega
  have hxc : xs.length ≤ c := by omega
  have hxi : (xs.length : Int) ≤ (c : Int) := by omega
  rw [← hl]
  clear hl hoff
  go_enter Tryz.func172, Tryz.ntmps172
  go_wp2
  go_loopw [6, 18] (fun cv iv wr => ∃ (k o : Nat) (ds : List Nat), k ≤ xs.length ∧ iv = .int .i64 k ∧ cv = .int .u64 o ∧ o < W64 ∧ ds.length = k ∧ Dig W64 ds ∧ val W64 ds + W64 ^ k * o = val W64 (zs.take k) + val W64 (xs.take k) * q ∧
      Row .u64 wr g 182 (pre ++ ((ds ++ zs.drop k) ++ post)) ∧ Upd g w wr) (fun _ iv _ => xs.length - (intOf iv).toNat)
  case atStart => exact ⟨0, 0, [], Nat.zero_le _, rfl, rfl, by decide, rfl, Dig.nil _, by simp [val], by simpa using hz, Upd.refl _ _⟩
  case round =>
    obtain ⟨k, o, ds, hk, rfl, rfl, ho, hdl, hdd, he, hrow, hu⟩ := hrel
    have HD := Lib.hid hdl; clear hdl
    have HE := Lib.hid he; clear he
    by_cases hlt : k < xs.length
    · have hkz : k < zs.length := by have := HL.out; omega
      obtain ⟨ad, rfl, hb1, h1⟩ := (hx.upd hu (Nat.le_refl _)).at_ hlt
      have gf := hrow.frozen (off + k)
      have gc := hrow.cell (i := off + k) (by have := HO.out; have := HD.out; simp; omega)
      have hzz := dz.get hkz
      have hxx := dx.get hlt
      have hgz : (pre ++ ((ds ++ zs.drop k) ++ post))[off + k]'(by have := HO.out; have := HD.out; simp; omega) = zs[k] := by
        have h := get_mid pre (ds ++ zs.drop k) post (k := k) (by rw [fill_length ds zs HD.out (by omega)]; exact hkz) (by have := HD.out; simp; omega)
        rw [fill_get ds zs HD.out hkz] at h
        rw [← h]
        congr 1
        rw [HO.out]
      rw [hgz] at gc
      have hset : ∀ v : Nat, (pre ++ ((ds ++ zs.drop k) ++ post)).set (off + k) v = pre ++ (((ds ++ [v]) ++ zs.drop (k + 1)) ++ post) := fun v => by
        have h := set_mid pre (ds ++ zs.drop k) post (k := k) v (by rw [fill_length ds zs HD.out (by omega)]; exact hkz)
        rw [fill_put ds zs v HD.out hkz] at h
        rw [← h]
        congr 1
        rw [HO.out]
      have hrs := fun v => hrow.set_ (off + k) v
      have hstep := fun v o' => step_up (v := v) (c' := o') (t := zs[k] + xs[k] * q) HE.out HD.out
      have hty : val W64 (zs.take (k + 1)) + val W64 (xs.take (k + 1)) * q = val W64 (zs.take k) + val W64 (xs.take k) * q + W64 ^ k * (zs[k] + xs[k] * q) := by
        rw [val_take_succ W64 hkz, val_take_succ W64 hlt, Nat.mul_add, Nat.add_mul, Nat.mul_assoc]; omega
      generalize zs[k] = z at *
      generalize xs[k] = x at *
      obtain ⟨h, l, hmul, hll, hlo, hh⟩ := mul64_ex x q hxx hq
      obtain ⟨d1, o1, hadd1, hd1, ho1, hvo1⟩ := add64_ex l z 0 hll hzz (by omega)
      obtain ⟨v, o2, hadd2, hv, ho2, hvo2⟩ := add64_ex d1 o 0 hd1 ho (by omega)
      have htot := mulad_eq hlo hvo1 hvo2
      have hcarry := mul_carry hxx hq hzz ho htot
      have hrs' := hrs v
      rw [hset v] at hrs'
      have hst' := hstep v (h + o1 + o2) (by rw [htot, Nat.add_comm (x * q) z])
      rw [← hty] at hst'
      have HS := Lib.hid hst'
      have HR := Lib.hid hrs'
      have HC := Lib.hid hcarry
      have hc1 : (h : Int) + o1 ≤ 18446744073709551615 := by simp only [W64] at *; omega
      have hc2 : (h : Int) + o1 + o2 ≤ 18446744073709551615 := by simp only [W64] at *; omega
      have hadd1' : ∀ w, (callFunc 180 #[.int .u64 l, .int .u64 z, .int .u64 0]).run Tryz.prog w = .ok (.value (.tuple #[.int .u64 d1, .int .u64 o1])) w := hadd1
      have hadd2' : ∀ w, (callFunc 180 #[.int .u64 d1, .int .u64 o, .int .u64 0]).run Tryz.prog w = .ok (.value (.tuple #[.int .u64 v, .int .u64 o2])) w := hadd2
      clear hadd1 hadd2 hgz hset hrs hstep hty hst' hrs' hvo1 hvo2 htot hcarry hlo hll hzz hxx
      have hji : (k : Int) < (xs.length : Int) := by omega
      go_wp2_with (go_at_call 194; refine (hmul _).mono ?_; rintro e w' ⟨rfl, rfl⟩)
      go_roundw
      case rel => exact ⟨k + 1, h + o1 + o2, ds ++ [v], by omega, by go_num, by go_num, HC.out, by have := HD.out; simp; omega, dig_snoc hdd hv, HS.out, HR.out, hu.setCell _ _⟩
      case measure => simp [intOf]; omega
    · obtain rfl : k = xs.length := by omega
      go_wp2
      go_ret
      have h1 := HE.out
      rw [List.take_length, HL.out, List.take_length] at h1
      have h2 : zs.drop xs.length = [] := by rw [HL.out, List.drop_length]
      rw [h2, List.append_nil] at hrow
      exact ⟨ds, o, rfl, HD.out, hdd, ho, by rw [HL.out]; exact h1, hrow, hu⟩
end Go.Proofs.YtplgheabhekedaaGreatDoor
