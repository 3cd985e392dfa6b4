/-
  Powers add up, a chain is one behind the other (MatPowers): the walk. Condition: numbers of 64 bits.
-/
import Derived.Test.YtgoackkfjieahaaMqa
import Derived.Test.YtgoackkfjieahaaMqb
namespace Go.Proofs.Ytgoackkfjieahaa
theorem Mz.pow_sq {H : Int} {s : Mz} (hH : 1 < H) : ∀ m, (s.mul H s).pow H m = s.pow H (m + m)
  | 0 => rfl
  | m + 1 => by
    show (s.mul H s).mul H ((s.mul H s).pow H m) = s.pow H (m + 1 + (m + 1))
    rw [Mz.pow_sq hH m, show m + 1 + (m + 1) = (m + m) + 1 + 1 by omega, Mz.assoc]; rfl
theorem Mz.pow_sn {H : Int} {s : Mz} (hH : 1 < H) (hs : s.Ok H) (m : Nat) : (s.pow H m).mul H s = s.pow H (m + 1) := by
  conv => lhs; arg 3; rw [← Mz.pow_one hs]
  rw [Mz.pow_add hH]
theorem rz_pow {H : Int} (hH : 1 < H) : ∀ (n : Nat) (r s : Mz), r.Ok H → s.Ok H → (rz H).pow r s n = (s.pow H n).mul H r := by
  intro n
  induction n using Nat.strongRecOn with
  | ind n ih =>
    intro r s hr hs
    by_cases h0 : n = 0
    · subst h0
      rw [Rg.pow0]; exact (Mz.one_mul hr).symm
    · by_cases ho : n % 2 = 1
      · have hm : ((rz H).mul s r).Ok H := Mz.okm
        by_cases h1 : 1 < n
        · rw [← Rg.pow_om _ ho h1, rz_mul H s s, ih _ (by omega) _ _ hm Mz.okm, rz_mul, Mz.pow_sq hH, ← Mz.assoc, Mz.pow_sn hH hs, show n / 2 + n / 2 + 1 = n by omega]
        · rw [← Rg.pow_o1 _ ho h1, ih _ (by omega) _ _ hm hs, rz_mul, ← Mz.assoc, Mz.pow_sn hH hs, show n / 2 + 1 = n by omega]
      · have h1 : 1 < n := by omega
        rw [← Rg.pow_em _ ho h1, rz_mul H s s, ih _ (by omega) _ _ hr Mz.okm, Mz.pow_sq hH, show n / 2 + n / 2 = n by omega]
theorem rz_pow1 {H : Int} (hH : 1 < H) (n : Nat) {s : Mz} (hs : s.Ok H) : (rz H).pow ⟨1, 0, 0, 1⟩ s n = s.pow H n := by
  refine (rz_pow hH n _ _ (Mz.ok_one hH) hs).trans ?_
  exact Mz.mul_one (Mz.ok_pow hH n)
namespace W
open Go.RowKit
theorem lowm_ok (x : Mz) : (lowm x).Ok 128 := by
  unfold lowm
  simp only [wz_8]
  exact ⟨w_w _, w_w _, w_w _, w_w _⟩
theorem wrap_u (x : Int) : IntKind.u64.wrap x = x % 18446744073709551616 := by
  show (if (false && decide (x % (2 ^ 64 : Int) ≥ (2 ^ (64 - 1) : Int))) = true then x % (2 ^ 64 : Int) - (2 ^ 64 : Int) else x % (2 ^ 64 : Int)) = _
  rw [Bool.false_and, if_neg (by decide)]
  rfl
theorem powers_walk (X : Mz) (j k : Nat) (a b : Option Addr) (l more : List Mz) (ca cb : Nat) (w : World) (hX : X.Ok 9223372036854775808) (hj : (j : Int) ≤ 18446744073709551615) (hk : (k : Int) ≤ 18446744073709551615)
    (hA : ∀ (i : Nat) (mm : Mz), l[i]? = some mm → ∃ g off : Nat, a = some ⟨g, off, none⟩ ∧ At w g (off + i * 4) (mcv mm)) (hB : ∀ (i : Nat) (mm : Mz), more[i]? = some mm → ∃ g off : Nat, b = some ⟨g, off, none⟩ ∧ At w g (off + i * 4) (mcv mm)) :
    Calls Try.prog 7 #[mv X, .int .u64 (j : Nat), .int .u64 (k : Nat), .slice a l.length ca, .slice b more.length cb] w (fun e w' => e = .returned (.bool true) ∧ Below w.heap.size w w') := by
  have hH : (1 : Int) < 9223372036854775808 := by decide
  have hS : (1 : Int) < 128 := by decide
  obtain ⟨i0, hi, hz0, hz1, hz2⟩ := infoM
  have hm : ((j % 65 : Nat) : Int) = (j : Int) % 65 := by omega
  have hm2 : (j : Int).tmod 65 = ((j % 65 : Nat) : Int) := by rw [Int.tmod_eq_emod_of_nonneg (by omega)]; omega
  have hp := rz_pow1 hH
  have hq := rz_pow1 hS
  by_cases hjk : j + k < 18446744073709551616
  · exact powersA X (lowm X) (X.pow _ j) (X.pow _ k) (X.pow _ (j + k)) ((lowm X).pow 128 j) ((lowm X).pow 128 k) ((lowm X).pow 128 (j + k)) (X.pow _ (j % 65)) (Mz.chain _ .one l) (Mz.chain _ .one more) (Mz.chain _ .one (l ++ more)) l more a b ca cb j k (j + k) (j % 65) w (Lib.hid rfl) (Lib.hid hA) (Lib.hid hB) (by omega) (by omega) hj hk
      (by omega) (by omega) (by rw [wrap_u]; omega) (by omega) (decide_eq_true (by omega)) (by omega) (Lib.hid hm.symm) hm.symm hm2 i0 hi hz1 hz2 hz0
      (Lib.hid (hp j hX)) (Lib.hid (hp k hX)) (Lib.hid (Mz.pow_add hH j k)) (Lib.hid (hp _ hX)) (Lib.hid (hq j (lowm_ok X))) (Lib.hid (hq k (lowm_ok X))) (Lib.hid (Mz.pow_add hS j k)) (Lib.hid (hq _ (lowm_ok X)))
      (Lib.hid (Mz.chain_same X _)) (Lib.hid (hp _ hX)) (Lib.hid (Rg.pow0 _ _ _)) (Lib.hid ((hp 1 hX).trans (Mz.pow_one hX))) (Lib.hid rfl) (Lib.hid rfl) (Lib.hid rfl) (Lib.hid (Mz.chain_both hH l more).symm) (Lib.hid (Mz.chain_append _ _ l more).symm)
  · obtain ⟨q, hq1⟩ : ∃ q : Nat, j + k = 18446744073709551616 + q := ⟨j + k - 18446744073709551616, by omega⟩
    have hlt : q < j := by omega
    exact powersB X (lowm X) X X X X X X (X.pow _ (j % 65)) (Mz.chain _ .one l) (Mz.chain _ .one more) (Mz.chain _ .one (l ++ more)) l more a b ca cb j k q (j % 65) w (Lib.hid rfl) (Lib.hid hA) (Lib.hid hB) (by omega) (by omega) hj hk
      (by rw [wrap_u]; omega) (by omega) (decide_eq_false (by omega)) (by omega) (Lib.hid hm.symm) hm.symm hm2 i0 hi hz1 hz2 hz0
      (Lib.hid (Mz.chain_same X _)) (Lib.hid (hp _ hX)) (Lib.hid (Rg.pow0 _ _ _)) (Lib.hid ((hp 1 hX).trans (Mz.pow_one hX))) (Lib.hid rfl) (Lib.hid rfl) (Lib.hid rfl) (Lib.hid (Mz.chain_both hH l more).symm) (Lib.hid (Mz.chain_append _ _ l more).symm)
end W
end Go.Proofs.Ytgoackkfjieahaa
