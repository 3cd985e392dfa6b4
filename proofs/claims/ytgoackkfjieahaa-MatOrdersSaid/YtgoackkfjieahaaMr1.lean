/-
  Powers of matrices over any ring, bit by bit. No conditions.
-/
import Derived.Test.YtgoackkfjieahaaMr0
import Derived.Laws.Bits64b
namespace Go.Proofs.Ytgoackkfjieahaa
open Go.RowKit
theorem Rg.pow0 (R : Rg) (r s : Mz) : R.pow r s 0 = r := by rw [Rg.pow, if_pos rfl]
theorem Rg.pow_om (R : Rg) {r s : Mz} {k : Nat} (o : k % 2 = 1) (h : 1 < k) : R.pow (R.mul s r) (R.mul s s) (k / 2) = R.pow r s k := by
  conv => rhs; rw [Rg.pow]
  rw [if_neg (by omega), if_pos o, if_pos h]
theorem Rg.pow_o1 (R : Rg) {r s : Mz} {k : Nat} (o : k % 2 = 1) (h : ¬ 1 < k) : R.pow (R.mul s r) s (k / 2) = R.pow r s k := by
  conv => rhs; rw [Rg.pow]
  rw [if_neg (by omega), if_pos o, if_neg h]
theorem Rg.pow_em (R : Rg) {r s : Mz} {k : Nat} (o : ¬ k % 2 = 1) (h : 1 < k) : R.pow r (R.mul s s) (k / 2) = R.pow r s k := by
  conv => rhs; rw [Rg.pow]
  rw [if_neg (by omega), if_neg o, if_pos h]
theorem odd_yes {k : Nat} (h : k < 18446744073709551616) (o : k % 2 = 1) : (bits BinOp.and IntKind.u64 (k : Int) 1 == 1) = true := by
  rw [show (1 : Int) = ((1 : Nat) : Int) from rfl, bits_and_u64_nat k 1 h (by decide), Nat.and_one_is_mod, o]; rfl
theorem odd_no {k : Nat} (h : k < 18446744073709551616) (o : ¬ k % 2 = 1) : (bits BinOp.and IntKind.u64 (k : Int) 1 == 1) = false := by
  rw [show (1 : Int) = ((1 : Nat) : Int) from rfl, bits_and_u64_nat k 1 h (by decide), Nat.and_one_is_mod, show k % 2 = 0 by omega]; rfl
theorem Rg.chain_step {R : Rg} {x m : Mz} {xs : List Mz} {k : Nat} (h : xs[k]? = some m) : R.chain x (xs.take (k + 1)) = R.mul m (R.chain x (xs.take k)) := by
  obtain ⟨hk, rfl⟩ := List.getElem?_eq_some_iff.1 h
  unfold Rg.chain
  rw [List.take_succ_eq_append_getElem hk, List.foldl_append]; rfl
end Go.Proofs.Ytgoackkfjieahaa
