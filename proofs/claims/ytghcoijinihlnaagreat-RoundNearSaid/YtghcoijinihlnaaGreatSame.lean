/-
  What the statements' own equality and condition return: are two numbers the same, may three be. No conditions but that the lists are lists of limbs.
-/
import Derived.Test.YtghcoijinihlnaaGreatWh
namespace Go.Proofs.YtghcoijinihlnaaGreat
open Go.RowKit Nb
theorem take_same {xs ys : List Nat} {k : Nat} (h : xs.take k = ys.take k) (hk : k < xs.length) (hl : xs.length = ys.length) (he : xs[k] = ys[k]'(hl ▸ hk)) : xs.take (k + 1) = ys.take (k + 1) := by
  rw [List.take_succ_eq_append_getElem hk, List.take_succ_eq_append_getElem (hl ▸ hk), h, he]
theorem same_all {xs ys : List Nat} {k : Nat} (h : xs.take k = ys.take k) (hk : xs.length ≤ k) (hl : xs.length = ys.length) : xs = ys := by
  rwa [List.take_of_length_le hk, List.take_of_length_le (hl ▸ hk)] at h
end Go.Proofs.YtghcoijinihlnaaGreat
