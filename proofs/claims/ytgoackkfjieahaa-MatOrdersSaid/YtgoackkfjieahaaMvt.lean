/-
  MatOrders: the walk, whatever is handed in. Condition: numbers of 64 bits.
-/
import Derived.Test.YtgoackkfjieahaaMxt
namespace Go.Proofs.Ytgoackkfjieahaa.T
open Go.RowKit D
theorem all_walk (o m n : Mz) (k : Nat) (a : Option Addr) (l : List Mz) (ca : Nat) (w : World) (hk : (k : Int) ≤ 18446744073709551615)
    (hA : ∀ (i : Nat) (mm : Mz), l[i]? = some mm → ∃ g off : Nat, a = some ⟨g, off, none⟩ ∧ At w g (off + i * 4) (W.mcv mm)) :
    Calls Try.prog 5 #[fv o, fv m, fv n, .int .u64 (k : Nat), .slice a l.length ca] w (fun e w' => e = .returned (.bool true) ∧ Below w.heap.size w w') := by
  by_cases h1 : (67108864 : Int) < (l.length : Int)
  · exact matOrders_huge o m n k ca a l w h1
  · by_cases h2 : (1048576 : Int) < 4 * (l.length : Int)
    · exact matOrders_long o m n k ca a l w (by omega) h2
    · obtain ⟨i0, hi, hz0, hz1, hz2⟩ := infoM
      obtain ⟨j0, ji, jz0, jz1, jz2⟩ := D.infoD
      exact matOrders_ok (R := rt) (Lib.hid rfl) D.refT o m n (cv o) (cv m) (cv n) k ca a l l w hk (by omega) (Lib.hid rfl) (Lib.hid rfl) (Lib.hid rfl) (Lib.hid (trivial)) (Lib.hid (trivial)) (Lib.hid (by simp)) (Lib.hid hA) (Lib.hid fun i mm h => ⟨_, rfl, by exact h⟩) i0 hi hz1 hz2 hz0 j0 ji jz1 jz2 jz0
end Go.Proofs.Ytgoackkfjieahaa.T
