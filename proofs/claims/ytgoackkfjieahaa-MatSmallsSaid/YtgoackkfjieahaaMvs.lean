/-
  MatSmalls: the walk, whatever is handed in. Condition: numbers of 64 bits.
-/
import Derived.Test.YtgoackkfjieahaaMxs
namespace Go.Proofs.Ytgoackkfjieahaa.S
open Go.RowKit D
theorem all_walk (o m n : Mz) (k : Nat) (a : Option Addr) (l : List Mz) (ca : Nat) (w : World) (hk : (k : Int) ≤ 18446744073709551615)
    (hA : ∀ (i : Nat) (mm : Mz), l[i]? = some mm → ∃ g off : Nat, a = some ⟨g, off, none⟩ ∧ At w g (off + i * 4) (W.mcv mm)) :
    Calls Try.prog 4 #[fv o, fv m, fv n, .int .u64 (k : Nat), .slice a l.length ca] w (fun e w' => e = .returned (.bool true) ∧ Below w.heap.size w w') := by
  by_cases h1 : (67108864 : Int) < (l.length : Int)
  · exact matSmalls_huge o m n k ca a l w h1
  · by_cases h2 : (1048576 : Int) < 4 * (l.length : Int)
    · exact matSmalls_long o m n k ca a l w (by omega) h2
    · obtain ⟨i0, hi, hz0, hz1, hz2⟩ := infoM
      obtain ⟨j0, ji, jz0, jz1, jz2⟩ := D.infoD
      exact matSmalls_ok o m n (cv o) (cv m) (cv n) k ca a l (l.map cv) w hk (by omega) (Lib.hid rfl) (Lib.hid rfl) (Lib.hid rfl) (Lib.hid (cv_ok _)) (Lib.hid (cv_ok _)) (Lib.hid (by simp)) (Lib.hid hA) (Lib.hid fun i mm h => ⟨_, rfl, by rw [List.getElem?_map, h]; rfl⟩) i0 hi hz1 hz2 hz0 j0 ji jz1 jz2 jz0
end Go.Proofs.Ytgoackkfjieahaa.S
