/-
  The ring that tells what is done: its mixing of two numbers as a function, and what the calls return. No conditions.
-/
import Derived.Test.YtgoackkfjieahaaMr0
namespace Go.Proofs.Ytgoackkfjieahaa
open Go.RowKit
def mx1 (op a : Int) : Int := IntKind.u64.wrap (bits BinOp.xor IntKind.u64 (IntKind.u64.wrap a) (IntKind.u64.wrap (op * 11400714819323198485)) * 13787848793156543929)
def mx2 (x : Int) : Int := bits BinOp.xor IntKind.u64 x (x / 536870912)
def mx3 (x b : Int) : Int := IntKind.u64.wrap (IntKind.u64.wrap (x + IntKind.u64.wrap b) * 10723151780598845931)
/-- What comes of an operation and two numbers. -/
def mixv (op a b : Int) : Int := wrap64 (bits BinOp.xor IntKind.u64 (mx3 (mx2 (mx1 op a)) b) (mx3 (mx2 (mx1 op a)) b / 4294967296))
def rt : Rg := ⟨fun a b => mixv 1 a b, fun a b => mixv 2 a b, fun a => mixv 3 a 0⟩
set_option maxHeartbeats 4000000 in
set_option maxRecDepth 20000 in
theorem mix_at (op a b : Int) (w : World) : Calls Try.prog 67 #[.int .u64 op, .int .i64 a, .int .i64 b] w fun e w' => e = .returned (.int .i64 (mixv op a b)) ∧ w = w' := by
  go_enter Try.func67, Try.ntmps67
  go_wp2
  go_ret; exact ⟨rfl, rfl⟩
theorem mixb (op a b : Int) (w : World) : Calls Try.prog 67 #[.int .u64 op, .int .i64 a, .int .i64 b] w fun e w' => e = .returned (.int .i64 (mixv op a b)) ∧ Below w.heap.size w w' := (mix_at op a b w).mono fun _ _ ⟨h, e⟩ => ⟨h, e ▸ Below.refl _ _⟩
theorem mixed_at (op a b : Int) (w : World) : Calls Try.prog 100 #[.int .u64 op, .int .i64 a, .int .i64 b] w fun e w' => e = .returned (.int .i64 (mixv op a b)) ∧ w = w' := by
  go_enter Try.func100, Try.ntmps100
  go_wp2_with (go_at_call 67; refine (mix_at op a b _).mono ?_; rintro e w' ⟨rfl, rfl⟩)
  go_ret; exact ⟨rfl, rfl⟩
end Go.Proofs.Ytgoackkfjieahaa
