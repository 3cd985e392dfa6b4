/-
  Matrices over any ring of numbers: products, determinants, traces, what is turned, powers, chains, as functions. No conditions.
-/
import Derived.Test.YtgoackkfjieahaaMt0
import Derived.Test.YtgoackkfjieahaaRows
import Derived.WalkKit
import Derived.Below
import Derived.Handy
import Derived.Lib.Hide
namespace Go.Proofs.Ytgoackkfjieahaa
open Go.RowKit
/-- What a ring's things do. -/
structure Rg where
  ad : Int → Int → Int
  ml : Int → Int → Int
  ng : Int → Int
namespace Rg
variable (R : Rg)
def tw (a b c d : Int) : Int := R.ad (R.ml a b) (R.ml c d)
def mul (x y : Mz) : Mz := ⟨R.tw x.a y.a x.b y.c, R.tw x.a y.b x.b y.d, R.tw x.c y.a x.d y.c, R.tw x.c y.b x.d y.d⟩
def det (x : Mz) : Int := R.ad (R.ml x.a x.d) (R.ng (R.ml x.b x.c))
def tr (x : Mz) : Int := R.ad x.a x.d
def turned (x : Mz) : Mz := ⟨x.d, R.ng x.b, R.ng x.c, x.a⟩
def chain (r : Mz) (l : List Mz) : Mz := l.foldl (fun r m => R.mul m r) r
/-- So many times, by the bits of the number. -/
def pow (r s : Mz) (n : Nat) : Mz :=
  if n = 0 then r else pow (if n % 2 = 1 then R.mul s r else r) (if 1 < n then R.mul s s else s) (n / 2)
termination_by n
decreasing_by omega
end Rg
/-- Numbers that wrap round. -/
def rz (H : Int) : Rg := ⟨fun a b => wz H (a + b), fun a b => wz H (a * b), fun a => wz H (-a)⟩
theorem rz_mul (H : Int) (x y : Mz) : (rz H).mul x y = Mz.mul H x y := rfl
theorem rz_det (H : Int) (x : Mz) : (rz H).det x = Mz.det H x := rfl
theorem rz_tr (H : Int) (x : Mz) : (rz H).tr x = Mz.tr H x := rfl
theorem rz_turned (H : Int) (x : Mz) : (rz H).turned x = Mz.turned H x := rfl
theorem rz_chain (H : Int) (x : Mz) (l : List Mz) : (rz H).chain x l = Mz.chain H x l := rfl
theorem bcell {W w1 : World} (hb : Below W.heap.size W w1) : (∀ b o, b < W.heap.size → w1.cell? ⟨b, o, none⟩ = W.cell? ⟨b, o, none⟩) ∧ (∀ b o, b < W.heap.size → w1.frozen? ⟨b, o, none⟩ = W.frozen? ⟨b, o, none⟩) :=
  ⟨fun b o h => hb.cell (p := ⟨b, o, none⟩) h, fun b o h => hb.frozen (p := ⟨b, o, none⟩) h⟩
end Go.Proofs.Ytgoackkfjieahaa
