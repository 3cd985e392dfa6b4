/-
  No cell of these rows narrows 'for every input' (looked for: loops, veiled, ifaces, maps, wideKeys, modest, calm, conditions, laid).
  DERIVED. THE GIVEN ROWS OF THIS SEAT. 5 by the template 'for every input the law returns true; each argument reads behind the call as it read before'; 0 by the template 'total and deterministic' (their statements: YtjamfkafgfpobaaGreatTotals.lean).
  GIVEN WITH THE SEED: the statements are not yours to turn. If you find one false, say at which input.
  Laid BY PROGRAM, IN A SANDBOX (cutbox-rows.mjs): the forced cells as the released guide's own fill.sh prints them over the translation 24b0562d678adbf3… (all of the seat's roots in one cut). By AI agents, Wed Nov 11 2026. No macro, syntax, notation, axiom, sorry.
-/
import Derived.Test.YtjamfkafgfpobaaGreatChecked
import GoSem.Claim
import GoSem.ClaimJoined
import GoSem.ClaimMapViews
import Derived.JoinedTies
import Derived.KernelRfl
namespace Go.Proofs.YtjamfkafgfpobaaGreat
/- THE CELL 'sum', in the pinned program and in every row, IS THE sha256 OF THE DUMP (.gsa) THAT YtjamfkafgfpobaaGreatProg.lean LOADS. Nothing in Lean hashes anything: it is a label: what it is worth is what the hold of that sum in a sandbox is worth. -/
noncomputable def Tryz.pinned : Pinned := { name := "ytjamfkafgfpobaagreat", sum := "24b0562d678adbf32b2315361b38b30014d99e91186d5f52a023a7cfbddbda70", checked := Tryz.checked }
namespace Rows
def none {H : Type} : Left H := { results := [], args := [] }

/-- 'polestarlaw10.BenchJoins': WHATEVER THE INPUT: true; the input reads as it did. -/
def benchJoinsSpec : ChangeSpec := { name := "benchJoins", fn := fun _ => fun
  | [d1, d2] => { results := [.lit (.bool true)], args := [d1, d2] }
  | _ => none }
def benchJoinsRow : OpenClaim := { program := "ytjamfkafgfpobaagreat", sum := "24b0562d678adbf32b2315361b38b30014d99e91186d5f52a023a7cfbddbda70", func := "polestar/polestarlaw10.BenchJoins", spec := "benchJoins", inPlace := ["math/bits.Add64", "math/bits.Sub64"], unfollowed := true, recurses := true, named := ["math/bits.divideError", "math/bits.overflowError"], apart := false }
def BenchJoinsSaid : Prop := benchJoinsRow.holds Tryz.pinned (OpenSpec.ofChange benchJoinsSpec)

/-- ITS FALSE NEIGHBOUR: 'it returns false'. Refute it at one input. -/
def benchJoinsWrong : ChangeSpec := { name := "benchJoins", fn := fun _ => fun
  | [d1, d2] => { results := [.lit (.bool false)], args := [d1, d2] }
  | _ => none }
def BenchJoinsWrongFalsely : Prop := benchJoinsRow.holds Tryz.pinned (OpenSpec.ofChange benchJoinsWrong)

/-- 'polestarlaw10.BenchReturns': WHATEVER THE INPUT: true; the input reads as it did. -/
def benchReturnsSpec : ChangeSpec := { name := "benchReturns", fn := fun _ => fun
  | [d1, d2] => { results := [.lit (.bool true)], args := [d1, d2] }
  | _ => none }
def benchReturnsRow : OpenClaim := { program := "ytjamfkafgfpobaagreat", sum := "24b0562d678adbf32b2315361b38b30014d99e91186d5f52a023a7cfbddbda70", func := "polestar/polestarlaw10.BenchReturns", spec := "benchReturns", inPlace := ["math/bits.Add64", "math/bits.Sub64"], unfollowed := true, recurses := true, named := ["math/bits.divideError", "math/bits.overflowError"], apart := false }
def BenchReturnsSaid : Prop := benchReturnsRow.holds Tryz.pinned (OpenSpec.ofChange benchReturnsSpec)

/-- ITS FALSE NEIGHBOUR: 'it returns false'. Refute it at one input. -/
def benchReturnsWrong : ChangeSpec := { name := "benchReturns", fn := fun _ => fun
  | [d1, d2] => { results := [.lit (.bool false)], args := [d1, d2] }
  | _ => none }
def BenchReturnsWrongFalsely : Prop := benchReturnsRow.holds Tryz.pinned (OpenSpec.ofChange benchReturnsWrong)

/-- 'polestarlaw10.BenchSteps': WHATEVER THE INPUT: true; the input reads as it did. -/
def benchStepsSpec : ChangeSpec := { name := "benchSteps", fn := fun _ => fun
  | [d1, d2, d3] => { results := [.lit (.bool true)], args := [d1, d2, d3] }
  | _ => none }
def benchStepsRow : OpenClaim := { program := "ytjamfkafgfpobaagreat", sum := "24b0562d678adbf32b2315361b38b30014d99e91186d5f52a023a7cfbddbda70", func := "polestar/polestarlaw10.BenchSteps", spec := "benchSteps", inPlace := ["math/bits.Add64", "math/bits.Sub64"], unfollowed := true, recurses := true, named := ["math/bits.divideError", "math/bits.overflowError"], apart := false }
def BenchStepsSaid : Prop := benchStepsRow.holds Tryz.pinned (OpenSpec.ofChange benchStepsSpec)

/-- ITS FALSE NEIGHBOUR: 'it returns false'. Refute it at one input. -/
def benchStepsWrong : ChangeSpec := { name := "benchSteps", fn := fun _ => fun
  | [d1, d2, d3] => { results := [.lit (.bool false)], args := [d1, d2, d3] }
  | _ => none }
def BenchStepsWrongFalsely : Prop := benchStepsRow.holds Tryz.pinned (OpenSpec.ofChange benchStepsWrong)

/-- 'polestarlaw10.BenchSame': WHATEVER THE INPUT: true; the input reads as it did. -/
def benchSameSpec : ChangeSpec := { name := "benchSame", fn := fun _ => fun
  | [d1, d2] => { results := [.lit (.bool true)], args := [d1, d2] }
  | _ => none }
def benchSameRow : OpenClaim := { program := "ytjamfkafgfpobaagreat", sum := "24b0562d678adbf32b2315361b38b30014d99e91186d5f52a023a7cfbddbda70", func := "polestar/polestarlaw10.BenchSame", spec := "benchSame", inPlace := ["math/bits.Add64", "math/bits.Sub64"], unfollowed := true, recurses := true, named := ["math/bits.divideError", "math/bits.overflowError"], apart := false }
def BenchSameSaid : Prop := benchSameRow.holds Tryz.pinned (OpenSpec.ofChange benchSameSpec)

/-- ITS FALSE NEIGHBOUR: 'it returns false'. Refute it at one input. -/
def benchSameWrong : ChangeSpec := { name := "benchSame", fn := fun _ => fun
  | [d1, d2] => { results := [.lit (.bool false)], args := [d1, d2] }
  | _ => none }
def BenchSameWrongFalsely : Prop := benchSameRow.holds Tryz.pinned (OpenSpec.ofChange benchSameWrong)

/-- 'polestarlaw10.BenchParts': WHATEVER THE INPUT: true; the input reads as it did. -/
def benchPartsSpec : ChangeSpec := { name := "benchParts", fn := fun _ => fun
  | [d] => { results := [.lit (.bool true)], args := [d] }
  | _ => none }
def benchPartsRow : OpenClaim := { program := "ytjamfkafgfpobaagreat", sum := "24b0562d678adbf32b2315361b38b30014d99e91186d5f52a023a7cfbddbda70", func := "polestar/polestarlaw10.BenchParts", spec := "benchParts", inPlace := ["math/bits.Add64", "math/bits.Sub64"], unfollowed := true, recurses := true, named := ["math/bits.divideError", "math/bits.overflowError"], apart := false }
def BenchPartsSaid : Prop := benchPartsRow.holds Tryz.pinned (OpenSpec.ofChange benchPartsSpec)

/-- ITS FALSE NEIGHBOUR: 'it returns false'. Refute it at one input. -/
def benchPartsWrong : ChangeSpec := { name := "benchParts", fn := fun _ => fun
  | [d] => { results := [.lit (.bool false)], args := [d] }
  | _ => none }
def BenchPartsWrongFalsely : Prop := benchPartsRow.holds Tryz.pinned (OpenSpec.ofChange benchPartsWrong)

/- THE SECOND FORM. 'bulk': how many values and letters a reading holds, each counted each time it is reached (what is shared counts as often as it is met; a slice's spare places count too). A statement '..UptoSaid' is the law's where the arguments, and the package variables that the reading takes, are together of bulk at most 1048576: NARROWER than '..Said'. Prove '..Said' where nothing that the law and all that it calls make is longer than what came in: it says more and counts as full. Else prove '..UptoSaid'. A law counts once. -/
mutual
def uptoBulk {H : Type} : DataW H → Nat
  | .lit (.string bytes) => bytes.length + 1
  | .lit _ => 1
  | .nil => 1
  | .ptr d => uptoBulk d + 1
  | .slice elems spare => uptoBulkAll elems + uptoBulkAll spare + 1
  | .agg parts => uptoBulkAll parts + 1
  | .iface _ d => uptoBulk d + 1
  | .map entries => uptoBulkEntries entries + 1
  | .held _ => 1
def uptoBulkAll {H : Type} : List (DataW H) → Nat
  | [] => 0
  | d :: r => uptoBulk d + uptoBulkAll r
def uptoBulkEntries {H : Type} : List (Lit × DataW H) → Nat
  | [] => 0
  | x :: r => uptoBulkEntry x + uptoBulkEntries r
def uptoBulkEntry {H : Type} : Lit × DataW H → Nat
  | (.string bytes, d) => bytes.length + uptoBulk d + 1
  | (_, d) => uptoBulk d + 1
 end
def uptoSmall : (H : Type) → List (DataW H) → Bool := fun _ ds => decide (uptoBulkAll ds ≤ 1048576)
def OpenSpec.upto (s : _root_.Go.ChangeSpec) : _root_.Go.OpenSpec := { _root_.Go.OpenSpec.ofChange s with cond := some uptoSmall }

/-- 'polestarlaw10.BenchJoins', WHERE WHAT IT READS IS OF BULK AT MOST 1048576: true; the input reads as it did. -/
def benchJoinsUptoRow : OpenClaim := { program := "ytjamfkafgfpobaagreat", sum := "24b0562d678adbf32b2315361b38b30014d99e91186d5f52a023a7cfbddbda70", func := "polestar/polestarlaw10.BenchJoins", spec := "benchJoins", inPlace := ["math/bits.Add64", "math/bits.Sub64"], unfollowed := true, recurses := true, named := ["math/bits.divideError", "math/bits.overflowError"], apart := false, narrowed := true }
def BenchJoinsUptoSaid : Prop := benchJoinsUptoRow.holds Tryz.pinned (OpenSpec.upto benchJoinsSpec)

/-- 'polestarlaw10.BenchReturns', WHERE WHAT IT READS IS OF BULK AT MOST 1048576: true; the input reads as it did. -/
def benchReturnsUptoRow : OpenClaim := { program := "ytjamfkafgfpobaagreat", sum := "24b0562d678adbf32b2315361b38b30014d99e91186d5f52a023a7cfbddbda70", func := "polestar/polestarlaw10.BenchReturns", spec := "benchReturns", inPlace := ["math/bits.Add64", "math/bits.Sub64"], unfollowed := true, recurses := true, named := ["math/bits.divideError", "math/bits.overflowError"], apart := false, narrowed := true }
def BenchReturnsUptoSaid : Prop := benchReturnsUptoRow.holds Tryz.pinned (OpenSpec.upto benchReturnsSpec)

/-- 'polestarlaw10.BenchSteps', WHERE WHAT IT READS IS OF BULK AT MOST 1048576: true; the input reads as it did. -/
def benchStepsUptoRow : OpenClaim := { program := "ytjamfkafgfpobaagreat", sum := "24b0562d678adbf32b2315361b38b30014d99e91186d5f52a023a7cfbddbda70", func := "polestar/polestarlaw10.BenchSteps", spec := "benchSteps", inPlace := ["math/bits.Add64", "math/bits.Sub64"], unfollowed := true, recurses := true, named := ["math/bits.divideError", "math/bits.overflowError"], apart := false, narrowed := true }
def BenchStepsUptoSaid : Prop := benchStepsUptoRow.holds Tryz.pinned (OpenSpec.upto benchStepsSpec)

/-- 'polestarlaw10.BenchSame', WHERE WHAT IT READS IS OF BULK AT MOST 1048576: true; the input reads as it did. -/
def benchSameUptoRow : OpenClaim := { program := "ytjamfkafgfpobaagreat", sum := "24b0562d678adbf32b2315361b38b30014d99e91186d5f52a023a7cfbddbda70", func := "polestar/polestarlaw10.BenchSame", spec := "benchSame", inPlace := ["math/bits.Add64", "math/bits.Sub64"], unfollowed := true, recurses := true, named := ["math/bits.divideError", "math/bits.overflowError"], apart := false, narrowed := true }
def BenchSameUptoSaid : Prop := benchSameUptoRow.holds Tryz.pinned (OpenSpec.upto benchSameSpec)

/-- 'polestarlaw10.BenchParts', WHERE WHAT IT READS IS OF BULK AT MOST 1048576: true; the input reads as it did. -/
def benchPartsUptoRow : OpenClaim := { program := "ytjamfkafgfpobaagreat", sum := "24b0562d678adbf32b2315361b38b30014d99e91186d5f52a023a7cfbddbda70", func := "polestar/polestarlaw10.BenchParts", spec := "benchParts", inPlace := ["math/bits.Add64", "math/bits.Sub64"], unfollowed := true, recurses := true, named := ["math/bits.divideError", "math/bits.overflowError"], apart := false, narrowed := true }
def BenchPartsUptoSaid : Prop := benchPartsUptoRow.holds Tryz.pinned (OpenSpec.upto benchPartsSpec)

end Rows
end Go.Proofs.YtjamfkafgfpobaaGreat
