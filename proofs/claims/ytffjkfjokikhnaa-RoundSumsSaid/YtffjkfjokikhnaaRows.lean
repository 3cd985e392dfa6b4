/-
  No cell of these rows narrows 'for every input' (looked for: loops, veiled, ifaces, maps, wideKeys, modest, calm, conditions, laid).
  DERIVED. THE GIVEN ROWS OF THIS SEAT. 8 by the template 'for every input the law returns true; each argument reads behind the call as it read before'; 0 by the template 'total and deterministic' (their statements: YtffjkfjokikhnaaTotals.lean).
  GIVEN WITH THE SEED: the statements are not yours to turn. If you find one false, say at which input.
  Laid BY PROGRAM, IN A SANDBOX (cutbox-rows.mjs): the forced cells as the released guide's own fill.sh prints them over the translation bf3f29fc4b4a98b0… (all of the seat's roots in one cut). By AI agents, Wed Nov 11 2026. No macro, syntax, notation, axiom, sorry.
-/
import Derived.Test.YtffjkfjokikhnaaChecked
import GoSem.Claim
import GoSem.ClaimJoined
import GoSem.ClaimMapViews
import Derived.JoinedTies
import Derived.KernelRfl
namespace Go.Proofs.Ytffjkfjokikhnaa
/- THE CELL 'sum', in the pinned program and in every row, IS THE sha256 OF THE DUMP (.gsa) THAT YtffjkfjokikhnaaProg.lean LOADS. Nothing in Lean hashes anything: it is a label: what it is worth is what the hold of that sum in a sandbox is worth. -/
noncomputable def Try.pinned : Pinned := { name := "ytffjkfjokikhnaa", sum := "bf3f29fc4b4a98b002d454080a49a121feeb85b21379a0ef23fc3c1409212e44", checked := Try.checked }
namespace Rows
def none {H : Type} : Left H := { results := [], args := [] }

/-- 'polestarlaw04.RoundSums': WHATEVER THE INPUT: true; the input reads as it did. -/
def roundSumsSpec : ChangeSpec := { name := "roundSums", fn := fun _ => fun
  | [d1, d2] => { results := [.lit (.bool true)], args := [d1, d2] }
  | _ => none }
def roundSumsRow : OpenClaim := { program := "ytffjkfjokikhnaa", sum := "bf3f29fc4b4a98b002d454080a49a121feeb85b21379a0ef23fc3c1409212e44", func := "polestar/polestarlaw04.RoundSums", spec := "roundSums", inPlace := ["math.Float64bits", "math.Float64frombits"], apart := false }
def RoundSumsSaid : Prop := roundSumsRow.holds Try.pinned (OpenSpec.ofChange roundSumsSpec)

/-- ITS FALSE NEIGHBOUR: 'it returns false'. Refute it at one input. -/
def roundSumsWrong : ChangeSpec := { name := "roundSums", fn := fun _ => fun
  | [d1, d2] => { results := [.lit (.bool false)], args := [d1, d2] }
  | _ => none }
def RoundSumsWrongFalsely : Prop := roundSumsRow.holds Try.pinned (OpenSpec.ofChange roundSumsWrong)

/-- 'polestarlaw04.RoundProducts': WHATEVER THE INPUT: true; the input reads as it did. -/
def roundProductsSpec : ChangeSpec := { name := "roundProducts", fn := fun _ => fun
  | [d1, d2] => { results := [.lit (.bool true)], args := [d1, d2] }
  | _ => none }
def roundProductsRow : OpenClaim := { program := "ytffjkfjokikhnaa", sum := "bf3f29fc4b4a98b002d454080a49a121feeb85b21379a0ef23fc3c1409212e44", func := "polestar/polestarlaw04.RoundProducts", spec := "roundProducts", inPlace := ["math.Float64bits", "math.Float64frombits", "math.FMA"], apart := false }
def RoundProductsSaid : Prop := roundProductsRow.holds Try.pinned (OpenSpec.ofChange roundProductsSpec)

/-- ITS FALSE NEIGHBOUR: 'it returns false'. Refute it at one input. -/
def roundProductsWrong : ChangeSpec := { name := "roundProducts", fn := fun _ => fun
  | [d1, d2] => { results := [.lit (.bool false)], args := [d1, d2] }
  | _ => none }
def RoundProductsWrongFalsely : Prop := roundProductsRow.holds Try.pinned (OpenSpec.ofChange roundProductsWrong)

/-- 'polestarlaw04.RoundRoots': WHATEVER THE INPUT: true; the input reads as it did. -/
def roundRootsSpec : ChangeSpec := { name := "roundRoots", fn := fun _ => fun
  | [d] => { results := [.lit (.bool true)], args := [d] }
  | _ => none }
def roundRootsRow : OpenClaim := { program := "ytffjkfjokikhnaa", sum := "bf3f29fc4b4a98b002d454080a49a121feeb85b21379a0ef23fc3c1409212e44", func := "polestar/polestarlaw04.RoundRoots", spec := "roundRoots", inPlace := ["math.sqrt", "math.Float64bits", "math.Float64frombits", "math.FMA"], apart := false }
def RoundRootsSaid : Prop := roundRootsRow.holds Try.pinned (OpenSpec.ofChange roundRootsSpec)

/-- ITS FALSE NEIGHBOUR: 'it returns false'. Refute it at one input. -/
def roundRootsWrong : ChangeSpec := { name := "roundRoots", fn := fun _ => fun
  | [d] => { results := [.lit (.bool false)], args := [d] }
  | _ => none }
def RoundRootsWrongFalsely : Prop := roundRootsRow.holds Try.pinned (OpenSpec.ofChange roundRootsWrong)

/-- 'polestarlaw04.RoundLost': WHATEVER THE INPUT: true; the input reads as it did. -/
def roundLostSpec : ChangeSpec := { name := "roundLost", fn := fun _ => fun
  | [d1, d2] => { results := [.lit (.bool true)], args := [d1, d2] }
  | _ => none }
def roundLostRow : OpenClaim := { program := "ytffjkfjokikhnaa", sum := "bf3f29fc4b4a98b002d454080a49a121feeb85b21379a0ef23fc3c1409212e44", func := "polestar/polestarlaw04.RoundLost", spec := "roundLost", inPlace := ["math.Float64bits", "math.Float64frombits"], apart := false }
def RoundLostSaid : Prop := roundLostRow.holds Try.pinned (OpenSpec.ofChange roundLostSpec)

/-- ITS FALSE NEIGHBOUR: 'it returns false'. Refute it at one input. -/
def roundLostWrong : ChangeSpec := { name := "roundLost", fn := fun _ => fun
  | [d1, d2] => { results := [.lit (.bool false)], args := [d1, d2] }
  | _ => none }
def RoundLostWrongFalsely : Prop := roundLostRow.holds Try.pinned (OpenSpec.ofChange roundLostWrong)

/-- 'polestarlaw05.SpanSets': WHATEVER THE INPUT: true; the input reads as it did. -/
def spanSetsSpec : ChangeSpec := { name := "spanSets", fn := fun _ => fun
  | [d1, d2] => { results := [.lit (.bool true)], args := [d1, d2] }
  | _ => none }
def spanSetsRow : OpenClaim := { program := "ytffjkfjokikhnaa", sum := "bf3f29fc4b4a98b002d454080a49a121feeb85b21379a0ef23fc3c1409212e44", func := "polestar/polestarlaw05.SpanSets", spec := "spanSets", inPlace := ["math.Float64bits", "math.Float64frombits", "math.FMA"], unfollowed := true, recurses := true, apart := false }
def SpanSetsSaid : Prop := spanSetsRow.holds Try.pinned (OpenSpec.ofChange spanSetsSpec)

/-- ITS FALSE NEIGHBOUR: 'it returns false'. Refute it at one input. -/
def spanSetsWrong : ChangeSpec := { name := "spanSets", fn := fun _ => fun
  | [d1, d2] => { results := [.lit (.bool false)], args := [d1, d2] }
  | _ => none }
def SpanSetsWrongFalsely : Prop := spanSetsRow.holds Try.pinned (OpenSpec.ofChange spanSetsWrong)

/-- 'polestarlaw05.SpanEither': WHATEVER THE INPUT: true; the input reads as it did. -/
def spanEitherSpec : ChangeSpec := { name := "spanEither", fn := fun _ => fun
  | [d1, d2] => { results := [.lit (.bool true)], args := [d1, d2] }
  | _ => none }
def spanEitherRow : OpenClaim := { program := "ytffjkfjokikhnaa", sum := "bf3f29fc4b4a98b002d454080a49a121feeb85b21379a0ef23fc3c1409212e44", func := "polestar/polestarlaw05.SpanEither", spec := "spanEither", inPlace := ["math.Float64bits", "math.Float64frombits", "math.FMA"], unfollowed := true, recurses := true, apart := false }
def SpanEitherSaid : Prop := spanEitherRow.holds Try.pinned (OpenSpec.ofChange spanEitherSpec)

/-- ITS FALSE NEIGHBOUR: 'it returns false'. Refute it at one input. -/
def spanEitherWrong : ChangeSpec := { name := "spanEither", fn := fun _ => fun
  | [d1, d2] => { results := [.lit (.bool false)], args := [d1, d2] }
  | _ => none }
def SpanEitherWrongFalsely : Prop := spanEitherRow.holds Try.pinned (OpenSpec.ofChange spanEitherWrong)

/-- 'polestarlaw05.SpanTight': WHATEVER THE INPUT: true; the input reads as it did. -/
def spanTightSpec : ChangeSpec := { name := "spanTight", fn := fun _ => fun
  | [d1, d2] => { results := [.lit (.bool true)], args := [d1, d2] }
  | _ => none }
def spanTightRow : OpenClaim := { program := "ytffjkfjokikhnaa", sum := "bf3f29fc4b4a98b002d454080a49a121feeb85b21379a0ef23fc3c1409212e44", func := "polestar/polestarlaw05.SpanTight", spec := "spanTight", inPlace := ["math.Float64bits", "math.Float64frombits", "math.FMA"], unfollowed := true, recurses := true, apart := false }
def SpanTightSaid : Prop := spanTightRow.holds Try.pinned (OpenSpec.ofChange spanTightSpec)

/-- ITS FALSE NEIGHBOUR: 'it returns false'. Refute it at one input. -/
def spanTightWrong : ChangeSpec := { name := "spanTight", fn := fun _ => fun
  | [d1, d2] => { results := [.lit (.bool false)], args := [d1, d2] }
  | _ => none }
def SpanTightWrongFalsely : Prop := spanTightRow.holds Try.pinned (OpenSpec.ofChange spanTightWrong)

/-- 'polestarlaw05.SpanGrows': WHATEVER THE INPUT: true; the input reads as it did. -/
def spanGrowsSpec : ChangeSpec := { name := "spanGrows", fn := fun _ => fun
  | [d1, d2, d3, d4] => { results := [.lit (.bool true)], args := [d1, d2, d3, d4] }
  | _ => none }
def spanGrowsRow : OpenClaim := { program := "ytffjkfjokikhnaa", sum := "bf3f29fc4b4a98b002d454080a49a121feeb85b21379a0ef23fc3c1409212e44", func := "polestar/polestarlaw05.SpanGrows", spec := "spanGrows", inPlace := ["math.Float64bits", "math.Float64frombits", "math.FMA", "math.sqrt", "math.archMin", "math.archMax"], unfollowed := true, recurses := true, apart := false }
def SpanGrowsSaid : Prop := spanGrowsRow.holds Try.pinned (OpenSpec.ofChange spanGrowsSpec)

/-- ITS FALSE NEIGHBOUR: 'it returns false'. Refute it at one input. -/
def spanGrowsWrong : ChangeSpec := { name := "spanGrows", fn := fun _ => fun
  | [d1, d2, d3, d4] => { results := [.lit (.bool false)], args := [d1, d2, d3, d4] }
  | _ => none }
def SpanGrowsWrongFalsely : Prop := spanGrowsRow.holds Try.pinned (OpenSpec.ofChange spanGrowsWrong)

/- THE SECOND FORM. 'bulk': how many values and letters a reading holds, each counted each time it is reached (what is shared counts as often as it is met; a slice's spare places count too). A statement '..UptoSaid' is the law's where the arguments, and the package variables that the reading takes, are together of bulk at most 1048576: NARROWER than '..Said'. Prove '..Said' where nothing that the law and all that it calls make is longer than what came in: it says more and counts as full. Else prove '..UptoSaid'. A law counts once. -/
mutual
def uptoBulk {H : Type} : DataW H → Nat
  | .lit (.string bytes) => bytes.length + 1
  | .lit _ => 1
  | .nil => 1
  | .ptr d => uptoBulk d + 1
  | .slice elems spare => uptoBulkAll elems + uptoBulkAll spare + 1
  | .agg parts => uptoBulkAll parts + 1
  | .iface _ d => uptoBulk d + 1
  | .map entries => uptoBulkEntries entries + 1
  | .held _ => 1
def uptoBulkAll {H : Type} : List (DataW H) → Nat
  | [] => 0
  | d :: r => uptoBulk d + uptoBulkAll r
def uptoBulkEntries {H : Type} : List (Lit × DataW H) → Nat
  | [] => 0
  | x :: r => uptoBulkEntry x + uptoBulkEntries r
def uptoBulkEntry {H : Type} : Lit × DataW H → Nat
  | (.string bytes, d) => bytes.length + uptoBulk d + 1
  | (_, d) => uptoBulk d + 1
 end
def uptoSmall : (H : Type) → List (DataW H) → Bool := fun _ ds => decide (uptoBulkAll ds ≤ 1048576)
def OpenSpec.upto (s : _root_.Go.ChangeSpec) : _root_.Go.OpenSpec := { _root_.Go.OpenSpec.ofChange s with cond := some uptoSmall }

/-- 'polestarlaw04.RoundSums', WHERE WHAT IT READS IS OF BULK AT MOST 1048576: true; the input reads as it did. -/
def roundSumsUptoRow : OpenClaim := { program := "ytffjkfjokikhnaa", sum := "bf3f29fc4b4a98b002d454080a49a121feeb85b21379a0ef23fc3c1409212e44", func := "polestar/polestarlaw04.RoundSums", spec := "roundSums", inPlace := ["math.Float64bits", "math.Float64frombits"], apart := false, narrowed := true }
def RoundSumsUptoSaid : Prop := roundSumsUptoRow.holds Try.pinned (OpenSpec.upto roundSumsSpec)

/-- 'polestarlaw04.RoundProducts', WHERE WHAT IT READS IS OF BULK AT MOST 1048576: true; the input reads as it did. -/
def roundProductsUptoRow : OpenClaim := { program := "ytffjkfjokikhnaa", sum := "bf3f29fc4b4a98b002d454080a49a121feeb85b21379a0ef23fc3c1409212e44", func := "polestar/polestarlaw04.RoundProducts", spec := "roundProducts", inPlace := ["math.Float64bits", "math.Float64frombits", "math.FMA"], apart := false, narrowed := true }
def RoundProductsUptoSaid : Prop := roundProductsUptoRow.holds Try.pinned (OpenSpec.upto roundProductsSpec)

/-- 'polestarlaw04.RoundRoots', WHERE WHAT IT READS IS OF BULK AT MOST 1048576: true; the input reads as it did. -/
def roundRootsUptoRow : OpenClaim := { program := "ytffjkfjokikhnaa", sum := "bf3f29fc4b4a98b002d454080a49a121feeb85b21379a0ef23fc3c1409212e44", func := "polestar/polestarlaw04.RoundRoots", spec := "roundRoots", inPlace := ["math.sqrt", "math.Float64bits", "math.Float64frombits", "math.FMA"], apart := false, narrowed := true }
def RoundRootsUptoSaid : Prop := roundRootsUptoRow.holds Try.pinned (OpenSpec.upto roundRootsSpec)

/-- 'polestarlaw04.RoundLost', WHERE WHAT IT READS IS OF BULK AT MOST 1048576: true; the input reads as it did. -/
def roundLostUptoRow : OpenClaim := { program := "ytffjkfjokikhnaa", sum := "bf3f29fc4b4a98b002d454080a49a121feeb85b21379a0ef23fc3c1409212e44", func := "polestar/polestarlaw04.RoundLost", spec := "roundLost", inPlace := ["math.Float64bits", "math.Float64frombits"], apart := false, narrowed := true }
def RoundLostUptoSaid : Prop := roundLostUptoRow.holds Try.pinned (OpenSpec.upto roundLostSpec)

/-- 'polestarlaw05.SpanSets', WHERE WHAT IT READS IS OF BULK AT MOST 1048576: true; the input reads as it did. -/
def spanSetsUptoRow : OpenClaim := { program := "ytffjkfjokikhnaa", sum := "bf3f29fc4b4a98b002d454080a49a121feeb85b21379a0ef23fc3c1409212e44", func := "polestar/polestarlaw05.SpanSets", spec := "spanSets", inPlace := ["math.Float64bits", "math.Float64frombits", "math.FMA"], unfollowed := true, recurses := true, apart := false, narrowed := true }
def SpanSetsUptoSaid : Prop := spanSetsUptoRow.holds Try.pinned (OpenSpec.upto spanSetsSpec)

/-- 'polestarlaw05.SpanEither', WHERE WHAT IT READS IS OF BULK AT MOST 1048576: true; the input reads as it did. -/
def spanEitherUptoRow : OpenClaim := { program := "ytffjkfjokikhnaa", sum := "bf3f29fc4b4a98b002d454080a49a121feeb85b21379a0ef23fc3c1409212e44", func := "polestar/polestarlaw05.SpanEither", spec := "spanEither", inPlace := ["math.Float64bits", "math.Float64frombits", "math.FMA"], unfollowed := true, recurses := true, apart := false, narrowed := true }
def SpanEitherUptoSaid : Prop := spanEitherUptoRow.holds Try.pinned (OpenSpec.upto spanEitherSpec)

/-- 'polestarlaw05.SpanTight', WHERE WHAT IT READS IS OF BULK AT MOST 1048576: true; the input reads as it did. -/
def spanTightUptoRow : OpenClaim := { program := "ytffjkfjokikhnaa", sum := "bf3f29fc4b4a98b002d454080a49a121feeb85b21379a0ef23fc3c1409212e44", func := "polestar/polestarlaw05.SpanTight", spec := "spanTight", inPlace := ["math.Float64bits", "math.Float64frombits", "math.FMA"], unfollowed := true, recurses := true, apart := false, narrowed := true }
def SpanTightUptoSaid : Prop := spanTightUptoRow.holds Try.pinned (OpenSpec.upto spanTightSpec)

/-- 'polestarlaw05.SpanGrows', WHERE WHAT IT READS IS OF BULK AT MOST 1048576: true; the input reads as it did. -/
def spanGrowsUptoRow : OpenClaim := { program := "ytffjkfjokikhnaa", sum := "bf3f29fc4b4a98b002d454080a49a121feeb85b21379a0ef23fc3c1409212e44", func := "polestar/polestarlaw05.SpanGrows", spec := "spanGrows", inPlace := ["math.Float64bits", "math.Float64frombits", "math.FMA", "math.sqrt", "math.archMin", "math.archMax"], unfollowed := true, recurses := true, apart := false, narrowed := true }
def SpanGrowsUptoSaid : Prop := spanGrowsUptoRow.holds Try.pinned (OpenSpec.upto spanGrowsSpec)

end Rows
end Go.Proofs.Ytffjkfjokikhnaa
