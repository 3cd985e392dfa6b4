/-
  DERIVED. GIVEN WITH THE SEED: THE CARDS: each row of YtjilhplonaomoaaGreatDoorRows.lean that lists a variable, with what it lists TIED to the program's text (the seventh form; the later family's looks); each row that meets fmt, with fmt's text TOLD by the authors' own Lean function (tested against real Go, not proved from fmt's source: count such statements apart). THE CARD IS WHAT COUNTS. Prove the row's statement (the work); the ties are given (YtjilhplonaomoaaGreatDoorTie.lean); close each card by the builder's one call (the guide's Derived/Test/ToyasCard.lean, 'card_holds'). Laid BY PROGRAM, IN A SANDBOX (cutbox-door.mjs). By AI agents, Wed Nov 11 2026. No macro, syntax, notation, axiom, sorry.
-/
import Derived.Test.YtjilhplonaomoaaGreatDoorRows
import GoSem.ClaimSeven
namespace Go.Proofs.YtjilhplonaomoaaGreatDoor
namespace Rows

/-- THE TIED CARD OF 'polestarlaw02.FracRing'. -/
def fracRingCard : Claim7 := { stood := { row := fracRingRow, standIns := [], harness := (true, "db0683f16c1e48aa161651418a8b9b0c48a00182a7f651f85ab7343c2a985131"), looks := false }, kinds := [], alts := [], laidByText := true, laidKinds := [.data, .data, .data], laidTests := true, laidLooks := .later }
def FracRingCardSaid : Prop := Claim7.holds Tryz.pinned (.plain (OpenSpec.ofChange fracRingSpec)) fracRingCard

/-- THE TIED CARD OF 'polestarlaw02.FracOrder'. -/
def fracOrderCard : Claim7 := { stood := { row := fracOrderRow, standIns := [], harness := (true, "db0683f16c1e48aa161651418a8b9b0c48a00182a7f651f85ab7343c2a985131"), looks := false }, kinds := [], alts := [], laidByText := true, laidKinds := [.data, .data, .data], laidTests := true, laidLooks := .later }
def FracOrderCardSaid : Prop := Claim7.holds Tryz.pinned (.plain (OpenSpec.ofChange fracOrderSpec)) fracOrderCard

/-- THE TIED CARD OF 'polestarlaw03.GaussField'. -/
def gaussFieldCard : Claim7 := { stood := { row := gaussFieldRow, standIns := [], harness := (true, "db0683f16c1e48aa161651418a8b9b0c48a00182a7f651f85ab7343c2a985131"), looks := false }, kinds := [], alts := [], laidByText := true, laidKinds := [.data, .data, .data], laidTests := true, laidLooks := .later }
def GaussFieldCardSaid : Prop := Claim7.holds Tryz.pinned (.plain (OpenSpec.ofChange gaussFieldSpec)) gaussFieldCard

/-- THE TIED CARD OF 'polestarlaw03.GaussNorms'. -/
def gaussNormsCard : Claim7 := { stood := { row := gaussNormsRow, standIns := [], harness := (true, "db0683f16c1e48aa161651418a8b9b0c48a00182a7f651f85ab7343c2a985131"), looks := false }, kinds := [], alts := [], laidByText := true, laidKinds := [.data, .data, .data], laidTests := true, laidLooks := .later }
def GaussNormsCardSaid : Prop := Claim7.holds Tryz.pinned (.plain (OpenSpec.ofChange gaussNormsSpec)) gaussNormsCard

/-- THE TIED CARD OF 'polestarlaw03.GaussCircle'. -/
def gaussCircleCard : Claim7 := { stood := { row := gaussCircleRow, standIns := [], harness := (true, "db0683f16c1e48aa161651418a8b9b0c48a00182a7f651f85ab7343c2a985131"), looks := false }, kinds := [], alts := [], laidByText := true, laidKinds := [.data, .data, .data], laidTests := true, laidLooks := .later }
def GaussCircleCardSaid : Prop := Claim7.holds Tryz.pinned (.plain (OpenSpec.ofChange gaussCircleSpec)) gaussCircleCard

/-- THE SECOND FORM's CARD OF 'polestarlaw02.FracRing'. -/
def fracRingUptoCard : Claim7 := { stood := { row := fracRingUptoRow, standIns := [], harness := (true, "db0683f16c1e48aa161651418a8b9b0c48a00182a7f651f85ab7343c2a985131"), looks := false }, kinds := [], alts := [], laidByText := true, laidKinds := [.data, .data, .data], laidTests := true, laidLooks := .later }
def FracRingUptoCardSaid : Prop := Claim7.holds Tryz.pinned (.plain (OpenSpec.upto fracRingSpec)) fracRingUptoCard

/-- THE SECOND FORM's CARD OF 'polestarlaw02.FracOrder'. -/
def fracOrderUptoCard : Claim7 := { stood := { row := fracOrderUptoRow, standIns := [], harness := (true, "db0683f16c1e48aa161651418a8b9b0c48a00182a7f651f85ab7343c2a985131"), looks := false }, kinds := [], alts := [], laidByText := true, laidKinds := [.data, .data, .data], laidTests := true, laidLooks := .later }
def FracOrderUptoCardSaid : Prop := Claim7.holds Tryz.pinned (.plain (OpenSpec.upto fracOrderSpec)) fracOrderUptoCard

/-- THE SECOND FORM's CARD OF 'polestarlaw03.GaussField'. -/
def gaussFieldUptoCard : Claim7 := { stood := { row := gaussFieldUptoRow, standIns := [], harness := (true, "db0683f16c1e48aa161651418a8b9b0c48a00182a7f651f85ab7343c2a985131"), looks := false }, kinds := [], alts := [], laidByText := true, laidKinds := [.data, .data, .data], laidTests := true, laidLooks := .later }
def GaussFieldUptoCardSaid : Prop := Claim7.holds Tryz.pinned (.plain (OpenSpec.upto gaussFieldSpec)) gaussFieldUptoCard

/-- THE SECOND FORM's CARD OF 'polestarlaw03.GaussNorms'. -/
def gaussNormsUptoCard : Claim7 := { stood := { row := gaussNormsUptoRow, standIns := [], harness := (true, "db0683f16c1e48aa161651418a8b9b0c48a00182a7f651f85ab7343c2a985131"), looks := false }, kinds := [], alts := [], laidByText := true, laidKinds := [.data, .data, .data], laidTests := true, laidLooks := .later }
def GaussNormsUptoCardSaid : Prop := Claim7.holds Tryz.pinned (.plain (OpenSpec.upto gaussNormsSpec)) gaussNormsUptoCard

/-- THE SECOND FORM's CARD OF 'polestarlaw03.GaussCircle'. -/
def gaussCircleUptoCard : Claim7 := { stood := { row := gaussCircleUptoRow, standIns := [], harness := (true, "db0683f16c1e48aa161651418a8b9b0c48a00182a7f651f85ab7343c2a985131"), looks := false }, kinds := [], alts := [], laidByText := true, laidKinds := [.data, .data, .data], laidTests := true, laidLooks := .later }
def GaussCircleUptoCardSaid : Prop := Claim7.holds Tryz.pinned (.plain (OpenSpec.upto gaussCircleSpec)) gaussCircleUptoCard
end Rows
end Go.Proofs.YtjilhplonaomoaaGreatDoor
