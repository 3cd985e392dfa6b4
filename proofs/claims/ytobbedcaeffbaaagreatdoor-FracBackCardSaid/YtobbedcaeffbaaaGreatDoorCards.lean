/-
  DERIVED. GIVEN WITH THE SEED: THE CARDS: each row of YtobbedcaeffbaaaGreatDoorRows.lean that lists a variable, with what it lists TIED to the program's text (the seventh form; the later family's looks); each row that meets fmt, with fmt's text TOLD by the authors' own Lean function (tested against real Go, not proved from fmt's source: count such statements apart). THE CARD IS WHAT COUNTS. Prove the row's statement (the work); the ties are given (YtobbedcaeffbaaaGreatDoorTie.lean); close each card by the builder's one call (the guide's Derived/Test/ToyasCard.lean, 'card_holds'). Laid BY PROGRAM, IN A SANDBOX (cutbox-door.mjs). By AI agents, Wed Nov 11 2026. No macro, syntax, notation, axiom, sorry.
-/
import Derived.Test.YtobbedcaeffbaaaGreatDoorRows
import GoSem.ClaimSeven
namespace Go.Proofs.YtobbedcaeffbaaaGreatDoor
namespace Rows

/-- THE TIED CARD OF 'polestarlaw02.FracBack'. -/
def fracBackCard : Claim7 := { stood := { row := fracBackRow, standIns := [], harness := (true, "f029533d3e926955499b1f5e03221f324338c8f4879f06e17e58bdad8cb4dd9e"), looks := false }, kinds := [], alts := [], laidByText := true, laidKinds := [.data, .data, .data], laidTests := true, laidLooks := .later }
def FracBackCardSaid : Prop := Claim7.holds Tryz.pinned (.plain (OpenSpec.ofChange fracBackSpec)) fracBackCard

/-- THE TIED CARD OF 'polestarlaw02.FracNames'. -/
def fracNamesCard : Claim7 := { stood := { row := fracNamesRow, standIns := [], harness := (true, "f029533d3e926955499b1f5e03221f324338c8f4879f06e17e58bdad8cb4dd9e"), looks := false }, kinds := [], alts := [], laidByText := true, laidKinds := [.data, .data, .data], laidTests := true, laidLooks := .later }
def FracNamesCardSaid : Prop := Claim7.holds Tryz.pinned (.plain (OpenSpec.ofChange fracNamesSpec)) fracNamesCard

/-- THE TIED CARD OF 'polestarlaw09.RayMatrices'. -/
def rayMatricesCard : Claim7 := { stood := { row := rayMatricesRow, standIns := [], harness := (true, "f029533d3e926955499b1f5e03221f324338c8f4879f06e17e58bdad8cb4dd9e"), looks := false }, kinds := [], alts := [], laidByText := true, laidKinds := [.data, .data, .data], laidTests := true, laidLooks := .later }
def RayMatricesCardSaid : Prop := Claim7.holds Tryz.pinned (.plain (OpenSpec.ofChange rayMatricesSpec)) rayMatricesCard

/-- THE TIED CARD OF 'polestarlaw09.RayGoes'. -/
def rayGoesCard : Claim7 := { stood := { row := rayGoesRow, standIns := [], harness := (true, "f029533d3e926955499b1f5e03221f324338c8f4879f06e17e58bdad8cb4dd9e"), looks := false }, kinds := [], alts := [], laidByText := true, laidKinds := [.data, .data, .data], laidTests := true, laidLooks := .later }
def RayGoesCardSaid : Prop := Claim7.holds Tryz.pinned (.plain (OpenSpec.ofChange rayGoesSpec)) rayGoesCard

/-- THE SECOND FORM's CARD OF 'polestarlaw02.FracBack'. -/
def fracBackUptoCard : Claim7 := { stood := { row := fracBackUptoRow, standIns := [], harness := (true, "f029533d3e926955499b1f5e03221f324338c8f4879f06e17e58bdad8cb4dd9e"), looks := false }, kinds := [], alts := [], laidByText := true, laidKinds := [.data, .data, .data], laidTests := true, laidLooks := .later }
def FracBackUptoCardSaid : Prop := Claim7.holds Tryz.pinned (.plain (OpenSpec.upto fracBackSpec)) fracBackUptoCard

/-- THE SECOND FORM's CARD OF 'polestarlaw02.FracNames'. -/
def fracNamesUptoCard : Claim7 := { stood := { row := fracNamesUptoRow, standIns := [], harness := (true, "f029533d3e926955499b1f5e03221f324338c8f4879f06e17e58bdad8cb4dd9e"), looks := false }, kinds := [], alts := [], laidByText := true, laidKinds := [.data, .data, .data], laidTests := true, laidLooks := .later }
def FracNamesUptoCardSaid : Prop := Claim7.holds Tryz.pinned (.plain (OpenSpec.upto fracNamesSpec)) fracNamesUptoCard

/-- THE SECOND FORM's CARD OF 'polestarlaw09.RayMatrices'. -/
def rayMatricesUptoCard : Claim7 := { stood := { row := rayMatricesUptoRow, standIns := [], harness := (true, "f029533d3e926955499b1f5e03221f324338c8f4879f06e17e58bdad8cb4dd9e"), looks := false }, kinds := [], alts := [], laidByText := true, laidKinds := [.data, .data, .data], laidTests := true, laidLooks := .later }
def RayMatricesUptoCardSaid : Prop := Claim7.holds Tryz.pinned (.plain (OpenSpec.upto rayMatricesSpec)) rayMatricesUptoCard

/-- THE SECOND FORM's CARD OF 'polestarlaw09.RayGoes'. -/
def rayGoesUptoCard : Claim7 := { stood := { row := rayGoesUptoRow, standIns := [], harness := (true, "f029533d3e926955499b1f5e03221f324338c8f4879f06e17e58bdad8cb4dd9e"), looks := false }, kinds := [], alts := [], laidByText := true, laidKinds := [.data, .data, .data], laidTests := true, laidLooks := .later }
def RayGoesUptoCardSaid : Prop := Claim7.holds Tryz.pinned (.plain (OpenSpec.upto rayGoesSpec)) rayGoesUptoCard
end Rows
end Go.Proofs.YtobbedcaeffbaaaGreatDoor
