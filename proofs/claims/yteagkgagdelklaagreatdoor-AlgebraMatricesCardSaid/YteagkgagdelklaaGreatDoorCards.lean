/-
  DERIVED. GIVEN WITH THE SEED: THE CARDS: each row of YteagkgagdelklaaGreatDoorRows.lean that lists a variable, with what it lists TIED to the program's text (the seventh form; the later family's looks); each row that meets fmt, with fmt's text TOLD by the authors' own Lean function (tested against real Go, not proved from fmt's source: count such statements apart). THE CARD IS WHAT COUNTS. Prove the row's statement (the work); the ties are given (YteagkgagdelklaaGreatDoorTie.lean); close each card by the builder's one call (the guide's Derived/Test/ToyasCard.lean, 'card_holds'). Laid BY PROGRAM, IN A SANDBOX (cutbox-door.mjs). By AI agents, Wed Nov 11 2026. No macro, syntax, notation, axiom, sorry.
-/
import Derived.Test.YteagkgagdelklaaGreatDoorRows
import GoSem.ClaimSeven
namespace Go.Proofs.YteagkgagdelklaaGreatDoor
namespace Rows

/-- THE TIED CARD OF 'talismanlaw01.AlgebraMatrices'. -/
def algebraMatricesCard : Claim7 := { stood := { row := algebraMatricesRow, standIns := [], harness := (true, "a04ba91aff0254d3e1506f671f84e1a5658bbd78e0199d28c30e46d75adb2cd8"), looks := true }, kinds := [], alts := [], laidByText := true, laidKinds := [.data, .data, .data, .sentinel, .sentinel], laidTests := true, laidLooks := .later }
def AlgebraMatricesCardSaid : Prop := Claim7.holds Tryz.pinned (.plain (OpenSpec.ofChange algebraMatricesSpec)) algebraMatricesCard

/-- THE SECOND FORM's CARD OF 'talismanlaw01.AlgebraMatrices'. -/
def algebraMatricesUptoCard : Claim7 := { stood := { row := algebraMatricesUptoRow, standIns := [], harness := (true, "a04ba91aff0254d3e1506f671f84e1a5658bbd78e0199d28c30e46d75adb2cd8"), looks := true }, kinds := [], alts := [], laidByText := true, laidKinds := [.data, .data, .data, .sentinel, .sentinel], laidTests := true, laidLooks := .later }
def AlgebraMatricesUptoCardSaid : Prop := Claim7.holds Tryz.pinned (.plain (OpenSpec.upto algebraMatricesSpec)) algebraMatricesUptoCard
end Rows
end Go.Proofs.YteagkgagdelklaaGreatDoor
