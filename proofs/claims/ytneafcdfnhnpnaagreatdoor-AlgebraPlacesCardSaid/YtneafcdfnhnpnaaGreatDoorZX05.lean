/- Closed facts of the row of AlgebraPlaces. -/
import Derived.Test.YtneafcdfnhnpnaaGreatDoorRows
import Derived.ProofKit
import Derived.JoinedOf
namespace Go.Proofs.YtneafcdfnhnpnaaGreatDoor
open Go.ChangeShapes Go.WideShapes Go.ChangeAt Go.RowKit

theorem places_f1 : (Rows.algebraPlacesRow.inPlace == Tryz.prog.inPlace 12) = true := by kernel_rfl
theorem places_f2 : (Rows.algebraPlacesRow.unfollowed == Tryz.prog.unfollowed 12) = true := by kernel_rfl
theorem places_f3 : (Rows.algebraPlacesRow.recurses == Tryz.prog.recurses 12) = true := by kernel_rfl
theorem places_f4 : (Rows.algebraPlacesRow.named == Tryz.prog.varsNamed 12) = true := by kernel_rfl
end Go.Proofs.YtneafcdfnhnpnaaGreatDoor
