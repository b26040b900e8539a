/- Closed facts of the card of AlgebraPlaces. -/
import Derived.Test.YtneafcdfnhnpnaaGreatDoorZ20
namespace Go.Proofs.YtneafcdfnhnpnaaGreatDoor
open Go.ChangeShapes Go.WideShapes Go.ChangeAt Go.RowKit Go.Lib

theorem places_wf : Rows.algebraPlacesRow.wfByText (OpenSpec.ofChange Rows.algebraPlacesSpec) = true := by kernel_rfl
theorem places_main : Tryz.checked.prog.mainIs = some (true, ("0378a7316a1b9cebf1aad75a524bff61c8dc37194e61793c5ae69bc144ae9d3c" : String).toList) := by kernel_rfl
theorem places_looks : true = Tryz.checked.prog.looks [] := by kernel_rfl
theorem places_name : Tryz.prog.funcNamed "talisman/talismanlaw01.AlgebraPlaces" = some 12 := by kernel_rfl
theorem places_stand : ([50, 50].all fun u => !Tryz.prog.wantsStandIn u) = true := by kernel_rfl
theorem places_goes : false = Rows.algebraPlacesRow.goesBy Tryz.checked.prog := by kernel_rfl
end Go.Proofs.YtneafcdfnhnpnaaGreatDoor
