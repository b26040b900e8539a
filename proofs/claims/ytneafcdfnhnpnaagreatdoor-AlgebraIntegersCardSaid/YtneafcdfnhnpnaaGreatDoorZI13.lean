/- Closed facts of the card of AlgebraIntegers. -/
import Derived.Test.YtneafcdfnhnpnaaGreatDoorZ20
namespace Go.Proofs.YtneafcdfnhnpnaaGreatDoor
open Go.ChangeShapes Go.WideShapes Go.ChangeAt Go.RowKit Go.Lib

theorem ints_wf : Rows.algebraIntegersRow.wfByText (OpenSpec.ofChange Rows.algebraIntegersSpec) = true := by kernel_rfl
theorem ints_main : Tryz.checked.prog.mainIs = some (true, ("0378a7316a1b9cebf1aad75a524bff61c8dc37194e61793c5ae69bc144ae9d3c" : String).toList) := by kernel_rfl
theorem ints_looks : true = Tryz.checked.prog.looks [] := by kernel_rfl
theorem ints_name : Tryz.prog.funcNamed "talisman/talismanlaw01.AlgebraIntegers" = some 4 := by kernel_rfl
theorem ints_stand : ([9, 3, 3].all fun u => !Tryz.prog.wantsStandIn u) = true := by kernel_rfl
theorem ints_goes : false = Rows.algebraIntegersRow.goesBy Tryz.checked.prog := by kernel_rfl
end Go.Proofs.YtneafcdfnhnpnaaGreatDoor
