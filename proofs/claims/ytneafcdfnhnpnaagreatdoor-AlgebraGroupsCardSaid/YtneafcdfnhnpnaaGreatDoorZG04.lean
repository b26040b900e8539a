/- Closed facts of the card of AlgebraGroups. -/
import Derived.Test.YtneafcdfnhnpnaaGreatDoorZ20
namespace Go.Proofs.YtneafcdfnhnpnaaGreatDoor
open Go.ChangeShapes Go.WideShapes Go.ChangeAt Go.RowKit Go.Lib

theorem groups_wf : Rows.algebraGroupsRow.wfByText (OpenSpec.ofChange Rows.algebraGroupsSpec) = true := by kernel_rfl
theorem groups_main : Tryz.checked.prog.mainIs = some (true, ("0378a7316a1b9cebf1aad75a524bff61c8dc37194e61793c5ae69bc144ae9d3c" : String).toList) := by kernel_rfl
theorem groups_looks : true = Tryz.checked.prog.looks [] := by kernel_rfl
theorem groups_name : Tryz.prog.funcNamed "talisman/talismanlaw01.AlgebraGroups" = some 11 := by kernel_rfl
theorem groups_stand : ([50, 50, 107].all fun u => !Tryz.prog.wantsStandIn u) = true := by kernel_rfl
theorem groups_goes : false = Rows.algebraGroupsRow.goesBy Tryz.checked.prog := by kernel_rfl
end Go.Proofs.YtneafcdfnhnpnaaGreatDoor
