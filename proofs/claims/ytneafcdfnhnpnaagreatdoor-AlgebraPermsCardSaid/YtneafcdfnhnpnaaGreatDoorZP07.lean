/- Closed facts of the card of AlgebraPerms. -/
import Derived.Test.YtneafcdfnhnpnaaGreatDoorZ20
namespace Go.Proofs.YtneafcdfnhnpnaaGreatDoor
open Go.ChangeShapes Go.WideShapes Go.ChangeAt Go.RowKit Go.Lib

theorem perms_wf : Rows.algebraPermsRow.wfByText (OpenSpec.ofChange Rows.algebraPermsSpec) = true := by kernel_rfl
theorem perms_main : Tryz.checked.prog.mainIs = some (true, ("0378a7316a1b9cebf1aad75a524bff61c8dc37194e61793c5ae69bc144ae9d3c" : String).toList) := by kernel_rfl
theorem perms_looks : true = Tryz.checked.prog.looks [] := by kernel_rfl
theorem perms_name : Tryz.prog.funcNamed "talisman/talismanlaw01.AlgebraPerms" = some 5 := by kernel_rfl
theorem perms_stand : ([50, 50, 3].all fun u => !Tryz.prog.wantsStandIn u) = true := by kernel_rfl
theorem perms_goes : false = Rows.algebraPermsRow.goesBy Tryz.checked.prog := by kernel_rfl
end Go.Proofs.YtneafcdfnhnpnaaGreatDoor
