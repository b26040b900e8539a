/- Closed facts of the card of AlgebraModulo. -/
import Derived.Test.YtneafcdfnhnpnaaGreatDoorZ20
namespace Go.Proofs.YtneafcdfnhnpnaaGreatDoor
open Go.ChangeShapes Go.WideShapes Go.ChangeAt Go.RowKit Go.Lib

theorem modulo_wf : Rows.algebraModuloRow.wfByText (OpenSpec.ofChange Rows.algebraModuloSpec) = true := by kernel_rfl
theorem modulo_main : Tryz.checked.prog.mainIs = some (true, ("0378a7316a1b9cebf1aad75a524bff61c8dc37194e61793c5ae69bc144ae9d3c" : String).toList) := by kernel_rfl
theorem modulo_looks : true = Tryz.checked.prog.looks [] := by kernel_rfl
theorem modulo_name : Tryz.prog.funcNamed "talisman/talismanlaw01.AlgebraModulo" = some 10 := by kernel_rfl
theorem modulo_stand : ([57, 3].all fun u => !Tryz.prog.wantsStandIn u) = true := by kernel_rfl
theorem modulo_goes : false = Rows.algebraModuloRow.goesBy Tryz.checked.prog := by kernel_rfl
end Go.Proofs.YtneafcdfnhnpnaaGreatDoor
