/- Closed facts of the card of AlgebraNumbers. -/
import Derived.Test.YtneafcdfnhnpnaaGreatDoorZU34
namespace Go.Proofs.YtneafcdfnhnpnaaGreatDoor
open Go.ChangeShapes Go.WideShapes Go.ChangeAt Go.RowKit Go.Lib
theorem nums_wf:Rows.algebraNumbersRow.wfByText (OpenSpec.ofChange Rows.algebraNumbersSpec)=true:=by kernel_rfl
theorem nums_main:Tryz.checked.prog.mainIs=some (true,("0378a7316a1b9cebf1aad75a524bff61c8dc37194e61793c5ae69bc144ae9d3c" :String).toList):=by kernel_rfl
theorem nums_looks:true=Tryz.checked.prog.looks []:=by kernel_rfl
theorem nums_name:Tryz.prog.funcNamed "talisman/talismanlaw01.AlgebraNumbers" =some 3:=by kernel_rfl
theorem nums_stand:([22,22].all fun u=> !Tryz.prog.wantsStandIn u)=true:=by kernel_rfl
theorem nums_goes:false=Rows.algebraNumbersRow.goesBy Tryz.checked.prog:=by kernel_rfl
end Go.Proofs.YtneafcdfnhnpnaaGreatDoor
