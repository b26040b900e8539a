/- Closed facts of the card of AlgebraRanks. -/
import Derived.Test.YtneafcdfnhnpnaaGreatDoorZK34
namespace Go.Proofs.YtneafcdfnhnpnaaGreatDoor
open Go.ChangeShapes Go.WideShapes Go.ChangeAt Go.RowKit Go.Lib
theorem AZ:Rows.algebraRanksRow.wfByText (OpenSpec.ofChange Rows.algebraRanksSpec)=true:=by kernel_rfl
theorem AV:Tryz.checked.prog.mainIs=some (true,("0378a7316a1b9cebf1aad75a524bff61c8dc37194e61793c5ae69bc144ae9d3c" :String).toList):=by kernel_rfl
theorem AU:true=Tryz.checked.prog.looks []:=by kernel_rfl
theorem AW:Tryz.prog.funcNamed "talisman/talismanlaw01.AlgebraRanks" =some 6:=by kernel_rfl
theorem AY:([50,3,22].all fun u=> !Tryz.prog.wantsStandIn u)=true:=by kernel_rfl
theorem AN:false=Rows.algebraRanksRow.goesBy Tryz.checked.prog:=by kernel_rfl
