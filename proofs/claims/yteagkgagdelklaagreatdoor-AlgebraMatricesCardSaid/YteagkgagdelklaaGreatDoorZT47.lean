/- Closed facts of the card of AlgebraMatrices. -/
import Derived.Test.YteagkgagdelklaaGreatDoorZT46
namespace Go.Proofs.YteagkgagdelklaaGreatDoor
open Go.ChangeShapes Go.WideShapes Go.ChangeAt Go.RowKit Go.Lib
theorem Ca:Rows.algebraMatricesRow.wfByText (OpenSpec.ofChange Rows.algebraMatricesSpec)=true:=by kernel_rfl
theorem B4:Tryz.checked.prog.mainIs=some (true,("a04ba91aff0254d3e1506f671f84e1a5658bbd78e0199d28c30e46d75adb2cd8" :String).toList):=by kernel_rfl
theorem B0:true=Tryz.checked.prog.looks []:=by kernel_rfl
theorem B5:Tryz.prog.funcNamed "talisman/talismanlaw01.AlgebraMatrices" =some 3:=by kernel_rfl
theorem B8:([22].all fun u=> !Tryz.prog.wantsStandIn u)=true:=by kernel_rfl
theorem BU:false=Rows.algebraMatricesRow.goesBy Tryz.checked.prog:=by kernel_rfl
