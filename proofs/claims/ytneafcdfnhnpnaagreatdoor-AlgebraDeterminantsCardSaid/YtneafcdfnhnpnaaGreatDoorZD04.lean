/- Closed facts of the card of AlgebraDeterminants. -/
import Derived.Deep.DeepCutAuto
import Derived.Deep.DrawnRows
import Derived.Deep.RegionHeld3
import Derived.Deep.Upon
import Derived.LaidMore
import Derived.LaidSub
import Derived.Laws.CopyOwn
import Derived.Lib.AppendIntMem
import Derived.Lib.AppendZeros
import Derived.Lib.LazyBuf
import Derived.Lib.OwnBridge
import Derived.Lib.ParseIntBCases
import Derived.Lib.Repeat
import Derived.Lib.SmallJoins
import Derived.Lib.Walk
import Derived.LoopNIn
import Derived.OwnWalkIn
import Derived.RangeFuncBound
import Derived.RangeFuncNested
import Derived.SevenTiedAt
import Derived.Shelf.RegionOpen
import Derived.Shelf.Spec.BitsCarry
import Derived.Shelf.Vars
import Derived.Sort.LoopGhostIn
import Derived.StillTailTactics
import Derived.Test.YtneafcdfnhnpnaaGreatDoorCards
import Derived.Test.YtneafcdfnhnpnaaGreatDoorProg
import Derived.Test.YtneafcdfnhnpnaaGreatDoorZSh
import Derived.Test.YtneafcdfnhnpnaaGreatDoorTie
import Derived.WalkLawsBesides
import Derived.WalkSpells
namespace Go.Proofs.YtneafcdfnhnpnaaGreatDoor
open Go.ChangeShapes Go.WideShapes Go.ChangeAt Go.RowKit Go.Lib
theorem Ti:Rows.algebraDeterminantsRow.wfByText (OpenSpec.ofChange Rows.algebraDeterminantsSpec)=true:=by kernel_rfl
theorem Te:Tryz.checked.prog.mainIs=some (true,("0378a7316a1b9cebf1aad75a524bff61c8dc37194e61793c5ae69bc144ae9d3c" :String).toList):=by kernel_rfl
theorem Td:true=Tryz.checked.prog.looks []:=by kernel_rfl
theorem Tf:Tryz.prog.funcNamed "talisman/talismanlaw01.AlgebraDeterminants" =some 9:=by kernel_rfl
theorem Th:([74].all fun u=> !Tryz.prog.wantsStandIn u)=true:=by kernel_rfl
theorem S9:false=Rows.algebraDeterminantsRow.goesBy Tryz.checked.prog:=by kernel_rfl
