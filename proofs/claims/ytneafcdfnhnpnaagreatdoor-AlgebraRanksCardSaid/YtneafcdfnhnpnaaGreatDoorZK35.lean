/- Closed facts of the row of AlgebraRanks. -/
import Derived.Test.YtneafcdfnhnpnaaGreatDoorRows
import Derived.ProofKit
namespace Go.Proofs.YtneafcdfnhnpnaaGreatDoor
open Go.ChangeShapes Go.WideShapes Go.ChangeAt Go.RowKit
theorem AJ:(Rows.algebraRanksRow.inPlace==Tryz.prog.inPlace 6)=true:=by kernel_rfl
theorem AK:(Rows.algebraRanksRow.unfollowed==Tryz.prog.unfollowed 6)=true:=by kernel_rfl
theorem AL:(Rows.algebraRanksRow.recurses==Tryz.prog.recurses 6)=true:=by kernel_rfl
theorem AM:(Rows.algebraRanksRow.named==Tryz.prog.varsNamed 6)=true:=by kernel_rfl
