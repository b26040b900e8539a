/- Closed facts of the row of AlgebraDeterminants. -/
import Derived.ProofKit
import Derived.Test.YtneafcdfnhnpnaaGreatDoorRows
namespace Go.Proofs.YtneafcdfnhnpnaaGreatDoor
open Go.ChangeShapes Go.WideShapes Go.ChangeAt Go.RowKit
theorem S2:(Rows.algebraDeterminantsRow.inPlace==Tryz.prog.inPlace 9)=true:=by kernel_rfl
theorem S4:(Rows.algebraDeterminantsRow.unfollowed==Tryz.prog.unfollowed 9)=true:=by kernel_rfl
theorem S7:(Rows.algebraDeterminantsRow.recurses==Tryz.prog.recurses 9)=true:=by kernel_rfl
theorem S8:(Rows.algebraDeterminantsRow.named==Tryz.prog.varsNamed 9)=true:=by kernel_rfl
