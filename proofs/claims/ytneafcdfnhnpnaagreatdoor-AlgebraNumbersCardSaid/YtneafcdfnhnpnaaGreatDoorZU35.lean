/- Closed facts of the row of AlgebraNumbers. -/
import Derived.Test.YtneafcdfnhnpnaaGreatDoorRows
import Derived.ProofKit
import Derived.JoinedOf
namespace Go.Proofs.YtneafcdfnhnpnaaGreatDoor
open Go.ChangeShapes Go.WideShapes Go.ChangeAt Go.RowKit
theorem nums_f1:(Rows.algebraNumbersRow.inPlace==Tryz.prog.inPlace 3)=true:=by kernel_rfl
theorem nums_f2:(Rows.algebraNumbersRow.unfollowed==Tryz.prog.unfollowed 3)=true:=by kernel_rfl
theorem nums_f3:(Rows.algebraNumbersRow.recurses==Tryz.prog.recurses 3)=true:=by kernel_rfl
theorem nums_f4:(Rows.algebraNumbersRow.named==Tryz.prog.varsNamed 3)=true:=by kernel_rfl
end Go.Proofs.YtneafcdfnhnpnaaGreatDoor
