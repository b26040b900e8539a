/- Closed facts of the row of AlgebraPerms. -/
import Derived.Test.YtneafcdfnhnpnaaGreatDoorRows
import Derived.ProofKit
import Derived.JoinedOf
namespace Go.Proofs.YtneafcdfnhnpnaaGreatDoor
open Go.ChangeShapes Go.WideShapes Go.ChangeAt Go.RowKit

theorem perms_f1 : (Rows.algebraPermsRow.inPlace == Tryz.prog.inPlace 5) = true := by kernel_rfl
theorem perms_f2 : (Rows.algebraPermsRow.unfollowed == Tryz.prog.unfollowed 5) = true := by kernel_rfl
theorem perms_f3 : (Rows.algebraPermsRow.recurses == Tryz.prog.recurses 5) = true := by kernel_rfl
theorem perms_f4 : (Rows.algebraPermsRow.named == Tryz.prog.varsNamed 5) = true := by kernel_rfl
end Go.Proofs.YtneafcdfnhnpnaaGreatDoor
