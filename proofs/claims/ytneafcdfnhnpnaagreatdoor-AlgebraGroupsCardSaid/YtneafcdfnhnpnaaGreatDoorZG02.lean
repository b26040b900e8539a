/- Closed facts of the row of AlgebraGroups. -/
import Derived.Test.YtneafcdfnhnpnaaGreatDoorRows
import Derived.ProofKit
import Derived.JoinedOf
namespace Go.Proofs.YtneafcdfnhnpnaaGreatDoor
open Go.ChangeShapes Go.WideShapes Go.ChangeAt Go.RowKit

theorem groups_f1 : (Rows.algebraGroupsRow.inPlace == Tryz.prog.inPlace 11) = true := by kernel_rfl
theorem groups_f2 : (Rows.algebraGroupsRow.unfollowed == Tryz.prog.unfollowed 11) = true := by kernel_rfl
theorem groups_f3 : (Rows.algebraGroupsRow.recurses == Tryz.prog.recurses 11) = true := by kernel_rfl
theorem groups_f4 : (Rows.algebraGroupsRow.named == Tryz.prog.varsNamed 11) = true := by kernel_rfl
end Go.Proofs.YtneafcdfnhnpnaaGreatDoor
