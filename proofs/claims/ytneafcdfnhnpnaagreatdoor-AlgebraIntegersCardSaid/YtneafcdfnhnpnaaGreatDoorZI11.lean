/- Closed facts of the row of AlgebraIntegers. -/
import Derived.Test.YtneafcdfnhnpnaaGreatDoorRows
import Derived.ProofKit
import Derived.JoinedOf
namespace Go.Proofs.YtneafcdfnhnpnaaGreatDoor
open Go.ChangeShapes Go.WideShapes Go.ChangeAt Go.RowKit

theorem ints_f1 : (Rows.algebraIntegersRow.inPlace == Tryz.prog.inPlace 4) = true := by kernel_rfl
theorem ints_f2 : (Rows.algebraIntegersRow.unfollowed == Tryz.prog.unfollowed 4) = true := by kernel_rfl
theorem ints_f3 : (Rows.algebraIntegersRow.recurses == Tryz.prog.recurses 4) = true := by kernel_rfl
theorem ints_f4 : (Rows.algebraIntegersRow.named == Tryz.prog.varsNamed 4) = true := by kernel_rfl
end Go.Proofs.YtneafcdfnhnpnaaGreatDoor
