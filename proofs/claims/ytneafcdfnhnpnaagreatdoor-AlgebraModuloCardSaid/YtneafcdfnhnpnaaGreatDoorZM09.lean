/- Closed facts of the row of AlgebraModulo. -/
import Derived.Test.YtneafcdfnhnpnaaGreatDoorRows
import Derived.ProofKit
import Derived.JoinedOf
namespace Go.Proofs.YtneafcdfnhnpnaaGreatDoor
open Go.ChangeShapes Go.WideShapes Go.ChangeAt Go.RowKit

theorem modulo_f1 : (Rows.algebraModuloRow.inPlace == Tryz.prog.inPlace 10) = true := by kernel_rfl
theorem modulo_f2 : (Rows.algebraModuloRow.unfollowed == Tryz.prog.unfollowed 10) = true := by kernel_rfl
theorem modulo_f3 : (Rows.algebraModuloRow.recurses == Tryz.prog.recurses 10) = true := by kernel_rfl
theorem modulo_f4 : (Rows.algebraModuloRow.named == Tryz.prog.varsNamed 10) = true := by kernel_rfl
end Go.Proofs.YtneafcdfnhnpnaaGreatDoor
