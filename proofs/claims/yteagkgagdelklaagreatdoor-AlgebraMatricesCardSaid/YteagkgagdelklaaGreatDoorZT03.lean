/- Closed facts of the row of AlgebraMatrices. -/
import Derived.Test.YteagkgagdelklaaGreatDoorZT00
import Derived.Test.YteagkgagdelklaaGreatDoorRows
import Derived.ProofKit
namespace Go.Proofs.YteagkgagdelklaaGreatDoor
open Go.ChangeShapes Go.WideShapes Go.ChangeAt Go.RowKit
theorem BQ:(Rows.algebraMatricesRow.inPlace==Tryz.prog.inPlace 3)=true:=by kernel_rfl
theorem BR:(Rows.algebraMatricesRow.unfollowed==Tryz.prog.unfollowed 3)=true:=by kernel_rfl
theorem BS:(Rows.algebraMatricesRow.recurses==Tryz.prog.recurses 3)=true:=by kernel_rfl
theorem BT:(Rows.algebraMatricesRow.named==Tryz.prog.varsNamed 3)=true:=by kernel_rfl
