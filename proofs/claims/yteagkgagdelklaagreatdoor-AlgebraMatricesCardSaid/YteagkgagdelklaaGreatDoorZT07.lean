/- Closed facts of the row of AlgebraMatrices, joined. -/
import Derived.Test.YteagkgagdelklaaGreatDoorZT03
set_option maxRecDepth 100000
set_option maxHeartbeats 8000000
namespace Go.Proofs.YteagkgagdelklaaGreatDoor
open Go.ChangeShapes Go.WideShapes Go.ChangeAt Go.RowKit
theorem B6:Tryz.checked.prog.funcNamed Rows.algebraMatricesRow.func=some 3:=by kernel_rfl
theorem BP:joinedFacts Tryz.checked.prog 3 Tryz.f3 Rows.algebraMatricesSpec Rows.algebraMatricesRow=true:=by
 simp only[joinedFacts,Qa7]
 repeat' apply And.intro
 iterate 9 (rotate_left)
 ·exact BQ
 ·exact BR
 ·exact BS
 ·exact BT
 all_goals (as_aux_lemma=>kernel_rfl)
theorem BW:Tryz.f3.isInstance Tryz.checked.prog Rows.algebraMatricesRow.origin Rows.algebraMatricesRow.targs:=QaL (by kernel_rfl)
theorem Cb:Tryz.f3.isWrapper Tryz.checked.prog Rows.algebraMatricesRow.wrapper Rows.algebraMatricesRow.mainSum:=by
 unfold Func.isWrapper;first | (rw[if_pos (by decide +kernel)];kernel_rfl) | (rw[if_neg (by decide +kernel)];exact⟨rfl,rfl⟩)
