/- Closed facts of the row of AlgebraNumbers, joined. -/
import Derived.Test.YtneafcdfnhnpnaaGreatDoorZU35
set_option maxRecDepth 100000
set_option maxHeartbeats 8000000
namespace Go.Proofs.YtneafcdfnhnpnaaGreatDoor
open Go.ChangeShapes Go.WideShapes Go.ChangeAt Go.RowKit
theorem nums_named:Tryz.checked.prog.funcNamed Rows.algebraNumbersRow.func=some 3:=by kernel_rfl
theorem nums_closed:joinedFacts Tryz.checked.prog 3 Tryz.f3 Rows.algebraNumbersSpec Rows.algebraNumbersRow=true:=by
 simp only[joinedFacts,Bool.and_eq_true]
 repeat' apply And.intro
 iterate 9 (rotate_left)
 ·exact nums_f1
 ·exact nums_f2
 ·exact nums_f3
 ·exact nums_f4
 all_goals (as_aux_lemma=>kernel_rfl)
theorem nums_inst:Tryz.f3.isInstance Tryz.checked.prog Rows.algebraNumbersRow.origin Rows.algebraNumbersRow.targs:=of_decide_eq_true (by kernel_rfl)
theorem nums_wrap:Tryz.f3.isWrapper Tryz.checked.prog Rows.algebraNumbersRow.wrapper Rows.algebraNumbersRow.mainSum:=by
 unfold Func.isWrapper;first | (rw[if_pos (by decide +kernel)];kernel_rfl) | (rw[if_neg (by decide +kernel)];exact⟨rfl,rfl⟩)
end Go.Proofs.YtneafcdfnhnpnaaGreatDoor
