/- Closed facts of the row of AlgebraRanks, joined. -/
import Derived.Test.YtneafcdfnhnpnaaGreatDoorZK35
set_option maxRecDepth 100000
set_option maxHeartbeats 8000000
namespace Go.Proofs.YtneafcdfnhnpnaaGreatDoor
open Go.ChangeShapes Go.WideShapes Go.ChangeAt Go.RowKit
theorem AX:Tryz.checked.prog.funcNamed Rows.algebraRanksRow.func=some 6:=by kernel_rfl
theorem AI:joinedFacts Tryz.checked.prog 6 Tryz.f6 Rows.algebraRanksSpec Rows.algebraRanksRow=true:=by
 simp only[joinedFacts,Bool.and_eq_true]
 repeat' apply And.intro
 iterate 9 (rotate_left)
 ·exact AJ
 ·exact AK
 ·exact AL
 ·exact AM
 all_goals (as_aux_lemma=>kernel_rfl)
theorem AQ:Tryz.f6.isInstance Tryz.checked.prog Rows.algebraRanksRow.origin Rows.algebraRanksRow.targs:=of_decide_eq_true (by kernel_rfl)
theorem Ba:Tryz.f6.isWrapper Tryz.checked.prog Rows.algebraRanksRow.wrapper Rows.algebraRanksRow.mainSum:=by
 unfold Func.isWrapper;first | (rw[if_pos (by decide +kernel)];kernel_rfl) | (rw[if_neg (by decide +kernel)];exact⟨rfl,rfl⟩)
