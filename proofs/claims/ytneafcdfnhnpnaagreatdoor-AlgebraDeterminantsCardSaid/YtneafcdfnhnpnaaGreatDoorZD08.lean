/- Closed facts of the row of AlgebraDeterminants, joined. -/
import Derived.Test.YtneafcdfnhnpnaaGreatDoorZD03
set_option maxRecDepth 100000
set_option maxHeartbeats 8000000
namespace Go.Proofs.YtneafcdfnhnpnaaGreatDoor
open Go.ChangeShapes Go.WideShapes Go.ChangeAt Go.RowKit
theorem Tg:Tryz.checked.prog.funcNamed Rows.algebraDeterminantsRow.func=some 9:=by kernel_rfl
theorem S1:joinedFacts Tryz.checked.prog 9 Tryz.f9 Rows.algebraDeterminantsSpec Rows.algebraDeterminantsRow=true:=by
 simp only[joinedFacts,Bool.and_eq_true]
 repeat' apply And.intro
 iterate 9 (rotate_left)
 ·exact S2
 ·exact S4
 ·exact S7
 ·exact S8
 all_goals (as_aux_lemma=>kernel_rfl)
theorem Tb:Tryz.f9.isInstance Tryz.checked.prog Rows.algebraDeterminantsRow.origin Rows.algebraDeterminantsRow.targs:=of_decide_eq_true (by kernel_rfl)
theorem Tj:Tryz.f9.isWrapper Tryz.checked.prog Rows.algebraDeterminantsRow.wrapper Rows.algebraDeterminantsRow.mainSum:=by
 unfold Func.isWrapper;first | (rw[if_pos (by decide +kernel)];kernel_rfl) | (rw[if_neg (by decide +kernel)];exact⟨rfl,rfl⟩)
