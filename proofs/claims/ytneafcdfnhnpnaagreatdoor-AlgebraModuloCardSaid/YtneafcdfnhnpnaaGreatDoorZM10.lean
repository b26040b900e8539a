/- Closed facts of the row of AlgebraModulo, joined. -/
import Derived.Test.YtneafcdfnhnpnaaGreatDoorZM09
namespace Go.Proofs.YtneafcdfnhnpnaaGreatDoor
open Go.ChangeShapes Go.WideShapes Go.ChangeAt Go.RowKit

theorem modulo_named : Tryz.checked.prog.funcNamed Rows.algebraModuloRow.func = some 10 := by kernel_rfl
set_option maxRecDepth 100000 in
set_option maxHeartbeats 8000000 in
theorem modulo_closed : joinedFacts Tryz.checked.prog 10 Tryz.f10 Rows.algebraModuloSpec Rows.algebraModuloRow = true := by
  simp only [joinedFacts, Bool.and_eq_true]
  repeat' apply And.intro
  iterate 9 (rotate_left)
  · exact modulo_f1
  · exact modulo_f2
  · exact modulo_f3
  · exact modulo_f4
  all_goals (as_aux_lemma => kernel_rfl)
theorem modulo_inst : Tryz.f10.isInstance Tryz.checked.prog Rows.algebraModuloRow.origin Rows.algebraModuloRow.targs := of_decide_eq_true (by kernel_rfl)
theorem modulo_wrap : Tryz.f10.isWrapper Tryz.checked.prog Rows.algebraModuloRow.wrapper Rows.algebraModuloRow.mainSum := by
  unfold Func.isWrapper; first | (rw [if_pos (by decide +kernel)]; kernel_rfl) | (rw [if_neg (by decide +kernel)]; exact ⟨rfl, rfl⟩)
end Go.Proofs.YtneafcdfnhnpnaaGreatDoor
