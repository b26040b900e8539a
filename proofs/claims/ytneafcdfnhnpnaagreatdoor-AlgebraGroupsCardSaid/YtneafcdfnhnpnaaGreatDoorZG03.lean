/- Closed facts of the row of AlgebraGroups, joined. -/
import Derived.Test.YtneafcdfnhnpnaaGreatDoorZG02
namespace Go.Proofs.YtneafcdfnhnpnaaGreatDoor
open Go.ChangeShapes Go.WideShapes Go.ChangeAt Go.RowKit

theorem groups_named : Tryz.checked.prog.funcNamed Rows.algebraGroupsRow.func = some 11 := by kernel_rfl
set_option maxRecDepth 100000 in
set_option maxHeartbeats 8000000 in
theorem groups_closed : joinedFacts Tryz.checked.prog 11 Tryz.f11 Rows.algebraGroupsSpec Rows.algebraGroupsRow = true := by
  simp only [joinedFacts, Bool.and_eq_true]
  repeat' apply And.intro
  iterate 9 (rotate_left)
  · exact groups_f1
  · exact groups_f2
  · exact groups_f3
  · exact groups_f4
  all_goals (as_aux_lemma => kernel_rfl)
theorem groups_inst : Tryz.f11.isInstance Tryz.checked.prog Rows.algebraGroupsRow.origin Rows.algebraGroupsRow.targs := of_decide_eq_true (by kernel_rfl)
theorem groups_wrap : Tryz.f11.isWrapper Tryz.checked.prog Rows.algebraGroupsRow.wrapper Rows.algebraGroupsRow.mainSum := by
  unfold Func.isWrapper; first | (rw [if_pos (by decide +kernel)]; kernel_rfl) | (rw [if_neg (by decide +kernel)]; exact ⟨rfl, rfl⟩)
end Go.Proofs.YtneafcdfnhnpnaaGreatDoor
