/- Closed facts of the row of AlgebraPerms, joined. -/
import Derived.Test.YtneafcdfnhnpnaaGreatDoorZP05
namespace Go.Proofs.YtneafcdfnhnpnaaGreatDoor
open Go.ChangeShapes Go.WideShapes Go.ChangeAt Go.RowKit

theorem perms_named : Tryz.checked.prog.funcNamed Rows.algebraPermsRow.func = some 5 := by kernel_rfl
set_option maxRecDepth 100000 in
set_option maxHeartbeats 8000000 in
theorem perms_closed : joinedFacts Tryz.checked.prog 5 Tryz.f5 Rows.algebraPermsSpec Rows.algebraPermsRow = true := by
  simp only [joinedFacts, Bool.and_eq_true]
  repeat' apply And.intro
  iterate 9 (rotate_left)
  · exact perms_f1
  · exact perms_f2
  · exact perms_f3
  · exact perms_f4
  all_goals (as_aux_lemma => kernel_rfl)
theorem perms_inst : Tryz.f5.isInstance Tryz.checked.prog Rows.algebraPermsRow.origin Rows.algebraPermsRow.targs := of_decide_eq_true (by kernel_rfl)
theorem perms_wrap : Tryz.f5.isWrapper Tryz.checked.prog Rows.algebraPermsRow.wrapper Rows.algebraPermsRow.mainSum := by
  unfold Func.isWrapper; first | (rw [if_pos (by decide +kernel)]; kernel_rfl) | (rw [if_neg (by decide +kernel)]; exact ⟨rfl, rfl⟩)
end Go.Proofs.YtneafcdfnhnpnaaGreatDoor
