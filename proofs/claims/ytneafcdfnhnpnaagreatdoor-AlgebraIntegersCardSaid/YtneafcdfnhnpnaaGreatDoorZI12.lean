/- Closed facts of the row of AlgebraIntegers, joined. -/
import Derived.Test.YtneafcdfnhnpnaaGreatDoorZI11
namespace Go.Proofs.YtneafcdfnhnpnaaGreatDoor
open Go.ChangeShapes Go.WideShapes Go.ChangeAt Go.RowKit

theorem ints_named : Tryz.checked.prog.funcNamed Rows.algebraIntegersRow.func = some 4 := by kernel_rfl
set_option maxRecDepth 100000 in
set_option maxHeartbeats 8000000 in
theorem ints_closed : joinedFacts Tryz.checked.prog 4 Tryz.f4 Rows.algebraIntegersSpec Rows.algebraIntegersRow = true := by
  simp only [joinedFacts, Bool.and_eq_true]
  repeat' apply And.intro
  iterate 9 (rotate_left)
  · exact ints_f1
  · exact ints_f2
  · exact ints_f3
  · exact ints_f4
  all_goals (as_aux_lemma => kernel_rfl)
theorem ints_inst : Tryz.f4.isInstance Tryz.checked.prog Rows.algebraIntegersRow.origin Rows.algebraIntegersRow.targs := of_decide_eq_true (by kernel_rfl)
theorem ints_wrap : Tryz.f4.isWrapper Tryz.checked.prog Rows.algebraIntegersRow.wrapper Rows.algebraIntegersRow.mainSum := by
  unfold Func.isWrapper; first | (rw [if_pos (by decide +kernel)]; kernel_rfl) | (rw [if_neg (by decide +kernel)]; exact ⟨rfl, rfl⟩)
end Go.Proofs.YtneafcdfnhnpnaaGreatDoor
