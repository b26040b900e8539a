/- Closed facts of the row of AlgebraPlaces, joined. -/
import Derived.Test.YtneafcdfnhnpnaaGreatDoorZX05
namespace Go.Proofs.YtneafcdfnhnpnaaGreatDoor
open Go.ChangeShapes Go.WideShapes Go.ChangeAt Go.RowKit

theorem places_named : Tryz.checked.prog.funcNamed Rows.algebraPlacesRow.func = some 12 := by kernel_rfl
set_option maxRecDepth 100000 in
set_option maxHeartbeats 8000000 in
theorem places_closed : joinedFacts Tryz.checked.prog 12 Tryz.f12 Rows.algebraPlacesSpec Rows.algebraPlacesRow = true := by
  simp only [joinedFacts, Bool.and_eq_true]
  repeat' apply And.intro
  iterate 9 (rotate_left)
  · exact places_f1
  · exact places_f2
  · exact places_f3
  · exact places_f4
  all_goals (as_aux_lemma => kernel_rfl)
theorem places_inst : Tryz.f12.isInstance Tryz.checked.prog Rows.algebraPlacesRow.origin Rows.algebraPlacesRow.targs := of_decide_eq_true (by kernel_rfl)
theorem places_wrap : Tryz.f12.isWrapper Tryz.checked.prog Rows.algebraPlacesRow.wrapper Rows.algebraPlacesRow.mainSum := by
  unfold Func.isWrapper; first | (rw [if_pos (by decide +kernel)]; kernel_rfl) | (rw [if_neg (by decide +kernel)]; exact ⟨rfl, rfl⟩)
end Go.Proofs.YtneafcdfnhnpnaaGreatDoor
