/- The self-check of chapter 3, reckoned. -/
import Derived.Test.YtlapnehfjklpoaaEvPc2
import Derived.Test.YtlapnehfjklpoaaProg
import Derived.KernelRfl
namespace Go.Proofs.Ytlapnehfjklpoaa
open Go.RowKit

theorem awake_r : resT (evF Try.prog (fun _ _ => none) 1000000 (.call 12 []) ⟨.nil, 0, []⟩ ⟨.nil, 0, []⟩) = true := by kernel_rfl
theorem awake_c (w : World) : Calls Try.prog 12 #[] w fun e w' => e = .returned (.bool true) ∧ Below w.heap.size w w' :=
  evF_true (P := Try.prog) (O := fun _ _ => none) (n := 1000000) (args := []) (by kernel_rfl) (fun f args v h => by cases h) (by kernel_rfl) rfl awake_r
end Go.Proofs.Ytlapnehfjklpoaa
