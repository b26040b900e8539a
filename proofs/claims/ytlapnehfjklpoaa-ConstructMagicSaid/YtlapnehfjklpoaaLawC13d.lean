/- The statement on ConstructMagic: a piece. -/
import Derived.Test.YtlapnehfjklpoaaLawCS
namespace Go.Proofs.Ytlapnehfjklpoaa
theorem c13d : endT 104 2 (evF Try.prog cmO 1000000 (.code none cmR3) ⟨tG2 13 695 1390, 104, []⟩ ⟨k13, 1391, []⟩) = true := by kernel_rfl
end Go.Proofs.Ytlapnehfjklpoaa
