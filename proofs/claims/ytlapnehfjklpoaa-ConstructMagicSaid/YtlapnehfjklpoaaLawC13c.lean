/- The statement on ConstructMagic: a piece. -/
import Derived.Test.YtlapnehfjklpoaaLawCS
namespace Go.Proofs.Ytlapnehfjklpoaa
theorem c13c : gcR [3, 4, 5, 6, 7] [1390, 713, 695, 18] (evF Try.prog cmO 1000000 (.code none cm3) ⟨tG1 13 695, 104, []⟩ ⟨h13, 696, []⟩) = some (.normal, tG2 13 695 1390, 104, [], k13, 1391) := by kernel_rfl
end Go.Proofs.Ytlapnehfjklpoaa
