/- The statement on ConstructMagic: a piece. -/
import Derived.Test.YtlapnehfjklpoaaLawCS
namespace Go.Proofs.Ytlapnehfjklpoaa
theorem c16c : gcR [3, 4, 5, 6, 7] [1044, 1043, 518, 517] (evF Try.prog cmO 1000000 (.code none cm3) ⟨tG1 16 518, 104, []⟩ ⟨h16, 519, []⟩) = some (.normal, tG2 16 518 1044, 104, [], k16, 1045) := by kernel_rfl
end Go.Proofs.Ytlapnehfjklpoaa
