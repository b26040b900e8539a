/- The statement on ConstructMagic: a piece. -/
import Derived.Test.YtlapnehfjklpoaaLawCS
namespace Go.Proofs.Ytlapnehfjklpoaa
theorem c16b : gcR [3, 4, 5] [518, 517] (evF Try.prog cmO 1000000 (.code none cm2) (cmT 16) ⟨.nil, 0, []⟩) = some (.normal, tG1 16 518, 104, [], h16, 519) := by kernel_rfl
end Go.Proofs.Ytlapnehfjklpoaa
