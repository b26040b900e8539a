/- The statement on ConstructMagic: a piece. -/
import Derived.Test.YtlapnehfjklpoaaLawCS
namespace Go.Proofs.Ytlapnehfjklpoaa
theorem c13b : gcR [3, 4, 5] [695, 18] (evF Try.prog cmO 1000000 (.code none cm2) (cmT 13) ⟨.nil, 0, []⟩) = some (.normal, tG1 13 695, 104, [], h13, 696) := by kernel_rfl
end Go.Proofs.Ytlapnehfjklpoaa
