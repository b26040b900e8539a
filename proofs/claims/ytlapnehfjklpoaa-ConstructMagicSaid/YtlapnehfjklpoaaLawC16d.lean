/- The statement on ConstructMagic: a piece. -/
import Derived.Test.YtlapnehfjklpoaaLawCS
namespace Go.Proofs.Ytlapnehfjklpoaa
theorem c16d : gcR [3, 4, 5, 6, 7] [1044, 1043, 518, 517] (evF Try.prog cmO 1000000 (.code none cm4) ⟨tG2 16 518 1044, 104, []⟩ ⟨k16, 1045, []⟩) = some (.normal, tG2 16 518 1044, 104, [], k16, 3288) := by kernel_rfl
end Go.Proofs.Ytlapnehfjklpoaa
