/- The statement on ConstructMagic: a piece. -/
import Derived.Test.YtlapnehfjklpoaaLawCS
namespace Go.Proofs.Ytlapnehfjklpoaa
theorem c16e : endT 104 2 (evF Try.prog cmO 1000000 (.code none cmR4) ⟨tG2 16 518 1044, 104, []⟩ ⟨k16, 3288, []⟩) = true := by kernel_rfl
end Go.Proofs.Ytlapnehfjklpoaa
