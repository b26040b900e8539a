/- The statement on ConstructMagic: the order 6. -/
import Derived.Test.YtlapnehfjklpoaaLawCM0
namespace Go.Proofs.Ytlapnehfjklpoaa
theorem cm_at6 : cmE 6 = true := by kernel_rfl
end Go.Proofs.Ytlapnehfjklpoaa
