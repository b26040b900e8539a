/- The statement on ConstructMagic: the order 14. -/
import Derived.Test.YtlapnehfjklpoaaLawCM0
namespace Go.Proofs.Ytlapnehfjklpoaa
theorem cm_at14 : cmE 14 = true := by kernel_rfl
end Go.Proofs.Ytlapnehfjklpoaa
