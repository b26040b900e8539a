/- The statement on ConstructMagic: the order 10. -/
import Derived.Test.YtlapnehfjklpoaaLawCM0
namespace Go.Proofs.Ytlapnehfjklpoaa
theorem cm_at10 : cmE 10 = true := by kernel_rfl
end Go.Proofs.Ytlapnehfjklpoaa
