/- The statement on ConstructMagic: the order 5. -/
import Derived.Test.YtlapnehfjklpoaaLawCM0
namespace Go.Proofs.Ytlapnehfjklpoaa
theorem cm_at5 : cmE 5 = true := by kernel_rfl
end Go.Proofs.Ytlapnehfjklpoaa
