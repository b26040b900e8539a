/- The statement on ConstructMagic: the order 12. -/
import Derived.Test.YtlapnehfjklpoaaLawCM0
namespace Go.Proofs.Ytlapnehfjklpoaa
theorem cm_at12 : cmE 12 = true := by kernel_rfl
end Go.Proofs.Ytlapnehfjklpoaa
