/- The statement on ConstructMagic: the order 15. -/
import Derived.Test.YtlapnehfjklpoaaLawCM0
namespace Go.Proofs.Ytlapnehfjklpoaa
theorem cm_at15 : cmE 15 = true := by kernel_rfl
end Go.Proofs.Ytlapnehfjklpoaa
