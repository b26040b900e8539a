/- The statement on ConstructMagic: the order 7. -/
import Derived.Test.YtlapnehfjklpoaaLawCM0
namespace Go.Proofs.Ytlapnehfjklpoaa
theorem cm_at7 : cmE 7 = true := by kernel_rfl
end Go.Proofs.Ytlapnehfjklpoaa
