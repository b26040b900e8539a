/- The statement on ConstructMagic: the order 9. -/
import Derived.Test.YtlapnehfjklpoaaLawCM0
namespace Go.Proofs.Ytlapnehfjklpoaa
theorem cm_at9 : cmE 9 = true := by kernel_rfl
end Go.Proofs.Ytlapnehfjklpoaa
