/- The statement on ConstructMagic: the order 8. -/
import Derived.Test.YtlapnehfjklpoaaLawCM0
namespace Go.Proofs.Ytlapnehfjklpoaa
theorem cm_at8 : cmE 8 = true := by kernel_rfl
end Go.Proofs.Ytlapnehfjklpoaa
