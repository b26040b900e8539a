/- The statement on ConstructMagic: the order 2. -/
import Derived.Test.YtlapnehfjklpoaaLawCM0
namespace Go.Proofs.Ytlapnehfjklpoaa
theorem cm_at2 : cmE 2 = true := by kernel_rfl
end Go.Proofs.Ytlapnehfjklpoaa
