/- The statement on ConstructMagic: the order 4. -/
import Derived.Test.YtlapnehfjklpoaaLawCM0
namespace Go.Proofs.Ytlapnehfjklpoaa
theorem cm_at4 : cmE 4 = true := by kernel_rfl
end Go.Proofs.Ytlapnehfjklpoaa
