/- The statement on ConstructMagic: the order 3. -/
import Derived.Test.YtlapnehfjklpoaaLawCM0
namespace Go.Proofs.Ytlapnehfjklpoaa
theorem cm_at3 : cmE 3 = true := by kernel_rfl
end Go.Proofs.Ytlapnehfjklpoaa
