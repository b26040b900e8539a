/- The statement on ConstructMagic: the order 11. -/
import Derived.Test.YtlapnehfjklpoaaLawCM0
namespace Go.Proofs.Ytlapnehfjklpoaa
theorem cm_at11 : cmE 11 = true := by kernel_rfl
end Go.Proofs.Ytlapnehfjklpoaa
