/- The statement on ConstructMagic: the order 1. -/
import Derived.Test.YtlapnehfjklpoaaLawCM0
namespace Go.Proofs.Ytlapnehfjklpoaa
theorem cm_at1 : cmE 1 = true := by kernel_rfl
end Go.Proofs.Ytlapnehfjklpoaa
