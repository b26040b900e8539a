/- The statement on ConstructMagic: the law. -/
import Derived.Test.YtlapnehfjklpoaaAwC3
import Derived.Test.YtlapnehfjklpoaaLawCMa
import Derived.Test.YtlapnehfjklpoaaLawCM2
import Derived.Test.YtlapnehfjklpoaaLawCM3
import Derived.Test.YtlapnehfjklpoaaLawCM4
import Derived.Test.YtlapnehfjklpoaaLawCM5
import Derived.Test.YtlapnehfjklpoaaLawCM6
import Derived.Test.YtlapnehfjklpoaaLawCM7
import Derived.Test.YtlapnehfjklpoaaLawCM8
import Derived.Test.YtlapnehfjklpoaaLawCM9
import Derived.Test.YtlapnehfjklpoaaLawCM10
import Derived.Test.YtlapnehfjklpoaaLawCM11
import Derived.Test.YtlapnehfjklpoaaLawCM12
import Derived.Test.YtlapnehfjklpoaaLawCM14
import Derived.Test.YtlapnehfjklpoaaLawCM15
import Derived.Test.YtlapnehfjklpoaaLawC13b
import Derived.Test.YtlapnehfjklpoaaLawC13c
import Derived.Test.YtlapnehfjklpoaaLawC13d
import Derived.Test.YtlapnehfjklpoaaLawC16b
import Derived.Test.YtlapnehfjklpoaaLawC16c
import Derived.Test.YtlapnehfjklpoaaLawC16d
import Derived.Test.YtlapnehfjklpoaaLawC16e
namespace Go.Proofs.Ytlapnehfjklpoaa
open Go.RowKit

section
variable {B : Nat} {w0 w : World} {ρ : Nat → Place} {a : Act}
theorem cm_hO (B : Nat) (w0 : World) : Orac Try.prog B w0 cmO := awO_ok ⟨_, _, Try.func12, by kernel_rfl, rfl⟩ awake_c B w0
theorem cm_mix : Try.prog.follows .mixedOrders = true := by kernel_rfl
theorem cm_13 (hB : Below B w0 w) (R : Rel B ρ 0 (Tr.nil : Tr Blk).get w) (T : TRel ρ 0 (cmT 13) a) : cmR.wpIn (fe none) 0 Try.prog (QT B 104 2 w) a w := by
  rw [cmR_split]
  refine thenT (piece cm_mix (cm_hO B w0) c13b hB R T) fun ρ1 a1 w1 B1 R1 T1 => ?_
  refine thenT (piece cm_mix (cm_hO B w0) c13c (hB.trans B1) R1 T1) fun ρ2 a2 w2 B2 R2 T2 => ?_
  exact pieceT cm_mix (cm_hO B w0) c13d ((hB.trans B1).trans B2) R2 T2
theorem cm_16 (hB : Below B w0 w) (R : Rel B ρ 0 (Tr.nil : Tr Blk).get w) (T : TRel ρ 0 (cmT 16) a) : cmR.wpIn (fe none) 0 Try.prog (QT B 104 2 w) a w := by
  rw [cmR_split, cmR3_split]
  refine thenT (piece cm_mix (cm_hO B w0) c16b hB R T) fun ρ1 a1 w1 B1 R1 T1 => ?_
  refine thenT (piece cm_mix (cm_hO B w0) c16c (hB.trans B1) R1 T1) fun ρ2 a2 w2 B2 R2 T2 => ?_
  refine thenT (piece cm_mix (cm_hO B w0) c16d ((hB.trans B1).trans B2) R2 T2) fun ρ3 a3 w3 B3 R3 T3 => ?_
  exact pieceT cm_mix (cm_hO B w0) c16e (((hB.trans B1).trans B2).trans B3) R3 T3
theorem cm_rest (n : Nat) (h1 : 1 ≤ n) (h2 : n ≤ 16) (hB : Below B w0 w) (R : Rel B ρ 0 (Tr.nil : Tr Blk).get w) (T : TRel ρ 0 (cmT n) a) : cmR.wpIn (fe none) 0 Try.prog (QT B 104 2 w) a w := by
  have hk : ∀ k, cmE k = true → TRel ρ 0 (cmT k) a → cmR.wpIn (fe none) 0 Try.prog (QT B 104 2 w) a w := fun k e T => pieceT cm_mix (cm_hO B w0) e hB R T
  have : n = 1 ∨ n = 2 ∨ n = 3 ∨ n = 4 ∨ n = 5 ∨ n = 6 ∨ n = 7 ∨ n = 8 ∨ n = 9 ∨ n = 10 ∨ n = 11 ∨ n = 12 ∨ n = 13 ∨ n = 14 ∨ n = 15 ∨ n = 16 := by omega
  rcases this with rfl | rfl | rfl | rfl | rfl | rfl | rfl | rfl | rfl | rfl | rfl | rfl | rfl | rfl | rfl | rfl
  · exact hk 1 cm_at1 T
  · exact hk 2 cm_at2 T
  · exact hk 3 cm_at3 T
  · exact hk 4 cm_at4 T
  · exact hk 5 cm_at5 T
  · exact hk 6 cm_at6 T
  · exact hk 7 cm_at7 T
  · exact hk 8 cm_at8 T
  · exact hk 9 cm_at9 T
  · exact hk 10 cm_at10 T
  · exact hk 11 cm_at11 T
  · exact hk 12 cm_at12 T
  · exact cm_13 hB R T
  · exact hk 14 cm_at14 T
  · exact hk 15 cm_at15 T
  · exact cm_16 hB R T
end
theorem ConstructMagic_c (o : Nat) (ho : o < 256) (w : World) : Calls Try.prog 6 #[.int .u8 (.ofNat o)] w fun e w' => e = .returned (.bool true) ∧ Below w.heap.size w w' := by
  have hp := allB_at cm_head o ho
  unfold cmP at hp
  rw [Bool.and_eq_true] at hp
  refine calls_true Try.func6 cm_split (args := [.int .u8 (.ofNat o)]) (t := one 0 (.int .u8 (.ofNat o))) (n := 104) (sl := 2) rfl rfl (by kernel_rfl) fun ρ a R T => ?_
  refine thenT (pieceU cm_mix (cm_hO w.heap.size w) hp.1 (Below.refl _ _) R T) fun ρ1 a1 w1 B1 R1 T1 => ?_
  refine thenT (pieceN cm_mix (cm_hO w.heap.size w) hp.2 B1 R1 T1) fun ρ2 a2 w2 B2 R2 T2 => ?_
  exact cm_rest (o % 16 + 1) (by omega) (by omega) (B1.trans B2) R2 T2
end Go.Proofs.Ytlapnehfjklpoaa
