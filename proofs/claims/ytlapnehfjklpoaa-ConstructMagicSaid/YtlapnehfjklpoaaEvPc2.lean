/- Closed calls by reckoning: a call that returns true. -/
import Derived.Test.YtlapnehfjklpoaaEvPc
namespace Go.Proofs.Ytlapnehfjklpoaa
open Go.RowKit
section
variable {P : Program} {O : OraT} {w : World}
noncomputable def resT (x : Option Res) : Bool := match x with | some r => (match r.v with | .bool b => b | _ => false) | none => false
theorem evF_true (hmix : P.follows .mixedOrders = true) {f : FuncId} {args : List Value} {n : Nat} (hO : Orac P w.heap.size w O) (hb : (P.funcs[f]?.bind (·.body)).isSome = true) (hp : args.all (pureV 3) = true)
    (e : resT (evF P O n (.call f args) ⟨.nil, 0, []⟩ ⟨.nil, 0, []⟩) = true) : Calls P f args.toArray w fun e w' => e = .returned (.bool true) ∧ Below w.heap.size w w' := by
  unfold resT at e
  split at e
  · rename_i r hr
    split at e
    · rename_i b hv
      subst e
      exact evF_calls hmix hO hb hp rfl (by rw [hr]; simp only [hv])
    · cases e
  · cases e
end
end Go.Proofs.Ytlapnehfjklpoaa
