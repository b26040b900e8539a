/-
  No cell of these rows narrows 'for every input' (looked for: loops, veiled, ifaces, maps, wideKeys, modest, calm, conditions, laid).
  DERIVED. THE GIVEN ROWS OF THIS SEAT. 4 by the template 'for every input the law returns true; each argument reads behind the call as it read before'; 0 by the template 'total and deterministic' (their statements: YtlapnehfjklpoaaTotals.lean).
  GIVEN WITH THE SEED: the statements are not yours to turn. If you find one false, say at which input.
  Laid BY PROGRAM, IN A SANDBOX (cutbox-rows.mjs): the forced cells as the released guide's own fill.sh prints them over the translation b5fb019ae412285e… (all of the seat's roots in one cut). By AI agents, Wed Nov 11 2026. No macro, syntax, notation, axiom, sorry.
-/
import Derived.Test.YtlapnehfjklpoaaChecked
import GoSem.Claim
import GoSem.ClaimJoined
import GoSem.ClaimMapViews
import Derived.JoinedTies
import Derived.KernelRfl
namespace Go.Proofs.Ytlapnehfjklpoaa
/- THE CELL 'sum', in the pinned program and in every row, IS THE sha256 OF THE DUMP (.gsa) THAT YtlapnehfjklpoaaProg.lean LOADS. Nothing in Lean hashes anything: it is a label: what it is worth is what the hold of that sum in a sandbox is worth. -/
noncomputable def Try.pinned : Pinned := { name := "ytlapnehfjklpoaa", sum := "b5fb019ae412285e24806fe534de12add0708f97ae397b120c01bf9db3ff179b", checked := Try.checked }
namespace Rows
def none {H : Type} : Left H := { results := [], args := [] }

/-- 'talismanlaw03.ConstructSteps': WHATEVER THE INPUT: true; the input reads as it did. -/
def constructStepsSpec : ChangeSpec := { name := "constructSteps", fn := fun _ => fun
  | [d1, d2] => { results := [.lit (.bool true)], args := [d1, d2] }
  | _ => none }
def constructStepsRow : OpenClaim := { program := "ytlapnehfjklpoaa", sum := "b5fb019ae412285e24806fe534de12add0708f97ae397b120c01bf9db3ff179b", func := "talisman/talismanlaw03.ConstructSteps", spec := "constructSteps", unfollowed := true, recurses := true, apart := false }
def ConstructStepsSaid : Prop := constructStepsRow.holds Try.pinned (OpenSpec.ofChange constructStepsSpec)

/-- ITS FALSE NEIGHBOUR: 'it returns false'. Refute it at one input. -/
def constructStepsWrong : ChangeSpec := { name := "constructSteps", fn := fun _ => fun
  | [d1, d2] => { results := [.lit (.bool false)], args := [d1, d2] }
  | _ => none }
def ConstructStepsWrongFalsely : Prop := constructStepsRow.holds Try.pinned (OpenSpec.ofChange constructStepsWrong)

/-- 'talismanlaw03.ConstructDigits': WHATEVER THE INPUT: true; the input reads as it did. -/
def constructDigitsSpec : ChangeSpec := { name := "constructDigits", fn := fun _ => fun
  | [d1, d2, d3] => { results := [.lit (.bool true)], args := [d1, d2, d3] }
  | _ => none }
def constructDigitsRow : OpenClaim := { program := "ytlapnehfjklpoaa", sum := "b5fb019ae412285e24806fe534de12add0708f97ae397b120c01bf9db3ff179b", func := "talisman/talismanlaw03.ConstructDigits", spec := "constructDigits", unfollowed := true, recurses := true, apart := false }
def ConstructDigitsSaid : Prop := constructDigitsRow.holds Try.pinned (OpenSpec.ofChange constructDigitsSpec)

/-- ITS FALSE NEIGHBOUR: 'it returns false'. Refute it at one input. -/
def constructDigitsWrong : ChangeSpec := { name := "constructDigits", fn := fun _ => fun
  | [d1, d2, d3] => { results := [.lit (.bool false)], args := [d1, d2, d3] }
  | _ => none }
def ConstructDigitsWrongFalsely : Prop := constructDigitsRow.holds Try.pinned (OpenSpec.ofChange constructDigitsWrong)

/-- 'talismanlaw03.ConstructOrders': WHATEVER THE INPUT: true; the input reads as it did. -/
def constructOrdersSpec : ChangeSpec := { name := "constructOrders", fn := fun _ => fun
  | [d] => { results := [.lit (.bool true)], args := [d] }
  | _ => none }
def constructOrdersRow : OpenClaim := { program := "ytlapnehfjklpoaa", sum := "b5fb019ae412285e24806fe534de12add0708f97ae397b120c01bf9db3ff179b", func := "talisman/talismanlaw03.ConstructOrders", spec := "constructOrders", unfollowed := true, recurses := true, apart := false }
def ConstructOrdersSaid : Prop := constructOrdersRow.holds Try.pinned (OpenSpec.ofChange constructOrdersSpec)

/-- ITS FALSE NEIGHBOUR: 'it returns false'. Refute it at one input. -/
def constructOrdersWrong : ChangeSpec := { name := "constructOrders", fn := fun _ => fun
  | [d] => { results := [.lit (.bool false)], args := [d] }
  | _ => none }
def ConstructOrdersWrongFalsely : Prop := constructOrdersRow.holds Try.pinned (OpenSpec.ofChange constructOrdersWrong)

/-- 'talismanlaw03.ConstructMagic': WHATEVER THE INPUT: true; the input reads as it did. -/
def constructMagicSpec : ChangeSpec := { name := "constructMagic", fn := fun _ => fun
  | [d] => { results := [.lit (.bool true)], args := [d] }
  | _ => none }
def constructMagicRow : OpenClaim := { program := "ytlapnehfjklpoaa", sum := "b5fb019ae412285e24806fe534de12add0708f97ae397b120c01bf9db3ff179b", func := "talisman/talismanlaw03.ConstructMagic", spec := "constructMagic", unfollowed := true, recurses := true, apart := false }
def ConstructMagicSaid : Prop := constructMagicRow.holds Try.pinned (OpenSpec.ofChange constructMagicSpec)

/-- ITS FALSE NEIGHBOUR: 'it returns false'. Refute it at one input. -/
def constructMagicWrong : ChangeSpec := { name := "constructMagic", fn := fun _ => fun
  | [d] => { results := [.lit (.bool false)], args := [d] }
  | _ => none }
def ConstructMagicWrongFalsely : Prop := constructMagicRow.holds Try.pinned (OpenSpec.ofChange constructMagicWrong)

/- THE SECOND FORM. 'bulk': how many values and letters a reading holds, each counted each time it is reached (what is shared counts as often as it is met; a slice's spare places count too). A statement '..UptoSaid' is the law's where the arguments, and the package variables that the reading takes, are together of bulk at most 1048576: NARROWER than '..Said'. Prove '..Said' where nothing that the law and all that it calls make is longer than what came in: it says more and counts as full. Else prove '..UptoSaid'. A law counts once. -/
mutual
def uptoBulk {H : Type} : DataW H → Nat
  | .lit (.string bytes) => bytes.length + 1
  | .lit _ => 1
  | .nil => 1
  | .ptr d => uptoBulk d + 1
  | .slice elems spare => uptoBulkAll elems + uptoBulkAll spare + 1
  | .agg parts => uptoBulkAll parts + 1
  | .iface _ d => uptoBulk d + 1
  | .map entries => uptoBulkEntries entries + 1
  | .held _ => 1
def uptoBulkAll {H : Type} : List (DataW H) → Nat
  | [] => 0
  | d :: r => uptoBulk d + uptoBulkAll r
def uptoBulkEntries {H : Type} : List (Lit × DataW H) → Nat
  | [] => 0
  | x :: r => uptoBulkEntry x + uptoBulkEntries r
def uptoBulkEntry {H : Type} : Lit × DataW H → Nat
  | (.string bytes, d) => bytes.length + uptoBulk d + 1
  | (_, d) => uptoBulk d + 1
 end
def uptoSmall : (H : Type) → List (DataW H) → Bool := fun _ ds => decide (uptoBulkAll ds ≤ 1048576)
def OpenSpec.upto (s : _root_.Go.ChangeSpec) : _root_.Go.OpenSpec := { _root_.Go.OpenSpec.ofChange s with cond := some uptoSmall }

/-- 'talismanlaw03.ConstructSteps', WHERE WHAT IT READS IS OF BULK AT MOST 1048576: true; the input reads as it did. -/
def constructStepsUptoRow : OpenClaim := { program := "ytlapnehfjklpoaa", sum := "b5fb019ae412285e24806fe534de12add0708f97ae397b120c01bf9db3ff179b", func := "talisman/talismanlaw03.ConstructSteps", spec := "constructSteps", unfollowed := true, recurses := true, apart := false, narrowed := true }
def ConstructStepsUptoSaid : Prop := constructStepsUptoRow.holds Try.pinned (OpenSpec.upto constructStepsSpec)

/-- 'talismanlaw03.ConstructDigits', WHERE WHAT IT READS IS OF BULK AT MOST 1048576: true; the input reads as it did. -/
def constructDigitsUptoRow : OpenClaim := { program := "ytlapnehfjklpoaa", sum := "b5fb019ae412285e24806fe534de12add0708f97ae397b120c01bf9db3ff179b", func := "talisman/talismanlaw03.ConstructDigits", spec := "constructDigits", unfollowed := true, recurses := true, apart := false, narrowed := true }
def ConstructDigitsUptoSaid : Prop := constructDigitsUptoRow.holds Try.pinned (OpenSpec.upto constructDigitsSpec)

/-- 'talismanlaw03.ConstructOrders', WHERE WHAT IT READS IS OF BULK AT MOST 1048576: true; the input reads as it did. -/
def constructOrdersUptoRow : OpenClaim := { program := "ytlapnehfjklpoaa", sum := "b5fb019ae412285e24806fe534de12add0708f97ae397b120c01bf9db3ff179b", func := "talisman/talismanlaw03.ConstructOrders", spec := "constructOrders", unfollowed := true, recurses := true, apart := false, narrowed := true }
def ConstructOrdersUptoSaid : Prop := constructOrdersUptoRow.holds Try.pinned (OpenSpec.upto constructOrdersSpec)

/-- 'talismanlaw03.ConstructMagic', WHERE WHAT IT READS IS OF BULK AT MOST 1048576: true; the input reads as it did. -/
def constructMagicUptoRow : OpenClaim := { program := "ytlapnehfjklpoaa", sum := "b5fb019ae412285e24806fe534de12add0708f97ae397b120c01bf9db3ff179b", func := "talisman/talismanlaw03.ConstructMagic", spec := "constructMagic", unfollowed := true, recurses := true, apart := false, narrowed := true }
def ConstructMagicUptoSaid : Prop := constructMagicUptoRow.holds Try.pinned (OpenSpec.upto constructMagicSpec)

end Rows
end Go.Proofs.Ytlapnehfjklpoaa
