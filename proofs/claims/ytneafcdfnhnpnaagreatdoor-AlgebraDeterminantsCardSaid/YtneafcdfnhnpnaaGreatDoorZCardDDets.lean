/- For every list of lists of texts that fits into memory, the program's function talismanlaw01.AlgebraDeterminants returns true: Determinant of the program's package algebra returns what the reference returns, or the first error.
Conditions: those that the row prints; the listed variables of the library read as listed when the call begins, which the tie to the program's own text pays. -/
import Derived.Test.YtneafcdfnhnpnaaGreatDoorZD50
import Derived.Test.YtneafcdfnhnpnaaGreatDoorZD08
import Derived.Test.YtneafcdfnhnpnaaGreatDoorZD04
namespace Go.Proofs.YtneafcdfnhnpnaaGreatDoor
open Go.ChangeShapes Go.WideShapes Go.ChangeAt Go.RowKit Go.Lib
theorem Ta:Rows.AlgebraDeterminantsSaid:=
 OpenClaim.holds_of_wide 9 Tryz.f9 rfl rfl rfl rfl rfl rfl rfl ⟨rfl,rfl,rfl,rfl,rfl⟩ rfl rfl rfl rfl rfl Tg Tryz.func9 S1 Tb Tj
  (fun os started H enc _=>Tc os started H enc)
theorem algebraDeterminants_card_holds:Rows.AlgebraDeterminantsCardSaid:=
 Claim7.holds_tied_plain_at .later [] [.data,.data,.data,.sentinel,.sentinel] true (true, "0378a7316a1b9cebf1aad75a524bff61c8dc37194e61793c5ae69bc144ae9d3c") true
  Ta (fun _ h=>by cases h) Ti (fun _ h=>by cases h) algebraDeterminants_row_tie rfl ⟨rfl,rfl⟩ Te rfl
  (fun f fn hf hfn=>by
   obtain rfl:f=9:=Option.some.inj (Tf.symm.trans hf) |>.symm;obtain rfl:fn=Tryz.f9:=(Option.some.inj (Tryz.func9.symm.trans hfn)).symm
   exact⟨Td,fun j t ht=>by
    rw[Tryz.params9] at ht
    have hm:t∈[74]:=by simpa using Array.mem_of_getElem? ht
    exact(show Tryz.prog.wantsStandIn t=false by simpa using List.all_eq_true.1 Th t hm)⟩)
  S9
#print axioms algebraDeterminants_card_holds
