/- For every two texts that fit into memory, the program's function talismanlaw01.AlgebraNumbers returns true: Check, Add, Sub, Mul, Div and Compare of the program's package algebra return what the reference returns, or the first error (both texts of up to 60 bytes; for Check of the first one up to 1400).
Conditions: those that the row prints; the listed variables of the library read as listed when the call begins, which the tie to the program's own text pays. -/
import Derived.Test.YtneafcdfnhnpnaaGreatDoorZU34
import Derived.Test.YtneafcdfnhnpnaaGreatDoorZU36
import Derived.Test.YtneafcdfnhnpnaaGreatDoorZU37
namespace Go.Proofs.YtneafcdfnhnpnaaGreatDoor
open Go.ChangeShapes Go.WideShapes Go.ChangeAt Go.RowKit Go.Lib
theorem nums_holds:Rows.AlgebraNumbersSaid:=
 OpenClaim.holds_of_wide 3 Tryz.f3 rfl rfl rfl rfl rfl rfl rfl ⟨rfl,rfl,rfl,rfl,rfl⟩ rfl rfl rfl rfl rfl nums_named Tryz.func3 nums_closed nums_inst nums_wrap
  (fun os started H enc _=>nums_lifted os started H enc)
theorem algebraNumbers_card_holds:Rows.AlgebraNumbersCardSaid:=
 Claim7.holds_tied_plain_at .later [] [.data,.data,.data,.sentinel,.sentinel] true (true, "0378a7316a1b9cebf1aad75a524bff61c8dc37194e61793c5ae69bc144ae9d3c") true
  nums_holds (fun _ h=>by cases h) nums_wf (fun _ h=>by cases h) algebraNumbers_row_tie rfl ⟨rfl,rfl⟩ nums_main rfl
  (fun f fn hf hfn=>by
   obtain rfl:f=3:=Option.some.inj (nums_name.symm.trans hf) |>.symm
   obtain rfl:fn=Tryz.f3:=(Option.some.inj (Tryz.func3.symm.trans hfn)).symm
   exact⟨nums_looks,fun j t ht=>by
    rw[Tryz.params3] at ht
    have hm:t∈[22,22]:=by simpa using Array.mem_of_getElem? ht
    exact(show Tryz.prog.wantsStandIn t=false by simpa using List.all_eq_true.1 nums_stand t hm)⟩)
  nums_goes
#print axioms algebraNumbers_card_holds
end Go.Proofs.YtneafcdfnhnpnaaGreatDoor
