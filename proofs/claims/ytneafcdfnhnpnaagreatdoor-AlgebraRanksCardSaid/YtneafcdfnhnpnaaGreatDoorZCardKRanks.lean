/- For every list of integers, every machine integer and every text that fit into memory, the program's function talismanlaw01.AlgebraRanks returns true: Rank and Unrank of the program's package algebra return what the reference returns, or the first error (lists of up to 30 or of 257 to 260 elements, numbers of elements up to 30 or above 256, texts of up to 40 bytes).
Conditions: those that the row prints; the listed variables of the library read as listed when the call begins, which the tie to the program's own text pays. -/
import Derived.Test.YtneafcdfnhnpnaaGreatDoorZK36
import Derived.Test.YtneafcdfnhnpnaaGreatDoorZK37
namespace Go.Proofs.YtneafcdfnhnpnaaGreatDoor
open Go.ChangeShapes Go.WideShapes Go.ChangeAt Go.RowKit Go.Lib
theorem AO:Rows.AlgebraRanksSaid:=
 OpenClaim.holds_of_wide 6 Tryz.f6 rfl rfl rfl rfl rfl rfl rfl ⟨rfl,rfl,rfl,rfl,rfl⟩ rfl rfl rfl rfl rfl AX Tryz.func6 AI AQ Ba
  (fun os started H enc _=>AR os started H enc)
theorem algebraRanks_card_holds:Rows.AlgebraRanksCardSaid:=
 Claim7.holds_tied_plain_at .later [] [.data,.data,.data,.sentinel,.sentinel] true (true, "0378a7316a1b9cebf1aad75a524bff61c8dc37194e61793c5ae69bc144ae9d3c") true
  AO (fun _ h=>by cases h) AZ (fun _ h=>by cases h) algebraRanks_row_tie rfl ⟨rfl,rfl⟩ AV rfl
  (fun f fn hf hfn=>by
   obtain rfl:f=6:=Option.some.inj (AW.symm.trans hf) |>.symm;obtain rfl:fn=Tryz.f6:=(Option.some.inj (Tryz.func6.symm.trans hfn)).symm
   exact⟨AU,fun j t ht=>by
    rw[Tryz.params6] at ht
    have hm:t∈[50,3,22]:=by simpa using Array.mem_of_getElem? ht
    exact(show Tryz.prog.wantsStandIn t=false by simpa using List.all_eq_true.1 AY t hm)⟩)
  AN
#print axioms algebraRanks_card_holds
