/- For every list of lists of texts that fits into memory, the program's function talismanlaw01.AlgebraMatrices returns true: CheckMatrix, Echelon, MatrixRank and Kernel of the program's package algebra return what the reference returns, or the first error.
Conditions: those that the row prints; the listed variables of the library read as listed when the call begins, which the tie to the program's own text pays. -/
import Derived.Test.YteagkgagdelklaaGreatDoorZT48
import Derived.Test.YteagkgagdelklaaGreatDoorZT07
import Derived.Test.YteagkgagdelklaaGreatDoorZT47
namespace Go.Proofs.YteagkgagdelklaaGreatDoor
open Go.ChangeShapes Go.WideShapes Go.ChangeAt Go.RowKit Go.Lib
theorem BV:Rows.AlgebraMatricesSaid:=
 OpenClaim.holds_of_wide 3 Tryz.f3 rfl rfl rfl rfl rfl rfl rfl ⟨rfl,rfl,rfl,rfl,rfl⟩ rfl rfl rfl rfl rfl B6 Tryz.func3 BP BW Cb
  (fun os started H enc _=>BZ os started H enc)
theorem algebraMatrices_card_holds:Rows.AlgebraMatricesCardSaid:=
 Claim7.holds_tied_plain_at .later [] [.data,.data,.data,.sentinel,.sentinel] true (true, "a04ba91aff0254d3e1506f671f84e1a5658bbd78e0199d28c30e46d75adb2cd8") true
  BV (fun _ h=>by cases h) Ca (fun _ h=>by cases h) algebraMatrices_row_tie rfl ⟨rfl,rfl⟩ B4 rfl
  (fun f fn hf hfn=>by
   obtain rfl:f=3:=QaE (B5.symm.trans hf) |>.symm;obtain rfl:fn=Tryz.f3:=(QaE (Tryz.func3.symm.trans hfn)).symm
   exact⟨B0,fun j t ht=>by
    rw[Tryz.params3] at ht
    have hm:t∈[22]:=by simpa using Array.mem_of_getElem? ht
    exact(show Tryz.prog.wantsStandIn t=false by simpa using List.all_eq_true.1 B8 t hm)⟩)
  BU
#print axioms algebraMatrices_card_holds
