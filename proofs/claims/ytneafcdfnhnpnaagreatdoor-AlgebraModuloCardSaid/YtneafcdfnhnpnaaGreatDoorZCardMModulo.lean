/- For every list of lists of machine integers that fits into memory and every machine integer, the program's function talismanlaw01.AlgebraModulo returns true: RankModulo and KernelModulo of the program's package algebra return what the reference returns, or the first error.
Conditions: those that the row prints; the listed variables of the library read as listed when the call begins, which the tie to the program's own text pays. -/
import Derived.Test.YtneafcdfnhnpnaaGreatDoorZM08
import Derived.Test.YtneafcdfnhnpnaaGreatDoorZM10
import Derived.Test.YtneafcdfnhnpnaaGreatDoorZM11
namespace Go.Proofs.YtneafcdfnhnpnaaGreatDoor
open Go.ChangeShapes Go.WideShapes Go.ChangeAt Go.RowKit Go.Lib

theorem modulo_holds : Rows.AlgebraModuloSaid :=
  OpenClaim.holds_of_wide 10 Tryz.f10 rfl rfl rfl rfl rfl rfl rfl ⟨rfl, rfl, rfl, rfl, rfl⟩ rfl rfl rfl rfl rfl modulo_named Tryz.func10 modulo_closed modulo_inst modulo_wrap
    (fun os started H enc _ => modulo_lifted os started H enc)

theorem algebraModulo_card_holds : Rows.AlgebraModuloCardSaid :=
  Claim7.holds_tied_plain_at .later [] [.data, .data, .data, .sentinel, .sentinel] true (true, "0378a7316a1b9cebf1aad75a524bff61c8dc37194e61793c5ae69bc144ae9d3c") true
    modulo_holds (fun _ h => by cases h) modulo_wf (fun _ h => by cases h) algebraModulo_row_tie rfl ⟨rfl, rfl⟩ modulo_main rfl
    (fun f fn hf hfn => by
      obtain rfl : f = 10 := Option.some.inj (modulo_name.symm.trans hf) |>.symm
      obtain rfl : fn = Tryz.f10 := (Option.some.inj (Tryz.func10.symm.trans hfn)).symm
      exact ⟨modulo_looks, fun j t ht => by
        rw [Tryz.params10] at ht
        have hm : t ∈ [57, 3] := by simpa using Array.mem_of_getElem? ht
        exact (show Tryz.prog.wantsStandIn t = false by simpa using List.all_eq_true.1 modulo_stand t hm)⟩)
    modulo_goes
#print axioms algebraModulo_card_holds
end Go.Proofs.YtneafcdfnhnpnaaGreatDoor
