/- For every text that fits into memory and every two machine integers, the program's function talismanlaw01.AlgebraIntegers returns true: IsName, Of, Gcd, Inverse and IsPrime of the program's package algebra return what the reference returns, or the first error.
Conditions: those that the row prints; the listed variables of the library read as listed when the call begins, which the tie to the program's own text pays. -/
import Derived.Test.YtneafcdfnhnpnaaGreatDoorZI10
import Derived.Test.YtneafcdfnhnpnaaGreatDoorZI12
import Derived.Test.YtneafcdfnhnpnaaGreatDoorZI13
namespace Go.Proofs.YtneafcdfnhnpnaaGreatDoor
open Go.ChangeShapes Go.WideShapes Go.ChangeAt Go.RowKit Go.Lib

theorem ints_holds : Rows.AlgebraIntegersSaid :=
  OpenClaim.holds_of_wide 4 Tryz.f4 rfl rfl rfl rfl rfl rfl rfl ⟨rfl, rfl, rfl, rfl, rfl⟩ rfl rfl rfl rfl rfl ints_named Tryz.func4 ints_closed ints_inst ints_wrap
    (fun os started H enc _ => ints_lifted os started H enc)

theorem algebraIntegers_card_holds : Rows.AlgebraIntegersCardSaid :=
  Claim7.holds_tied_plain_at .later [] [.data, .data, .data, .sentinel, .sentinel] true (true, "0378a7316a1b9cebf1aad75a524bff61c8dc37194e61793c5ae69bc144ae9d3c") true
    ints_holds (fun _ h => by cases h) ints_wf (fun _ h => by cases h) algebraIntegers_row_tie rfl ⟨rfl, rfl⟩ ints_main rfl
    (fun f fn hf hfn => by
      obtain rfl : f = 4 := Option.some.inj (ints_name.symm.trans hf) |>.symm
      obtain rfl : fn = Tryz.f4 := (Option.some.inj (Tryz.func4.symm.trans hfn)).symm
      exact ⟨ints_looks, fun j t ht => by
        rw [Tryz.params4] at ht
        have hm : t ∈ [9, 3, 3] := by simpa using Array.mem_of_getElem? ht
        exact (show Tryz.prog.wantsStandIn t = false by simpa using List.all_eq_true.1 ints_stand t hm)⟩)
    ints_goes
#print axioms algebraIntegers_card_holds
end Go.Proofs.YtneafcdfnhnpnaaGreatDoor
