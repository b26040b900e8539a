/- For every two lists of integers and every two small integers that fit into memory, the program's function talismanlaw01.AlgebraGroups returns true: of permutations of up to 12 elements the power of a sum is the composition of the powers, the inverse is the power -1, the sign of a composition is the product of the signs, and the power by the least common multiple of the lengths of the cycles is the identity.
Conditions: those that the row prints; the listed variables of the library read as listed when the call begins, which the tie to the program's own text pays. -/
import Derived.Test.YtneafcdfnhnpnaaGreatDoorZG01
import Derived.Test.YtneafcdfnhnpnaaGreatDoorZG03
import Derived.Test.YtneafcdfnhnpnaaGreatDoorZG04
namespace Go.Proofs.YtneafcdfnhnpnaaGreatDoor
open Go.ChangeShapes Go.WideShapes Go.ChangeAt Go.RowKit Go.Lib

theorem groups_holds : Rows.AlgebraGroupsSaid :=
  OpenClaim.holds_of_wide 11 Tryz.f11 rfl rfl rfl rfl rfl rfl rfl ⟨rfl, rfl, rfl, rfl, rfl⟩ rfl rfl rfl rfl rfl groups_named Tryz.func11 groups_closed groups_inst groups_wrap
    (fun os started H enc _ => groups_lifted os started H enc)

theorem algebraGroups_card_holds : Rows.AlgebraGroupsCardSaid :=
  Claim7.holds_tied_plain_at .later [] [.data, .data, .data, .sentinel, .sentinel] true (true, "0378a7316a1b9cebf1aad75a524bff61c8dc37194e61793c5ae69bc144ae9d3c") true
    groups_holds (fun _ h => by cases h) groups_wf (fun _ h => by cases h) algebraGroups_row_tie rfl ⟨rfl, rfl⟩ groups_main rfl
    (fun f fn hf hfn => by
      obtain rfl : f = 11 := Option.some.inj (groups_name.symm.trans hf) |>.symm
      obtain rfl : fn = Tryz.f11 := (Option.some.inj (Tryz.func11.symm.trans hfn)).symm
      exact ⟨groups_looks, fun j t ht => by
        rw [Tryz.params11] at ht
        have hm : t ∈ [50, 50, 107] := by simpa using Array.mem_of_getElem? ht
        exact (show Tryz.prog.wantsStandIn t = false by simpa using List.all_eq_true.1 groups_stand t hm)⟩)
    groups_goes
#print axioms algebraGroups_card_holds
end Go.Proofs.YtneafcdfnhnpnaaGreatDoor
