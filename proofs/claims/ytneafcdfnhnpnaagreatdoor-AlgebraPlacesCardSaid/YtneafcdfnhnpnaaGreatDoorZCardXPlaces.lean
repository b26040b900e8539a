/- For every two lists of integers that fit into memory, the program's function talismanlaw01.AlgebraPlaces returns true: Unrank finds the permutation with each rank, and Rank the rank of each permutation; of two permutations the one with the lesser rank comes first; the ranks of a permutation and of the one that is turned around have the sum n! - 1.
Conditions: those that the row prints; the listed variables of the library read as listed when the call begins, which the tie to the program's own text pays. -/
import Derived.Test.YtneafcdfnhnpnaaGreatDoorZX04
import Derived.Test.YtneafcdfnhnpnaaGreatDoorZX06
import Derived.Test.YtneafcdfnhnpnaaGreatDoorZX07
namespace Go.Proofs.YtneafcdfnhnpnaaGreatDoor
open Go.ChangeShapes Go.WideShapes Go.ChangeAt Go.RowKit Go.Lib

theorem places_holds : Rows.AlgebraPlacesSaid :=
  OpenClaim.holds_of_wide 12 Tryz.f12 rfl rfl rfl rfl rfl rfl rfl ⟨rfl, rfl, rfl, rfl, rfl⟩ rfl rfl rfl rfl rfl places_named Tryz.func12 places_closed places_inst places_wrap
    (fun os started H enc _ => places_lifted os started H enc)

theorem algebraPlaces_card_holds : Rows.AlgebraPlacesCardSaid :=
  Claim7.holds_tied_plain_at .later [] [.data, .data, .data, .sentinel, .sentinel] true (true, "0378a7316a1b9cebf1aad75a524bff61c8dc37194e61793c5ae69bc144ae9d3c") true
    places_holds (fun _ h => by cases h) places_wf (fun _ h => by cases h) algebraPlaces_row_tie rfl ⟨rfl, rfl⟩ places_main rfl
    (fun f fn hf hfn => by
      obtain rfl : f = 12 := Option.some.inj (places_name.symm.trans hf) |>.symm
      obtain rfl : fn = Tryz.f12 := (Option.some.inj (Tryz.func12.symm.trans hfn)).symm
      exact ⟨places_looks, fun j t ht => by
        rw [Tryz.params12] at ht
        have hm : t ∈ [50, 50] := by simpa using Array.mem_of_getElem? ht
        exact (show Tryz.prog.wantsStandIn t = false by simpa using List.all_eq_true.1 places_stand t hm)⟩)
    places_goes
#print axioms algebraPlaces_card_holds
end Go.Proofs.YtneafcdfnhnpnaaGreatDoor
