/- For every two lists of integers and every integer that fit into memory, the program's function talismanlaw01.AlgebraPerms returns true: CheckPerm, Compose, Invert, Power, Cycles and Sign of the program's package algebra return what the reference returns, or the first error.
Conditions: those that the row prints; the listed variables of the library read as listed when the call begins, which the tie to the program's own text pays. -/
import Derived.Test.YtneafcdfnhnpnaaGreatDoorZP04
import Derived.Test.YtneafcdfnhnpnaaGreatDoorZP06
import Derived.Test.YtneafcdfnhnpnaaGreatDoorZP07
namespace Go.Proofs.YtneafcdfnhnpnaaGreatDoor
open Go.ChangeShapes Go.WideShapes Go.ChangeAt Go.RowKit Go.Lib

theorem perms_holds : Rows.AlgebraPermsSaid :=
  OpenClaim.holds_of_wide 5 Tryz.f5 rfl rfl rfl rfl rfl rfl rfl ⟨rfl, rfl, rfl, rfl, rfl⟩ rfl rfl rfl rfl rfl perms_named Tryz.func5 perms_closed perms_inst perms_wrap
    (fun os started H enc _ => perms_lifted os started H enc)

theorem algebraPerms_card_holds : Rows.AlgebraPermsCardSaid :=
  Claim7.holds_tied_plain_at .later [] [.data, .data, .data, .sentinel, .sentinel] true (true, "0378a7316a1b9cebf1aad75a524bff61c8dc37194e61793c5ae69bc144ae9d3c") true
    perms_holds (fun _ h => by cases h) perms_wf (fun _ h => by cases h) algebraPerms_row_tie rfl ⟨rfl, rfl⟩ perms_main rfl
    (fun f fn hf hfn => by
      obtain rfl : f = 5 := Option.some.inj (perms_name.symm.trans hf) |>.symm
      obtain rfl : fn = Tryz.f5 := (Option.some.inj (Tryz.func5.symm.trans hfn)).symm
      exact ⟨perms_looks, fun j t ht => by
        rw [Tryz.params5] at ht
        have hm : t ∈ [50, 50, 3] := by simpa using Array.mem_of_getElem? ht
        exact (show Tryz.prog.wantsStandIn t = false by simpa using List.all_eq_true.1 perms_stand t hm)⟩)
    perms_goes
#print axioms algebraPerms_card_holds
end Go.Proofs.YtneafcdfnhnpnaaGreatDoor
