/- Contract: the reference's inverse of a permutation. -/
import Derived.Test.YtneafcdfnhnpnaaGreatDoorZ16
import Derived.Deep.LoopGhost
namespace Go.Proofs.YtneafcdfnhnpnaaGreatDoor
open Go.RowKit

set_option maxRecDepth 100000 in
set_option maxHeartbeats 2000000 in
theorem refInvert_c (v : Value) (p : List Int) (w : World) (hv : Sl w 1 v (icells p)) (hp : PermL p) (hpl : p.length ≤ 1000) :
    Calls Tryz.prog 52 #[v] w fun e w' => ∃ u, e = .returned u ∧ Sl w' 1 u (icells (invL p)) ∧ Below w.heap.size w w' := by
  obtain ⟨A, c, rfl, hc1, hc2⟩ := hv.form
  simp only [icells_length] at hc1 hv ⊢
  have hmk := fun W => make_ints W p.length (by omega)
  have hB0 := (Below.refl w.heap.size w).alloc (Nat.le_refl _) (.cells (icells (List.replicate p.length 0)).toArray 3)
  have hO0 := Own.make w 3 (icells (List.replicate p.length 0))
  go_enter Tryz.func52, Tryz.ntmps52
  go_wp2_with fail
  go_loopg [4] p.length (fun g i wr => ∃ (k : Nat), k + g = p.length ∧ i = .int .i64 k ∧ Own wr w.heap.size 3 (icells (invFrom p k)) ∧ Below w.heap.size w wr)
  case atStart => exact ⟨0, by omega, rfl, hO0, hB0⟩
  case round =>
    clear hO0 hB0
    obtain ⟨k, hk, rfl, hO, hB⟩ := hrel
    cases gk with
    | zero =>
      have hkn : k = p.length := by omega
      have hin : ¬ ((k : Int) < (p.length : Int)) := by omega
      have hsl := hO.sl p.length (by rw [icells_length, invFrom_length]) (by omega)
      rw [hkn] at hsl
      have Hsl := Lib.hid hsl
      clear hsl hkn hk hp
      go_wp2
      go_ret
      exact ⟨_, rfl, Hsl.out, hB⟩
    | succ g =>
      have hlt : k < p.length := by omega
      obtain ⟨b1, off1, rfl, hbb1, hcell1⟩ := hv.at_ (k := k) (by rw [icells_length]; omega)
      have hck1 := (hB.cell (p := ⟨b1, off1 + k, none⟩) hbb1).trans ((hcell1 k (by rw [icells_length]; omega)).trans (icells_at p k hlt))
      have hx := hp.1 (p[k]?.getD 0) (by rw [List.getElem?_eq_getElem hlt]; exact List.getElem_mem hlt)
      have hst := Lib.hid (show invFrom p (k + 1) = (invFrom p k).set (p[k]?.getD 0).toNat k from rfl)
      generalize p[k]?.getD 0 = x at *
      obtain ⟨j, rfl⟩ := Int.eq_ofNat_of_zero_le hx.1
      have hjp : j < p.length := by omega
      have hck2 := (hO.cell j).trans (icells_at (invFrom p k) j (by rw [invFrom_length]; omega))
      have hfr := hO.free j
      have Hk := Lib.hid hk
      clear hcell1 hx hv hp hk
      go_wp2
      go_roundg g
      case rel => exact ⟨k + 1, by have := Hk.out; omega, by go_num, by rw [hst.out, ← icells_set]; exact hO.put j _, hB.setCell (by simp) _⟩
      case measure => omega

end Go.Proofs.YtneafcdfnhnpnaaGreatDoor
