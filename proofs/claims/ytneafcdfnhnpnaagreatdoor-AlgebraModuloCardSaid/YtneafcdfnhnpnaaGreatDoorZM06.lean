/- Contract: the rank of a matrix of integers modulo a prime number. -/
import Derived.Test.YtneafcdfnhnpnaaGreatDoorZ06
namespace Go.Proofs.YtneafcdfnhnpnaaGreatDoor
open Go.RowKit

theorem matInP {M : List (List Int)} {R : List RowI} {p : Int} (hp : 2 ≤ p) (hv : R.map (·.2.2) = modM p M) : InP p R := by
  intro r hr x hx
  have : r.2.2 ∈ modM p M := by rw [← hv]; exact List.mem_map_of_mem hr
  obtain ⟨q, _, hq⟩ := List.mem_map.1 this
  rw [← hq] at hx
  obtain ⟨y, _, rfl⟩ := List.mem_map.1 hx
  exact ⟨Int.emod_nonneg _ (by omega), Int.emod_lt_of_pos _ (by omega)⟩
def rkPost (M : List (List Int)) (p : Int) (w : World) (e : Ending) (w' : World) : Prop :=
  Below w.heap.size w w' ∧ ((matE M = 0 ∧ IsPr p ∧ p ≤ 999999999 ∧ ∃ (R : List RowI), R.map (·.2.2) = modM p M ∧
      e = .returned (.tuple #[.int .i64 ((elGo (resF p) ((M[0]?.map (·.length)).getD 0) R.length 0 ⟨R, [], [], false⟩).cols.length : Nat), .int .i64 0])) ∨
    (matE M = 0 ∧ ¬ (IsPr p ∧ p ≤ 999999999) ∧ e = .returned (.tuple #[.int .i64 0, .int .i64 15])) ∨ (matE M ≠ 0 ∧ e = .returned (.tuple #[.int .i64 0, .int .i64 (matE M)])))

set_option maxRecDepth 100000 in
set_option maxHeartbeats 2000000 in
theorem RankModulo_c (v : Value) (M : List (List Int)) (p : Int) (w : World) (hv : TblS w v M) :
    Calls Tryz.prog 86 #[v, .int .i64 p] w (rkPost M p w) := by
  have RM := Lib.hid (readModulo_c v M p w hv)
  clear hv
  go_enter Tryz.func86, Tryz.ntmps86
  go_wp2_with fail
  refine RM.out.mono ?_
  clear RM
  rintro e w1 ⟨hB1, ⟨hM, hp, hp2, g, R, rfl, hg, hnew, hmx, hvals⟩ | ⟨hM, hp, rfl⟩ | ⟨hM, rfl⟩⟩
  · have hn1 := (matE_ok hM).2.1
    have hm1 := (matE_ok hM).1
    have HRl : Hid (R.length = M.length) := Lib.hid (by have := congrArg List.length hvals; simpa [modM] using this)
    generalize hne : (M[0]?.map (·.length)).getD 0 = n at *
    have HN := Lib.hid hne
    have EL : Hid (Calls Tryz.prog 163 #[.iface 197 (.agg #[.int .i64 p]), .slice (some ⟨g, 0, none⟩) M.length M.length] w1 (elimPost p n g M.length R w1)) := Lib.hid (by
      have h := eliminateI_c p g M.length n R w1 hmx (by rw [HRl.out]; exact Nat.le_refl _) (by omega) (by omega) (PF.of_prime hp hp2) (matInP hp.1 hvals)
      rw [HRl.out] at h
      exact h)
    have HP := Lib.hid (And.intro hp hp2)
    have HM := Lib.hid hM
    have HB1 := Lib.hid hB1
    have HV := Lib.hid hvals
    have HNew : Hid (∀ k ∈ g :: R.map (·.1), w.heap.size ≤ k) := Lib.hid (by
      intro k hk
      rcases List.mem_cons.1 hk with rfl | hk
      · exact hg
      · obtain ⟨r, hr, rfl⟩ := List.mem_map.1 hk
        exact hnew r hr)
    clear hM hB1 hvals hnew hg hmx hp hp2 hne
    go_wp2_with fail
    refine EL.out.mono ?_
    clear EL
    rintro e w2 ⟨S, hS, cv, pv, rfl, _, hcv, hpv, hl1, hl2, hl3, _, _, hbs⟩
    obtain ⟨A1, k1, rfl, _, _⟩ := oForm hcv
    obtain ⟨A2, k2, rfl, _, _⟩ := oForm hpv
    have HB2 : Hid (Below w.heap.size w w2) := Lib.hid (HB1.out.trans ⟨hbs.os, hbs.tape, hbs.output, hbs.size, fun k hk => hbs.block k (Nat.lt_of_lt_of_le hk HB1.out.size) (fun hc => by have := HNew.out k hc; omega)⟩)
    have HS := Lib.hid hS
    have Hl := Lib.hid hl1
    clear hS hcv hpv hl1 hl2 hl3 hbs HNew HB1
    have hfd : ∀ W, (Instr.field 194 (.agg #[.slice (some ⟨g, 0, none⟩) S.piv.length M.length, .slice A1 S.cols.length k1, .slice A2 S.piv.length k2, .bool S.odd]) 0).run Tryz.prog W = .ok (.slice (some ⟨g, 0, none⟩) S.piv.length M.length) W := fun _ => by kernel_rfl
    go_wp2
    go_ret2
    exact ⟨HB2.out, .inl ⟨HM.out, HP.out.1, HP.out.2, R, HV.out, by rw [HN.out, ← HS.out, Hl.out]; rfl⟩⟩
  · have HM := Lib.hid hM
    have HP := Lib.hid hp
    have HB1 := Lib.hid hB1
    clear hM hp hB1
    go_wp2
    go_ret2
    exact ⟨HB1.out, .inr (.inl ⟨HM.out, HP.out, rfl⟩)⟩
  · have HM := Lib.hid hM
    have HB1 := Lib.hid hB1
    have hb : (matE M != 0) = true := by simpa using hM
    clear hM hB1
    obtain ⟨E, hE⟩ : ∃ E, E = matE M := ⟨_, rfl⟩
    have HE := Lib.hid hE
    rw [← hE] at hb ⊢
    clear hE
    go_wp2
    go_ret2
    exact ⟨HB1.out, .inr (.inr ⟨HM.out, by rw [HE.out]; rfl⟩)⟩
end Go.Proofs.YtneafcdfnhnpnaaGreatDoor
