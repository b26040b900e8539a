/- Contract: the reference's powers of a permutation. -/
import Derived.Test.YtneafcdfnhnpnaaGreatDoorZ19
namespace Go.Proofs.YtneafcdfnhnpnaaGreatDoor
open Go.RowKit Go.Lib

theorem TI.at_ {w : World} {base : Nat} {A : Option Addr} {n c : Nat} {M : List (List Int)} (h : TI w base (.slice A n c) M) (hn : n = M.length) {i : Nat} {x : List Int} (hx : M[i]? = some x) :
    ∃ g A2 c2, A = some ⟨g, 0, none⟩ ∧ base ≤ g ∧ g < w.heap.size ∧ w.cell? ⟨g, i, none⟩ = some (.slice A2 x.length c2) ∧ x.length ≤ c2 ∧ ∃ bx, base ≤ bx ∧ w.ownsRow bx 3 1 (.slice A2 x.length c2) x.length (icells x) := by
  obtain ⟨vs, h1, h2, h3⟩ := h
  subst hn
  have hi := (List.getElem?_eq_some_iff.1 hx).1
  obtain ⟨g, rfl, hg, hlt, hc⟩ := oCell h1 hi
  obtain ⟨u, bx, hu, hb, ho⟩ := h3 i x hx
  obtain ⟨A2, c2, rfl, hc2, _⟩ := oForm ho
  exact ⟨g, A2, c2, rfl, hg, hlt, (hc i hi).trans hu, hc2, bx, hb, ho⟩

set_option maxRecDepth 100000 in
set_option maxHeartbeats 8000000 in
theorem refPower_c (v : Value) (p : List Int) (k : Int) (w : World) (hv : Sl w 1 v (icells p)) (hp : PermL p) (hl : p.length ≤ 256) :
    Calls Tryz.prog 53 #[v, .int .i64 k] w fun e w' => ∃ u, e = .returned u ∧ Sl w' 1 u (icells (powL p k)) ∧ Below w.heap.size w w' := by
  obtain ⟨A, c, rfl, hc1, hc2⟩ := hv.form
  simp only [icells_length] at hc1 hv ⊢
  have hmk := fun W => make_ints W p.length (by omega)
  have RC := Lib.hid (refCycles_c _ p (w.alloc (.cells (icells (List.replicate p.length 0)).toArray 3)) (hv.alloc _) hp hl)
  have HP := Lib.hid hp
  clear hv hp
  go_enter Tryz.func53, Tryz.ntmps53
  go_wp2_with fail
  refine RC.out.mono ?_
  clear RC
  rintro e w2 ⟨lv, rfl, hT, hB2⟩
  have hO2 := (Own.make w 3 (icells (List.replicate p.length 0))).below hB2 (by simp)
  have hBw : Below w.heap.size w w2 := ((Below.refl _ w).alloc (Nat.le_refl _) _).trans (hB2.mono (by simp))
  simp only [World.size_alloc] at hT
  have hs2 := hB2.size
  simp only [World.size_alloc] at hs2
  clear hB2 hmk
  obtain ⟨cs, hcs⟩ : ∃ cs, cycs p = cs := ⟨_, rfl⟩
  rw [hcs] at hT
  obtain ⟨A5, c5, rfl, hc5, _⟩ := hT.form
  have hcl : cs.length ≤ 256 := by rw [← hcs]; exact Nat.le_trans (cycs_len p) hl
  have HT := Lib.hid hT
  have HBw := Lib.hid hBw
  have HCS := Lib.hid hcs
  have HO2 := Lib.hid (show Own w2 w.heap.size 3 (icells (powTo p k (cs.take 0))) from hO2)
  clear hT hBw hO2 hcs
  go_wp2_with fail
  go_loopg [7] cs.length (fun gh ix wr => ∃ i : Nat, ix = .int .i64 i ∧ i + gh = cs.length ∧ Hid (Own wr w.heap.size 3 (icells (powTo p k (cs.take i)))) ∧ Hid (But w.heap.size w2 wr))
  case atStart => exact ⟨0, rfl, by omega, HO2, Lib.hid (But.refl _ _)⟩
  case round =>
    obtain ⟨i, rfl, hi, hO, hW⟩ := hrel
    cases gk with
    | zero =>
      have hin : ¬ ((i : Int) < (cs.length : Int)) := by omega
      have hii : i = cs.length := by omega
      subst hii
      go_wp2
      go_ret
      refine ⟨_, rfl, ?_, HBw.out.trans (hW.out.toBelow (Nat.le_refl _) HBw.out.size)⟩
      have := hO.out
      rw [List.take_length, ← HCS.out] at this
      exact this.sl _ (by rw [icells_length, powTo_len]) (by omega)
    | succ gh =>
      have hin : ((i : Int) < (cs.length : Int)) := by omega
      have hil : i < cs.length := by omega
      obtain ⟨x, hx⟩ : ∃ x, cs[i]? = some x := ⟨cs[i], List.getElem?_eq_getElem hil⟩
      have hT1 := HT.out.keep (w' := wr) (fun k' h1 h2 => hW.out.block k' h2 (by omega))
      obtain ⟨g, A2, c2, rfl, hgb, hgl, hgc, hxc, bx, hbx, hrow⟩ := hT1.at_ rfl hx
      have hxl : x.length ≤ 256 := Nat.le_trans (cycTo_short p p.length x (by rw [show (cycTo p p.length).1 = cycs p from rfl, HCS.out]; exact List.mem_of_getElem? hx)) hl
      have hxm : ∀ y ∈ x, 0 ≤ y ∧ y < p.length := cycTo_mem p p.length x (by rw [show (cycTo p p.length).1 = cycs p from rfl, HCS.out]; exact List.mem_of_getElem? hx)
      have HXM := Lib.hid hxm
      have HRow := Lib.hid hrow
      have HX := Lib.hid hx
      have hsn : cs.take (i + 1) = cs.take i ++ [x] := by rw [List.take_add_one, hx]; rfl
      have HPW : Hid (powTo p k (cs.take (i + 1)) = powR x (k % (x.length : Int)).toNat (powTo p k (cs.take i)) x.length) := Lib.hid (by rw [hsn, powTo_snoc]; rfl)
      have hrl := powTo_len p k (cs.take i)
      have HRL := Lib.hid hrl
      have HI := Lib.hid hi
      have hwl := hO.out.lt
      obtain ⟨r0, hr0⟩ : ∃ r0, powTo p k (cs.take i) = r0 := ⟨_, rfl⟩
      rw [hr0] at hO HPW HRL
      clear hT1 hxm hrow hx hsn hrl hi hr0
      go_wp2_with fail
      go_loopg [9] x.length (fun gh2 jx wx => ∃ j : Nat, jx = .int .i64 j ∧ j + gh2 = x.length ∧ Hid (Own wx w.heap.size 3 (icells (powR x (k % (x.length : Int)).toNat r0 j))) ∧ Hid (But w.heap.size wr wx))
      case atStart => exact ⟨0, rfl, by omega, hO, Lib.hid (But.refl _ _)⟩
      case round =>
        obtain ⟨j, rfl, hj, hOx, hWx⟩ := hrel
        cases gk with
        | zero =>
          have hjn : ¬ ((j : Int) < (x.length : Int)) := by omega
          have hjj : j = x.length := by omega
          subst hjj
          have hO3 := hOx.out
          rw [← HPW.out] at hO3
          have HO3 := Lib.hid hO3
          have HW3 := Lib.hid (hW.out.trans hWx.out)
          clear hO3
          go_wp2_with fail
          go_roundg gh
          case rel => exact ⟨i + 1, by go_num, by have := HI.out; omega, HO3, HW3⟩
          case measure => omega
        | succ gh2 =>
          have hjn : ((j : Int) < (x.length : Int)) := by omega
          have hjl : j < x.length := by omega
          have hn0 : 0 < x.length := by omega
          have hnz2 : (x.length : Int) ≠ 0 := by omega
          obtain ⟨t, ht⟩ := Int.eq_ofNat_of_zero_le (Int.emod_nonneg k hnz2)
          have htn : (t : Int) < (x.length : Int) := by rw [← ht]; exact Int.emod_lt_of_pos k (by omega)
          have MD := Lib.hid (fun W => refMod_c k x.length W (by omega) (by omega))
          rw [ht] at hOx MD
          rw [Int.toNat_natCast] at hOx
          have hjt : (j + t) % x.length < x.length := Nat.mod_lt _ hn0
          obtain ⟨g2, rfl, hg2, hg2l, hgc2⟩ := oCell HRow.out hjl
          have hgcx := (World.cell?_of_block (a := ⟨g, i, none⟩) (hWx.out.block g hgl (by omega))).trans hgc
          have hc1 := (World.cell?_of_block (a := ⟨g2, j, none⟩) (hWx.out.block g2 hg2l (by omega))).trans ((hgc2 j hjl).trans (icells_at x j hjl))
          have hc2' := (World.cell?_of_block (a := ⟨g2, (j + t) % x.length, none⟩) (hWx.out.block g2 hg2l (by omega))).trans ((hgc2 _ hjt).trans (icells_at x _ hjt))
          have hxj := HXM.out (x[j]?.getD 0) (by rw [List.getElem?_eq_getElem hjl]; exact List.getElem_mem hjl)
          have hpr : powR x t r0 (j + 1) = (powR x t r0 j).set (x[j]?.getD 0).toNat (x[(j + t) % x.length]?.getD 0) := rfl
          have hHP : Hid (∀ j', powR x (k % (x.length : Int)).toNat r0 j' = powR x t r0 j') := Lib.hid (fun j' => by rw [ht, Int.toNat_natCast])
          have hwj := Lib.hid (IntWalk.wrap64_in ((j : Int) + (t : Int)) (by omega))
          have hwk : Hid (IntKind.i64.wrap ((j : Int) + (t : Int)) = (j : Int) + (t : Int)) := Lib.hid (wrapI _ (by omega))
          have htm : ((j : Int) + (t : Int)).tmod (x.length : Int) = (((j + t) % x.length : Nat) : Int) := by
            rw [Int.tmod_eq_emod_of_nonneg (by omega)]; simp
          have hOl := hOx.out.lt
          generalize (j + t) % x.length = jt at *
          have hjt1 : (jt : Int) < (x.length : Int) := Int.ofNat_lt.2 hjt
          have hnz : ((x.length : Int) == 0) = false := beq_eq_false_iff_ne.2 hnz2
          have hne : ¬ x = [] := List.length_pos_iff.1 hn0
          have hne2 : ¬ x.length = 0 := by omega
          generalize x[j]?.getD 0 = y at *
          generalize x[jt]?.getD 0 = z at *
          obtain ⟨m, rfl⟩ := Int.eq_ofNat_of_zero_le hxj.1
          have hm : m < p.length := by omega
          rw [Int.toNat_natCast] at hpr
          have hfr := hOx.out.free m
          have hcm := hOx.out.cell m
          rw [icells_at _ m (by rw [powR_len, HRL.out]; exact hm)] at hcm
          generalize (powR x t r0 j)[m]?.getD 0 = zz at *
          have HPR := Lib.hid hpr
          have HTM := Lib.hid htm
          have HKT := Lib.hid ht
          have HJ := Lib.hid hj
          clear hpr hxj hgc2 htm ht hj hgc HT
          go_wp2_with fail
          have htm := HTM.out
          have hwj' := hwj.out
          have hwk' := hwk.out
          clear HTM hwj hwk
          go_region_with (first | (go_at_call 134; refine (MD.out _).mono ?_; rintro ee w' ⟨rfl, rfl⟩))
          all_goals (
            have hOe := hOx.out.put m (.int .i64 z)
            rw [icells_set, ← HPR.out, ← hHP.out] at hOe
            have HOe : Hid (Own (wr.setCell ⟨w.heap.size, m, none⟩ (.int .i64 z)).drew w.heap.size 3 (icells (powR x (k % (x.length : Int)).toNat r0 (j + 1)))) := Lib.hid hOe
            have HBd := Lib.hid (hWx.out.setCell ⟨w.heap.size, m, none⟩ rfl (.int .i64 z)).drew
            clear hOe hgcx hc1 hc2' hcm hfr htm hwj' hwk'
            go_wp2
            go_roundg gh2
            case rel => exact ⟨j + 1, by go_num, by have := HJ.out; omega, HOe, HBd⟩
            case measure => omega)
end Go.Proofs.YtneafcdfnhnpnaaGreatDoor
