/- Contracts of the reference: whether a list has a number. -/
import Derived.Test.YtneafcdfnhnpnaaGreatDoorZ01
import Derived.Test.YtneafcdfnhnpnaaGreatDoorZM04
import Derived.Test.YtneafcdfnhnpnaaGreatDoorZ11
import Derived.Test.YtneafcdfnhnpnaaGreatDoorZM03
namespace Go.Proofs.YtneafcdfnhnpnaaGreatDoor
open Go.RowKit

theorem has_step {p : List Int} {k : Nat} {x : Int} {r : Bool} (hk : k < p.length) (h : (p.drop k).contains x = r) (he : p[k]?.getD 0 ≠ x) : (p.drop (k + 1)).contains x = r := by
  rw [List.getElem?_eq_getElem hk, Option.getD_some] at he
  rw [← h, List.drop_eq_getElem_cons hk, List.contains_cons]
  have : (x == p[k]) = false := by simpa using fun h => he h.symm
  rw [this, Bool.false_or]
theorem has_there {p : List Int} {k : Nat} {x : Int} {r : Bool} (hk : k < p.length) (h : (p.drop k).contains x = r) (he : p[k]?.getD 0 = x) : r = true := by
  rw [List.getElem?_eq_getElem hk, Option.getD_some] at he
  rw [← h, List.drop_eq_getElem_cons hk, List.contains_cons, he]
  simp

set_option maxRecDepth 100000 in
set_option maxHeartbeats 2000000 in
theorem refHas_c (v : Value) (p : List Int) (x : Int) (w : World) (hv : SlW w v (icells p)) :
    Calls Tryz.prog 151 #[v, .int .i64 x] w fun e w' => e = .returned (.bool (p.contains x)) ∧ Below w.heap.size w w' := by
  obtain ⟨A, c, rfl, hc1, hc2⟩ := hv.form
  simp only [icells_length] at hc1 hc2 hv ⊢
  obtain ⟨r, hr⟩ : ∃ r, p.contains x = r := ⟨_, rfl⟩
  have HR := Lib.hid hr
  rw [hr]
  clear hr
  go_enter Tryz.func151, Tryz.ntmps151
  go_wp2_with fail
  go_loopg [5] p.length (fun g i wr => ∃ (k : Nat), k + g = p.length ∧ i = .int .i64 k ∧ Hid ((p.drop k).contains x = r) ∧ Below w.heap.size w wr)
  case atStart => exact ⟨0, by omega, rfl, Lib.hid (by rw [List.drop_zero]; exact HR.out), Below.refl _ _⟩
  case round =>
    obtain ⟨k, hk, rfl, hD, hB⟩ := hrel
    cases gk with
    | zero =>
      have hin : ¬ ((k : Int) < (p.length : Int)) := by omega
      have HT : Hid (r = false) := Lib.hid (by rw [← hD.out, List.drop_eq_nil_of_le (by omega)]; rfl)
      clear hk
      go_wp2
      go_ret
      exact ⟨by rw [HT.out]; rfl, hB⟩
    | succ g =>
      have hlt : k < p.length := by omega
      obtain ⟨b1, off1, rfl, hbb1, hcell1⟩ := hv.at_ (k := k) (by rw [icells_length]; omega)
      have hck1 := (hB.cell (p := ⟨b1, off1 + k, none⟩) hbb1).trans ((hcell1 k (by rw [icells_length]; omega)).trans (icells_at p k hlt))
      have Hstep := Lib.hid (fun he => has_step hlt hD.out he)
      have Hthere := Lib.hid (fun he => has_there hlt hD.out he)
      have Hk := Lib.hid hk
      clear hcell1 hv hk
      generalize p[k]?.getD 0 = y at *
      by_cases he : y = x
      · have HF : Hid (r = true) := Lib.hid (Hthere.out he)
        have hxy : (y == x) = true := by simp [he]
        clear he
        go_wp2
        go_ret
        exact ⟨by rw [HF.out]; rfl, hB⟩
      · have Hs := Lib.hid (Hstep.out he)
        have hxy : (y == x) = false := by simp [he]
        clear he
        go_wp2
        go_roundg g
        case rel => exact ⟨k + 1, by have := Hk.out; omega, by go_num, Hs, hB⟩
        case measure => omega
end Go.Proofs.YtneafcdfnhnpnaaGreatDoor
/- Contract of the reference: KernelModulo. -/
namespace Go.Proofs.YtneafcdfnhnpnaaGreatDoor
open Go.RowKit Go.Lib

noncomputable def keRow (p : Int) (n : Nat) (S : ElS Int) (f : Nat) : List Int := nsSet (resF p) 0 S f S.cols.length ((List.replicate n 0).set f 1)
noncomputable def keTo (p : Int) (n : Nat) (S : ElS Int) (k : Nat) : List (List Int) := ((List.range k).filter (fun c => !S.cols.contains c)).map (keRow p n S)
theorem keTo_skip {p : Int} {n k : Nat} {S : ElS Int} (h : S.cols.contains k = true) : keTo p n S (k + 1) = keTo p n S k := by
  unfold keTo; rw [List.range_succ, List.filter_append]; simp only [List.filter, h, Bool.not_true, List.append_nil]
theorem keTo_add {p : Int} {n k : Nat} {S : ElS Int} (h : S.cols.contains k = false) : keTo p n S (k + 1) = keTo p n S k ++ [keRow p n S k] := by
  unfold keTo; rw [List.range_succ, List.filter_append]; simp only [List.filter, h, Bool.not_false, List.map_append, List.map_cons, List.map_nil]
theorem keTo_length (p : Int) (n : Nat) (S : ElS Int) (k : Nat) : (keTo p n S k).length ≤ k := by
  unfold keTo; rw [List.length_map]; exact Nat.le_trans (List.length_filter_le _ _) (by simp)
theorem keTo_rows {p : Int} {n k : Nat} {S : ElS Int} : ∀ r ∈ keTo p n S k, r.length = n := by
  intro r hr
  obtain ⟨f, _, rfl⟩ := List.mem_map.1 hr
  unfold keRow; rw [nsSet_length]; simp
def wid (M : List (List Int)) : Nat := (M[0]?.map (·.length)).getD 0
theorem keTo_wid {p : Int} {n k : Nat} {S : ElS Int} : ∀ r ∈ keTo p n S k, r.length = (((keTo p n S k)[0]?).map (·.length)).getD 0 := by
  intro r hr
  rw [keTo_rows r hr]
  cases h : keTo p n S k with
  | nil => rw [h] at hr; cases hr
  | cons a t => simp; exact (keTo_rows a (by rw [h]; simp)).symm
theorem keTo_wid_le {p : Int} {n k : Nat} {S : ElS Int} : (((keTo p n S k)[0]?).map (·.length)).getD 0 ≤ n := by
  cases h : keTo p n S k with
  | nil => simp
  | cons a t => simp; exact Nat.le_of_eq (keTo_rows a (by rw [h]; simp))
theorem ncells_eq (L : List Nat) : ncells L = icells (L.map fun (x : Nat) => (x : Int)) := by simp [ncells, icells, Function.comp_def]
theorem contains_cast (L : List Nat) (k : Nat) : (L.map fun (x : Nat) => (x : Int)).contains (k : Int) = L.contains k := by
  induction L with
  | nil => rfl
  | cons a t ih =>
    rw [List.map_cons, List.contains_cons, List.contains_cons, ih]
    congr 1
    by_cases h : k = a
    · subst h; simp
    · rw [beq_false_of_ne h, beq_false_of_ne (by omega)]
theorem set_one (n k : Nat) : icells (List.replicate n 0) = List.replicate n (.int .i64 0) ∧ (icells (List.replicate n 0)).set k (.int .i64 1) = icells ((List.replicate n 0).set k 1) := ⟨by simp [icells], icells_set ..⟩

/-- what KernelModulo of the reference leaves -/
def rkmPost (p : Int) (M : List (List Int)) (w : World) (e : Ending) (w' : World) : Prop :=
  Below w.heap.size w w' ∧ ∃ (R Ro : List RowI) (S Z : ElS Int) (v : Value), R.map (·.2.2) = modM p M ∧ S = elGo (resF p) (wid M) R.length 0 ⟨R, [], [], false⟩ ∧ Ro.map (·.2.2) = modM p (keTo p (wid M) S (wid M)) ∧
    Z = elGo (resF p) (wid (keTo p (wid M) S (wid M))) Ro.length 0 ⟨Ro, [], [], false⟩ ∧ e = .returned v ∧ TblW w' v ((Z.rows.take Z.cols.length).map (·.2.2))

/-- what elimination leaves, as far as indices go -/
theorem el_bounds {p : Int} (hp : PF p) {M : List (List Int)} {R : List RowI} {n : Nat} (hR : R.map (·.2.2) = modM p M) (hr : ∀ r ∈ M, r.length = n) :
    Good (fun x => 0 ≤ x ∧ x < p) R.length n (elGo (resF p) n R.length 0 ⟨R, [], [], false⟩).rows ∧ (∀ i, i < (elGo (resF p) n R.length 0 ⟨R, [], [], false⟩).cols.length → colF (elGo (resF p) n R.length 0 ⟨R, [], [], false⟩) i < n) ∧
    (elGo (resF p) n R.length 0 ⟨R, [], [], false⟩).cols.length ≤ R.length := by
  have hG : Good (fun x => 0 ≤ x ∧ x < p) R.length n R := by
    refine ⟨rfl, fun i hi => ?_⟩
    have e := List.getElem?_eq_getElem hi
    rw [rowOf_eq e]
    have hm : (R[i]).2.2 ∈ modM p M := by rw [← hR]; exact List.mem_map_of_mem (List.getElem_mem hi)
    obtain ⟨q, hq, hqe⟩ := List.mem_map.1 hm
    rw [← hqe]
    refine ⟨by rw [List.length_map]; exact hr q hq, fun x hx => ?_⟩
    obtain ⟨y, _, rfl⟩ := List.mem_map.1 hx
    exact mod_in hp y
  obtain ⟨G, -, -, d1, -, -, -, -, -, d2⟩ := @elEnd_red (Zp p) (fieldZ hp) Int (resF p) _ _ R.length n (resHom hp) R hG
  exact ⟨G, d1, d2⟩

set_option maxRecDepth 100000 in
set_option maxHeartbeats 8000000 in
theorem refKernelM_c (v : Value) (M : List (List Int)) (p : Int) (w : World) (hv : TblW w v M) (hm : M.length ≤ 256) (hn : (M[0]?.map (·.length)).getD 0 ≤ 256) (hr : ∀ r ∈ M, r.length = (M[0]?.map (·.length)).getD 0) (hp : PF p) (hp9 : p ≤ 999999999) :
    Calls Tryz.prog 91 #[v, .int .i64 p] w (rkmPost p M w) := by
  have PV := Lib.hid (refPivots_c v M p w hv hm hn hr hp hp9)
  have HV := Lib.hid hv
  obtain ⟨vs, hvs, hvl, hvr⟩ := hv
  obtain ⟨A, c, rfl, hc1, hc2⟩ := hvs.form
  rw [hvl] at hvs hc1
  rw [hvl] at PV HV ⊢
  have HP := Lib.hid hp
  have HR := Lib.hid hr
  have hp1 : 2 ≤ p := hp.1
  obtain ⟨s0, hs0, hsz0, hsz1, hsz2⟩ := info_parts info_sli
  obtain ⟨n, hnn⟩ : ∃ n, n = (M[0]?.map (·.length)).getD 0 := ⟨_, rfl⟩
  have HN := Lib.hid hnn
  rw [← hnn] at hn
  have MD := Lib.hid (fun (a : Int) (W : World) => refMod2_c a p W (by omega) (by omega))
  have H0 : Hid (0 < M.length → ∃ b off k0 B0, A = some ⟨b, off, none⟩ ∧ b < w.heap.size ∧ w.cell? ⟨b, off + 0, none⟩ = some (.slice B0 n k0)) := Lib.hid (fun h0 => by
    obtain ⟨v1, hv1, hs1⟩ := hvr 0 _ (List.getElem?_eq_getElem h0)
    obtain ⟨b1, off1, hA, hbb1, hcell1⟩ := hvs.at_ (k := 0) (by rw [hvl]; omega)
    obtain ⟨A1, c1, rfl, ha1, ha2⟩ := hs1.form
    refine ⟨b1, off1, c1, A1, hA, hbb1, ((hcell1 0 (by rw [hvl]; omega)).trans hv1).trans ?_⟩
    rw [icells_length, hnn, List.getElem?_eq_getElem h0]; rfl)
  clear hvr hp hr hnn hvs
  go_enter Tryz.func91, Tryz.ntmps91
  go_wp2_with fail
  refine PV.out.mono ?_
  clear PV
  rintro e w1 ⟨hB1, R, S, vE, vC, hRv, hS, rfl, hTE, hSC, hq⟩
  have HB1 := Lib.hid hB1
  have HRV := Lib.hid hRv
  have HS := Lib.hid hS
  obtain ⟨hG, hcl, _⟩ := el_bounds HP.out hRv (fun r h => (HR.out r h).trans HN.out.symm)
  rw [HN.out, ← hS, ← HN.out] at hG hcl
  have HG := Lib.hid hG
  have HCL := Lib.hid hcl
  have HTE := Lib.hid hTE
  have HSC := Lib.hid hSC
  have hqr : S.cols.length ≤ 256 := by
    have := congrArg List.length hRv
    rw [List.length_map] at this
    unfold modM at this
    rw [List.length_map] at this
    omega
  obtain ⟨AC, kC, rfl, hkC1, hkC2⟩ := hSC.form
  have hnl : (ncells S.cols).length = S.cols.length := by simp [ncells]
  rw [hnl] at hkC1 HSC ⊢
  clear hB1 hRv hS hG hcl hTE hSC hnl
  by_cases hm0 : M.length = 0
  · have hin : ¬ ((0 : Int) < (M.length : Int)) := by omega
    have hM : M = [] := List.length_eq_zero_iff.1 hm0
    have hn0 : n = 0 := by rw [HN.out, hM]; rfl
    have HKE : Hid (keTo p n S n = []) := Lib.hid (by rw [hn0]; rfl)
    have PV2 := Lib.hid (refPivots_c nilV [] p w1 ⟨[], oSl (World.ownsRow_nil w1 0 50 1) (by omega), rfl, fun i r h => by simp at h⟩ (by simp) (by simp) (by simp) HP.out hp9)
    clear H0 HTE HSC HG HCL hm0 hM
    go_wp2_with fail
    go_loopg [7, 9] 0 (fun gh ov ci wx => ov = nilV ∧ ci = .int .i64 0 ∧ w1 = wx)
    case atStart => exact ⟨rfl, rfl, rfl⟩
    case round =>
      obtain ⟨rfl, rfl, rfl⟩ := hrel
      go_wp2_with fail
      refine PV2.out.mono ?_
      rintro e w3 ⟨hB3, Ro, Z, vO, vU, hRo, hZ, rfl, hTO, _, _⟩
      have HF : Hid (rkmPost p M w (.returned vO) w3) := Lib.hid ⟨HB1.out.trans (hB3.mono HB1.out.size), R, Ro, S, Z, vO, HRV.out, HS.out, by unfold wid; rw [← HN.out, HKE.out]; exact hRo, by unfold wid; rw [← HN.out, HKE.out]; exact hZ, rfl, hTO⟩
      clear hRo hZ hTO PV2 hB3
      go_wp2
      go_ret
      exact HF.out
  · have hin : ((0 : Int) < (M.length : Int)) := by omega
    have hinN : 0 < M.length := by omega
    obtain ⟨b, off, k0, B0, rfl, hbl, hc0⟩ := H0.out (by omega)
    have hc0w := (HB1.out.cell (p := ⟨b, off + 0, none⟩) hbl).trans hc0
    rw [Nat.add_zero] at hc0w
    have hbl1 := Nat.lt_of_lt_of_le hbl HB1.out.size
    obtain ⟨us, hus, hul, hur⟩ := HTE.out
    obtain ⟨AE, kE, rfl, hE1, hE2⟩ := hus.form
    have hul2 : us.length = S.cols.length := by
      rw [hul, List.length_map, List.length_take, HG.out.1]
      omega
    rw [hul2] at hus hE1 ⊢
    have HUS := Lib.hid hus
    have HUR := Lib.hid hur
    have HUL := Lib.hid hul2
    clear H0 hm0 hc0 HTE hus hur hul hul2
    go_wp2_with fail
    clear hc0w hbl1
    go_loopg [7, 9] n (fun gh ov ci wx => ∃ (k : Nat) (C : List (Nat × List Int)), ci = .int .i64 k ∧ k + gh = n ∧ Hid (C.map (·.2) = keTo p n S k) ∧ Hid (TblO wx w1.heap.size ov C) ∧ Hid (Below w1.heap.size w1 wx))
    case atStart => exact ⟨0, [], rfl, by omega, Lib.hid rfl, Lib.hid ⟨World.ownsRow_nil _ _ _ _, by simp⟩, Lib.hid (Below.refl _ _)⟩
    case round =>
      obtain ⟨k, C, rfl, hk, hC, hO, hW⟩ := hrel
      have hCl : C.length ≤ k := by
        have h1 := congrArg List.length hC.out
        rw [List.length_map] at h1
        rw [h1]; exact keTo_length ..
      obtain ⟨A7, k7, hu7, hk71, hk72⟩ := oForm hO.out.1
      subst hu7
      cases gk with
      | zero =>
        have hin2 : ¬ ((k : Int) < (n : Int)) := by omega
        have hkn : k = n := by omega
        subst hkn
        have hTW := hO.out.tblW (by omega)
        rw [hC.out] at hTW
        have PV2 := Lib.hid (refPivots_c _ (keTo p k S k) p wr hTW (Nat.le_trans (keTo_length ..) hn) (Nat.le_trans keTo_wid_le hn) keTo_wid HP.out hp9)
        have HBr := Lib.hid (HB1.out.trans (hW.out.mono HB1.out.size))
        clear hTW hO hC hk hW
        go_wp2_with fail
        refine PV2.out.mono ?_
        rintro e w3 ⟨hB3, Ro, Z, vO, vU, hRo, hZ, rfl, hTO, _, _⟩
        have HF : Hid (rkmPost p M w (.returned vO) w3) := Lib.hid ⟨HBr.out.trans (hB3.mono HBr.out.size), R, Ro, S, Z, vO, HRV.out, HS.out, by unfold wid; rw [← HN.out]; exact hRo, by unfold wid; rw [← HN.out]; exact hZ, rfl, hTO⟩
        clear hRo hZ hTO PV2 hB3
        go_wp2
        go_ret
        exact HF.out
      | succ gh =>
        have hkn : k < n := by omega
        have hkn' : ((k : Int) < (n : Int)) := by omega
        have HA := Lib.hid (refHas_c (.slice AC S.cols.length kC) (S.cols.map fun (x : Nat) => (x : Int)) (k : Int) wr (by rw [← ncells_eq]; exact HSC.out.below hW.out))
        rw [contains_cast] at HA
        have Hk := Lib.hid hk
        cases hct : S.cols.contains k with
        | true =>
          have HK := Lib.hid (hC.out.trans (keTo_skip (p := p) (n := n) hct).symm)
          rw [hct] at HA
          clear hk hct hC
          go_wp2_with fail
          refine HA.out.mono ?_
          rintro e w2 ⟨rfl, hB2⟩
          have HO2 := Lib.hid (hO.out.below hB2)
          have HW2 := Lib.hid (hW.out.trans (hB2.mono hW.out.size))
          clear HA hO hW hB2
          go_wp2
          go_roundg gh
          case rel => exact ⟨k + 1, C, by go_num, by have := Hk.out; omega, HK, HO2, HW2⟩
          case measure => omega
        | false =>
          have HK := Lib.hid (keTo_add (p := p) (n := n) hct)
          rw [hct] at HA
          clear hk hct
          go_wp2_with fail
          refine HA.out.mono ?_
          rintro e w2 ⟨rfl, hB2⟩
          have HO2 := Lib.hid (hO.out.below hB2)
          have HW2 := Lib.hid (hW.out.trans (hB2.mono hW.out.size))
          clear HA hO hW hB2
          have hs2 : w1.heap.size ≤ w2.heap.size := HW2.out.size
          have hmk := make_ints w2 n (by omega)
          have HO0 : Hid (Own (w2.alloc (.cells (icells (List.replicate n 0)).toArray 3)) w2.heap.size 3 (icells (List.replicate n 0))) := Lib.hid (Own.make _ _ _)
          have ck := HO0.out.cell k
          rw [icells_at _ k (by simp; omega)] at ck
          have fk := HO0.out.free k
          have HO1 : Hid (Own (w2.alloc (.cells ((icells (List.replicate n 0)).set k (.int .i64 1)).toArray 3)) w2.heap.size 3 (icells (nsSet (resF p) 0 S k 0 ((List.replicate n 0).set k 1)))) := Lib.hid (by
            show Own _ _ _ (icells ((List.replicate n 0).set k 1))
            rw [← icells_set]; exact Own.make _ _ _)
          have HB0 : Hid (Below w2.heap.size w2 (w2.alloc (.cells ((icells (List.replicate n 0)).set k (.int .i64 1)).toArray 3))) := Lib.hid ((Below.refl _ _).alloc (Nat.le_refl _) _)
          generalize (List.replicate n (0 : Int))[k]?.getD 0 = z0 at *
          go_wp2_with fail
          clear HO0 ck fk hmk
          obtain ⟨wb, rfl⟩ : ∃ wb, wb = w2 := ⟨_, rfl⟩
          go_loopg [11] S.cols.length (fun gh2 ix wx => ∃ j : Nat, ix = .int .i64 j ∧ j + gh2 = S.cols.length ∧ Hid (Own wx wb.heap.size 3 (icells (nsSet (resF p) 0 S k j ((List.replicate n 0).set k 1)))) ∧ Hid (Below wb.heap.size wb wx))
          case atStart => exact ⟨0, rfl, by omega, HO1, HB0⟩
          case round =>
            clear HO1 HB0
            obtain ⟨j, rfl, hj, hOx, hBx⟩ := hrel
            have hs3 := hBx.out.size
            have Hj := Lib.hid hj
            cases gk with
            | zero =>
              have hin2 : ¬ ((j : Int) < (S.cols.length : Int)) := by omega
              have HL2 : Hid (Own wr wb.heap.size 3 (icells (keRow p n S k))) := Lib.hid (by
                have : j = S.cols.length := by omega
                have h := hOx.out
                rw [this] at h; exact h)
              have HLl : Hid ((keRow p n S k).length = n) := Lib.hid (by unfold keRow; rw [nsSet_length]; simp)
              have HO3 := Lib.hid (HO2.out.below hBx.out)
              clear hj hOx
              generalize keRow p n S k = L at *
              go_wp2_with (at_builtin; (refine wpList_append_own _ rfl _ _ 57 rfl w1.heap.size 50 s0 (.slice none 0 0) 1 24 Tryz.underlying57 hs0 hsz0 hsz1 hsz2 rfl (by decide) _ _ _ rfl (HO3.out.1.alloc _) ⟨wr.heap.size, 0, none⟩ 1 1 [.slice (some ⟨wb.heap.size, 0, none⟩) n n] rfl rfl (cell_one_new _ _ _) (fun x hx => by simp at hx; subst hx; rfl) (by unfold maxLen; omega) (by omega) (by simp; omega) ?_; intro v7 w7 hown7 hgrow7 _))
              have hal : Below wr.heap.size wr (wr.alloc (.cells #[.slice (some ⟨wb.heap.size, 0, none⟩) n n] 50)) := (Below.refl _ _).alloc (Nat.le_refl _) _
              have HT7 := Lib.hid ((HO3.out.below hal).snoc (L := L) hgrow7 (by rw [HLl.out]; exact hown7) (HL2.out.below hal HL2.out.lt) hs2 (by rw [HLl.out]; omega))
              have HW7 : Hid (Below w1.heap.size w1 w7) := Lib.hid (Below.grown (((HW2.out.trans (hBx.out.mono hs2))).alloc (by omega) _) hgrow7 (by simp; omega) (fun j hj => (HO3.out.1.lt j hj).1))
              go_roundg gh
              case rel => exact ⟨k + 1, C ++ [(wb.heap.size, L)], by go_num, by have := Hk.out; omega, Lib.hid (by rw [List.map_append, hC.out, HK.out]; rfl), HT7, HW7⟩
              case measure => omega
            | succ gh2 =>
              have hjl : j < S.cols.length := by omega
              have hjl' : ((j : Int) < (S.cols.length : Int)) := by omega
              have hWr : Hid (Below w1.heap.size w1 wr) := Lib.hid (HW2.out.trans (hBx.out.mono hs2))
              obtain ⟨b3, off3, rfl, hbb3, hcell3⟩ := HSC.out.at_ (k := j) (by simp [ncells]; omega)
              have hcc := (hWr.out.cell (p := ⟨b3, off3 + j, none⟩) hbb3).trans ((hcell3 j (by simp [ncells]; omega)).trans (show (ncells S.cols)[j]? = some (.int .i64 ((S.cols[j]?.getD 0 : Nat) : Int)) by
                unfold ncells; rw [List.getElem?_map, List.getElem?_eq_getElem hjl]; rfl))
              have hcn : S.cols[j]?.getD 0 < n := HCL.out j hjl
              have hrl : j < S.rows.length := by have := HG.out.1; omega
              have hrj : ((S.rows.take S.cols.length).map (·.2.2))[j]? = some (rowOf S.rows j) := by
                rw [List.getElem?_map, List.getElem?_take_of_lt hjl, List.getElem?_eq_getElem hrl, rowOf_eq (List.getElem?_eq_getElem hrl)]; rfl
              obtain ⟨g1, g2⟩ := HG.out.2 j (by have := HG.out.1; omega)
              obtain ⟨v4, hv4, hs4⟩ := HUR.out j _ hrj
              obtain ⟨A4, k4, rfl, h41, h42⟩ := hs4.form
              rw [icells_length, g1] at h41 h42 hv4
              obtain ⟨b5, off5, rfl, hbb5, hcell5⟩ := HUS.out.at_ (k := j) (by rw [HUL.out]; exact hjl)
              have hce := (hWr.out.cell (p := ⟨b5, off5 + j, none⟩) hbb5).trans ((hcell5 j (by rw [HUL.out]; exact hjl)).trans hv4)
              obtain ⟨b6, off6, rfl, hbb6, hcell6⟩ := hs4.at_ (k := k) (by rw [icells_length, g1]; omega)
              have hcx := (hWr.out.cell (p := ⟨b6, off6 + k, none⟩) hbb6).trans ((hcell6 k (by rw [icells_length, g1]; omega)).trans (icells_at _ k (by rw [g1]; omega)))
              have hxr : 0 ≤ (rowOf S.rows j)[k]?.getD 0 ∧ (rowOf S.rows j)[k]?.getD 0 < p := by
                rw [List.getElem?_eq_getElem (by rw [g1]; omega), Option.getD_some]
                exact g2 _ (List.getElem_mem _)
              have c2 := hOx.out.cell (S.cols[j]?.getD 0)
              rw [icells_at _ _ (by rw [nsSet_length]; simp; omega)] at c2
              have f2 := hOx.out.free (S.cols[j]?.getD 0)
              have Hs : Hid (nsSet (resF p) 0 S k (j + 1) ((List.replicate n 0).set k 1) = (nsSet (resF p) 0 S k j ((List.replicate n 0).set k 1)).set (S.cols[j]?.getD 0) ((0 - (rowOf S.rows j)[k]?.getD 0) % p)) := Lib.hid (by rw [nsSet_succ]; rfl)
              have HO4 : Hid (Own (wr.setCell ⟨wb.heap.size, S.cols[j]?.getD 0, none⟩ (.int .i64 ((0 - (rowOf S.rows j)[k]?.getD 0) % p))) wb.heap.size 3 (icells (nsSet (resF p) 0 S k (j + 1) ((List.replicate n 0).set k 1)))) := Lib.hid (by rw [Hs.out, ← icells_set]; exact hOx.out.put _ _)
              have HB4 := Lib.hid (hBx.out.setCell (p := ⟨wb.heap.size, S.cols[j]?.getD 0, none⟩) (Nat.le_refl _) (.int .i64 ((0 - (rowOf S.rows j)[k]?.getD 0) % p)))
              have hl5 := Nat.lt_of_lt_of_le hbb5 hWr.out.size
              have hl6 := Nat.lt_of_lt_of_le hbb6 hWr.out.size
              have hl3 := Nat.lt_of_lt_of_le hbb3 hWr.out.size
              have hcn' : ((S.cols[j]?.getD 0 : Nat) : Int) < (n : Int) := by omega
              obtain ⟨x1, x2⟩ := hxr
              clear hcell3 hcell5 hcell6 hOx hBx Hs g1 g2 hrj hrl hv4 hs4 hj
              generalize (rowOf S.rows j)[k]?.getD 0 = x at *
              generalize (nsSet (resF p) 0 S k j ((List.replicate n 0).set k 1))[S.cols[j]?.getD 0]?.getD 0 = y at *
              generalize S.cols[j]?.getD 0 = cj at *
              have hws : IntKind.i64.wrap (0 - x) = 0 - x := wrapP _ (by omega)
              have hws2 : IntKind.i64.wrap (-x) = -x := wrapP _ (by omega)
              rw [Int.zero_sub] at HO4 HB4
              have MD3 := Lib.hid (fun a => (MD.out a wr.drew).mono fun e w' h => And.intro h.1 h.2.symm)
              go_upto_region 15 with fail
              refine wp_region_still_tail 16 (by kernel_rfl) (by kernel_rfl) ?_
              simp only [List.take_succ_cons, List.take_zero, List.drop_succ_cons, List.drop_zero]
              change wpStill _ _ wr.drew (fun a' => wpList _ _ _ _ a' wr.drew) _ _
              repeat still_step
              still_call (MD3.out _)
              repeat still_step
              refine wpStill_nil ?_
              go_wp2
              go_roundg gh2
              case rel => exact ⟨j + 1, by go_num, by have := Hj.out; omega, Lib.hid HO4.out, Lib.hid (HB4.out.drew)⟩
              case measure => omega
end Go.Proofs.YtneafcdfnhnpnaaGreatDoor
/- Plain mathematics: ranks and null spaces modulo a prime number, by the program and by the reference. -/
namespace Go.Proofs.YtneafcdfnhnpnaaGreatDoor

section
variable {p : Int} {M : List (List Int)} {R Q : List RowI} {n : Nat}
theorem good_mod (hp : PF p) (hR : R.map (·.2.2) = modM p M) (hr : ∀ r ∈ M, r.length = n) : Good (fun x => 0 ≤ x ∧ x < p) R.length n R := by
  refine ⟨rfl, fun i hi => ?_⟩
  have e := List.getElem?_eq_getElem hi
  rw [rowOf_eq e]
  have hm : (R[i]).2.2 ∈ modM p M := by rw [← hR]; exact List.mem_map_of_mem (List.getElem_mem hi)
  obtain ⟨q, hq, hqe⟩ := List.mem_map.1 hm
  rw [← hqe]
  refine ⟨by rw [List.length_map]; exact hr q hq, fun x hx => ?_⟩
  obtain ⟨y, _, rfl⟩ := List.mem_map.1 hx
  exact mod_in hp y
theorem row_list (h : R.map (·.2.2) = modM p M) (i : Nat) : rowOf R i = ((modM p M)[i]?).getD [] := by
  unfold rowOf
  rw [← h, List.getElem?_map]
theorem kernel_same (hp : PF p) (hr : ∀ r ∈ M, r.length = n) (h1 : R.map (·.2.2) = modM p M) (h2 : Q.map (·.2.2) = modM p M) {S : ElS Int} (hS : S = elGo (resF p) n R.length 0 ⟨R, [], [], false⟩) {Ro : List RowI} (h3 : Ro.map (·.2.2) = modM p (keTo p n S n)) :
    ((elGo (resF p) (wid (keTo p n S n)) Ro.length 0 ⟨Ro, [], [], false⟩).rows.take (elGo (resF p) (wid (keTo p n S n)) Ro.length 0 ⟨Ro, [], [], false⟩).cols.length).map (·.2.2) =
      nsBasis (resF p) 0 1 n (elGo (resF p) n Q.length 0 ⟨mapTo List.reverse Q Q.length, [], [], false⟩) n := by
  have hl : Q.length = R.length := by have := congrArg List.length (h2.trans h1.symm); simpa using this
  have hG := good_mod hp h1 hr
  have hGQ := good_mod hp h2 hr
  have hGo := good_mod hp h3 keTo_rows
  obtain ⟨fa, hfa⟩ : ∃ fa, fa = (List.range n).filter (fun c => !S.cols.contains c) := ⟨_, rfl⟩
  have hke : keTo p n S n = fa.map (keRow p n S) := by rw [hfa]; rfl
  have hlo : Ro.length = fa.length := by
    have := congrArg List.length h3
    rw [List.length_map, hke] at this
    unfold modM at this
    rw [List.length_map, List.length_map] at this
    exact this
  obtain ⟨G1, -, -, -, -, -, -, -, -, dqm⟩ := @elEnd_red (Zp p) (fieldZ hp) Int (resF p) _ _ R.length n (resHom hp) R hG
  have hSe : S = elEnd (resF p) n R.length R := hS
  have hw : elGo (resF p) (wid (keTo p n S n)) Ro.length 0 ⟨Ro, [], [], false⟩ = elEnd (resF p) n fa.length Ro := by
    rw [← hlo]
    cases hc : Ro with
    | nil => rfl
    | cons a t =>
      have : wid (keTo p n S n) = n := by
        have hpos : 0 < (keTo p n S n).length := by rw [hke, List.length_map, ← hlo, hc]; simp
        unfold wid
        rw [List.getElem?_eq_getElem hpos]
        exact keTo_rows _ (List.getElem_mem hpos)
      rw [this]; rfl
  rw [hw, hl]
  have hrevl : (mapTo List.reverse Q R.length) = Q.map fun r => (r.1, r.2.1, r.2.2.reverse) := by rw [← hl]; exact mapTo_all
  have hGr : Good (fun x => 0 ≤ x ∧ x < p) R.length n (mapTo List.reverse Q R.length) := by
    rw [hrevl]
    refine ⟨by rw [List.length_map, hl], fun i hi => ?_⟩
    have e : (Q.map fun r => ((r.1, r.2.1, r.2.2.reverse) : RowI))[i]? = some ((Q[i]).1, (Q[i]).2.1, (Q[i]).2.2.reverse) := by
      rw [List.getElem?_map, List.getElem?_eq_getElem (by omega)]; rfl
    rw [rowOf_eq e]
    have := hGQ.2 i (by omega)
    rw [rowOf_eq (List.getElem?_eq_getElem (by omega))] at this
    exact ⟨by rw [List.length_reverse]; exact this.1, fun x hx => this.2 x (List.mem_reverse.1 hx)⟩
  refine @null_lists (Zp p) (fieldZ hp) Int (resF p) _ _ R.length n (resHom hp) (fun a b ha hb e => ?_) 0 1 ⟨Int.le_refl 0, by have := hp.1; omega⟩ rfl ⟨by omega, by have := hp.1; omega⟩ rfl R Ro (mapTo List.reverse Q R.length) hG fa (fun f => ?_) ?_ (hlo ▸ hGo) (fun i hi x hx => ?_) hGr (fun i hi x hx => ?_)
  · have := congrArg Subtype.val e
    rw [zmk_in hp ha, zmk_in hp hb] at this
    exact this
  · rw [hfa, ← hSe]; simp
  · rw [hfa]
    exact (List.nodup_range.filter _)
  · have hil : i < (keTo p n S n).length := by rw [hke, List.length_map]; exact hi
    have e1 : rowOf Ro i = ((keTo p n S n)[i]).map (· % p) := by
      rw [row_list h3 i]
      unfold modM
      rw [List.getElem?_map, List.getElem?_eq_getElem hil]; rfl
    have e2 : (keTo p n S n)[i] = keRow p n S (fa[i]?.getD 0) := by
      have : (keTo p n S n)[i]? = some (keRow p n S (fa[i]?.getD 0)) := by
        rw [hke, List.getElem?_map, List.getElem?_eq_getElem hi]; rfl
      rw [List.getElem?_eq_getElem hil] at this
      exact Option.some.inj this
    have hlen : (keRow p n S (fa[i]?.getD 0)).length = n := by unfold keRow; rw [nsSet_length]; simp
    have e3 : numT (resF p) Ro i x = ((keRow p n S (fa[i]?.getD 0))[x]?.getD 0) % p := by
      unfold numT
      rw [e1, e2, List.getElem?_map, List.getElem?_eq_getElem (by omega)]; rfl
    rw [e3, z_mod hp, ← hSe]
    have hG2 : Good (fun x => 0 ≤ x ∧ x < p) R.length n S.rows := by rw [hSe]; exact G1
    have hq : S.cols.length ≤ R.length := by rw [hSe]; exact dqm
    exact @nsSet_num (Zp p) (fieldZ hp) Int (resF p) _ _ R.length n (resHom hp) S hG2 0 1 ⟨Int.le_refl 0, by have := hp.1; omega⟩ rfl rfl (fa[i]?.getD 0) S.cols.length hq (Nat.le_refl _) x hx
  · congr 1
    have e1 : rowOf (mapTo List.reverse Q R.length) i = (rowOf Q i).reverse := by
      rw [hrevl, rowOf_eq (show (Q.map fun r => ((r.1, r.2.1, r.2.2.reverse) : RowI))[i]? = some ((Q[i]).1, (Q[i]).2.1, (Q[i]).2.2.reverse) by
        rw [List.getElem?_map, List.getElem?_eq_getElem (by omega)]; rfl), rowOf_eq (List.getElem?_eq_getElem (by omega : i < Q.length))]
    have e2 : rowOf Q i = rowOf R i := by rw [row_list h1, row_list h2]
    have e3 := (hG.2 i hi).1
    unfold numT
    rw [e1, e2, List.getElem?_reverse (by rw [e3]; exact hx), e3]
end
end Go.Proofs.YtneafcdfnhnpnaaGreatDoor
/- Plain mathematics: the rank asks for the numbers alone. -/
namespace Go.Proofs.YtneafcdfnhnpnaaGreatDoor

section
variable {p : Int} {M : List (List Int)} {R Q : List RowI} {n : Nat}
theorem rank_same (h1 : R.map (·.2.2) = modM p M) (h2 : Q.map (·.2.2) = modM p M) :
    (elGo (resF p) n R.length 0 ⟨R, [], [], false⟩).cols.length = (elGo (resF p) n Q.length 0 ⟨Q, [], [], false⟩).cols.length := by
  have hl : R.length = Q.length := by have := congrArg List.length (h1.trans h2.symm); simpa using this
  have := SameS.go (F := resF p) n R.length 0 (S := ⟨R, [], [], false⟩) (Z := ⟨Q, [], [], false⟩) ⟨h1.trans h2.symm, rfl, rfl, rfl⟩
  rw [this.cols, hl]
end
end Go.Proofs.YtneafcdfnhnpnaaGreatDoor
/- Contract of the reference: the first error of a matrix of integers. -/
namespace Go.Proofs.YtneafcdfnhnpnaaGreatDoor
open Go.RowKit Go.Lib

theorem inBd_take_succ {r : List Int} {j : Nat} (hj : j < r.length) (h : InBd (r.take j)) (hx : ¬ r[j]?.getD 0 < -999999999) (hy : ¬ 999999999 < r[j]?.getD 0) : InBd (r.take (j + 1)) := by
  intro x hm
  rw [List.take_add_one] at hm
  rcases List.mem_append.1 hm with hm | hm
  · exact h x hm
  · rw [List.getElem?_eq_getElem hj] at hm hx hy
    simp at hm hx hy
    subst hm; omega
theorem not_inBd {r : List Int} {j : Nat} (hj : j < r.length) (hx : r[j]?.getD 0 < -999999999 ∨ 999999999 < r[j]?.getD 0) : ¬ InBd r := by
  intro h
  have := h _ (List.getElem_mem hj)
  rw [List.getElem?_eq_getElem hj] at hx
  simp at hx
  omega

set_option maxRecDepth 100000 in
set_option maxHeartbeats 4000000 in
theorem refCheckInts_c (v : Value) (M : List (List Int)) (w : World) (hv : TblS w v M) :
    Calls Tryz.prog 88 #[v] w fun e w' => e = .returned (.int .i64 (matE M)) ∧ Below w.heap.size w w' := by
  obtain ⟨vs, hvs, hvl, hvr⟩ := hv
  obtain ⟨A, c, rfl, hc1, hc2⟩ := hvs.form
  rw [hvl] at hvs hc1
  obtain ⟨E, hE⟩ : ∃ E, matE M = E := ⟨_, rfl⟩
  rw [hE, hvl]
  by_cases h256 : 256 < M.length
  · have hin : (256 : Int) < (M.length : Int) := by omega
    have HF : Hid (E = 5) := Lib.hid (by rw [← hE]; unfold matE; rw [if_pos h256])
    clear hE hvr hvs h256
    go_enter Tryz.func88, Tryz.ntmps88
    go_wp2
    go_ret
    exact ⟨by rw [HF.out]; rfl, Below.refl _ _⟩
  · have hbig : ¬ ((256 : Int) < (M.length : Int)) := by omega
    obtain ⟨n0, hn0⟩ : ∃ n0, ((M[0]?.map (·.length)).getD 0) = n0 := ⟨_, rfl⟩
    have HE : Hid (rowsE n0 M = E) := Lib.hid (by rw [← hE, ← hn0]; unfold matE; rw [if_neg h256])
    have HVR := Lib.hid hvr
    have HN := Lib.hid hn0
    clear hE hvr h256 hn0
    go_enter Tryz.func88, Tryz.ntmps88
    go_wp2_with fail
    go_loopg [3] M.length (fun g i wr => ∃ (k : Nat), k + g = M.length ∧ i = .int .i64 k ∧ Hid (rowsE n0 (M.drop k) = E) ∧ Below w.heap.size w wr)
    case atStart => exact ⟨0, by omega, rfl, Lib.hid (by rw [List.drop_zero]; exact HE.out), Below.refl _ _⟩
    case round =>
      obtain ⟨k, hk, rfl, hD, hB⟩ := hrel
      cases gk with
      | zero =>
        have hin : ¬ ((k : Int) < (M.length : Int)) := by omega
        have HT : Hid (E = 0) := Lib.hid (by rw [← hD.out, List.drop_eq_nil_of_le (by omega)]; rfl)
        clear hk
        go_wp2
        go_ret
        exact ⟨by rw [HT.out]; rfl, hB⟩
      | succ g =>
        have hlt : k < M.length := by omega
        have hin : (k : Int) < (M.length : Int) := by omega
        have hl0 : 0 < M.length := by omega
        obtain ⟨v1, hv1, hs1⟩ := HVR.out k _ (List.getElem?_eq_getElem hlt)
        obtain ⟨v0, hv0, hs0⟩ := HVR.out 0 _ (List.getElem?_eq_getElem hl0)
        obtain ⟨b1, off1, rfl, hbb1, hcell1⟩ := hvs.at_ (k := k) (by rw [hvl]; omega)
        have hck1 := (hB.cell (p := ⟨b1, off1 + k, none⟩) hbb1).trans ((hcell1 k (by rw [hvl]; omega)).trans hv1)
        have hck0 := (hB.cell (p := ⟨b1, off1 + 0, none⟩) hbb1).trans ((hcell1 0 (by rw [hvl]; omega)).trans hv0)
        rw [Nat.add_zero] at hck0
        obtain ⟨A1, c1, rfl, ha1, ha2⟩ := hs1.form
        obtain ⟨A0, c0, rfl, he1, he2⟩ := hs0.form
        simp only [icells_length] at hs1 hs0 ha1 ha2 he1 he2 hck1 hck0
        have hrow : Hid (rowsE n0 (M.drop k) = if 256 < M[k].length then 5 else if M[k].length ≠ n0 then 2 else if InBd M[k] then rowsE n0 (M.drop (k + 1)) else 3) := Lib.hid (rowsE_drop n0 k M (List.getElem?_eq_getElem hlt))
        have HL0 : M[0].length = n0 := by rw [← HN.out, List.getElem?_eq_getElem hl0]; rfl
        rw [HL0] at hck0 he1
        have Hk := Lib.hid hk
        have HC : Hid (w.cell? ⟨b1, off1 + k, none⟩ = some (.slice A1 M[k].length c1)) := Lib.hid ((hcell1 k (by rw [hvl]; omega)).trans (by rw [hv1, icells_length]))
        clear hcell1 hvs hk hv1 hv0 hs0 HL0
        generalize M[k] = r at *
        by_cases h1 : 256 < r.length
        · have hb1 : (256 : Int) < (r.length : Int) := by omega
          have HF : Hid (E = 5) := Lib.hid (by rw [← hD.out, hrow.out, if_pos h1])
          clear h1 hs1 hD hrow
          go_wp2
          go_ret
          exact ⟨by rw [HF.out]; rfl, hB⟩
        · have hb1 : ¬ ((256 : Int) < (r.length : Int)) := by omega
          by_cases h2 : r.length ≠ n0
          · have hb2 : ((r.length : Int) != (n0 : Int)) = true := by simp; omega
            have HF : Hid (E = 2) := Lib.hid (by rw [← hD.out, hrow.out, if_neg h1, if_pos h2])
            clear h1 h2 hs1 hD hrow
            go_wp2
            go_quiet (fail)
            have hB' := below_drewN hB nq
            go_wp2
            go_ret
            exact ⟨by rw [HF.out]; rfl, hB'⟩
          · have hb2 : ((r.length : Int) != (n0 : Int)) = false := by simp; omega
            have HR : Hid (E = if InBd r then rowsE n0 (M.drop (k + 1)) else 3) := Lib.hid (by rw [← hD.out, hrow.out, if_neg h1, if_neg h2])
            have HS := Lib.hid hs1
            clear h1 h2 hD hrow hs1
            go_wp2
            go_quiet (fail)
            have hB' := below_drewN hB nq
            go_wp2_with fail
            go_loopg [4] r.length (fun g2 i W => ∃ (j : Nat), j + g2 = r.length ∧ i = .int .i64 j ∧ Hid (InBd (r.take j)) ∧ Below w.heap.size w W)
            case atStart => exact ⟨0, by omega, rfl, Lib.hid (by intro x hx; simp at hx), hB'⟩
            case round =>
              obtain ⟨j, hj, rfl, hI, hB2⟩ := hrel
              have hck := (hB2.cell (p := ⟨b1, off1 + k, none⟩) hbb1).trans HC.out
              clear hck1 hck0 hB' hB
              cases gk with
              | zero =>
                have hin2 : ¬ ((j : Int) < (r.length : Int)) := by omega
                have Hs : Hid (rowsE n0 (M.drop (k + 1)) = E) := Lib.hid (by
                  have := hI.out
                  rw [List.take_of_length_le (by omega)] at this
                  rw [HR.out, if_pos this])
                clear hj
                go_wp2
                go_roundg g
                case rel => exact ⟨k + 1, by have := Hk.out; omega, by go_num, Hs, hB2⟩
                case measure => omega
              | succ g2 =>
                have hlj : j < r.length := by omega
                have hin2 : (j : Int) < (r.length : Int) := by omega
                obtain ⟨b2, off2, rfl, hbb2, hcell2⟩ := HS.out.at_ (k := j) (by rw [icells_length]; omega)
                have hx := (hB2.cell (p := ⟨b2, off2 + j, none⟩) hbb2).trans ((hcell2 j (by rw [icells_length]; omega)).trans (icells_at r j hlj))
                have HIn := Lib.hid (fun h1 h2 => inBd_take_succ hlj hI.out h1 h2)
                have HNo := Lib.hid (fun h => not_inBd (r := r) (j := j) hlj h)
                have Hj := Lib.hid hj
                clear hcell2 hj
                generalize r[j]?.getD 0 = x at *
                by_cases h1 : x < -999999999
                · have HF : Hid (E = 3) := Lib.hid (by rw [HR.out, if_neg (HNo.out (.inl h1))])
                  go_wp2
                  go_ret
                  exact ⟨by rw [HF.out]; rfl, hB2⟩
                · by_cases h2 : (999999999 : Int) < x
                  · have HF : Hid (E = 3) := Lib.hid (by rw [HR.out, if_neg (HNo.out (.inr h2))])
                    go_wp2
                    go_ret
                    exact ⟨by rw [HF.out]; rfl, hB2⟩
                  · have Hn := Lib.hid (HIn.out h1 h2)
                    go_wp2
                    go_roundg g2
                    case rel => exact ⟨j + 1, by have := Hj.out; omega, by go_num, Hn, hB2⟩
                    case measure => omega
end Go.Proofs.YtneafcdfnhnpnaaGreatDoor
/- Contracts of the laws' helpers: integer, far; of the reference: prime numbers. -/
namespace Go.Proofs.YtneafcdfnhnpnaaGreatDoor
open Go.RowKit Go.Lib

theorem integerBad_c (bad want : Int) (w : World) (hb : bad ≠ 0) :
    Calls Tryz.prog 25 #[.int .i64 0, .int .i64 bad, .int .i64 bad, .int .i64 want] w fun e w' => e = .returned (.bool true) ∧ w = w' := by
  have h2 : (bad != 0) = true := by simpa using hb
  clear hb
  go_enter Tryz.func25, Tryz.ntmps25
  go_wp2
  go_ret
  exact ⟨by simp, rfl⟩
theorem integerOk_c (x : Int) (w : World) :
    Calls Tryz.prog 25 #[.int .i64 x, .int .i64 0, .int .i64 0, .int .i64 x] w fun e w' => e = .returned (.bool true) ∧ w = w' := by
  go_enter Tryz.func25, Tryz.ntmps25
  go_wp2
  go_ret
  exact ⟨by simp, rfl⟩
theorem far_c (a : Int) (w : World) :
    Calls Tryz.prog 37 #[.int .i64 a] w fun e w' => e = .returned (.bool (decide (a < -999999999 ∨ 999999999 < a))) ∧ w = w' := by
  by_cases h1 : a < -999999999
  · rw [decide_eq_true (.inl h1)]
    go_enter Tryz.func37, Tryz.ntmps37
    go_wp2
    go_ret
    exact ⟨by simp, rfl⟩
  · have h2 : decide (a < -999999999) = false := decide_eq_false h1
    by_cases h3 : 999999999 < a
    · rw [decide_eq_true (.inr h3)]
      clear h1
      go_enter Tryz.func37, Tryz.ntmps37
      go_wp2
      go_ret
      exact ⟨by simp, rfl⟩
    · have h4 : decide (999999999 < a) = false := decide_eq_false h3
      rw [decide_eq_false (by omega : ¬ (a < -999999999 ∨ 999999999 < a))]
      clear h1 h3
      go_enter Tryz.func37, Tryz.ntmps37
      go_wp2
      go_ret
      exact ⟨by simp, rfl⟩
section
variable {a : Int}
def farIs (b : Bool) (w : World) (e : Ending) (w' : World) : Prop := e = .returned (.bool b) ∧ w = w'
theorem far_t (h : a < -999999999 ∨ 999999999 < a) (w : World) : Calls Tryz.prog 37 #[.int .i64 a] w (farIs true w) := by
  have := far_c a w; rw [decide_eq_true h] at this; exact this
theorem far_f (h : ¬ (a < -999999999 ∨ 999999999 < a)) (w : World) : Calls Tryz.prog 37 #[.int .i64 a] w (farIs false w) := by
  have := far_c a w; rw [decide_eq_false h] at this; exact this
theorem rp_in {n : Int} (h : 0 ≤ n ∧ n ≤ 999999999) (w : World) : Calls Tryz.prog 43 #[.int .i64 n] w (prAns n w) := by
  obtain ⟨m, rfl⟩ : ∃ m : Nat, n = (m : Int) := ⟨n.toNat, by omega⟩
  exact refIsPrime_c m w h.2
end
end Go.Proofs.YtneafcdfnhnpnaaGreatDoor
/- Contracts of the laws' helpers: short, prime. -/
namespace Go.Proofs.YtneafcdfnhnpnaaGreatDoor
open Go.RowKit Go.Lib

def ShortM (M : List (List Int)) : Prop := (M.length ≤ 8 ∨ (256 < M.length ∧ M.length ≤ 260)) ∧ ∀ r ∈ M, r.length ≤ 8
instance (M : List (List Int)) : Decidable (ShortM M) := by unfold ShortM; infer_instance
theorem short_take {M : List (List Int)} {k : Nat} (hk : k < M.length) (h : ∀ r ∈ M.take k, r.length ≤ 8) (hx : ¬ 8 < M[k].length) : ∀ r ∈ M.take (k + 1), r.length ≤ 8 := by
  intro x hm
  rw [List.take_add_one] at hm
  rcases List.mem_append.1 hm with hm | hm
  · exact h x hm
  · rw [List.getElem?_eq_getElem hk] at hm
    simp at hm
    subst hm; omega

set_option maxRecDepth 100000 in
set_option maxHeartbeats 4000000 in
theorem short_c (v : Value) (M : List (List Int)) (w : World) (hv : TblS w v M) :
    Calls Tryz.prog 85 #[v] w fun e w' => e = .returned (.bool (decide (ShortM M))) ∧ Below w.heap.size w w' := by
  obtain ⟨vs, hvs, hvl, hvr⟩ := hv
  obtain ⟨A, c, rfl, hc1, hc2⟩ := hvs.form
  rw [hvl] at hvs hc1
  obtain ⟨E, hE⟩ : ∃ E, decide (ShortM M) = E := ⟨_, rfl⟩
  have HE := Lib.hid hE
  rw [hE, hvl]
  have HVR := Lib.hid hvr
  clear hE hvr
  by_cases h8 : M.length ≤ 8
  · have g1 : ¬ ((8 : Int) < (M.length : Int)) := by omega
    have g2 : ¬ ((260 : Int) < (M.length : Int)) := by omega
    have HS : Hid (M.length ≤ 8 ∨ (256 < M.length ∧ M.length ≤ 260)) := Lib.hid (.inl h8)
    clear h8
    go_enter Tryz.func85, Tryz.ntmps85
    go_wp2_with fail
    go_loopg [3] M.length (fun g i wr => ∃ (k : Nat), k + g = M.length ∧ i = .int .i64 k ∧ Hid (∀ r ∈ M.take k, r.length ≤ 8) ∧ Below w.heap.size w wr)
    case atStart => exact ⟨0, by omega, rfl, Lib.hid (by intro x hx; simp at hx), Below.refl _ _⟩
    case round =>
      obtain ⟨k, hk, rfl, hD, hB⟩ := hrel
      cases gk with
      | zero =>
        have hin : ¬ ((k : Int) < (M.length : Int)) := by omega
        have HT : Hid (E = true) := Lib.hid (by
          rw [← HE.out]
          have := hD.out
          rw [List.take_of_length_le (by omega)] at this
          exact decide_eq_true ⟨HS.out, this⟩)
        clear hk
        go_wp2
        go_ret
        exact ⟨by rw [HT.out]; rfl, hB⟩
      | succ g =>
        have hlt : k < M.length := by omega
        have hin : (k : Int) < (M.length : Int) := by omega
        obtain ⟨v1, hv1, hs1⟩ := HVR.out k _ (List.getElem?_eq_getElem hlt)
        obtain ⟨b1, off1, rfl, hbb1, hcell1⟩ := hvs.at_ (k := k) (by rw [hvl]; omega)
        have hck1 := (hB.cell (p := ⟨b1, off1 + k, none⟩) hbb1).trans ((hcell1 k (by rw [hvl]; omega)).trans hv1)
        obtain ⟨A1, c1, rfl, ha1, ha2⟩ := hs1.form
        simp only [icells_length] at hs1 ha1 ha2 hck1
        have Hk := Lib.hid hk
        have HN := Lib.hid (fun h => short_take hlt hD.out h)
        have HM : Hid (M[k] ∈ M) := Lib.hid (List.getElem_mem hlt)
        clear hcell1 hvs hk hv1 hs1
        generalize M[k] = r at *
        by_cases h1 : 8 < r.length
        · have hb1 : (8 : Int) < (r.length : Int) := by omega
          have HF : Hid (E = false) := Lib.hid (by rw [← HE.out]; exact decide_eq_false (fun h => by have := h.2 _ HM.out; omega))
          clear h1
          go_wp2
          go_ret
          exact ⟨by rw [HF.out]; rfl, hB⟩
        · have hb1 : ¬ ((8 : Int) < (r.length : Int)) := by omega
          have Hs := Lib.hid (HN.out h1)
          clear h1
          go_wp2
          go_roundg g
          case rel => exact ⟨k + 1, by have := Hk.out; omega, by go_num, Hs, hB⟩
          case measure => omega
  · have g1 : (8 : Int) < (M.length : Int) := by omega
    by_cases h256 : M.length ≤ 256
    · have g2 : (M.length : Int) ≤ 256 := by omega
      have HF : Hid (E = false) := Lib.hid (by rw [← HE.out]; exact decide_eq_false (fun h => by have := h.1; omega))
      clear h8 h256 hvs
      go_enter Tryz.func85, Tryz.ntmps85
      go_wp2
      go_ret
      exact ⟨by rw [HF.out]; rfl, Below.refl _ _⟩
    · have g2 : ¬ ((M.length : Int) ≤ 256) := by omega
      by_cases h260 : 260 < M.length
      · have g3 : (260 : Int) < (M.length : Int) := by omega
        have HF : Hid (E = false) := Lib.hid (by rw [← HE.out]; exact decide_eq_false (fun h => by have := h.1; omega))
        clear h8 h256 hvs h260
        go_enter Tryz.func85, Tryz.ntmps85
        go_wp2
        go_ret
        exact ⟨by rw [HF.out]; rfl, Below.refl _ _⟩
      · have g3 : ¬ ((260 : Int) < (M.length : Int)) := by omega
        have HS : Hid (M.length ≤ 8 ∨ (256 < M.length ∧ M.length ≤ 260)) := Lib.hid (.inr (by omega))
        clear h8 h256 h260
        go_enter Tryz.func85, Tryz.ntmps85
        go_wp2_with fail
        go_loopg [3] M.length (fun g i wr => ∃ (k : Nat), k + g = M.length ∧ i = .int .i64 k ∧ Hid (∀ r ∈ M.take k, r.length ≤ 8) ∧ Below w.heap.size w wr)
        case atStart => exact ⟨0, by omega, rfl, Lib.hid (by intro x hx; simp at hx), Below.refl _ _⟩
        case round =>
          obtain ⟨k, hk, rfl, hD, hB⟩ := hrel
          cases gk with
          | zero =>
            have hin : ¬ ((k : Int) < (M.length : Int)) := by omega
            have HT : Hid (E = true) := Lib.hid (by
              rw [← HE.out]
              have := hD.out
              rw [List.take_of_length_le (by omega)] at this
              exact decide_eq_true ⟨HS.out, this⟩)
            clear hk
            go_wp2
            go_ret
            exact ⟨by rw [HT.out]; rfl, hB⟩
          | succ g =>
            have hlt : k < M.length := by omega
            have hin : (k : Int) < (M.length : Int) := by omega
            obtain ⟨v1, hv1, hs1⟩ := HVR.out k _ (List.getElem?_eq_getElem hlt)
            obtain ⟨b1, off1, rfl, hbb1, hcell1⟩ := hvs.at_ (k := k) (by rw [hvl]; omega)
            have hck1 := (hB.cell (p := ⟨b1, off1 + k, none⟩) hbb1).trans ((hcell1 k (by rw [hvl]; omega)).trans hv1)
            obtain ⟨A1, c1, rfl, ha1, ha2⟩ := hs1.form
            simp only [icells_length] at hs1 ha1 ha2 hck1
            have Hk := Lib.hid hk
            have HN := Lib.hid (fun h => short_take hlt hD.out h)
            have HM : Hid (M[k] ∈ M) := Lib.hid (List.getElem_mem hlt)
            clear hcell1 hvs hk hv1 hs1
            generalize M[k] = r at *
            by_cases h1 : 8 < r.length
            · have hb1 : (8 : Int) < (r.length : Int) := by omega
              have HF : Hid (E = false) := Lib.hid (by rw [← HE.out]; exact decide_eq_false (fun h => by have := h.2 _ HM.out; omega))
              clear h1
              go_wp2
              go_ret
              exact ⟨by rw [HF.out]; rfl, hB⟩
            · have hb1 : ¬ ((8 : Int) < (r.length : Int)) := by omega
              have Hs := Lib.hid (HN.out h1)
              clear h1
              go_wp2
              go_roundg g
              case rel => exact ⟨k + 1, by have := Hk.out; omega, by go_num, Hs, hB⟩
              case measure => omega
end Go.Proofs.YtneafcdfnhnpnaaGreatDoor
/- Contract of the laws' helper: prime. -/
namespace Go.Proofs.YtneafcdfnhnpnaaGreatDoor
open Go.RowKit Go.Lib

open Classical in
theorem prime_c (p : Int) (w : World) :
    Calls Tryz.prog 89 #[.int .i64 p] w fun e w' => e = .returned (.int .i64 (if IsPr p ∧ p ≤ 999999999 then 0 else 15)) ∧ Below w.heap.size w w' := by
  by_cases h2 : p < 2
  · rw [if_neg (by intro h; have := h.1.1; omega)]
    go_enter Tryz.func89, Tryz.ntmps89
    go_wp2_with fail
    refine (when_c true 15 _).mono ?_
    rintro e w1 ⟨rfl, rfl⟩
    rw [if_pos rfl]
    go_wp2
    go_ret
    exact ⟨rfl, Below.refl _ _⟩
  · by_cases h3 : 999999999 < p
    · rw [if_neg (by intro h; omega)]
      go_enter Tryz.func89, Tryz.ntmps89
      go_wp2_with fail
      refine (far_t (.inr h3) _).mono ?_
      rintro e w1 ⟨rfl, rfl⟩
      go_wp2_with fail
      refine (when_c true 15 _).mono ?_
      rintro e w2 ⟨rfl, rfl⟩
      rw [if_pos rfl]
      go_wp2
      go_ret
      exact ⟨rfl, Below.refl _ _⟩
    · have hf : ¬ (p < -999999999 ∨ 999999999 < p) := by omega
      have hin : 0 ≤ p ∧ p ≤ 999999999 := by omega
      have HP := Lib.hid (fun W => rp_in hin W)
      obtain ⟨x, hx⟩ : ∃ x : Int, (if IsPr p ∧ p ≤ 999999999 then (0 : Int) else 15) = x := ⟨_, rfl⟩
      have HX := Lib.hid hx
      rw [hx]
      clear hx
      go_enter Tryz.func89, Tryz.ntmps89
      go_wp2_with fail
      refine (far_f hf _).mono ?_
      rintro e w1 ⟨rfl, rfl⟩
      go_wp2_with fail
      refine (HP.out _).mono ?_
      rintro e w2 ⟨b, rfl, hb, rfl⟩
      have Hb := Lib.hid hb
      clear hb
      cases b with
      | true =>
        have HV : Hid (x = 0) := Lib.hid (by rw [← HX.out, if_pos ⟨Hb.out.1 rfl, by omega⟩])
        go_wp2_with fail
        refine (when_c false 15 _).mono ?_
        rintro e w3 ⟨rfl, rfl⟩
        rw [if_neg (by decide)]
        go_wp2
        go_ret
        exact ⟨by rw [HV.out]; rfl, Below.refl _ _⟩
      | false =>
        have HV : Hid (x = 15) := Lib.hid (by rw [← HX.out, if_neg (fun h => by have := Hb.out.2 h.1; cases this)])
        go_wp2_with fail
        refine (when_c true 15 _).mono ?_
        rintro e w3 ⟨rfl, rfl⟩
        rw [if_pos rfl]
        go_wp2
        go_ret
        exact ⟨by rw [HV.out]; rfl, Below.refl _ _⟩
end Go.Proofs.YtneafcdfnhnpnaaGreatDoor
