/- The law AlgebraPerms. -/
import Derived.Test.YtneafcdfnhnpnaaGreatDoorZ11
import Derived.Test.YtneafcdfnhnpnaaGreatDoorZ19
import Derived.Test.YtneafcdfnhnpnaaGreatDoorZP01
import Derived.Test.YtneafcdfnhnpnaaGreatDoorZP02
import Derived.Test.YtneafcdfnhnpnaaGreatDoorZ16
namespace Go.Proofs.YtneafcdfnhnpnaaGreatDoor
open Go.RowKit Go.Lib

theorem small_err {p : List Int} (h : permErr p = 0) : PermL p ∧ p.length ≤ 256 := by unfold permErr at h; split at h; omega; split at h; exact ⟨by assumption, by omega⟩; omega
theorem powL_len (p : List Int) (k : Int) : (powL p k).length = p.length := powTo_len p k _
theorem firstL_two (a b : Int) : firstL [a, b] = if a = 0 then b else a := by
  unfold firstL firstL firstL
  by_cases h : a = 0
  · rw [if_pos h, if_pos h]; split <;> omega
  · rw [if_neg h, if_neg h]
theorem compErr_two {p q : List Int} (hp : permErr p = 0) : compErr p q = firstL [permErr q, if p.length ≠ q.length then 2 else 0] := by
  unfold compErr
  rw [firstErr_two, if_pos hp, firstL_two]
  by_cases h : permErr q = 0
  · rw [if_pos h, if_pos h]
    by_cases hl : p.length = q.length
    · rw [if_pos hl, if_neg (by omega)]
    · rw [if_neg hl, if_pos hl]
  · rw [if_neg h, if_neg h]
theorem compErr_bad {p q : List Int} (hp : permErr p ≠ 0) : compErr p q = permErr p := by
  unfold compErr
  rw [firstErr_two, if_neg hp, if_neg hp]

set_option maxRecDepth 100000 in
set_option maxHeartbeats 16000000 in
theorem AlgebraPerms_c (v u : Value) (p q : List Int) (k : Int) (w : World) (hv : Sl w 1 v (icells p)) (hu : Sl w 1 u (icells q)) (hG : Glob w) :
    Calls Tryz.prog 5 #[v, u, .int .i64 k] w fun e w' => e = .returned (.bool true) ∧ Below w.heap.size w w' := by
  obtain ⟨A, c, rfl, hc1, hc2⟩ := hv.form
  obtain ⟨B, d, rfl, gc1, gc2⟩ := hu.form
  simp only [icells_length] at hc1 hv gc1 hu ⊢
  have HG := Lib.hid hG
  have HV := Lib.hid hv
  have HU := Lib.hid hu
  clear hG hv hu
  by_cases h1 : (p.length : Int) > 260
  · go_enter Tryz.func5, Tryz.ntmps5
    go_wp2_with fail
    refine (awake_c _ HG.out).mono ?_
    rintro e w1 ⟨rfl, hB⟩
    have HB1 := Lib.hid hB
    clear hB
    go_wp2_with fail
    refine (awake_c _ (HG.out.below HB1.out)).mono ?_
    rintro e w2 ⟨rfl, hB⟩
    have HB2 := Lib.hid (bT HB1.out hB)
    clear hB
    go_wp2
    go_ret
    exact ⟨rfl, HB2.out⟩
  by_cases h2 : (q.length : Int) > 260
  · go_enter Tryz.func5, Tryz.ntmps5
    go_wp2_with fail
    refine (awake_c _ HG.out).mono ?_
    rintro e w1 ⟨rfl, hB⟩
    have HB1 := Lib.hid hB
    clear hB
    go_wp2_with fail
    refine (awake_c _ (HG.out.below HB1.out)).mono ?_
    rintro e w2 ⟨rfl, hB⟩
    have HB2 := Lib.hid (bT HB1.out hB)
    clear hB
    go_wp2
    go_ret
    exact ⟨rfl, HB2.out⟩
  by_cases h3 : (p.length : Int) > 40
  · by_cases h6 : (p.length : Int) < 250
    · go_enter Tryz.func5, Tryz.ntmps5
      go_wp2_with fail
      refine (awake_c _ HG.out).mono ?_
      rintro e w1 ⟨rfl, hB⟩
      have HB1 := Lib.hid hB
      clear hB
      go_wp2_with fail
      refine (awake_c _ (HG.out.below HB1.out)).mono ?_
      rintro e w2 ⟨rfl, hB⟩
      have HB2 := Lib.hid (bT HB1.out hB)
      clear hB
      go_wp2
      go_ret
      exact ⟨rfl, HB2.out⟩
    · by_cases h4 : (q.length : Int) > 40
      · by_cases h5 : (q.length : Int) < 250
        · go_enter Tryz.func5, Tryz.ntmps5
          go_wp2_with fail
          refine (awake_c _ HG.out).mono ?_
          rintro e w1 ⟨rfl, hB⟩
          have HB1 := Lib.hid hB
          clear hB
          go_wp2_with fail
          refine (awake_c _ (HG.out.below HB1.out)).mono ?_
          rintro e w2 ⟨rfl, hB⟩
          have HB2 := Lib.hid (bT HB1.out hB)
          clear hB
          go_wp2
          go_ret
          exact ⟨rfl, HB2.out⟩
        · go_enter Tryz.func5, Tryz.ntmps5
          go_wp2_with fail
          refine (awake_c _ HG.out).mono ?_
          rintro e w1 ⟨rfl, hB⟩
          have HB1 := Lib.hid hB
          clear hB
          go_wp2_with fail
          refine (refCheckPerm_c _ p _ (HV.out.below HB1.out)).mono ?_
          rintro e w2 ⟨rfl, hB⟩
          have HB2 := Lib.hid (bT HB1.out hB)
          clear hB HB1
          by_cases he : permErr p = 0
          · have He := Lib.hid he
            have HP := Lib.hid (small_err he)
            rw [he]
            clear he
            go_wp2_with fail
            refine (CheckPerm_c _ p _ (HV.out.below HB2.out)).mono ?_
            rintro e w3 ⟨rfl, hB⟩
            rw [He.out]
            have HB3 := Lib.hid (bT HB2.out hB)
            clear hB HB2
            go_wp2_with fail
            refine (Compose_c _ _ p q _ (HV.out.below HB3.out) (HU.out.below HB3.out)).mono ?_
            rintro e w4 ⟨hC, hB⟩
            have HB4 := Lib.hid (bT HB3.out hB)
            clear hB HB3
            -- the composition: its value, or an error
            have hC2 : ∃ cv, e = .returned (.tuple #[cv, .int .i64 (compErr p q)]) ∧ (compErr p q = 0 → SlW w4 cv (icells (comp p q))) ∧ (compErr p q ≠ 0 → cv = .slice none 0 0) := by
              by_cases h0 : compErr p q = 0
              · rw [if_pos h0] at hC
                obtain ⟨cv, h1, h2⟩ := hC
                exact ⟨cv, by rw [h0]; exact h1, fun _ => h2.wide, fun h => absurd h0 h⟩
              · rw [if_neg h0] at hC
                exact ⟨_, hC, fun h => absurd h h0, fun _ => rfl⟩
            obtain ⟨cv, rfl, hC3, hC4⟩ := hC2
            have HC3 := Lib.hid hC3
            have HC4 := Lib.hid hC4
            clear hC hC3 hC4
            obtain ⟨ce, hce⟩ : ∃ ce, compErr p q = ce := ⟨_, rfl⟩
            have HCE := Lib.hid hce
            rw [hce] at HC3 HC4 ⊢
            clear hce
            go_wp2_with fail
            refine (Invert_c _ p _ (HV.out.below HB4.out)).mono ?_
            rintro e w5 ⟨hI, hB⟩
            rw [if_pos He.out] at hI
            obtain ⟨iv, rfl, hiv⟩ := hI
            have HI := Lib.hid hiv
            have HB5 := Lib.hid (bT HB4.out hB)
            have R5 := Lib.hid hB
            clear hB HB4 hiv
            go_wp2_with fail
            refine (Power_c _ p k _ (HV.out.below HB5.out)).mono ?_
            rintro e w6 ⟨hI, hB⟩
            rw [if_pos He.out] at hI
            obtain ⟨pv, rfl, hpv⟩ := hI
            have HW := Lib.hid hpv
            have HB6 := Lib.hid (bT HB5.out hB)
            have R6 := Lib.hid (bT R5.out hB)
            have HI6 := Lib.hid (HI.out.below hB)
            clear hB HB5 hpv R5 HI
            go_wp2_with fail
            refine (Cycles_c _ p _ (HV.out.below HB6.out)).mono ?_
            rintro e w7 ⟨hB, ⟨_, lv, base, rfl, hbase, hT⟩ | ⟨hbad, _⟩⟩
            rotate_left
            · exact absurd He.out hbad
            have HT := Lib.hid (hT.wide (Nat.le_trans (cycs_len p) (by have := HP.out.2; omega)) (fun r hr => Nat.le_trans (cycTo_short p p.length r hr) (by have := HP.out.2; omega)))
            have HB7 := Lib.hid (bT HB6.out hB)
            have R7 := Lib.hid (bT R6.out hB)
            have HI7 := Lib.hid (HI6.out.below hB)
            have HW7 := Lib.hid (HW.out.below hB)
            clear hB HB6 hT R6 HI6 HW hbase
            go_wp2_with fail
            refine (Sign_c _ p _ (HV.out.below HB7.out)).mono ?_
            rintro e w8 ⟨hS, hB⟩
            rw [if_pos He.out, He.out, sign_parity HP.out.1] at hS
            subst hS
            have HB8 := Lib.hid (bT HB7.out hB)
            have R8 := Lib.hid (bT R7.out hB)
            have HI8 := Lib.hid (HI7.out.below hB)
            have HW8 := Lib.hid (HW7.out.below hB)
            have HT8 := Lib.hid (HT.out.below hB)
            clear hB HB7 R7 HI7 HW7 HT
            obtain ⟨sg, hsg⟩ : ∃ sg, parL p = sg := ⟨_, rfl⟩
            have HSG := Lib.hid hsg
            rw [hsg]
            clear hsg
            go_wp2_with fail
            refine (refInvert_c _ p _ (HV.out.below HB8.out) HP.out.1 (by have := HP.out.2; omega)).mono ?_
            rintro e w9 ⟨x9, rfl, hx9, hB⟩
            have HX9 := Lib.hid hx9
            have HB9 := Lib.hid (bT HB8.out hB)
            have R9 := Lib.hid (bT R8.out hB)
            have HI9 := Lib.hid (HI8.out.below hB)
            have HW9 := Lib.hid (HW8.out.below hB)
            have HT9 := Lib.hid (HT8.out.below hB)
            clear hB HB8 R8 HI8 HW8 HT8 hx9
            go_wp2_with fail
            refine (list_ok (invL p) _ _ _ HI9.out.wide HX9.out.wide).mono ?_
            rintro e w10 ⟨rfl, hB⟩
            have HB10 := Lib.hid (bT HB9.out hB)
            have R10 := Lib.hid (bT R9.out hB)
            have HW10 := Lib.hid (HW9.out.below hB)
            have HT10 := Lib.hid (HT9.out.below hB)
            clear hB HB9 R9 HI9 HW9 HT9 HX9
            go_wp2_with fail
            refine (refPower_c _ p k _ (HV.out.below HB10.out) HP.out.1 HP.out.2).mono ?_
            rintro e w11 ⟨x11, rfl, hx11, hB⟩
            have HX11 := Lib.hid hx11
            have HB11 := Lib.hid (bT HB10.out hB)
            have R11 := Lib.hid (bT R10.out hB)
            have HW11 := Lib.hid (HW10.out.below hB)
            have HT11 := Lib.hid (HT10.out.below hB)
            clear hB HB10 R10 HW10 HT10 hx11
            go_wp2_with fail
            refine (list_ok (powL p k) _ _ _ HW11.out.wide HX11.out.wide).mono ?_
            rintro e w12 ⟨rfl, hB⟩
            have HB12 := Lib.hid (bT HB11.out hB)
            have R12 := Lib.hid (bT R11.out hB)
            have HT12 := Lib.hid (HT11.out.below hB)
            clear hB HB11 R11 HW11 HT11 HX11
            go_wp2_with fail
            refine (refCycles_c _ p _ (HV.out.below HB12.out) HP.out.1 HP.out.2).mono ?_
            rintro e w13 ⟨x13, rfl, hx13, hB⟩
            have HX13 := Lib.hid (hx13.wide (Nat.le_trans (cycs_len p) (by have := HP.out.2; omega)) (fun r hr => Nat.le_trans (cycTo_short p p.length r hr) (by have := HP.out.2; omega)))
            have HB13 := Lib.hid (bT HB12.out hB)
            have R13 := Lib.hid (bT R12.out hB)
            have HT13 := Lib.hid (HT12.out.below hB)
            clear hB HB12 R12 HT12 hx13
            go_wp2_with fail
            refine (aw_st (cycs p) _ _ _ HT13.out HX13.out).mono ?_
            rintro e w14 ⟨rfl, hB⟩
            have HB14 := Lib.hid (bT HB13.out hB)
            have R14 := Lib.hid (bT R13.out hB)
            clear hB HB13 R13 HT13 HX13
            go_wp2_with fail
            refine (refParityOf_c _ p _ (HV.out.below HB14.out)).mono ?_
            rintro e w15 ⟨rfl, hB⟩
            rw [HSG.out]
            have HB15 := Lib.hid (bT HB14.out hB)
            have R15 := Lib.hid (bT R14.out hB)
            clear hB HB14 R14
            go_wp2_with fail
            refine (integer_ok sg _).mono ?_
            rintro e w16 ⟨rfl, hB⟩
            have HB16 := Lib.hid (bT HB15.out hB)
            have R16 := Lib.hid (bT R15.out hB)
            clear hB HB15 R15
            go_wp2_with fail
            refine (refCheckPerm_c _ q _ (HU.out.below HB16.out)).mono ?_
            rintro e w17 ⟨rfl, hB⟩
            have HB17 := Lib.hid (bT HB16.out hB)
            have R17 := Lib.hid (bT R16.out hB)
            clear hB HB16 R16
            obtain ⟨qe, hqe⟩ : ∃ qe, permErr q = qe := ⟨_, rfl⟩
            have HQE := Lib.hid hqe
            rw [hqe]
            clear hqe
            have HTw := Lib.hid (compErr_two (q := q) He.out)
            rw [HCE.out, HQE.out] at HTw
            obtain ⟨z, hz⟩ : ∃ z : Int, (if p.length ≠ q.length then (2 : Int) else 0) = z := ⟨_, rfl⟩
            have HZ := Lib.hid hz
            rw [hz] at HTw
            clear hz
            obtain ⟨lb, hlb⟩ : ∃ lb : Bool, ((p.length : Int) != (q.length : Int)) = lb := ⟨_, rfl⟩
            have HLb : Hid ((if lb = true then (2 : Int) else 0) = z) := Lib.hid (by
              rw [← hlb, ← HZ.out]
              by_cases hl : p.length = q.length
              · rw [if_neg (by simp [hl]), if_neg (by omega)]
              · rw [if_pos (by simpa using (by omega : ¬ (p.length : Int) = q.length)), if_pos hl])
            go_wp2_with (go_at_call 41; refine (when_c lb 2 _).mono ?_; rintro e w' ⟨rfl, rfl⟩; rw [HLb.out])
            refine (lfirst_c _ [qe, z] _ (litI w17 _ [qe, z] 2 rfl (by decide))).mono ?_
            rintro e w18 ⟨rfl, hB⟩
            rw [← HTw.out]
            have HB18 := Lib.hid (bT (bA HB17.out _) hB)
            have R18 := Lib.hid (bT (bA R17.out _) hB)
            clear hB HB17 R17 hlb HLb
            by_cases h0 : ce = 0
            · have HCz := Lib.hid (HC3.out h0)
              have hqp : permErr q = 0 ∧ p.length = q.length := by
                have := HTw.out
                rw [firstL_two, h0] at this
                by_cases h : qe = 0
                · rw [if_pos h] at this
                  refine ⟨HQE.out.trans h, ?_⟩
                  by_cases hl : p.length = q.length
                  · exact hl
                  · have h9 := HZ.out
                    rw [if_pos hl] at h9; omega
                · rw [if_neg h] at this; exact absurd this.symm h
              have HQ := Lib.hid (small_err hqp.1)
              have HPL := Lib.hid hqp.2
              clear hqp HC3 HC4 HTw HCE
              subst h0
              go_wp2_with fail
              refine (refCompose_c _ _ p q _ (HV.out.below HB18.out) (HU.out.below HB18.out) (fun x hx => by rw [HPL.out]; exact HQ.out.1.1 x hx) (by have := HQ.out.2; omega)).mono ?_
              rintro e w19 ⟨x19, rfl, hx19, hB⟩
              have hq1 := HQ.out.2
              have hcl : (icells (comp p q)).length = q.length := by simp [icells, comp]
              have hx20 : w19.ownsRow w18.heap.size 3 1 x19 (icells (comp p q)).length (icells (comp p q)) := by rw [hcl]; exact hx19
              have HX19 := Lib.hid (oSl hx20 (by rw [hcl]; omega))
              have HCf := Lib.hid (HCz.out.below (bT R18.out hB))
              have HB19 := Lib.hid (bT HB18.out hB)
              clear hB HB18 hx19 hx20 hcl hq1 HCz
              go_wp2_with fail
              refine (list_ok (comp p q) _ _ _ HCf.out HX19.out).mono ?_
              rintro e w20 ⟨rfl, hB⟩
              have HB20 := Lib.hid (bT HB19.out hB)
              clear hB HB19
              go_wp2
              go_ret
              exact ⟨rfl, HB20.out⟩
            · have hcv := HC4.out h0
              have hne : (ce != 0) = true := by simpa using h0
              have Hne := Lib.hid h0
              subst hcv
              clear HC3 HC4 HTw HCE h0
              go_wp2_with fail
              refine (list_bad ce _ _ Hne.out).mono ?_
              rintro e w19 ⟨rfl, hB⟩
              have HB19 := Lib.hid (bT HB18.out hB)
              clear hB HB18
              go_wp2
              go_ret
              exact ⟨rfl, HB19.out⟩
          · have He := Lib.hid he
            have hcb : compErr p q = permErr p := compErr_bad he
            obtain ⟨pe, hpe⟩ : ∃ pe, permErr p = pe := ⟨_, rfl⟩
            have HPE := Lib.hid hpe
            rw [hpe] at he ⊢
            have hne : (pe != 0) = true := by simpa using he
            have Hne := Lib.hid he
            have HCB := Lib.hid (hcb.trans hpe)
            clear he hcb hpe
            go_wp2_with fail
            refine (CheckPerm_c _ p _ (HV.out.below HB2.out)).mono ?_
            rintro e w3 ⟨rfl, hB⟩
            rw [HPE.out]
            have HB3 := Lib.hid (bT HB2.out hB)
            clear hB HB2
            go_wp2_with fail
            refine (Compose_c _ _ p q _ (HV.out.below HB3.out) (HU.out.below HB3.out)).mono ?_
            rintro e w4 ⟨hC, hB⟩
            rw [HCB.out, if_neg Hne.out] at hC
            subst hC
            have HB4 := Lib.hid (bT HB3.out hB)
            clear hB HB3
            go_wp2_with fail
            refine (Invert_c _ p _ (HV.out.below HB4.out)).mono ?_
            rintro e w5 ⟨hC, hB⟩
            rw [HPE.out, if_neg Hne.out] at hC
            subst hC
            have HB5 := Lib.hid (bT HB4.out hB)
            clear hB HB4
            go_wp2_with fail
            refine (Power_c _ p k _ (HV.out.below HB5.out)).mono ?_
            rintro e w6 ⟨hC, hB⟩
            rw [HPE.out, if_neg Hne.out] at hC
            subst hC
            have HB6 := Lib.hid (bT HB5.out hB)
            clear hB HB5
            go_wp2_with fail
            refine (Cycles_c _ p _ (HV.out.below HB6.out)).mono ?_
            rintro e w7 ⟨hB, ⟨hbad, _⟩ | ⟨_, rfl⟩⟩
            · exact absurd (HPE.out.symm.trans hbad) Hne.out
            rw [HPE.out]
            have HB7 := Lib.hid (bT HB6.out hB)
            clear hB HB6
            go_wp2_with fail
            refine (Sign_c _ p _ (HV.out.below HB7.out)).mono ?_
            rintro e w8 ⟨hS, hB⟩
            rw [HPE.out, if_neg Hne.out] at hS
            subst hS
            have HB8 := Lib.hid (bT HB7.out hB)
            clear hB HB7
            go_wp2_with fail
            refine (list_bad pe _ _ Hne.out).mono ?_
            rintro e w9 ⟨rfl, hB⟩
            have HB9 := Lib.hid (bT HB8.out hB)
            clear hB HB8
            go_wp2_with fail
            refine (list_bad pe _ _ Hne.out).mono ?_
            rintro e w10 ⟨rfl, hB⟩
            have HB10 := Lib.hid (bT HB9.out hB)
            clear hB HB9
            go_wp2_with fail
            refine (list_bad pe _ _ Hne.out).mono ?_
            rintro e w11 ⟨rfl, hB⟩
            have HB11 := Lib.hid (bT HB10.out hB)
            clear hB HB10
            go_wp2_with fail
            refine (integer_bad pe _ _ Hne.out).mono ?_
            rintro e w12 ⟨rfl, hB⟩
            have HB12 := Lib.hid (bT HB11.out hB)
            clear hB HB11
            go_wp2
            go_ret
            exact ⟨rfl, HB12.out⟩
      · go_enter Tryz.func5, Tryz.ntmps5
        go_wp2_with fail
        refine (awake_c _ HG.out).mono ?_
        rintro e w1 ⟨rfl, hB⟩
        have HB1 := Lib.hid hB
        clear hB
        go_wp2_with fail
        refine (refCheckPerm_c _ p _ (HV.out.below HB1.out)).mono ?_
        rintro e w2 ⟨rfl, hB⟩
        have HB2 := Lib.hid (bT HB1.out hB)
        clear hB HB1
        by_cases he : permErr p = 0
        · have He := Lib.hid he
          have HP := Lib.hid (small_err he)
          rw [he]
          clear he
          go_wp2_with fail
          refine (CheckPerm_c _ p _ (HV.out.below HB2.out)).mono ?_
          rintro e w3 ⟨rfl, hB⟩
          rw [He.out]
          have HB3 := Lib.hid (bT HB2.out hB)
          clear hB HB2
          go_wp2_with fail
          refine (Compose_c _ _ p q _ (HV.out.below HB3.out) (HU.out.below HB3.out)).mono ?_
          rintro e w4 ⟨hC, hB⟩
          have HB4 := Lib.hid (bT HB3.out hB)
          clear hB HB3
          -- the composition: its value, or an error
          have hC2 : ∃ cv, e = .returned (.tuple #[cv, .int .i64 (compErr p q)]) ∧ (compErr p q = 0 → SlW w4 cv (icells (comp p q))) ∧ (compErr p q ≠ 0 → cv = .slice none 0 0) := by
            by_cases h0 : compErr p q = 0
            · rw [if_pos h0] at hC
              obtain ⟨cv, h1, h2⟩ := hC
              exact ⟨cv, by rw [h0]; exact h1, fun _ => h2.wide, fun h => absurd h0 h⟩
            · rw [if_neg h0] at hC
              exact ⟨_, hC, fun h => absurd h h0, fun _ => rfl⟩
          obtain ⟨cv, rfl, hC3, hC4⟩ := hC2
          have HC3 := Lib.hid hC3
          have HC4 := Lib.hid hC4
          clear hC hC3 hC4
          obtain ⟨ce, hce⟩ : ∃ ce, compErr p q = ce := ⟨_, rfl⟩
          have HCE := Lib.hid hce
          rw [hce] at HC3 HC4 ⊢
          clear hce
          go_wp2_with fail
          refine (Invert_c _ p _ (HV.out.below HB4.out)).mono ?_
          rintro e w5 ⟨hI, hB⟩
          rw [if_pos He.out] at hI
          obtain ⟨iv, rfl, hiv⟩ := hI
          have HI := Lib.hid hiv
          have HB5 := Lib.hid (bT HB4.out hB)
          have R5 := Lib.hid hB
          clear hB HB4 hiv
          go_wp2_with fail
          refine (Power_c _ p k _ (HV.out.below HB5.out)).mono ?_
          rintro e w6 ⟨hI, hB⟩
          rw [if_pos He.out] at hI
          obtain ⟨pv, rfl, hpv⟩ := hI
          have HW := Lib.hid hpv
          have HB6 := Lib.hid (bT HB5.out hB)
          have R6 := Lib.hid (bT R5.out hB)
          have HI6 := Lib.hid (HI.out.below hB)
          clear hB HB5 hpv R5 HI
          go_wp2_with fail
          refine (Cycles_c _ p _ (HV.out.below HB6.out)).mono ?_
          rintro e w7 ⟨hB, ⟨_, lv, base, rfl, hbase, hT⟩ | ⟨hbad, _⟩⟩
          rotate_left
          · exact absurd He.out hbad
          have HT := Lib.hid (hT.wide (Nat.le_trans (cycs_len p) (by have := HP.out.2; omega)) (fun r hr => Nat.le_trans (cycTo_short p p.length r hr) (by have := HP.out.2; omega)))
          have HB7 := Lib.hid (bT HB6.out hB)
          have R7 := Lib.hid (bT R6.out hB)
          have HI7 := Lib.hid (HI6.out.below hB)
          have HW7 := Lib.hid (HW.out.below hB)
          clear hB HB6 hT R6 HI6 HW hbase
          go_wp2_with fail
          refine (Sign_c _ p _ (HV.out.below HB7.out)).mono ?_
          rintro e w8 ⟨hS, hB⟩
          rw [if_pos He.out, He.out, sign_parity HP.out.1] at hS
          subst hS
          have HB8 := Lib.hid (bT HB7.out hB)
          have R8 := Lib.hid (bT R7.out hB)
          have HI8 := Lib.hid (HI7.out.below hB)
          have HW8 := Lib.hid (HW7.out.below hB)
          have HT8 := Lib.hid (HT.out.below hB)
          clear hB HB7 R7 HI7 HW7 HT
          obtain ⟨sg, hsg⟩ : ∃ sg, parL p = sg := ⟨_, rfl⟩
          have HSG := Lib.hid hsg
          rw [hsg]
          clear hsg
          go_wp2_with fail
          refine (refInvert_c _ p _ (HV.out.below HB8.out) HP.out.1 (by have := HP.out.2; omega)).mono ?_
          rintro e w9 ⟨x9, rfl, hx9, hB⟩
          have HX9 := Lib.hid hx9
          have HB9 := Lib.hid (bT HB8.out hB)
          have R9 := Lib.hid (bT R8.out hB)
          have HI9 := Lib.hid (HI8.out.below hB)
          have HW9 := Lib.hid (HW8.out.below hB)
          have HT9 := Lib.hid (HT8.out.below hB)
          clear hB HB8 R8 HI8 HW8 HT8 hx9
          go_wp2_with fail
          refine (list_ok (invL p) _ _ _ HI9.out.wide HX9.out.wide).mono ?_
          rintro e w10 ⟨rfl, hB⟩
          have HB10 := Lib.hid (bT HB9.out hB)
          have R10 := Lib.hid (bT R9.out hB)
          have HW10 := Lib.hid (HW9.out.below hB)
          have HT10 := Lib.hid (HT9.out.below hB)
          clear hB HB9 R9 HI9 HW9 HT9 HX9
          go_wp2_with fail
          refine (refPower_c _ p k _ (HV.out.below HB10.out) HP.out.1 HP.out.2).mono ?_
          rintro e w11 ⟨x11, rfl, hx11, hB⟩
          have HX11 := Lib.hid hx11
          have HB11 := Lib.hid (bT HB10.out hB)
          have R11 := Lib.hid (bT R10.out hB)
          have HW11 := Lib.hid (HW10.out.below hB)
          have HT11 := Lib.hid (HT10.out.below hB)
          clear hB HB10 R10 HW10 HT10 hx11
          go_wp2_with fail
          refine (list_ok (powL p k) _ _ _ HW11.out.wide HX11.out.wide).mono ?_
          rintro e w12 ⟨rfl, hB⟩
          have HB12 := Lib.hid (bT HB11.out hB)
          have R12 := Lib.hid (bT R11.out hB)
          have HT12 := Lib.hid (HT11.out.below hB)
          clear hB HB11 R11 HW11 HT11 HX11
          go_wp2_with fail
          refine (refCycles_c _ p _ (HV.out.below HB12.out) HP.out.1 HP.out.2).mono ?_
          rintro e w13 ⟨x13, rfl, hx13, hB⟩
          have HX13 := Lib.hid (hx13.wide (Nat.le_trans (cycs_len p) (by have := HP.out.2; omega)) (fun r hr => Nat.le_trans (cycTo_short p p.length r hr) (by have := HP.out.2; omega)))
          have HB13 := Lib.hid (bT HB12.out hB)
          have R13 := Lib.hid (bT R12.out hB)
          have HT13 := Lib.hid (HT12.out.below hB)
          clear hB HB12 R12 HT12 hx13
          go_wp2_with fail
          refine (aw_st (cycs p) _ _ _ HT13.out HX13.out).mono ?_
          rintro e w14 ⟨rfl, hB⟩
          have HB14 := Lib.hid (bT HB13.out hB)
          have R14 := Lib.hid (bT R13.out hB)
          clear hB HB13 R13 HT13 HX13
          go_wp2_with fail
          refine (refParityOf_c _ p _ (HV.out.below HB14.out)).mono ?_
          rintro e w15 ⟨rfl, hB⟩
          rw [HSG.out]
          have HB15 := Lib.hid (bT HB14.out hB)
          have R15 := Lib.hid (bT R14.out hB)
          clear hB HB14 R14
          go_wp2_with fail
          refine (integer_ok sg _).mono ?_
          rintro e w16 ⟨rfl, hB⟩
          have HB16 := Lib.hid (bT HB15.out hB)
          have R16 := Lib.hid (bT R15.out hB)
          clear hB HB15 R15
          go_wp2_with fail
          refine (refCheckPerm_c _ q _ (HU.out.below HB16.out)).mono ?_
          rintro e w17 ⟨rfl, hB⟩
          have HB17 := Lib.hid (bT HB16.out hB)
          have R17 := Lib.hid (bT R16.out hB)
          clear hB HB16 R16
          obtain ⟨qe, hqe⟩ : ∃ qe, permErr q = qe := ⟨_, rfl⟩
          have HQE := Lib.hid hqe
          rw [hqe]
          clear hqe
          have HTw := Lib.hid (compErr_two (q := q) He.out)
          rw [HCE.out, HQE.out] at HTw
          obtain ⟨z, hz⟩ : ∃ z : Int, (if p.length ≠ q.length then (2 : Int) else 0) = z := ⟨_, rfl⟩
          have HZ := Lib.hid hz
          rw [hz] at HTw
          clear hz
          obtain ⟨lb, hlb⟩ : ∃ lb : Bool, ((p.length : Int) != (q.length : Int)) = lb := ⟨_, rfl⟩
          have HLb : Hid ((if lb = true then (2 : Int) else 0) = z) := Lib.hid (by
            rw [← hlb, ← HZ.out]
            by_cases hl : p.length = q.length
            · rw [if_neg (by simp [hl]), if_neg (by omega)]
            · rw [if_pos (by simpa using (by omega : ¬ (p.length : Int) = q.length)), if_pos hl])
          go_wp2_with (go_at_call 41; refine (when_c lb 2 _).mono ?_; rintro e w' ⟨rfl, rfl⟩; rw [HLb.out])
          refine (lfirst_c _ [qe, z] _ (litI w17 _ [qe, z] 2 rfl (by decide))).mono ?_
          rintro e w18 ⟨rfl, hB⟩
          rw [← HTw.out]
          have HB18 := Lib.hid (bT (bA HB17.out _) hB)
          have R18 := Lib.hid (bT (bA R17.out _) hB)
          clear hB HB17 R17 hlb HLb
          by_cases h0 : ce = 0
          · have HCz := Lib.hid (HC3.out h0)
            have hqp : permErr q = 0 ∧ p.length = q.length := by
              have := HTw.out
              rw [firstL_two, h0] at this
              by_cases h : qe = 0
              · rw [if_pos h] at this
                refine ⟨HQE.out.trans h, ?_⟩
                by_cases hl : p.length = q.length
                · exact hl
                · have h9 := HZ.out
                  rw [if_pos hl] at h9; omega
              · rw [if_neg h] at this; exact absurd this.symm h
            have HQ := Lib.hid (small_err hqp.1)
            have HPL := Lib.hid hqp.2
            clear hqp HC3 HC4 HTw HCE
            subst h0
            go_wp2_with fail
            refine (refCompose_c _ _ p q _ (HV.out.below HB18.out) (HU.out.below HB18.out) (fun x hx => by rw [HPL.out]; exact HQ.out.1.1 x hx) (by have := HQ.out.2; omega)).mono ?_
            rintro e w19 ⟨x19, rfl, hx19, hB⟩
            have hq1 := HQ.out.2
            have hcl : (icells (comp p q)).length = q.length := by simp [icells, comp]
            have hx20 : w19.ownsRow w18.heap.size 3 1 x19 (icells (comp p q)).length (icells (comp p q)) := by rw [hcl]; exact hx19
            have HX19 := Lib.hid (oSl hx20 (by rw [hcl]; omega))
            have HCf := Lib.hid (HCz.out.below (bT R18.out hB))
            have HB19 := Lib.hid (bT HB18.out hB)
            clear hB HB18 hx19 hx20 hcl hq1 HCz
            go_wp2_with fail
            refine (list_ok (comp p q) _ _ _ HCf.out HX19.out).mono ?_
            rintro e w20 ⟨rfl, hB⟩
            have HB20 := Lib.hid (bT HB19.out hB)
            clear hB HB19
            go_wp2
            go_ret
            exact ⟨rfl, HB20.out⟩
          · have hcv := HC4.out h0
            have hne : (ce != 0) = true := by simpa using h0
            have Hne := Lib.hid h0
            subst hcv
            clear HC3 HC4 HTw HCE h0
            go_wp2_with fail
            refine (list_bad ce _ _ Hne.out).mono ?_
            rintro e w19 ⟨rfl, hB⟩
            have HB19 := Lib.hid (bT HB18.out hB)
            clear hB HB18
            go_wp2
            go_ret
            exact ⟨rfl, HB19.out⟩
        · have He := Lib.hid he
          have hcb : compErr p q = permErr p := compErr_bad he
          obtain ⟨pe, hpe⟩ : ∃ pe, permErr p = pe := ⟨_, rfl⟩
          have HPE := Lib.hid hpe
          rw [hpe] at he ⊢
          have hne : (pe != 0) = true := by simpa using he
          have Hne := Lib.hid he
          have HCB := Lib.hid (hcb.trans hpe)
          clear he hcb hpe
          go_wp2_with fail
          refine (CheckPerm_c _ p _ (HV.out.below HB2.out)).mono ?_
          rintro e w3 ⟨rfl, hB⟩
          rw [HPE.out]
          have HB3 := Lib.hid (bT HB2.out hB)
          clear hB HB2
          go_wp2_with fail
          refine (Compose_c _ _ p q _ (HV.out.below HB3.out) (HU.out.below HB3.out)).mono ?_
          rintro e w4 ⟨hC, hB⟩
          rw [HCB.out, if_neg Hne.out] at hC
          subst hC
          have HB4 := Lib.hid (bT HB3.out hB)
          clear hB HB3
          go_wp2_with fail
          refine (Invert_c _ p _ (HV.out.below HB4.out)).mono ?_
          rintro e w5 ⟨hC, hB⟩
          rw [HPE.out, if_neg Hne.out] at hC
          subst hC
          have HB5 := Lib.hid (bT HB4.out hB)
          clear hB HB4
          go_wp2_with fail
          refine (Power_c _ p k _ (HV.out.below HB5.out)).mono ?_
          rintro e w6 ⟨hC, hB⟩
          rw [HPE.out, if_neg Hne.out] at hC
          subst hC
          have HB6 := Lib.hid (bT HB5.out hB)
          clear hB HB5
          go_wp2_with fail
          refine (Cycles_c _ p _ (HV.out.below HB6.out)).mono ?_
          rintro e w7 ⟨hB, ⟨hbad, _⟩ | ⟨_, rfl⟩⟩
          · exact absurd (HPE.out.symm.trans hbad) Hne.out
          rw [HPE.out]
          have HB7 := Lib.hid (bT HB6.out hB)
          clear hB HB6
          go_wp2_with fail
          refine (Sign_c _ p _ (HV.out.below HB7.out)).mono ?_
          rintro e w8 ⟨hS, hB⟩
          rw [HPE.out, if_neg Hne.out] at hS
          subst hS
          have HB8 := Lib.hid (bT HB7.out hB)
          clear hB HB7
          go_wp2_with fail
          refine (list_bad pe _ _ Hne.out).mono ?_
          rintro e w9 ⟨rfl, hB⟩
          have HB9 := Lib.hid (bT HB8.out hB)
          clear hB HB8
          go_wp2_with fail
          refine (list_bad pe _ _ Hne.out).mono ?_
          rintro e w10 ⟨rfl, hB⟩
          have HB10 := Lib.hid (bT HB9.out hB)
          clear hB HB9
          go_wp2_with fail
          refine (list_bad pe _ _ Hne.out).mono ?_
          rintro e w11 ⟨rfl, hB⟩
          have HB11 := Lib.hid (bT HB10.out hB)
          clear hB HB10
          go_wp2_with fail
          refine (integer_bad pe _ _ Hne.out).mono ?_
          rintro e w12 ⟨rfl, hB⟩
          have HB12 := Lib.hid (bT HB11.out hB)
          clear hB HB11
          go_wp2
          go_ret
          exact ⟨rfl, HB12.out⟩
  · by_cases h4 : (q.length : Int) > 40
    · by_cases h5 : (q.length : Int) < 250
      · go_enter Tryz.func5, Tryz.ntmps5
        go_wp2_with fail
        refine (awake_c _ HG.out).mono ?_
        rintro e w1 ⟨rfl, hB⟩
        have HB1 := Lib.hid hB
        clear hB
        go_wp2_with fail
        refine (awake_c _ (HG.out.below HB1.out)).mono ?_
        rintro e w2 ⟨rfl, hB⟩
        have HB2 := Lib.hid (bT HB1.out hB)
        clear hB
        go_wp2
        go_ret
        exact ⟨rfl, HB2.out⟩
      · go_enter Tryz.func5, Tryz.ntmps5
        go_wp2_with fail
        refine (awake_c _ HG.out).mono ?_
        rintro e w1 ⟨rfl, hB⟩
        have HB1 := Lib.hid hB
        clear hB
        go_wp2_with fail
        refine (refCheckPerm_c _ p _ (HV.out.below HB1.out)).mono ?_
        rintro e w2 ⟨rfl, hB⟩
        have HB2 := Lib.hid (bT HB1.out hB)
        clear hB HB1
        by_cases he : permErr p = 0
        · have He := Lib.hid he
          have HP := Lib.hid (small_err he)
          rw [he]
          clear he
          go_wp2_with fail
          refine (CheckPerm_c _ p _ (HV.out.below HB2.out)).mono ?_
          rintro e w3 ⟨rfl, hB⟩
          rw [He.out]
          have HB3 := Lib.hid (bT HB2.out hB)
          clear hB HB2
          go_wp2_with fail
          refine (Compose_c _ _ p q _ (HV.out.below HB3.out) (HU.out.below HB3.out)).mono ?_
          rintro e w4 ⟨hC, hB⟩
          have HB4 := Lib.hid (bT HB3.out hB)
          clear hB HB3
          -- the composition: its value, or an error
          have hC2 : ∃ cv, e = .returned (.tuple #[cv, .int .i64 (compErr p q)]) ∧ (compErr p q = 0 → SlW w4 cv (icells (comp p q))) ∧ (compErr p q ≠ 0 → cv = .slice none 0 0) := by
            by_cases h0 : compErr p q = 0
            · rw [if_pos h0] at hC
              obtain ⟨cv, h1, h2⟩ := hC
              exact ⟨cv, by rw [h0]; exact h1, fun _ => h2.wide, fun h => absurd h0 h⟩
            · rw [if_neg h0] at hC
              exact ⟨_, hC, fun h => absurd h h0, fun _ => rfl⟩
          obtain ⟨cv, rfl, hC3, hC4⟩ := hC2
          have HC3 := Lib.hid hC3
          have HC4 := Lib.hid hC4
          clear hC hC3 hC4
          obtain ⟨ce, hce⟩ : ∃ ce, compErr p q = ce := ⟨_, rfl⟩
          have HCE := Lib.hid hce
          rw [hce] at HC3 HC4 ⊢
          clear hce
          go_wp2_with fail
          refine (Invert_c _ p _ (HV.out.below HB4.out)).mono ?_
          rintro e w5 ⟨hI, hB⟩
          rw [if_pos He.out] at hI
          obtain ⟨iv, rfl, hiv⟩ := hI
          have HI := Lib.hid hiv
          have HB5 := Lib.hid (bT HB4.out hB)
          have R5 := Lib.hid hB
          clear hB HB4 hiv
          go_wp2_with fail
          refine (Power_c _ p k _ (HV.out.below HB5.out)).mono ?_
          rintro e w6 ⟨hI, hB⟩
          rw [if_pos He.out] at hI
          obtain ⟨pv, rfl, hpv⟩ := hI
          have HW := Lib.hid hpv
          have HB6 := Lib.hid (bT HB5.out hB)
          have R6 := Lib.hid (bT R5.out hB)
          have HI6 := Lib.hid (HI.out.below hB)
          clear hB HB5 hpv R5 HI
          go_wp2_with fail
          refine (Cycles_c _ p _ (HV.out.below HB6.out)).mono ?_
          rintro e w7 ⟨hB, ⟨_, lv, base, rfl, hbase, hT⟩ | ⟨hbad, _⟩⟩
          rotate_left
          · exact absurd He.out hbad
          have HT := Lib.hid (hT.wide (Nat.le_trans (cycs_len p) (by have := HP.out.2; omega)) (fun r hr => Nat.le_trans (cycTo_short p p.length r hr) (by have := HP.out.2; omega)))
          have HB7 := Lib.hid (bT HB6.out hB)
          have R7 := Lib.hid (bT R6.out hB)
          have HI7 := Lib.hid (HI6.out.below hB)
          have HW7 := Lib.hid (HW.out.below hB)
          clear hB HB6 hT R6 HI6 HW hbase
          go_wp2_with fail
          refine (Sign_c _ p _ (HV.out.below HB7.out)).mono ?_
          rintro e w8 ⟨hS, hB⟩
          rw [if_pos He.out, He.out, sign_parity HP.out.1] at hS
          subst hS
          have HB8 := Lib.hid (bT HB7.out hB)
          have R8 := Lib.hid (bT R7.out hB)
          have HI8 := Lib.hid (HI7.out.below hB)
          have HW8 := Lib.hid (HW7.out.below hB)
          have HT8 := Lib.hid (HT.out.below hB)
          clear hB HB7 R7 HI7 HW7 HT
          obtain ⟨sg, hsg⟩ : ∃ sg, parL p = sg := ⟨_, rfl⟩
          have HSG := Lib.hid hsg
          rw [hsg]
          clear hsg
          go_wp2_with fail
          refine (refInvert_c _ p _ (HV.out.below HB8.out) HP.out.1 (by have := HP.out.2; omega)).mono ?_
          rintro e w9 ⟨x9, rfl, hx9, hB⟩
          have HX9 := Lib.hid hx9
          have HB9 := Lib.hid (bT HB8.out hB)
          have R9 := Lib.hid (bT R8.out hB)
          have HI9 := Lib.hid (HI8.out.below hB)
          have HW9 := Lib.hid (HW8.out.below hB)
          have HT9 := Lib.hid (HT8.out.below hB)
          clear hB HB8 R8 HI8 HW8 HT8 hx9
          go_wp2_with fail
          refine (list_ok (invL p) _ _ _ HI9.out.wide HX9.out.wide).mono ?_
          rintro e w10 ⟨rfl, hB⟩
          have HB10 := Lib.hid (bT HB9.out hB)
          have R10 := Lib.hid (bT R9.out hB)
          have HW10 := Lib.hid (HW9.out.below hB)
          have HT10 := Lib.hid (HT9.out.below hB)
          clear hB HB9 R9 HI9 HW9 HT9 HX9
          go_wp2_with fail
          refine (refPower_c _ p k _ (HV.out.below HB10.out) HP.out.1 HP.out.2).mono ?_
          rintro e w11 ⟨x11, rfl, hx11, hB⟩
          have HX11 := Lib.hid hx11
          have HB11 := Lib.hid (bT HB10.out hB)
          have R11 := Lib.hid (bT R10.out hB)
          have HW11 := Lib.hid (HW10.out.below hB)
          have HT11 := Lib.hid (HT10.out.below hB)
          clear hB HB10 R10 HW10 HT10 hx11
          go_wp2_with fail
          refine (list_ok (powL p k) _ _ _ HW11.out.wide HX11.out.wide).mono ?_
          rintro e w12 ⟨rfl, hB⟩
          have HB12 := Lib.hid (bT HB11.out hB)
          have R12 := Lib.hid (bT R11.out hB)
          have HT12 := Lib.hid (HT11.out.below hB)
          clear hB HB11 R11 HW11 HT11 HX11
          go_wp2_with fail
          refine (refCycles_c _ p _ (HV.out.below HB12.out) HP.out.1 HP.out.2).mono ?_
          rintro e w13 ⟨x13, rfl, hx13, hB⟩
          have HX13 := Lib.hid (hx13.wide (Nat.le_trans (cycs_len p) (by have := HP.out.2; omega)) (fun r hr => Nat.le_trans (cycTo_short p p.length r hr) (by have := HP.out.2; omega)))
          have HB13 := Lib.hid (bT HB12.out hB)
          have R13 := Lib.hid (bT R12.out hB)
          have HT13 := Lib.hid (HT12.out.below hB)
          clear hB HB12 R12 HT12 hx13
          go_wp2_with fail
          refine (aw_st (cycs p) _ _ _ HT13.out HX13.out).mono ?_
          rintro e w14 ⟨rfl, hB⟩
          have HB14 := Lib.hid (bT HB13.out hB)
          have R14 := Lib.hid (bT R13.out hB)
          clear hB HB13 R13 HT13 HX13
          go_wp2_with fail
          refine (refParityOf_c _ p _ (HV.out.below HB14.out)).mono ?_
          rintro e w15 ⟨rfl, hB⟩
          rw [HSG.out]
          have HB15 := Lib.hid (bT HB14.out hB)
          have R15 := Lib.hid (bT R14.out hB)
          clear hB HB14 R14
          go_wp2_with fail
          refine (integer_ok sg _).mono ?_
          rintro e w16 ⟨rfl, hB⟩
          have HB16 := Lib.hid (bT HB15.out hB)
          have R16 := Lib.hid (bT R15.out hB)
          clear hB HB15 R15
          go_wp2_with fail
          refine (refCheckPerm_c _ q _ (HU.out.below HB16.out)).mono ?_
          rintro e w17 ⟨rfl, hB⟩
          have HB17 := Lib.hid (bT HB16.out hB)
          have R17 := Lib.hid (bT R16.out hB)
          clear hB HB16 R16
          obtain ⟨qe, hqe⟩ : ∃ qe, permErr q = qe := ⟨_, rfl⟩
          have HQE := Lib.hid hqe
          rw [hqe]
          clear hqe
          have HTw := Lib.hid (compErr_two (q := q) He.out)
          rw [HCE.out, HQE.out] at HTw
          obtain ⟨z, hz⟩ : ∃ z : Int, (if p.length ≠ q.length then (2 : Int) else 0) = z := ⟨_, rfl⟩
          have HZ := Lib.hid hz
          rw [hz] at HTw
          clear hz
          obtain ⟨lb, hlb⟩ : ∃ lb : Bool, ((p.length : Int) != (q.length : Int)) = lb := ⟨_, rfl⟩
          have HLb : Hid ((if lb = true then (2 : Int) else 0) = z) := Lib.hid (by
            rw [← hlb, ← HZ.out]
            by_cases hl : p.length = q.length
            · rw [if_neg (by simp [hl]), if_neg (by omega)]
            · rw [if_pos (by simpa using (by omega : ¬ (p.length : Int) = q.length)), if_pos hl])
          go_wp2_with (go_at_call 41; refine (when_c lb 2 _).mono ?_; rintro e w' ⟨rfl, rfl⟩; rw [HLb.out])
          refine (lfirst_c _ [qe, z] _ (litI w17 _ [qe, z] 2 rfl (by decide))).mono ?_
          rintro e w18 ⟨rfl, hB⟩
          rw [← HTw.out]
          have HB18 := Lib.hid (bT (bA HB17.out _) hB)
          have R18 := Lib.hid (bT (bA R17.out _) hB)
          clear hB HB17 R17 hlb HLb
          by_cases h0 : ce = 0
          · have HCz := Lib.hid (HC3.out h0)
            have hqp : permErr q = 0 ∧ p.length = q.length := by
              have := HTw.out
              rw [firstL_two, h0] at this
              by_cases h : qe = 0
              · rw [if_pos h] at this
                refine ⟨HQE.out.trans h, ?_⟩
                by_cases hl : p.length = q.length
                · exact hl
                · have h9 := HZ.out
                  rw [if_pos hl] at h9; omega
              · rw [if_neg h] at this; exact absurd this.symm h
            have HQ := Lib.hid (small_err hqp.1)
            have HPL := Lib.hid hqp.2
            clear hqp HC3 HC4 HTw HCE
            subst h0
            go_wp2_with fail
            refine (refCompose_c _ _ p q _ (HV.out.below HB18.out) (HU.out.below HB18.out) (fun x hx => by rw [HPL.out]; exact HQ.out.1.1 x hx) (by have := HQ.out.2; omega)).mono ?_
            rintro e w19 ⟨x19, rfl, hx19, hB⟩
            have hq1 := HQ.out.2
            have hcl : (icells (comp p q)).length = q.length := by simp [icells, comp]
            have hx20 : w19.ownsRow w18.heap.size 3 1 x19 (icells (comp p q)).length (icells (comp p q)) := by rw [hcl]; exact hx19
            have HX19 := Lib.hid (oSl hx20 (by rw [hcl]; omega))
            have HCf := Lib.hid (HCz.out.below (bT R18.out hB))
            have HB19 := Lib.hid (bT HB18.out hB)
            clear hB HB18 hx19 hx20 hcl hq1 HCz
            go_wp2_with fail
            refine (list_ok (comp p q) _ _ _ HCf.out HX19.out).mono ?_
            rintro e w20 ⟨rfl, hB⟩
            have HB20 := Lib.hid (bT HB19.out hB)
            clear hB HB19
            go_wp2
            go_ret
            exact ⟨rfl, HB20.out⟩
          · have hcv := HC4.out h0
            have hne : (ce != 0) = true := by simpa using h0
            have Hne := Lib.hid h0
            subst hcv
            clear HC3 HC4 HTw HCE h0
            go_wp2_with fail
            refine (list_bad ce _ _ Hne.out).mono ?_
            rintro e w19 ⟨rfl, hB⟩
            have HB19 := Lib.hid (bT HB18.out hB)
            clear hB HB18
            go_wp2
            go_ret
            exact ⟨rfl, HB19.out⟩
        · have He := Lib.hid he
          have hcb : compErr p q = permErr p := compErr_bad he
          obtain ⟨pe, hpe⟩ : ∃ pe, permErr p = pe := ⟨_, rfl⟩
          have HPE := Lib.hid hpe
          rw [hpe] at he ⊢
          have hne : (pe != 0) = true := by simpa using he
          have Hne := Lib.hid he
          have HCB := Lib.hid (hcb.trans hpe)
          clear he hcb hpe
          go_wp2_with fail
          refine (CheckPerm_c _ p _ (HV.out.below HB2.out)).mono ?_
          rintro e w3 ⟨rfl, hB⟩
          rw [HPE.out]
          have HB3 := Lib.hid (bT HB2.out hB)
          clear hB HB2
          go_wp2_with fail
          refine (Compose_c _ _ p q _ (HV.out.below HB3.out) (HU.out.below HB3.out)).mono ?_
          rintro e w4 ⟨hC, hB⟩
          rw [HCB.out, if_neg Hne.out] at hC
          subst hC
          have HB4 := Lib.hid (bT HB3.out hB)
          clear hB HB3
          go_wp2_with fail
          refine (Invert_c _ p _ (HV.out.below HB4.out)).mono ?_
          rintro e w5 ⟨hC, hB⟩
          rw [HPE.out, if_neg Hne.out] at hC
          subst hC
          have HB5 := Lib.hid (bT HB4.out hB)
          clear hB HB4
          go_wp2_with fail
          refine (Power_c _ p k _ (HV.out.below HB5.out)).mono ?_
          rintro e w6 ⟨hC, hB⟩
          rw [HPE.out, if_neg Hne.out] at hC
          subst hC
          have HB6 := Lib.hid (bT HB5.out hB)
          clear hB HB5
          go_wp2_with fail
          refine (Cycles_c _ p _ (HV.out.below HB6.out)).mono ?_
          rintro e w7 ⟨hB, ⟨hbad, _⟩ | ⟨_, rfl⟩⟩
          · exact absurd (HPE.out.symm.trans hbad) Hne.out
          rw [HPE.out]
          have HB7 := Lib.hid (bT HB6.out hB)
          clear hB HB6
          go_wp2_with fail
          refine (Sign_c _ p _ (HV.out.below HB7.out)).mono ?_
          rintro e w8 ⟨hS, hB⟩
          rw [HPE.out, if_neg Hne.out] at hS
          subst hS
          have HB8 := Lib.hid (bT HB7.out hB)
          clear hB HB7
          go_wp2_with fail
          refine (list_bad pe _ _ Hne.out).mono ?_
          rintro e w9 ⟨rfl, hB⟩
          have HB9 := Lib.hid (bT HB8.out hB)
          clear hB HB8
          go_wp2_with fail
          refine (list_bad pe _ _ Hne.out).mono ?_
          rintro e w10 ⟨rfl, hB⟩
          have HB10 := Lib.hid (bT HB9.out hB)
          clear hB HB9
          go_wp2_with fail
          refine (list_bad pe _ _ Hne.out).mono ?_
          rintro e w11 ⟨rfl, hB⟩
          have HB11 := Lib.hid (bT HB10.out hB)
          clear hB HB10
          go_wp2_with fail
          refine (integer_bad pe _ _ Hne.out).mono ?_
          rintro e w12 ⟨rfl, hB⟩
          have HB12 := Lib.hid (bT HB11.out hB)
          clear hB HB11
          go_wp2
          go_ret
          exact ⟨rfl, HB12.out⟩
    · go_enter Tryz.func5, Tryz.ntmps5
      go_wp2_with fail
      refine (awake_c _ HG.out).mono ?_
      rintro e w1 ⟨rfl, hB⟩
      have HB1 := Lib.hid hB
      clear hB
      go_wp2_with fail
      refine (refCheckPerm_c _ p _ (HV.out.below HB1.out)).mono ?_
      rintro e w2 ⟨rfl, hB⟩
      have HB2 := Lib.hid (bT HB1.out hB)
      clear hB HB1
      by_cases he : permErr p = 0
      · have He := Lib.hid he
        have HP := Lib.hid (small_err he)
        rw [he]
        clear he
        go_wp2_with fail
        refine (CheckPerm_c _ p _ (HV.out.below HB2.out)).mono ?_
        rintro e w3 ⟨rfl, hB⟩
        rw [He.out]
        have HB3 := Lib.hid (bT HB2.out hB)
        clear hB HB2
        go_wp2_with fail
        refine (Compose_c _ _ p q _ (HV.out.below HB3.out) (HU.out.below HB3.out)).mono ?_
        rintro e w4 ⟨hC, hB⟩
        have HB4 := Lib.hid (bT HB3.out hB)
        clear hB HB3
        -- the composition: its value, or an error
        have hC2 : ∃ cv, e = .returned (.tuple #[cv, .int .i64 (compErr p q)]) ∧ (compErr p q = 0 → SlW w4 cv (icells (comp p q))) ∧ (compErr p q ≠ 0 → cv = .slice none 0 0) := by
          by_cases h0 : compErr p q = 0
          · rw [if_pos h0] at hC
            obtain ⟨cv, h1, h2⟩ := hC
            exact ⟨cv, by rw [h0]; exact h1, fun _ => h2.wide, fun h => absurd h0 h⟩
          · rw [if_neg h0] at hC
            exact ⟨_, hC, fun h => absurd h h0, fun _ => rfl⟩
        obtain ⟨cv, rfl, hC3, hC4⟩ := hC2
        have HC3 := Lib.hid hC3
        have HC4 := Lib.hid hC4
        clear hC hC3 hC4
        obtain ⟨ce, hce⟩ : ∃ ce, compErr p q = ce := ⟨_, rfl⟩
        have HCE := Lib.hid hce
        rw [hce] at HC3 HC4 ⊢
        clear hce
        go_wp2_with fail
        refine (Invert_c _ p _ (HV.out.below HB4.out)).mono ?_
        rintro e w5 ⟨hI, hB⟩
        rw [if_pos He.out] at hI
        obtain ⟨iv, rfl, hiv⟩ := hI
        have HI := Lib.hid hiv
        have HB5 := Lib.hid (bT HB4.out hB)
        have R5 := Lib.hid hB
        clear hB HB4 hiv
        go_wp2_with fail
        refine (Power_c _ p k _ (HV.out.below HB5.out)).mono ?_
        rintro e w6 ⟨hI, hB⟩
        rw [if_pos He.out] at hI
        obtain ⟨pv, rfl, hpv⟩ := hI
        have HW := Lib.hid hpv
        have HB6 := Lib.hid (bT HB5.out hB)
        have R6 := Lib.hid (bT R5.out hB)
        have HI6 := Lib.hid (HI.out.below hB)
        clear hB HB5 hpv R5 HI
        go_wp2_with fail
        refine (Cycles_c _ p _ (HV.out.below HB6.out)).mono ?_
        rintro e w7 ⟨hB, ⟨_, lv, base, rfl, hbase, hT⟩ | ⟨hbad, _⟩⟩
        rotate_left
        · exact absurd He.out hbad
        have HT := Lib.hid (hT.wide (Nat.le_trans (cycs_len p) (by have := HP.out.2; omega)) (fun r hr => Nat.le_trans (cycTo_short p p.length r hr) (by have := HP.out.2; omega)))
        have HB7 := Lib.hid (bT HB6.out hB)
        have R7 := Lib.hid (bT R6.out hB)
        have HI7 := Lib.hid (HI6.out.below hB)
        have HW7 := Lib.hid (HW.out.below hB)
        clear hB HB6 hT R6 HI6 HW hbase
        go_wp2_with fail
        refine (Sign_c _ p _ (HV.out.below HB7.out)).mono ?_
        rintro e w8 ⟨hS, hB⟩
        rw [if_pos He.out, He.out, sign_parity HP.out.1] at hS
        subst hS
        have HB8 := Lib.hid (bT HB7.out hB)
        have R8 := Lib.hid (bT R7.out hB)
        have HI8 := Lib.hid (HI7.out.below hB)
        have HW8 := Lib.hid (HW7.out.below hB)
        have HT8 := Lib.hid (HT.out.below hB)
        clear hB HB7 R7 HI7 HW7 HT
        obtain ⟨sg, hsg⟩ : ∃ sg, parL p = sg := ⟨_, rfl⟩
        have HSG := Lib.hid hsg
        rw [hsg]
        clear hsg
        go_wp2_with fail
        refine (refInvert_c _ p _ (HV.out.below HB8.out) HP.out.1 (by have := HP.out.2; omega)).mono ?_
        rintro e w9 ⟨x9, rfl, hx9, hB⟩
        have HX9 := Lib.hid hx9
        have HB9 := Lib.hid (bT HB8.out hB)
        have R9 := Lib.hid (bT R8.out hB)
        have HI9 := Lib.hid (HI8.out.below hB)
        have HW9 := Lib.hid (HW8.out.below hB)
        have HT9 := Lib.hid (HT8.out.below hB)
        clear hB HB8 R8 HI8 HW8 HT8 hx9
        go_wp2_with fail
        refine (list_ok (invL p) _ _ _ HI9.out.wide HX9.out.wide).mono ?_
        rintro e w10 ⟨rfl, hB⟩
        have HB10 := Lib.hid (bT HB9.out hB)
        have R10 := Lib.hid (bT R9.out hB)
        have HW10 := Lib.hid (HW9.out.below hB)
        have HT10 := Lib.hid (HT9.out.below hB)
        clear hB HB9 R9 HI9 HW9 HT9 HX9
        go_wp2_with fail
        refine (refPower_c _ p k _ (HV.out.below HB10.out) HP.out.1 HP.out.2).mono ?_
        rintro e w11 ⟨x11, rfl, hx11, hB⟩
        have HX11 := Lib.hid hx11
        have HB11 := Lib.hid (bT HB10.out hB)
        have R11 := Lib.hid (bT R10.out hB)
        have HW11 := Lib.hid (HW10.out.below hB)
        have HT11 := Lib.hid (HT10.out.below hB)
        clear hB HB10 R10 HW10 HT10 hx11
        go_wp2_with fail
        refine (list_ok (powL p k) _ _ _ HW11.out.wide HX11.out.wide).mono ?_
        rintro e w12 ⟨rfl, hB⟩
        have HB12 := Lib.hid (bT HB11.out hB)
        have R12 := Lib.hid (bT R11.out hB)
        have HT12 := Lib.hid (HT11.out.below hB)
        clear hB HB11 R11 HW11 HT11 HX11
        go_wp2_with fail
        refine (refCycles_c _ p _ (HV.out.below HB12.out) HP.out.1 HP.out.2).mono ?_
        rintro e w13 ⟨x13, rfl, hx13, hB⟩
        have HX13 := Lib.hid (hx13.wide (Nat.le_trans (cycs_len p) (by have := HP.out.2; omega)) (fun r hr => Nat.le_trans (cycTo_short p p.length r hr) (by have := HP.out.2; omega)))
        have HB13 := Lib.hid (bT HB12.out hB)
        have R13 := Lib.hid (bT R12.out hB)
        have HT13 := Lib.hid (HT12.out.below hB)
        clear hB HB12 R12 HT12 hx13
        go_wp2_with fail
        refine (aw_st (cycs p) _ _ _ HT13.out HX13.out).mono ?_
        rintro e w14 ⟨rfl, hB⟩
        have HB14 := Lib.hid (bT HB13.out hB)
        have R14 := Lib.hid (bT R13.out hB)
        clear hB HB13 R13 HT13 HX13
        go_wp2_with fail
        refine (refParityOf_c _ p _ (HV.out.below HB14.out)).mono ?_
        rintro e w15 ⟨rfl, hB⟩
        rw [HSG.out]
        have HB15 := Lib.hid (bT HB14.out hB)
        have R15 := Lib.hid (bT R14.out hB)
        clear hB HB14 R14
        go_wp2_with fail
        refine (integer_ok sg _).mono ?_
        rintro e w16 ⟨rfl, hB⟩
        have HB16 := Lib.hid (bT HB15.out hB)
        have R16 := Lib.hid (bT R15.out hB)
        clear hB HB15 R15
        go_wp2_with fail
        refine (refCheckPerm_c _ q _ (HU.out.below HB16.out)).mono ?_
        rintro e w17 ⟨rfl, hB⟩
        have HB17 := Lib.hid (bT HB16.out hB)
        have R17 := Lib.hid (bT R16.out hB)
        clear hB HB16 R16
        obtain ⟨qe, hqe⟩ : ∃ qe, permErr q = qe := ⟨_, rfl⟩
        have HQE := Lib.hid hqe
        rw [hqe]
        clear hqe
        have HTw := Lib.hid (compErr_two (q := q) He.out)
        rw [HCE.out, HQE.out] at HTw
        obtain ⟨z, hz⟩ : ∃ z : Int, (if p.length ≠ q.length then (2 : Int) else 0) = z := ⟨_, rfl⟩
        have HZ := Lib.hid hz
        rw [hz] at HTw
        clear hz
        obtain ⟨lb, hlb⟩ : ∃ lb : Bool, ((p.length : Int) != (q.length : Int)) = lb := ⟨_, rfl⟩
        have HLb : Hid ((if lb = true then (2 : Int) else 0) = z) := Lib.hid (by
          rw [← hlb, ← HZ.out]
          by_cases hl : p.length = q.length
          · rw [if_neg (by simp [hl]), if_neg (by omega)]
          · rw [if_pos (by simpa using (by omega : ¬ (p.length : Int) = q.length)), if_pos hl])
        go_wp2_with (go_at_call 41; refine (when_c lb 2 _).mono ?_; rintro e w' ⟨rfl, rfl⟩; rw [HLb.out])
        refine (lfirst_c _ [qe, z] _ (litI w17 _ [qe, z] 2 rfl (by decide))).mono ?_
        rintro e w18 ⟨rfl, hB⟩
        rw [← HTw.out]
        have HB18 := Lib.hid (bT (bA HB17.out _) hB)
        have R18 := Lib.hid (bT (bA R17.out _) hB)
        clear hB HB17 R17 hlb HLb
        by_cases h0 : ce = 0
        · have HCz := Lib.hid (HC3.out h0)
          have hqp : permErr q = 0 ∧ p.length = q.length := by
            have := HTw.out
            rw [firstL_two, h0] at this
            by_cases h : qe = 0
            · rw [if_pos h] at this
              refine ⟨HQE.out.trans h, ?_⟩
              by_cases hl : p.length = q.length
              · exact hl
              · have h9 := HZ.out
                rw [if_pos hl] at h9; omega
            · rw [if_neg h] at this; exact absurd this.symm h
          have HQ := Lib.hid (small_err hqp.1)
          have HPL := Lib.hid hqp.2
          clear hqp HC3 HC4 HTw HCE
          subst h0
          go_wp2_with fail
          refine (refCompose_c _ _ p q _ (HV.out.below HB18.out) (HU.out.below HB18.out) (fun x hx => by rw [HPL.out]; exact HQ.out.1.1 x hx) (by have := HQ.out.2; omega)).mono ?_
          rintro e w19 ⟨x19, rfl, hx19, hB⟩
          have hq1 := HQ.out.2
          have hcl : (icells (comp p q)).length = q.length := by simp [icells, comp]
          have hx20 : w19.ownsRow w18.heap.size 3 1 x19 (icells (comp p q)).length (icells (comp p q)) := by rw [hcl]; exact hx19
          have HX19 := Lib.hid (oSl hx20 (by rw [hcl]; omega))
          have HCf := Lib.hid (HCz.out.below (bT R18.out hB))
          have HB19 := Lib.hid (bT HB18.out hB)
          clear hB HB18 hx19 hx20 hcl hq1 HCz
          go_wp2_with fail
          refine (list_ok (comp p q) _ _ _ HCf.out HX19.out).mono ?_
          rintro e w20 ⟨rfl, hB⟩
          have HB20 := Lib.hid (bT HB19.out hB)
          clear hB HB19
          go_wp2
          go_ret
          exact ⟨rfl, HB20.out⟩
        · have hcv := HC4.out h0
          have hne : (ce != 0) = true := by simpa using h0
          have Hne := Lib.hid h0
          subst hcv
          clear HC3 HC4 HTw HCE h0
          go_wp2_with fail
          refine (list_bad ce _ _ Hne.out).mono ?_
          rintro e w19 ⟨rfl, hB⟩
          have HB19 := Lib.hid (bT HB18.out hB)
          clear hB HB18
          go_wp2
          go_ret
          exact ⟨rfl, HB19.out⟩
      · have He := Lib.hid he
        have hcb : compErr p q = permErr p := compErr_bad he
        obtain ⟨pe, hpe⟩ : ∃ pe, permErr p = pe := ⟨_, rfl⟩
        have HPE := Lib.hid hpe
        rw [hpe] at he ⊢
        have hne : (pe != 0) = true := by simpa using he
        have Hne := Lib.hid he
        have HCB := Lib.hid (hcb.trans hpe)
        clear he hcb hpe
        go_wp2_with fail
        refine (CheckPerm_c _ p _ (HV.out.below HB2.out)).mono ?_
        rintro e w3 ⟨rfl, hB⟩
        rw [HPE.out]
        have HB3 := Lib.hid (bT HB2.out hB)
        clear hB HB2
        go_wp2_with fail
        refine (Compose_c _ _ p q _ (HV.out.below HB3.out) (HU.out.below HB3.out)).mono ?_
        rintro e w4 ⟨hC, hB⟩
        rw [HCB.out, if_neg Hne.out] at hC
        subst hC
        have HB4 := Lib.hid (bT HB3.out hB)
        clear hB HB3
        go_wp2_with fail
        refine (Invert_c _ p _ (HV.out.below HB4.out)).mono ?_
        rintro e w5 ⟨hC, hB⟩
        rw [HPE.out, if_neg Hne.out] at hC
        subst hC
        have HB5 := Lib.hid (bT HB4.out hB)
        clear hB HB4
        go_wp2_with fail
        refine (Power_c _ p k _ (HV.out.below HB5.out)).mono ?_
        rintro e w6 ⟨hC, hB⟩
        rw [HPE.out, if_neg Hne.out] at hC
        subst hC
        have HB6 := Lib.hid (bT HB5.out hB)
        clear hB HB5
        go_wp2_with fail
        refine (Cycles_c _ p _ (HV.out.below HB6.out)).mono ?_
        rintro e w7 ⟨hB, ⟨hbad, _⟩ | ⟨_, rfl⟩⟩
        · exact absurd (HPE.out.symm.trans hbad) Hne.out
        rw [HPE.out]
        have HB7 := Lib.hid (bT HB6.out hB)
        clear hB HB6
        go_wp2_with fail
        refine (Sign_c _ p _ (HV.out.below HB7.out)).mono ?_
        rintro e w8 ⟨hS, hB⟩
        rw [HPE.out, if_neg Hne.out] at hS
        subst hS
        have HB8 := Lib.hid (bT HB7.out hB)
        clear hB HB7
        go_wp2_with fail
        refine (list_bad pe _ _ Hne.out).mono ?_
        rintro e w9 ⟨rfl, hB⟩
        have HB9 := Lib.hid (bT HB8.out hB)
        clear hB HB8
        go_wp2_with fail
        refine (list_bad pe _ _ Hne.out).mono ?_
        rintro e w10 ⟨rfl, hB⟩
        have HB10 := Lib.hid (bT HB9.out hB)
        clear hB HB9
        go_wp2_with fail
        refine (list_bad pe _ _ Hne.out).mono ?_
        rintro e w11 ⟨rfl, hB⟩
        have HB11 := Lib.hid (bT HB10.out hB)
        clear hB HB10
        go_wp2_with fail
        refine (integer_bad pe _ _ Hne.out).mono ?_
        rintro e w12 ⟨rfl, hB⟩
        have HB12 := Lib.hid (bT HB11.out hB)
        clear hB HB11
        go_wp2
        go_ret
        exact ⟨rfl, HB12.out⟩
end Go.Proofs.YtneafcdfnhnpnaaGreatDoor
