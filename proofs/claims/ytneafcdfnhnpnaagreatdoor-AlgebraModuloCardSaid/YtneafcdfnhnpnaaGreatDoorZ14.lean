/- Contract: the null space over the rational numbers. -/
import Derived.Test.YtneafcdfnhnpnaaGreatDoorZ13
import Derived.Test.YtneafcdfnhnpnaaGreatDoorZ05
import Derived.Deep.RegionHeld3
import Derived.Deep.DeepCutAuto
import Derived.Deep.DrawnRows
import Derived.Test.YtneafcdfnhnpnaaGreatDoorZ11
import Derived.Test.YtneafcdfnhnpnaaGreatDoorZ06
namespace Go.Proofs.YtneafcdfnhnpnaaGreatDoor
open Go.RowKit Go.Lib
attribute [local go_sem ↓] Go.wp_at_zero Go.wp_at_succ

/-- a list of lists of rational numbers that a call has made -/
def TblQ (w : World) (base : Nat) (v : Value) (B : List (Nat × List Rat)) (n : Nat) : Prop :=
  w.ownsRow base 167 1 v B.length (B.map fun r => Value.slice (some ⟨r.1, 0, none⟩) n n) ∧ AllIn w NoU v ∧ ∀ r ∈ B, base ≤ r.1 ∧ (∃ es, RowQ w r.1 es r.2) ∧ r.2.length = n
def nullPostQ (n g : Nat) (R : List RowR) (w : World) (e : Ending) (w' : World) : Prop :=
  ∃ v B, e = .returned v ∧ B.map (·.2) = nsBasis ratF 0 1 n (elGo ratF n R.length 0 ⟨mapTo List.reverse R R.length, [], [], false⟩) n ∧ TblQ w' w.heap.size v B n ∧ ButS (g :: R.map (·.1)) w w'
/-- the numbers that are left are small enough to be turned -/
def FinOk (S : ElS Rat) : Prop := ∀ r ∈ S.rows, ∀ x ∈ r.2.2, FitQ x

theorem info_slr : (Tryz.prog.info? 167).map (fun i => (i.zero, i.size, i.bytes)) = some (some (.slice none 0 0), 1, 24) := by kernel_rfl
theorem of0Q (w : World) : Calls Tryz.prog 316 #[.agg #[], .int .i64 0] w (ratPost 0 w) := by simpa using rtOf_c 0 w (by omega) (by omega)
theorem of1Q (w : World) : Calls Tryz.prog 316 #[.agg #[], .int .i64 1] w (ratPost 1 w) := by simpa using rtOf_c 1 w (by omega) (by omega)
theorem FitP.zero {y : Rat} (h : FitQ y) : FitP 0 y := ⟨⟨.small (by decide), .small (by decide)⟩, h, by simpa using h.1⟩
theorem zero_sl : ∀ u ∈ (Value.slice none 0 0).cells.toList, NoU u := by
  intro u hu
  simp [Value.cells] at hu
  subst hu
  exact (noInt_slice _ _ _).noU
theorem news_sl (A : Option Addr) (n c : Nat) : ∀ u ∈ [Value.slice A n c], NoU u := by
  intro u hu
  simp at hu
  subst hu
  exact (noInt_slice _ _ _).noU
theorem TblQ.below {w w' : World} {base n : Nat} {v : Value} {B : List (Nat × List Rat)} (h : TblQ w base v B n) (hb : Below w.heap.size w w') : TblQ w' base v B n :=
  ⟨oBelow h.1 hb, cinBelow h.2.1 h.1 hb, fun r hr => ⟨(h.2.2 r hr).1, by obtain ⟨es, he⟩ := (h.2.2 r hr).2.1; exact ⟨es, he.below hb⟩, (h.2.2 r hr).2.2⟩⟩
theorem TblQ.snoc {w w' : World} {base n : Nat} {v v' : Value} {B : List (Nat × List Rat)} {gl : Nat} {L : List Rat} (h : TblQ w base v B n) (hg : w.grownBy w' v.ownBlock) (hown : w'.ownsRow base 167 1 v' (B.length + 1) (B.map (fun r => Value.slice (some ⟨r.1, 0, none⟩) n n) ++ [.slice (some ⟨gl, 0, none⟩) n n]))
    (hall : AllIn w' NoU v') (hO : ∃ es, RowQ w gl es L) (hgl : base ≤ gl) (hl : L.length = n) : TblQ w' base v' (B ++ [(gl, L)]) n := by
  have hK := Keeps.grown hg h.1 h.2.1
  have hk : ∀ (k : Nat) (es : List El) (q : List Rat), RowQ w k es q → RowQ w' k es q := fun k es q hq => hq.keeps hK (hg.block k hq.own.lt (fun e => own_ne hq.own h.1 (by decide) e.symm))
  refine ⟨by rw [List.map_append, List.length_append]; exact hown, hall, fun r hr => ?_⟩
  rcases List.mem_append.1 hr with hr | hr
  · have := h.2.2 r hr
    obtain ⟨es, he⟩ := this.2.1
    exact ⟨this.1, ⟨es, hk _ _ _ he⟩, this.2.2⟩
  · obtain rfl := List.mem_singleton.1 hr
    obtain ⟨es, he⟩ := hO
    exact ⟨hgl, ⟨es, hk _ _ _ he⟩, hl⟩

set_option maxRecDepth 100000 in
set_option maxHeartbeats 4000000 in
theorem nullSpaceQ_c (g c n : Nat) (R : List RowR) (w : World) (hM : MxR w g R n) (hc : R.length ≤ c) (hc2 : c ≤ 1000000) (hn : n ≤ 1000000) (h0 : R = [] → n = 0)
    (hok : ElOk n R.length 0 ⟨mapTo List.reverse R R.length, [], [], false⟩) (hfin : FinOk (elGo ratF n R.length 0 ⟨mapTo List.reverse R R.length, [], [], false⟩)) :
    Calls Tryz.prog 148 #[.iface 172 (.agg #[]), .slice (some ⟨g, 0, none⟩) R.length c] w (nullPostQ n g R w) := by
  have HM := Lib.hid hM
  have H0 := Lib.hid h0
  have HOK := Lib.hid hok
  have HFIN := Lib.hid hfin
  clear hM h0 hok hfin
  go_enter Tryz.func148, Tryz.ntmps148
  go_wp2_with fail
  go_loopg [16] R.length (fun gh i wr => ∃ k : Nat, i = .int .i64 k ∧ k + gh = R.length ∧ Hid (MxR wr g (mapTo List.reverse R k) n) ∧ Hid (ButS (g :: R.map (·.1)) w wr))
  case atStart => exact ⟨0, rfl, by omega, Lib.hid (by rw [mapTo_zero]; exact HM.out), Lib.hid (ButS.refl _ _)⟩
  case round =>
    obtain ⟨k, rfl, hk, hMk, hB⟩ := hrel
    cases gk with
    | succ gh =>
      have hlt : k < R.length := by omega
      have hlt' : (k : Int) < (R.length : Int) := by omega
      obtain ⟨r, hr⟩ : ∃ r, R[k]? = some r := ⟨R[k], List.getElem?_eq_getElem hlt⟩
      have hr' := (mapTo_next (f := List.reverse) (R := R) k).trans hr
      have hck := hMk.out.cellRow hr'
      have hgl := hMk.out.own.lt
      obtain ⟨⟨es, hro⟩, hrl, hrc1, hrc2⟩ := hMk.out.row _ (List.mem_of_getElem? hr')
      have RV := Lib.hid (reverseQ_c wr r.1 n r.2.1 es r.2.2 hro hrl.symm hrc1 hrc2)
      have Hk := Lib.hid hk
      have Hrb : Hid (r.1 ∈ g :: R.map (·.1)) := Lib.hid (List.mem_cons_of_mem _ (List.mem_map_of_mem (List.mem_of_getElem? hr)))
      have Hst := Lib.hid (mapTo_succ (f := List.reverse) hr)
      have Hr := Lib.hid hr'
      have Hrl := Lib.hid hrl
      clear hk hr hr' hro hrl
      obtain ⟨kb, kc, kl⟩ := r
      unfold rowW at hck
      dsimp only at hck hrc1 hrc2
      go_wp2_with fail
      refine RV.out.mono ?_
      clear RV
      rintro e w1 ⟨rfl, hO1, hB1⟩
      have HM1 : Hid (MxR w1 g (mapTo List.reverse R (k + 1)) n) := Lib.hid (by
        rw [← Hst.out]
        exact hMk.out.setRow Hr.out hO1 (by rw [List.length_reverse]; exact Hrl.out) hB1)
      have HB1 : Hid (ButS (g :: R.map (·.1)) w w1) := Lib.hid (hB.out.but hB1 Hrb.out)
      clear hMk hB hO1 hB1 hck
      go_wp2
      go_roundg gh
      case rel => exact ⟨k + 1, by go_num, by have := Hk.out; omega, HM1, HB1⟩
      case measure => omega
    | zero =>
      have hkR : k = R.length := by omega
      have hin : ¬ ((k : Int) < (R.length : Int)) := by omega
      rw [hkR] at hMk
      clear hk hkR
      generalize hQe : mapTo List.reverse R R.length = Q at *
      have HQl : Hid (Q.length = R.length) := Lib.hid (by rw [← hQe]; exact mapTo_length _)
      have HQb : Hid (Q.map (·.1) = R.map (·.1)) := Lib.hid (by rw [← hQe]; exact mapTo_blocks _)
      have HQ := Lib.hid hQe
      clear hQe
      have WD : Hid (Calls Tryz.prog 159 #[.slice (some ⟨g, 0, none⟩) R.length c] wr fun e w' => e = .returned (.int .i64 (n : Int)) ∧ wr = w') := Lib.hid (by
        have h := widthR_c g c n Q wr hMk.out
        rw [HQl.out] at h
        by_cases hR : R = []
        · have h1 := H0.out hR
          have : Q = [] := List.length_eq_zero_iff.1 (by rw [HQl.out, hR]; rfl)
          rw [if_pos this] at h
          rw [h1]; exact h
        · have : Q ≠ [] := fun e => hR (List.length_eq_zero_iff.1 (by rw [← HQl.out, e]; rfl))
          rw [if_neg this] at h
          exact h)
      have EL : Hid (Calls Tryz.prog 147 #[.iface 172 (.agg #[]), .slice (some ⟨g, 0, none⟩) R.length c] wr (elimPostR n g c Q wr)) := Lib.hid (by
        have h := eliminateR_c g c n Q wr hMk.out (by rw [HQl.out]; exact hc) hc2 hn (by rw [HQl.out]; exact HOK.out)
        rw [HQl.out] at h
        exact h)
      go_wp2_with (first | (go_at_call 159; refine WD.out.mono ?_; rintro e w' ⟨rfl, rfl⟩) | (go_at_call 147; refine EL.out.mono ?_; rintro e w1 ⟨S, hS, cv, pv, rfl, hM1, hcv, hpv, hl1, hl2, hl3, hpm, hbs⟩; obtain ⟨A1, k1, rfl, _, _⟩ := oForm hcv; obtain ⟨A2, k2, rfl, _, _⟩ := hpv.form; have HS := Lib.hid hS; have HM1 := Lib.hid hM1; have Hcv := Lib.hid hcv; have Hl1 := Lib.hid hl1; have Hl2 := Lib.hid hl2; have Hl3 := Lib.hid hl3; have HPM := Lib.hid hpm; have Hbs := Lib.hid hbs; clear hS hM1 hcv hpv hl1 hl2 hl3 hpm hbs))
      obtain ⟨W0, hW0⟩ : ∃ W0, W0 = w1.alloc (.cells #[.slice (some ⟨g, 0, none⟩) S.piv.length c, .slice A1 S.cols.length k1, .slice A2 S.piv.length k2, .bool S.odd] 169) := ⟨_, rfl⟩
      have hX : Hid (Own W0 w1.heap.size 169 [.slice (some ⟨g, 0, none⟩) S.piv.length c, .slice A1 S.cols.length k1, .slice A2 S.piv.length k2, .bool S.odd]) := Lib.hid (by rw [hW0]; exact Own.make _ _ _)
      have ha : Below w1.heap.size w1 W0 := by rw [hW0]; exact (Below.refl _ _).alloc (Nat.le_refl _) _
      have hsz0 : W0.heap.size = w1.heap.size + 1 := by rw [hW0]; simp
      have HM2 := Lib.hid (HM1.out.below ha)
      have Hcv2 := Lib.hid (oBelow Hcv.out ha)
      have HbW : Hid (ButS (g :: R.map (·.1)) w W0) := Lib.hid (by
        have := Hbs.out
        rw [HQb.out] at this
        exact (hB.out.trans this).below ha)
      have Hsz : Hid (W0.heap.size = w1.heap.size + 1) := Lib.hid hsz0
      have Hww : Hid (w.heap.size ≤ w1.heap.size) := Lib.hid (by have h2 := (hB.out.trans (HQb.out ▸ Hbs.out)).size; exact h2)
      have Hcl : Hid (∀ c ∈ S.cols, c < n) := Lib.hid (by rw [HS.out]; exact elGo_cols _ _ _ (by omega) (by simp))
      have HFit : Hid (FinOk S) := Lib.hid (by rw [HS.out, HQl.out]; exact HFIN.out)
      have HSS : Hid (S = elGo ratF n R.length 0 ⟨mapTo List.reverse R R.length, [], [], false⟩) := Lib.hid (by rw [HQ.out, ← HQl.out]; exact HS.out)
      rw [← hW0]
      have hpl : S.piv.length ≤ R.length := by have := Hl2.out; have := Hl3.out; have := HQl.out; omega
      have Hpc := Hl1
      clear ha hsz0 hW0 HM1 Hcv WD EL hB Hbs HPM HQb hMk HS HQ HFIN HOK
      obtain ⟨i0, hi0, hz0, hz1, hz2⟩ := info_parts info_slr
      have hofm := qOf_meth
      go_loopg [9, 10] n (fun gh b cl wr => ∃ (k : Nat) (B : List (Nat × List Rat)), cl = .int .i64 ((n : Int) - 1 - k) ∧ k + gh = n ∧ Hid (B.map (·.2) = nsBasis ratF 0 1 n S k) ∧ B.length ≤ k ∧ Hid (TblQ wr (w1.heap.size + 1) b B n) ∧ Hid (Below (w1.heap.size + 1) W0 wr))
      case atStart => exact ⟨0, [], by go_num, by omega, Lib.hid rfl, by simp, Lib.hid ⟨World.ownsRow_nil _ _ _ _, AllIn.nil _ _, by simp⟩, Lib.hid (Below.refl _ _)⟩
      case round =>
        obtain ⟨k, B, rfl, hk, hBe, hBl, hT, hW⟩ := hrel
        cases gk with
        | zero =>
          have hin2 : ¬ ((0 : Int) ≤ (n : Int) - 1 - k) := by omega
          go_wp2
          go_ret
          have hkn : k = n := by omega
          have hT' := hT.out
          refine ⟨_, B, rfl, ?_, ⟨oMono hT'.1 (by have := Hww.out; omega), hT'.2.1, fun r hr => ⟨by have := (hT'.2.2 r hr).1; have := Hww.out; omega, (hT'.2.2 r hr).2⟩⟩, HbW.out.below (hW.out.mono (by rw [Hsz.out]; exact Nat.le_refl _))⟩
          rw [← HSS.out, hBe.out, hkn]
        | succ gh =>
          have hcol : (n : Int) - 1 - k = ((n - 1 - k : Nat) : Int) := by omega
          have hcn : n - 1 - k < n := by omega
          rw [hcol]
          have Hst : Hid (nsBasis ratF 0 1 n S (k + 1) = nsBasis ratF 0 1 n S k ++ (if S.cols.contains (n - 1 - k) = true then [] else [nsList ratF 0 1 n S (n - 1 - k)])) := Lib.hid rfl
          have Hnext : Hid ((n : Int) - 1 - ((k + 1 : Nat) : Int) = ((n - 1 - k : Nat) : Int) - 1) := Lib.hid (by omega)
          have Hk := Lib.hid hk
          clear hcol hk
          generalize n - 1 - k = col at *
          have CN := Lib.hid (contains_c _ _ S.cols col wr (oKeep Hcv2.out fun j hj _ => hW.out.block j (by have := Hsz.out; omega)) (by have := Hpc.out; omega))
          have hX2 := hX.out.below hW.out (Nat.lt_succ_self _)
          obtain ⟨x0, x1, x2, x3, y0, y1, y2, y3⟩ := hX2.four
          by_cases hct : S.cols.contains col = true
          · have Hct := Lib.hid hct
            clear hct
            go_wp2_with fail
            refine CN.out.mono ?_
            rintro e w2 ⟨rfl, rfl⟩
            rw [Hct.out]
            go_wp2
            go_roundg gh
            case rel => exact ⟨k + 1, B, by rw [Hnext.out], by have := Hk.out; omega, Lib.hid (by rw [Hst.out, if_pos Hct.out, List.append_nil]; exact hBe.out), by omega, hT, hW⟩
            case measure => omega
          · have Hct : Hid (S.cols.contains col = false) := Lib.hid (by simpa using hct)
            clear hct
            go_wp2_with fail
            refine CN.out.mono ?_
            rintro e w2 ⟨rfl, rfl⟩
            rw [Hct.out]
            clear CN hX2 x0 x1 x2 x3 y0 y1 y2 y3
            go_wp2_with fail
            refine (of0Q _).mono ?_
            rintro e w2 ⟨zv, rfl, hzv, hB2⟩
            obtain ⟨zs, Z1, zn1, zc1, Z2, zn2, zc2, rfl⟩ := hzv.shape
            have HF := Lib.hid (filledQ_c _ 0 _ n hn hzv)
            clear hzv
            go_wp2_with fail
            refine HF.out.mono ?_
            rintro e w3 ⟨gl, es3, rfl, hgl, hO3, hB3⟩
            have hgl3 := hO3.own.lt
            have hglr : wr.heap.size ≤ gl := Nat.le_trans hB2.size hgl
            have HB3 := Lib.hid (hB2.trans (hB3.mono hB2.size))
            have HO3 := Lib.hid hO3
            clear hB2 hB3 hgl hO3 HF
            go_wp2_with fail
            refine (of1Q _).mono ?_
            rintro e w4 ⟨ov, rfl, hov, hB4⟩
            obtain ⟨os, O1, on1, oc1, O2, on2, oc2, rfl⟩ := hov.shape
            have hO4 := HO3.out.below hB4
            obtain ⟨e4, E1, en1, ec1, E2, en2, ec2, zz0, he4, zz1, c0, c1, c2, f0, f1, f2⟩ := hO4.at_ (j := col) (by simp; exact hcn)
            clear zz0 zz1
            obtain ⟨e40, e4a, e4b⟩ := e4
            have he4' : e4a = .slice E1 en1 ec1 ∧ e4b = .slice E2 en2 ec2 := by simpa using he4
            obtain ⟨rfl, rfl⟩ := he4'
            clear he4
            dsimp only at c0
            have hgl4 := hO4.own.lt
            have hl4 : Hid (∃ es', RowQ (((w4.setCell ⟨gl, col * 3, none⟩ (.bool os)).setCell ⟨gl, col * 3 + 1, none⟩ (.slice O1 on1 oc1)).setCell ⟨gl, col * 3 + 2, none⟩ (.slice O2 on2 oc2)) gl es' (nsSet ratF 0 S col 0 ((List.replicate n 0).set col 1))) := Lib.hid ⟨_, hO4.put (j := col) (e := (os, .slice O1 on1 oc1, .slice O2 on2 oc2)) (q := 1) (by simp; exact hcn) hov⟩
            have hW4 : Hid (Below wr.heap.size wr (((w4.setCell ⟨gl, col * 3, none⟩ (.bool os)).setCell ⟨gl, col * 3 + 1, none⟩ (.slice O1 on1 oc1)).setCell ⟨gl, col * 3 + 2, none⟩ (.slice O2 on2 oc2))) := Lib.hid ((((HB3.out.trans (hB4.mono HB3.out.size)).setCell hglr _).setCell hglr _).setCell hglr _)
            have HX2 := Lib.hid (hX.out.below hW.out (Nat.lt_succ_self _))
            obtain ⟨x0, x1, x2, x3, y0, y1, y2, y3⟩ := (HX2.out.below hW4.out HX2.out.lt).four
            have HLl : Hid (((List.replicate n (0 : Rat)).set col 1).length = n) := Lib.hid (by simp)
            have HLe : Hid (nsList ratF 0 1 n S col = (nsSet ratF 0 S col S.cols.length ((List.replicate n 0).set col 1)).reverse) := Lib.hid rfl
            generalize (List.replicate n (0 : Rat)).set col 1 = L0 at *
            clear HB3 HO3 hB4 hov hO4
            go_upto_region 15 with fail
            obtain ⟨w5, hw5⟩ : ∃ w5, w5 = ((w4.setCell ⟨gl, col * 3, none⟩ (.bool os)).setCell ⟨gl, col * 3 + 1, none⟩ (.slice O1 on1 oc1)).setCell ⟨gl, col * 3 + 2, none⟩ (.slice O2 on2 oc2) := ⟨_, rfl⟩
            rw [← hw5] at hl4 hW4 x0 x1 x2 x3 y0 y1 y2 y3
            rw [← hw5]
            clear hw5 c0 c1 c2 f0 f1 f2 hgl4
            go_wp2_with fail
            obtain ⟨wb, rfl⟩ : ∃ wb, wb = wr := ⟨_, rfl⟩
            go_loopg [50] S.piv.length (fun gh2 ix wx => ∃ i : Nat, ix = .int .i64 i ∧ i + gh2 = S.piv.length ∧ Hid (Below wb.heap.size wb wx) ∧ Hid (∃ es', RowQ wx gl es' (nsSet ratF 0 S col i L0)))
            case atStart => exact ⟨0, rfl, by omega, hW4, hl4⟩
            case round =>
              clear hl4 hW4 x0 x1 x2 x3 y0 y1 y2 y3
              obtain ⟨i, rfl, hi, hWx, hOx⟩ := hrel
              cases gk with
              | zero =>
                have hin3 : ¬ ((i : Int) < (S.piv.length : Int)) := by omega
                have hOr : Hid (∃ es', RowQ wr gl es' (nsSet ratF 0 S col S.cols.length L0)) := Lib.hid (by
                  have : i = S.cols.length := by have := Hpc.out; omega
                  rw [← this]; exact hOx.out)
                obtain ⟨esr, hOr2⟩ := hOr.out
                have RV := Lib.hid (reverseQ_c wr gl n n esr _ hOr2 (by rw [nsSet_length, HLl.out]) (Nat.le_refl _) (by omega))
                have hBl2 : B.length < n := by have := Hk.out; omega
                clear hOr2
                go_wp2_with fail
                refine RV.out.mono ?_
                rintro e w6 ⟨rfl, hO6, hB6⟩
                rw [← HLe.out] at hO6
                have HO6 := Lib.hid hO6
                have HB6 := Lib.hid (hWx.out.trans (hB6.toBelow hglr hWx.out.size))
                have HT6 := Lib.hid (hT.out.below HB6.out)
                have hs6 : w1.heap.size + 1 ≤ w6.heap.size := by have := HB6.out.size; have := hW.out.size; have := Hsz.out; omega
                clear hO6 hB6 RV hOr hOx hWx
                obtain ⟨A9, k9, hbv, _, _⟩ := oForm HT6.out.1
                subst hbv
                have hal : Hid (∀ o : Obj, Below w6.heap.size w6 (w6.alloc o)) := Lib.hid (fun o => (Below.refl _ _).alloc (Nat.le_refl _) _)
                go_wp2_with (at_builtin; (refine wpList_append_all _ rfl _ _ 163 rfl (w1.heap.size + 1) 167 i0 (.slice none 0 0) 1 24 Tryz.underlying163 hi0 hz0 hz1 hz2 rfl (by decide) _ _ _ rfl (HT6.out.1.alloc _) ⟨w6.heap.size, 0, none⟩ 1 1 [.slice (some ⟨gl, 0, none⟩) n n] rfl rfl (cell_one_new _ _ _) (fun x hx => by simp at hx; subst hx; rfl) (by unfold maxLen; omega) (by omega) (by simp; omega) (by decide) NoU (cinBelow HT6.out.2.1 HT6.out.1 (hal.out _)) (news_sl _ _ _) zero_sl ?_; intro v7 w7 hown7 hgrow7 hall7))
                have HT7 := Lib.hid ((HT6.out.below (hal.out _)).snoc hgrow7 hown7 hall7 (by obtain ⟨es', h⟩ := HO6.out; exact ⟨es', h.below (hal.out _)⟩) (by have := hW.out.size; have := Hsz.out; omega) (by rw [HLe.out, List.length_reverse, nsSet_length, HLl.out]))
                have HW7 : Hid (Below (w1.heap.size + 1) W0 w7) := Lib.hid (Below.grown (((hW.out.trans (HB6.out.mono (by have := hW.out.size; have := Hsz.out; omega)))).alloc hs6 _) hgrow7 (by simp; omega) (fun j hj => (HT6.out.1.lt j hj).1))
                go_roundg gh
                case rel => exact ⟨k + 1, B ++ [(gl, nsList ratF 0 1 n S col)], by rw [Hnext.out], by have := Hk.out; omega, Lib.hid (by rw [Hst.out, if_neg (by rw [Hct.out]; simp), List.map_append, hBe.out]; rfl), by simp; omega, HT7, HW7⟩
                case measure => omega
              | succ gh2 =>
                have hil : i < S.piv.length := by omega
                have hil' : (i : Int) < (S.piv.length : Int) := by omega
                obtain ⟨r, hr⟩ : ∃ r, S.rows[i]? = some r := ⟨S.rows[i]'(by have := Hl2.out; omega), List.getElem?_eq_getElem _⟩
                have hW0b : Below W0.heap.size W0 wb := hW.out.mono (by rw [Hsz.out]; exact Nat.le_refl _)
                have hMb := HM2.out.below hW0b
                have cc1 := hMb.cellRow hr
                obtain ⟨⟨esr, hrq⟩, hrl, hrc1, hrc2⟩ := hMb.row _ (List.mem_of_getElem? hr)
                obtain ⟨er, R1, rn1, rc1, R2, rn2, rc2, zz0, her, hrt, d0, d1, d2, zz1, zz2, zz3⟩ := hrq.at_ (j := col) (by rw [hrl]; exact hcn)
                clear zz0 zz1 zz2 zz3
                obtain ⟨er0, era, erb⟩ := er
                have her' : era = .slice R1 rn1 rc1 ∧ erb = .slice R2 rn2 rc2 := by simpa using her
                obtain ⟨rfl, rfl⟩ := her'
                clear her
                unfold elV at hrt
                dsimp only at d0 hrt
                have hgb : g < wb.heap.size := hMb.own.lt
                have hrb : r.1 < wb.heap.size := hrq.own.lt
                have hyF := HFit.out r (List.mem_of_getElem? hr) (r.2.2[col]?.getD 0) (by rw [List.getElem?_eq_getElem (by omega)]; exact List.getElem_mem (by omega))
                obtain ⟨cb, hA, _, hcbl, hcc⟩ := oCell (oBelow Hcv2.out hW0b) (j := i) (by have := Hpc.out; omega)
                have c3 : wb.cell? ⟨cb, i, none⟩ = some (.int .i64 ((S.cols[i]?.getD 0 : Nat) : Int)) := (hcc i (by have := Hpc.out; omega)).trans (by
                  have : i < S.cols.length := by have := Hpc.out; omega
                  simp [ncells, this])
                have hci : S.cols[i]?.getD 0 < n := Hcl.out _ (by
                  have : i < S.cols.length := by have := Hpc.out; omega
                  rw [List.getElem?_eq_getElem this]; exact List.getElem_mem this)
                have Hst2 : Hid (nsSet ratF 0 S col (i + 1) L0 = (nsSet ratF 0 S col i L0).set (S.cols[i]?.getD 0) (0 - r.2.2[col]?.getD 0)) := Lib.hid (by
                  rw [nsSet_succ]
                  congr 1
                  show 0 - numT ratF S.rows i col = _
                  unfold numT
                  rw [rowOf_eq hr]; rfl)
                subst hA
                obtain ⟨rb, rc, rl⟩ := r
                unfold rowW at cc1
                dsimp only at cc1 hrl hrc1 hrc2 hyF Hst2 hrb hrt d0 d1 d2
                generalize rl[col]?.getD 0 = y at *
                generalize S.cols[i]?.getD 0 = ci at *
                have x1b := HX2.out.four.2.1
                have x0b := HX2.out.four.1
                have hXlb := HX2.out.lt
                obtain ⟨esx, hOx1⟩ := hOx.out
                obtain ⟨t4, T1, tn1, tc1, T2, tn2, tc2, zz0, ht4, zz1, c40, c41, c42, f40, f41, f42⟩ := hOx1.at_ (j := ci) (by rw [nsSet_length, HLl.out]; exact hci)
                clear zz0 zz1
                obtain ⟨t40, t4a, t4b⟩ := t4
                have ht4' : t4a = .slice T1 tn1 tc1 ∧ t4b = .slice T2 tn2 tc2 := by simpa using ht4
                obtain ⟨rfl, rfl⟩ := ht4'
                clear ht4
                dsimp only at c40
                have hgll := hOx1.own.lt
                have hglL : gl ≠ rb ∧ gl ≠ cb := by omega
                have Hrt := Lib.hid (fun (x : World) (hb : Below wb.heap.size wb x) => hrt.below hb)
                have HyF := Lib.hid hyF
                have HOx1 := Lib.hid hOx1
                have Hr3 := Lib.hid (And.intro hrc1 hrc2)
                have KS : Hid (∀ x, Below wb.heap.size wb x → x.cell? ⟨w1.heap.size, 1, none⟩ = some (.slice (some ⟨cb, 0, none⟩) S.cols.length k1) ∧ x.cell? ⟨rb, col * 3, none⟩ = some (.bool er0) ∧ x.cell? ⟨rb, col * 3 + 1, none⟩ = some (.slice R1 rn1 rc1) ∧ x.cell? ⟨rb, col * 3 + 2, none⟩ = some (.slice R2 rn2 rc2) ∧ x.cell? ⟨cb, i, none⟩ = some (.int .i64 (ci : Nat)) ∧ Below wb.heap.size wb x) := Lib.hid (fun x hb =>
                  ⟨(hb.cell (p := ⟨w1.heap.size, 1, none⟩) hXlb).trans x1b, (hb.cell (p := ⟨rb, col * 3, none⟩) hrb).trans d0, (hb.cell (p := ⟨rb, col * 3 + 1, none⟩) hrb).trans d1, (hb.cell (p := ⟨rb, col * 3 + 2, none⟩) hrb).trans d2, (hb.cell (p := ⟨cb, i, none⟩) hcbl).trans c3, hb⟩)
                have cc1r := (hWx.out.cell (p := ⟨g, i, none⟩) hgb).trans cc1
                have hgr : g < wr.heap.size := Nat.lt_of_lt_of_le hgb hWx.out.size
                have hic : i < S.cols.length := by have := Hpc.out; omega
                have hic' : (i : Int) < (S.cols.length : Int) := by omega
                have hci' : (ci : Int) < (n : Int) := by omega
                have hcn' : (col : Int) < (n : Int) := by omega
                clear hr hMb hcc x1b x0b hrl hW0b hrc1 hrc2 hyF hrq hrt cc1 d0 d1 d2 c3 hOx1 hOx
                have hM := qMinus_meth
                have hmn := qMinus_nil
                have hmf : ∀ (fn : Fn) (first cap : Array Value) (w : World), (Instr.makeFunc fn first cap).run Tryz.prog w = .ok (.func fn first cap) w := fun _ _ _ _ => rfl
                have KT := Lib.hid (fun (x x' : World) (hb : Below x.heap.size x x') (h5 : Below wb.heap.size wb x) => KS.out x' (h5.trans (hb.mono h5.size)))
                have MN := Lib.hid (fun (W : World) (u : Value) (h : Rt W u 0) (hb : Below wb.heap.size wb W) => rtMinus_c u (.agg #[.bool er0, .slice R1 rn1 rc1, .slice R2 rn2 rc2]) 0 y W h (Hrt.out W hb) (FitP.zero HyF.out))
                go_wp2_with fail
                go_region_held3 (fun w' => w'.cell? ⟨w1.heap.size, 1, none⟩ = some (.slice (some ⟨cb, 0, none⟩) S.cols.length k1) ∧ w'.cell? ⟨rb, col * 3, none⟩ = some (.bool er0) ∧ w'.cell? ⟨rb, col * 3 + 1, none⟩ = some (.slice R1 rn1 rc1) ∧ w'.cell? ⟨rb, col * 3 + 2, none⟩ = some (.slice R2 rn2 rc2) ∧ w'.cell? ⟨cb, i, none⟩ = some (.int .i64 (ci : Nat)) ∧ Below wb.heap.size wb w')
                  (first | exact KS.out _ hWx.out.drew | exact KT.out _ _ (by assumption) (by assumption) | (go_split_ands; exact KS.out _ (((Below.setCell (by assumption) hglr _).setCell hglr _).setCell hglr _)))
                  (first
                    | (go_at_call 316; go_split_ands; refine (of0Q _).mono ?_; rintro e w4 ⟨zv, rfl, hzv, hB4⟩; obtain ⟨zs, Z1, zn1, zc1, Z2, zn2, zc2, rfl⟩ := hzv.shape; have a40 := (hB4.cell (p := ⟨gl, ci * 3, none⟩) hgll).trans c40; have a41 := (hB4.cell (p := ⟨gl, ci * 3 + 1, none⟩) hgll).trans c41; have a42 := (hB4.cell (p := ⟨gl, ci * 3 + 2, none⟩) hgll).trans c42; have b40 := (hB4.frozen (p := ⟨gl, ci * 3, none⟩) hgll).trans f40; have b41 := (hB4.frozen (p := ⟨gl, ci * 3 + 1, none⟩) hgll).trans f41; have b42 := (hB4.frozen (p := ⟨gl, ci * 3 + 2, none⟩) hgll).trans f42; have b4 : gl < w4.heap.size := Nat.lt_of_lt_of_le hgll hB4.size; have a6 := Lib.hid (HOx1.out.below (drB hB4)); have a7 := Lib.hid hzv; clear hzv)
                    | (go_at_call 315; go_split_ands; refine (MN.out _ _ a7.out (by assumption)).mono ?_; rintro e w5 ⟨mv, rfl, hmv, hB5⟩; obtain ⟨ms, M1, mn1, mc1, M2, mn2, mc2, rfl⟩ := hmv.shape; have d40 := (hB5.cell (p := ⟨gl, ci * 3, none⟩) b4).trans a40; have d41 := (hB5.cell (p := ⟨gl, ci * 3 + 1, none⟩) b4).trans a41; have d42 := (hB5.cell (p := ⟨gl, ci * 3 + 2, none⟩) b4).trans a42; have e40 := (hB5.frozen (p := ⟨gl, ci * 3, none⟩) b4).trans b40; have e41 := (hB5.frozen (p := ⟨gl, ci * 3 + 1, none⟩) b4).trans b41; have e42 := (hB5.frozen (p := ⟨gl, ci * 3 + 2, none⟩) b4).trans b42; have d6 := Lib.hid (a6.out.below hB5); have d7 := Lib.hid hmv; clear hmv))
                all_goals (
                  have HW7 : Hid (Below wb.heap.size wb (((w5.setCell ⟨gl, ci * 3, none⟩ (.bool ms)).setCell ⟨gl, ci * 3 + 1, none⟩ (.slice M1 mn1 mc1)).setCell ⟨gl, ci * 3 + 2, none⟩ (.slice M2 mn2 mc2))) := Lib.hid (by go_split_ands; assumption)
                  have HO7 : Hid (∃ es', RowQ (((w5.setCell ⟨gl, ci * 3, none⟩ (.bool ms)).setCell ⟨gl, ci * 3 + 1, none⟩ (.slice M1 mn1 mc1)).setCell ⟨gl, ci * 3 + 2, none⟩ (.slice M2 mn2 mc2)) gl es' (nsSet ratF 0 S col (i + 1) L0)) := Lib.hid (by
                    rw [Hst2.out]
                    exact ⟨_, d6.out.put (j := ci) (e := (ms, .slice M1 mn1 mc1, .slice M2 mn2 mc2)) (by rw [nsSet_length, HLl.out]; omega) d7.out⟩)
                  clear a40 a41 a42 b40 b41 b42 d40 d41 d42 e40 e41 e42 a6 a7 d6 d7 hB4 hB5 cc1r c40 c41 c42 f40 f41 f42 HOx1 hWx
                  go_wp2
                  go_roundg gh2
                  case rel => exact ⟨i + 1, by go_num, by omega, HW7, HO7⟩
                  case measure => omega)
end Go.Proofs.YtneafcdfnhnpnaaGreatDoor
/- Contracts: lists of lists of rational numbers are written. -/
namespace Go.Proofs.YtneafcdfnhnpnaaGreatDoor
open Go.RowKit Go.Lib

/-- lists of rational numbers, as they lie in memory -/
def RowsAt (w : World) (v : Value) (Ls : List (List Rat)) : Prop :=
  ∃ vs : List Value, SlW w v vs ∧ vs.length = Ls.length ∧ ∀ (i : Nat) (L : List Rat), Ls[i]? = some L → ∃ b c es, vs[i]? = some (.slice (some ⟨b, 0, none⟩) L.length c) ∧ L.length ≤ c ∧ RowQ w b es L
theorem RowsAt.below {w w' : World} {v : Value} {Ls : List (List Rat)} (h : RowsAt w v Ls) (hb : Below w.heap.size w w') : RowsAt w' v Ls := by
  obtain ⟨vs, h1, h2, h3⟩ := h
  exact ⟨vs, h1.below hb, h2, fun i L hL => by obtain ⟨b, c, es, h4, h5, h6⟩ := h3 i L hL; exact ⟨b, c, es, h4, h5, h6.below hb⟩⟩
theorem TblQ.rowsAt {w : World} {base n : Nat} {v : Value} {B : List (Nat × List Rat)} (h : TblQ w base v B n) (hl : B.length ≤ 1000000) : RowsAt w v (B.map (·.2)) := by
  refine ⟨_, oSl h.1 (by omega), by simp, fun i L hL => ?_⟩
  rw [List.getElem?_map] at hL
  cases hb : B[i]? with
  | none => rw [hb] at hL; cases hL
  | some x =>
    rw [hb] at hL
    obtain rfl := Option.some.inj hL
    have := h.2.2 x (List.mem_of_getElem? hb)
    obtain ⟨es, he⟩ := this.2.1
    exact ⟨x.1, n, es, by rw [List.getElem?_map, hb, Option.map_some, this.2.2], by rw [this.2.2]; exact Nat.le_refl _, he⟩
theorem info_slt : (Tryz.prog.info? 85).map (fun i => (i.zero, i.size, i.bytes)) = some (some (.slice none 0 0), 1, 24) := by kernel_rfl
theorem make_rowsT (w : World) (n : Nat) (hn : n ≤ 1000000) : (Instr.makeSlice 74 (.int .i64 (n : Int)) (.int .i64 (n : Int))).run Tryz.prog w = .ok (.slice (some ⟨w.heap.size, 0, none⟩) n n) (w.alloc (.cells (List.replicate n nilV).toArray 85)) := by
  have := run_make_row' (P := Tryz.prog) 74 85 nilV 24 Tryz.underlying74 info_slt rfl .i64 .i64 n (by omega) (by omega) w
  rw [madeCells_eq] at this
  exact this
/-- the first k lists are written -/
structure TxtsTo (w wr : World) (g m : Nat) (Ls : List (List Rat)) (k : Nat) (B : List (Nat × List Txt)) : Prop where
  own : Own wr g 85 ((B.map fun r => Value.slice (some ⟨r.1, 0, none⟩) r.2.length r.2.length) ++ List.replicate (m - k) nilV)
  rows : ∀ r ∈ B, w.heap.size ≤ r.1 ∧ Own wr r.1 22 (scells r.2) ∧ r.2.length ≤ 1000000
  vals : B.map (·.2) = (Ls.take k).map (·.map rtext)
theorem TxtsTo.len {w wr : World} {g m k : Nat} {Ls : List (List Rat)} {B : List (Nat × List Txt)} (h : TxtsTo w wr g m Ls k B) (hk : k ≤ Ls.length) : B.length = k := by
  have := congrArg List.length h.vals
  simp at this; omega
theorem TxtsTo.step {w wr w1 : World} {g gn k : Nat} {Ls : List (List Rat)} {B : List (Nat × List Txt)} {L : List Rat} (h : TxtsTo w wr g Ls.length Ls k B) (hk : Ls[k]? = some L) (hL : L.length ≤ 1000000) (hb : Below wr.heap.size wr w1) (hg : w.heap.size ≤ gn) (hO : Own w1 gn 22 (scells (L.map rtext))) :
    TxtsTo w (w1.setCell ⟨g, k, none⟩ (.slice (some ⟨gn, 0, none⟩) L.length L.length)) g Ls.length Ls (k + 1) (B ++ [(gn, L.map rtext)]) := by
  have hkl : k < Ls.length := (List.getElem?_eq_some_iff.1 hk).1
  have hB := h.len (by omega)
  have hO1 := h.own.below hb h.own.lt
  have hne : ∀ (b : Nat) (cs : List Value), Own w1 b 22 cs → b ≠ g := fun b cs h1 e => by
    unfold Own at h1 hO1
    rw [e, hO1] at h1
    injection h1 with h1
    injection h1 with _ h1
    exact absurd h1 (by decide)
  refine ⟨?_, fun x hx => ?_, ?_⟩
  · have := hO1.put k (.slice (some ⟨gn, 0, none⟩) L.length L.length)
    rw [List.set_append_right _ _ (by simp [hB]), show Ls.length - k = (Ls.length - (k + 1)) + 1 by omega, List.replicate_succ, List.length_map, hB, Nat.sub_self, List.set_cons_zero] at this
    rw [List.map_append, List.append_assoc]
    simpa using this
  · rcases List.mem_append.1 hx with hx | hx
    · have := h.rows x hx
      have h1 := this.2.1.below hb this.2.1.lt
      exact ⟨this.1, h1.other (p := ⟨g, k, none⟩) (hne _ _ h1) _, this.2.2⟩
    · obtain rfl := List.mem_singleton.1 hx
      exact ⟨hg, hO.other (p := ⟨g, k, none⟩) (hne _ _ hO) _, by simpa using hL⟩
  · rw [List.map_append, h.vals, List.take_add_one, hk, List.map_append]; rfl
def AllShort (Ls : List (List Rat)) : Prop := ∀ L ∈ Ls, ∀ q ∈ L, ¬ tooLong q
def writePostM (Ls : List (List Rat)) (w : World) (e : Ending) (w' : World) : Prop :=
  Below w.heap.size w w' ∧ ((AllShort Ls ∧ ∃ (g : Nat) (B : List (Nat × List Txt)), e = .returned (.tuple #[.slice (some ⟨g, 0, none⟩) Ls.length Ls.length, .int .i64 0]) ∧ w.heap.size ≤ g ∧ TxtsTo w w' g Ls.length Ls Ls.length B) ∨ (¬ AllShort Ls ∧ e = .returned (.tuple #[nilV, .int .i64 4])))

set_option maxRecDepth 100000 in
set_option maxHeartbeats 2000000 in
theorem convertWR_c (v : Value) (Ls : List (List Rat)) (w : World) (hv : RowsAt w v Ls) (hl : Ls.length ≤ 1000000) (hL : ∀ L ∈ Ls, L.length ≤ 1000000 ∧ ∀ q ∈ L, FitQ q) (hG : Glob w) :
    Calls Tryz.prog 200 #[v, .func (.func 155) #[] #[]] w (writePostM Ls w) := by
  obtain ⟨vs, hs, hvl, hrow⟩ := hv
  obtain ⟨A, c, rfl, hc1, hc2, hcell⟩ := hs
  have HROW := Lib.hid hrow
  have HC := Lib.hid hcell
  have HL := Lib.hid hL
  have HG := Lib.hid hG
  have Hvl := Lib.hid hvl
  rw [hvl] at hc1 hc2 ⊢
  clear hrow hcell hL hG hvl
  have hmk := make_rowsT w Ls.length hl
  have HO := Lib.hid (Own.make w 85 (List.replicate Ls.length nilV))
  go_enter Tryz.func200, Tryz.ntmps200
  go_wp2_with fail
  clear hmk
  go_loopg [15] Ls.length (fun gh i wr => ∃ (k : Nat) (B : List (Nat × List Txt)), i = .int .i64 k ∧ k + gh = Ls.length ∧ Hid (AllShort (Ls.take k)) ∧ Hid (TxtsTo w wr w.heap.size Ls.length Ls k B) ∧ Hid (Below w.heap.size w wr))
  case atStart => exact ⟨0, [], rfl, by omega, Lib.hid (by unfold AllShort; simp), Lib.hid ⟨by simpa using HO.out, by simp, by simp⟩, Lib.hid ((Below.refl _ _).alloc (Nat.le_refl _) _)⟩
  case round =>
    clear HO
    obtain ⟨k, B, rfl, hk, hI, hT, hB⟩ := hrel
    cases gk with
    | zero =>
      have hkl : k = Ls.length := by omega
      have hin : ¬ ((k : Int) < (Ls.length : Int)) := by omega
      have HI := Lib.hid (show AllShort Ls by have := hI.out; rwa [hkl, List.take_of_length_le (Nat.le_refl _)] at this)
      rw [hkl] at hT
      clear hkl hI hk
      go_wp2
      go_ret2
      exact ⟨hB.out, .inl ⟨HI.out, _, B, rfl, Nat.le_refl _, hT.out⟩⟩
    | succ gh =>
      have hlt : k < Ls.length := by omega
      have hlt' : (k : Int) < (Ls.length : Int) := by omega
      obtain ⟨L, hL0⟩ : ∃ L, Ls[k]? = some L := ⟨Ls[k], List.getElem?_eq_getElem hlt⟩
      obtain ⟨b, cb, es, hvk, hcb, hR⟩ := HROW.out k L hL0
      obtain ⟨b0, off, rfl, hbb, hcell⟩ := HC.out (by rw [Hvl.out]; omega)
      have hck := (hB.out.cell (p := ⟨b0, off + k, none⟩) hbb).trans ((hcell k (by rw [Hvl.out]; exact hlt)).trans hvk)
      obtain ⟨hL1, hL2⟩ := HL.out L (List.mem_of_getElem? hL0)
      have WR := Lib.hid (writeRow_c b L.length cb es L wr (hR.below hB.out) rfl hL1 hcb hL2 (HG.out.below hB.out))
      have hck2 := (hT.out.own.cell k).trans (show _ = some nilV by
        rw [List.getElem?_append_right (by rw [List.length_map, hT.out.len (by omega)]; exact Nat.le_refl _), List.length_map, hT.out.len (by omega), Nat.sub_self, List.getElem?_replicate, if_pos (by omega)])
      have hfr := hT.out.own.free k
      have hol := hT.out.own.lt
      have Ht : Hid (Ls.take (k + 1) = Ls.take k ++ [L]) := Lib.hid (by rw [List.take_add_one, hL0]; rfl)
      have Hm := Lib.hid (List.mem_of_getElem? hL0)
      have HL0 := Lib.hid hL0
      have Hk := Lib.hid hk
      clear hcell hL0 hk hvk hR hL2
      go_wp2_with fail
      refine WR.out.mono ?_
      clear WR
      rintro e w1 ⟨hB1, ⟨hok, gn, rfl, hgn, hO1⟩ | ⟨hno, rfl⟩⟩
      · have hck3 := (hB1.cell (p := ⟨w.heap.size, k, none⟩) hol).trans hck2
        have hfr3 := (hB1.frozen (p := ⟨w.heap.size, k, none⟩) hol).trans hfr
        have hol3 : w.heap.size < w1.heap.size := Nat.lt_of_lt_of_le hol hB1.size
        have HI2 : Hid (AllShort (Ls.take (k + 1))) := Lib.hid (by
          rw [Ht.out]; intro z hz; rcases List.mem_append.1 hz with h | h
          · exact hI.out z h
          · rw [List.mem_singleton.1 h]; exact hok)
        have HT2 := Lib.hid (hT.out.step HL0.out hL1 hB1 (Nat.le_trans hB.out.size hgn) hO1)
        have HB2 := Lib.hid ((hB.out.trans (hB1.mono hB.out.size)).setCell (p := ⟨w.heap.size, k, none⟩) (Nat.le_refl _) (.slice (some ⟨gn, 0, none⟩) L.length L.length))
        clear hok hB1 hO1 hT hB hI hck2 hfr hck
        go_wp2
        go_roundg gh
        case rel => exact ⟨k + 1, _, by go_num, by have := Hk.out; omega, HI2, HT2, HB2⟩
        case measure => omega
      · have hck3 := (hB1.cell (p := ⟨w.heap.size, k, none⟩) hol).trans hck2
        have hfr3 := (hB1.frozen (p := ⟨w.heap.size, k, none⟩) hol).trans hfr
        have hol3 : w.heap.size < w1.heap.size := Nat.lt_of_lt_of_le hol hB1.size
        have HX : Hid (¬ AllShort Ls) := Lib.hid (fun h => by obtain ⟨q, hq, hl⟩ := hno; exact h L Hm.out q hq hl)
        have HB2 := Lib.hid ((hB.out.trans (hB1.mono hB.out.size)).setCell (p := ⟨w.heap.size, k, none⟩) (Nat.le_refl _) nilV)
        clear hno hB1 hT hB hI hck2 hfr hck
        go_wp2
        go_ret2
        exact ⟨HB2.out, .inr ⟨HX.out, rfl⟩⟩

set_option maxRecDepth 100000 in
set_option maxHeartbeats 1000000 in
theorem writeRows_c (v : Value) (Ls : List (List Rat)) (w : World) (hv : RowsAt w v Ls) (hl : Ls.length ≤ 1000000) (hL : ∀ L ∈ Ls, L.length ≤ 1000000 ∧ ∀ q ∈ L, FitQ q) (hG : Glob w) :
    Calls Tryz.prog 146 #[v] w (writePostM Ls w) := by
  have CW := Lib.hid (convertWR_c v Ls w hv hl hL hG)
  obtain ⟨vs, ⟨A, c, rfl, _, _, _⟩, hvl, _⟩ := hv
  rw [hvl] at CW ⊢
  clear hL hG hvl
  go_enter Tryz.func146, Tryz.ntmps146
  go_wp2_with fail
  refine CW.out.mono ?_
  rintro e w1 ⟨hB1, ⟨hok, g, B, rfl, hg, hO1⟩ | ⟨hno, rfl⟩⟩
  · have HO := Lib.hid hO1
    have HK := Lib.hid hok
    clear hO1 hok CW
    go_wp2
    go_ret2
    exact ⟨hB1, .inl ⟨HK.out, g, B, rfl, hg, HO.out⟩⟩
  · have HK := Lib.hid hno
    clear hno CW
    go_wp2
    go_ret2
    exact ⟨hB1, .inr ⟨HK.out, rfl⟩⟩
end Go.Proofs.YtneafcdfnhnpnaaGreatDoor
/- Contract: Kernel. -/
namespace Go.Proofs.YtneafcdfnhnpnaaGreatDoor
open Go.RowKit Go.Lib

/-- the reduced basis of the null space -/
def kerL (n : Nat) (M : List (List Rat)) : List (List Rat) := nsBasis ratF 0 1 n (elimM ratF n (M.map List.reverse)) n
def widM {α : Type} (M : List (List α)) : Nat := (M[0]?.map (·.length)).getD 0
theorem FitQ.neg0 {y : Rat} (h : FitQ y) : FitQ (0 - y) := by
  rw [Rat.sub_eq_add_neg, Rat.zero_add]
  exact ⟨by rw [Rat.neg_num, Int.natAbs_neg]; exact h.1, by rw [Rat.neg_den]; exact h.2⟩
theorem fitQ_zero : FitQ 0 := ⟨.small (by decide), .small (by decide)⟩
theorem fitQ_one : FitQ 1 := ⟨.small (by decide), .small (by decide)⟩
theorem FinOk.num {S : ElS Rat} (h : FinOk S) (i j : Nat) : FitQ (numT ratF S.rows i j) := by
  unfold numT rowOf
  cases hr : S.rows[i]? with
  | none => exact fitQ_zero
  | some r =>
    simp only [Option.map_some, Option.getD_some]
    cases hx : r.2.2[j]? with
    | none => exact fitQ_zero
    | some x => exact h r (List.mem_of_getElem? hr) x (List.mem_of_getElem? hx)
theorem FinOk.nsSet {S : ElS Rat} (h : FinOk S) (col k : Nat) (L : List Rat) (hL : ∀ q ∈ L, FitQ q) : ∀ q ∈ nsSet ratF 0 S col k L, FitQ q := by
  induction k with
  | zero => exact hL
  | succ k ih =>
    intro q hq
    rw [nsSet_succ] at hq
    rcases List.mem_or_eq_of_mem_set hq with hq | rfl
    · exact ih q hq
    · exact (h.num k col).neg0
theorem FinOk.basis {S : ElS Rat} (h : FinOk S) (n k : Nat) : ∀ L ∈ nsBasis ratF 0 1 n S k, L.length = n ∧ ∀ q ∈ L, FitQ q := by
  induction k with
  | zero => simp [nsBasis]
  | succ k ih =>
    intro L hL
    unfold nsBasis at hL
    rcases List.mem_append.1 hL with hL | hL
    · exact ih L hL
    · split at hL
      · cases hL
      · obtain rfl := List.mem_singleton.1 hL
        unfold nsList
        refine ⟨by rw [List.length_reverse, nsSet_length]; simp, fun q hq => ?_⟩
        refine h.nsSet _ _ _ (fun z hz => ?_) q (List.mem_reverse.1 hq)
        rcases List.mem_or_eq_of_mem_set hz with hz | rfl
        · rw [List.eq_of_mem_replicate hz]; exact fitQ_zero
        · exact fitQ_one
theorem FinOk.same {S Z : ElS Rat} (h : SameS S Z) (hz : FinOk Z) : FinOk S := by
  intro r hr x hx
  have h1 : r.2.2 ∈ valsT S.rows := List.mem_map_of_mem hr
  rw [h.rows] at h1
  obtain ⟨q, hq, he⟩ := List.mem_map.1 h1
  exact hz q hq x (by rw [he]; exact hx)
theorem TxtsTo.mono {w w0 wr : World} {g m k : Nat} {Ls : List (List Rat)} {B : List (Nat × List Txt)} (h : TxtsTo w wr g m Ls k B) (hw : w0.heap.size ≤ w.heap.size) : TxtsTo w0 wr g m Ls k B :=
  ⟨h.own, fun r hr => ⟨Nat.le_trans hw (h.rows r hr).1, (h.rows r hr).2⟩, h.vals⟩
theorem matErr_ok {M : List (List Txt)} (h : matErr M = 0) : M.length ≤ 256 ∧ widM M ≤ 256 := by
  unfold matErr at h
  split at h
  · cases h
  · refine ⟨by omega, ?_⟩
    cases M with
    | nil => simp [widM]
    | cons a t =>
      simp only [List.getElem?_cons_zero, Option.map_some, Option.getD_some, rowsErr] at h
      split at h
      · cases h
      · simp [widM]; omega
/-- what a call leaves that writes a matrix -/
def matPost (Ls : List (List Rat)) (w : World) (e : Ending) (w' : World) : Prop :=
  (AllShort Ls ∧ ∃ (g : Nat) (B : List (Nat × List Txt)), e = .returned (.tuple #[.slice (some ⟨g, 0, none⟩) Ls.length Ls.length, .int .i64 0]) ∧ w.heap.size ≤ g ∧ TxtsTo w w' g Ls.length Ls Ls.length B) ∨ (¬ AllShort Ls ∧ e = .returned (.tuple #[nilV, .int .i64 4]))
def kernPost (M : List (List Txt)) (w : World) (e : Ending) (w' : World) : Prop :=
  Below w.heap.size w w' ∧ ((matErr M = 0 ∧ matPost (kerL (widM M) (M.map rvals)) w e w') ∨ (matErr M ≠ 0 ∧ e = .returned (.tuple #[nilV, .int .i64 (matErr M)])))
/-- the numbers stay small on the way to the null space -/
def KerOk (n : Nat) (M : List (List Rat)) : Prop := OkM n (M.map List.reverse) ∧ FinOk (elimM ratF n (M.map List.reverse))

set_option maxRecDepth 100000 in
set_option maxHeartbeats 2000000 in
theorem Kernel_c (v : Value) (M : List (List Txt)) (w : World) (hv : TblT w v M) (hT : ∀ r ∈ M, ∀ l ∈ r, TxtOk l) (hG : Glob w) (hok : matErr M = 0 → KerOk (widM M) (M.map rvals)) :
    Calls Tryz.prog 69 #[v] w (kernPost M w) := by
  have RR := Lib.hid (readRowsQ_c v M w hv hT hG)
  obtain ⟨A, c, rfl, _, _⟩ := hv.form
  have HOK := Lib.hid hok
  have HG := Lib.hid hG
  clear hv hT hG hok
  go_enter Tryz.func69, Tryz.ntmps69
  go_wp2_with fail
  refine RR.out.mono ?_
  clear RR
  rintro e w1 ⟨hB1, ⟨hM, g, R, rfl, hg, hnew, hmx, hvals⟩ | ⟨hM, rfl⟩⟩
  · change MxR w1 g R (widM M) at hmx
    obtain ⟨hm1, hn1⟩ := matErr_ok hM
    have HM := Lib.hid hM
    obtain ⟨hok1, hok2⟩ := HOK.out hM
    have hRl : R.length = M.length := by rw [← vals_len R, hvals]; simp
    have hv2 : valsT (mapTo List.reverse R R.length) = (M.map rvals).map List.reverse := by rw [mapTo_all_vals, hvals]
    have hE := hok1.rows hv2
    rw [mapTo_length] at hE
    have hS : SameS (elGo ratF (widM M) R.length 0 ⟨mapTo List.reverse R R.length, [], [], false⟩) (elimM ratF (widM M) ((M.map rvals).map List.reverse)) := by
      have := elim_same (F := ratF) hv2 (widM M)
      rwa [mapTo_length] at this
    have hF := FinOk.same hS hok2
    have NS := Lib.hid (nullSpaceQ_c g M.length (widM M) R w1 hmx (by omega) (by omega) (by omega) (fun h => by
      have : M = [] := List.length_eq_zero_iff.1 (by rw [← hRl, h]; rfl)
      subst this; rfl) hE hF)
    rw [hRl] at NS
    have HS := Lib.hid hS
    have HF := Lib.hid hok2
    have Hbl : Hid (∀ k ∈ g :: R.map (·.1), w.heap.size ≤ k) := Lib.hid (fun k hk => by
      rcases List.mem_cons.1 hk with rfl | hk
      · exact hg
      · obtain ⟨r, hr, rfl⟩ := List.mem_map.1 hk; exact hnew r hr)
    have Hvals := Lib.hid hvals
    have HB1 := Lib.hid hB1
    clear hmx hnew hvals hok1 hok2 hE hF hS hv2 hM hB1 hRl hg HOK
    go_wp2_with fail
    refine NS.out.mono ?_
    clear NS
    rintro e w2 ⟨v2, B, rfl, hBv, hTb, hbs⟩
    have hker : B.map (·.2) = kerL (widM M) (M.map rvals) := by rw [hBv, HS.out.nsBasis]; rfl
    have hBl : B.length ≤ widM M := by
      have h1 := congrArg List.length hBv
      have h2 := nsBasis_length ratF (0 : Rat) 1 (widM M) (elGo ratF (widM M) R.length 0 ⟨mapTo List.reverse R R.length, [], [], false⟩) (widM M)
      rw [List.length_map] at h1
      omega
    have hRA := hTb.rowsAt (by omega)
    rw [hker] at hRA
    have hB2 : Below w.heap.size w w2 := HB1.out.trans (hbs.toBelow Hbl.out HB1.out.size)
    have hkb := HF.out.basis (widM M) (widM M)
    have WR := Lib.hid (writeRows_c v2 (kerL (widM M) (M.map rvals)) w2 hRA (by rw [← hker, List.length_map]; omega) (fun L hL => ⟨by have := (hkb L hL).1; omega, (hkb L hL).2⟩) (HG.out.below hB2))
    have HB2 := Lib.hid hB2
    obtain ⟨A9, k9, rfl, _, _⟩ := oForm hTb.1
    clear hBv hTb hbs hker hRA hkb hB2
    generalize hKe : kerL (widM M) (M.map rvals) = K at *
    have HKe := Lib.hid hKe
    clear hKe
    go_wp2_with fail
    refine WR.out.mono ?_
    clear WR
    rintro e w3 ⟨hB3, ⟨hsh, g3, B3, rfl, hg3, hT3⟩ | ⟨hsh, rfl⟩⟩
    · have HX := Lib.hid hsh
      have HT3 := Lib.hid hT3
      have HB3 := Lib.hid (HB2.out.trans (hB3.mono HB2.out.size))
      have hgg : w.heap.size ≤ g3 := Nat.le_trans HB2.out.size hg3
      clear hsh hT3 hB3
      go_wp2
      go_ret2
      exact ⟨HB3.out, .inl ⟨HM.out, by rw [HKe.out]; exact .inl ⟨HX.out, g3, B3, rfl, hgg, HT3.out.mono HB2.out.size⟩⟩⟩
    · have HX := Lib.hid hsh
      have HB3 := Lib.hid (HB2.out.trans (hB3.mono HB2.out.size))
      clear hsh hB3
      go_wp2
      go_ret2
      exact ⟨HB3.out, .inl ⟨HM.out, by rw [HKe.out]; exact .inr ⟨HX.out, rfl⟩⟩⟩
  · have HX := Lib.hid hM
    have hne : (matErr M != 0) = true := by simpa using hM
    clear HOK hM
    generalize hec : matErr M = ec at *
    have HEC := Lib.hid hec
    clear hec
    go_wp2
    go_ret2
    exact ⟨hB1, .inr ⟨by rw [HEC.out]; exact HX.out, by rw [HEC.out]; rfl⟩⟩
end Go.Proofs.YtneafcdfnhnpnaaGreatDoor
