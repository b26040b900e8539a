/- Contract of the reference: PivotsModulo. -/
import Derived.Test.YtneafcdfnhnpnaaGreatDoorZM02
import Derived.Test.YtneafcdfnhnpnaaGreatDoorZM03
namespace Go.Proofs.YtneafcdfnhnpnaaGreatDoor
open Go.RowKit Go.Lib

theorem rInv_in {p d : Int} (hp : PF p) (hp9 : p ≤ 999999999) (hd : 0 < d ∧ d < p) (w : World) :
    Calls Tryz.prog 40 #[.int .i64 d, .int .i64 p] w fun e w' => e = .returned (.tuple #[.int .i64 (invI p d), .bool true]) ∧ Below w.heap.size w w' := by
  have h2 := hp.1
  refine (refInverse_c d p w (by omega) hp9).mono ?_
  rintro e w' ⟨⟨h, -⟩ | ⟨-, -, x, rfl, h0, h1, hx⟩ | ⟨-, h, -⟩, hB⟩
  · omega
  · exact ⟨by rw [invI_eq p d x h0 h1 hx], hB⟩
  · exact absurd (hp.2.2 d hd.1 hd.2) h
theorem wrapP (n : Int) (h : -9223372036854775808 ≤ n ∧ n ≤ 9223372036854775807) : IntKind.i64.wrap n = n := by rw [IntKind.wrap_i64]; omega
theorem mul_smallp {x y p : Int} (hp : p ≤ 999999999) (hx : 0 ≤ x ∧ x < p) (hy : 0 ≤ y ∧ y < p) : 0 ≤ x * y ∧ x * y ≤ 1000000000 * 1000000000 :=
  ⟨Int.mul_nonneg hx.1 hy.1, Int.mul_le_mul (by omega) (by omega) hy.1 (by omega)⟩
theorem pvNone {p : Int} {n : Nat} {M : List (List Int)} {w w' : World} (h0 : M.length = 0 ∨ n = 0) (hN : (M[0]?.map (·.length)).getD 0 = n) (hB : Below w.heap.size w w') (A : Option Addr) (k : Nat) (e : Ending) (he : e = .returned (.tuple #[.slice A 0 k, nilV])) : pvPost p M w e w' := by
  refine ⟨hB, (modM p M).map (fun L => (0, 0, L)), ⟨(modM p M).map (fun L => (0, 0, L)), [], [], false⟩, .slice A 0 k, nilV, by rw [List.map_map]; simp [Function.comp_def], ?_, he, ?_, oSl (World.ownsRow_nil w' 0 3 1) (by omega), by simp⟩
  · rcases h0 with h | h
    · exact (elGo_full (by unfold modM; simp [h])).symm
    · rw [hN]; exact (elGo_stop (by omega)).symm
  · exact ⟨[], ⟨A, k, rfl, by simp, by simp, fun h => by simp at h⟩, by simp, fun i r h => by simp at h⟩
theorem mod_in {p : Int} (hp : PF p) (x : Int) : 0 ≤ x % p ∧ x % p < p := ⟨Int.emod_nonneg _ (by have := hp.1; omega), Int.emod_lt_of_pos _ (by have := hp.1; omega)⟩

set_option maxRecDepth 100000 in
set_option maxHeartbeats 8000000 in
theorem refPivots_c (v : Value) (M : List (List Int)) (p : Int) (w : World) (hv : TblW w v M) (hm : M.length ≤ 256) (hn : (M[0]?.map (·.length)).getD 0 ≤ 256) (hr : ∀ r ∈ M, r.length = (M[0]?.map (·.length)).getD 0) (hp : PF p) (hp9 : p ≤ 999999999) :
    Calls Tryz.prog 90 #[v, .int .i64 p] w (pvPost p M w) := by
  obtain ⟨vs, hvs, hvl, hvr⟩ := hv
  obtain ⟨A, c, rfl, hc1, hc2⟩ := hvs.form
  rw [hvl] at hvs hc1
  rw [hvl]
  have HVR := Lib.hid hvr
  have HP := Lib.hid hp
  have HR := Lib.hid hr
  have hp1 : 2 ≤ p := hp.1
  have HML : Hid ((modM p M).length = M.length) := Lib.hid (by simp [modM])
  obtain ⟨s0, hs0, hsz0, hsz1, hsz2⟩ := info_parts info_sli
  obtain ⟨i0, hi0, hz0, hz1, hz2⟩ := info_parts info_int
  generalize hne : (M[0]?.map (·.length)).getD 0 = n at *
  have HN := Lib.hid hne
  have MD := Lib.hid (fun (a : Int) (W : World) => refMod2_c a p W (by omega) (by omega))
  clear hvr hp hr hne
  go_enter Tryz.func90, Tryz.ntmps90
  go_wp2_with fail
  go_loopg [6, 7] M.length (fun gh rv i wr => ∃ (k : Nat) (us : List Value), i = .int .i64 k ∧ k + gh = M.length ∧ Hid (BTbl wr w.heap.size n rv us ((modM p M).take k)) ∧ Hid (Below w.heap.size w wr))
  case atStart => exact ⟨0, [], rfl, by omega, Lib.hid (by rw [List.take_zero]; exact BTbl.nil _ _ _), Lib.hid (Below.refl _ _)⟩
  case round =>
    obtain ⟨k, us, rfl, hk, hT, hW⟩ := hrel
    cases gk with
    | zero =>
      have hkM : k = M.length := by omega
      subst hkM
      have HT : Hid (BTbl wr w.heap.size n u6 us (modM p M)) := Lib.hid (by have := hT.out; rw [List.take_of_length_le (by rw [HML.out]; omega)] at this; exact this)
      have hin : ¬ ((M.length : Int) < (M.length : Int)) := by omega
      clear hT hk hvs HVR
      by_cases hz : M.length = 0 ∨ n = 0
      · have HPN := Lib.hid (fun A k e (he : e = Ending.returned (.tuple #[.slice A 0 k, nilV])) => pvNone (p := p) (w := w) (w' := wr) hz HN.out hW.out A k e he)
        rcases Nat.eq_zero_or_pos M.length with hm0 | hm0
        · have hin1 : ¬ ((0 : Int) < (M.length : Int)) := by omega
          have ho := HT.out.own.2
          rw [HML.out] at ho
          rcases ho with ⟨rfl, -⟩ | ⟨g, cap, cur, rfl, -, -, -, hcap, -⟩
          · rw [hm0] at *
            clear HT hz
            go_wp2_with fail
            go_loopg [10, 11] 0 (fun gh cv ci wx => cv = nilV ∧ ci = .int .i64 0 ∧ wr = wx)
            case atStart => exact ⟨rfl, rfl, rfl⟩
            case round =>
              obtain ⟨rfl, rfl, rfl⟩ := hrel
              go_wp2
              go_ret2
              exact HPN.out _ _ _ rfl
          · rw [hm0] at *
            clear HT hz
            go_wp2_with fail
            go_loopg [10, 11] 0 (fun gh cv ci wx => cv = nilV ∧ ci = .int .i64 0 ∧ wr = wx)
            case atStart => exact ⟨rfl, rfl, rfl⟩
            case round =>
              obtain ⟨rfl, rfl, rfl⟩ := hrel
              go_wp2
              go_ret2
              exact HPN.out _ _ _ rfl
        · have hn0 : n = 0 := by omega
          have hin1 : ((0 : Int) < (M.length : Int)) := by omega
          obtain ⟨A6, k6, rfl, hk61, hk62⟩ := oForm HT.out.own
          obtain ⟨u0, hu0, ho0⟩ := HT.out.row 0 _ (List.getElem?_eq_getElem (by rw [HML.out]; exact hm0))
          obtain ⟨A0, k0, rfl, -, -⟩ := oForm ho0
          obtain ⟨g, rfl, -, hgl, hcell⟩ := oCell HT.out.own (j := 0) (by rw [HML.out]; exact hm0)
          have hc0 := (hcell 0 (by rw [HML.out]; exact hm0)).trans hu0
          rw [HML.out] at hk61 ⊢
          clear HT hz hcell ho0 hu0
          subst hn0
          go_wp2_with fail
          go_loopg [10, 11] 0 (fun gh cv ci wx => cv = nilV ∧ ci = .int .i64 0 ∧ wr = wx)
          case atStart => exact ⟨rfl, rfl, rfl⟩
          case round =>
            obtain ⟨rfl, rfl, rfl⟩ := hrel
            go_wp2
            go_ret2
            exact HPN.out _ _ _ rfl
      · have hn0 : 0 < n := by omega
        have hm0 : (0 : Int) < (M.length : Int) := by omega
        have hm1 : 0 < M.length := by omega
        obtain ⟨g, cg, R, rfl, hRv, hbg, hbk, hMX⟩ := HT.out.mx hn0 (by rw [HML.out]; omega)
        have hRl : R.length = M.length := by have := congrArg List.length hRv; rw [List.length_map, HML.out] at this; exact this
        have HRV := Lib.hid hRv
        have HBK := Lib.hid (And.intro hbg hbk)
        have HRl := Lib.hid hRl
        have HI0 : Hid (PvInv p n g cg R wr wr ⟨R, [], [], false⟩ 0 nilV) := Lib.hid ⟨⟨hMX, World.ownsRow_nil _ _ _ _, rfl, List.Perm.refl _, (by
            intro r hr x hx
            have : r.2.2 ∈ modM p M := by rw [← hRv]; exact List.mem_map_of_mem hr
            obtain ⟨q, _, hq⟩ := List.mem_map.1 this
            rw [← hq] at hx
            obtain ⟨y, _, rfl⟩ := List.mem_map.1 hx
            exact mod_in HP.out y), fun _ h => hMX.lt h, ButS.refl _ _⟩, by omega, by simp, fun i h1 h2 k hk => by omega, by simp⟩
        have hcg := hMX.own.2.1
        have hcg2 := hMX.own.2.2.1
        rw [hRl] at hcg
        rw [HML.out]
        clear HT hRv hbg hbk hMX hRl hz
        go_wp2_with fail
        obtain ⟨w1, rfl⟩ : ∃ w1, w1 = wr := ⟨_, rfl⟩
        go_loopg [10, 11] n (fun gh cv ci wx => ∃ (S : ElS Int) (k : Nat), ci = .int .i64 k ∧ k + gh = n ∧ Hid (PvInv p n g cg R w1 wx S k cv))
        case atStart => exact ⟨⟨R, [], [], false⟩, 0, rfl, by omega, HI0⟩
        case round =>
          clear HI0
          obtain ⟨S, k, rfl, hk, hI⟩ := hrel
          have hSl : S.rows.length = M.length := hI.out.mid.len.trans HRl.out
          obtain ⟨r0, hr0⟩ : ∃ r, S.rows[0]? = some r := ⟨S.rows[0]'(by omega), List.getElem?_eq_getElem _⟩
          have hc0 := hI.out.mid.mx.cellRow hr0
          unfold rowV at hc0
          obtain ⟨A1, k1, hcv, hcv1, hcv2⟩ := oForm hI.out.mid.cown
          subst hcv
          have hgl := hI.out.mid.mx.own.lt
          have hqm := hI.out.hq
          rw [HRl.out] at hqm
          have HSl := Lib.hid hSl
          have Hk := Lib.hid hk
          have HBf : Hid (Below w.heap.size w wr) := Lib.hid (hW.out.trans (by
            have hb := hI.out.mid.buts
            exact ⟨hb.os, hb.tape, hb.output, hb.size, fun i hi => hb.block i (Nat.lt_of_lt_of_le hi hW.out.size) (fun hm => by
              rcases List.mem_cons.1 hm with rfl | hm
              · have := HBK.out.1; omega
              · have := HBK.out.2 _ hm; omega)⟩))
          clear hr0 hSl
          by_cases hkn : k = n
          · have hin1 : ¬ ((k : Int) < (n : Int)) := by omega
            have HD := Lib.hid (hI.out.done (.inl (by omega)))
            have HT := Lib.hid (hI.out.mid.mx.tblW (k := S.cols.length) (by rw [HSl.out]; omega) (by rw [HSl.out]; omega) (by omega))
            have HC := Lib.hid (oSl hI.out.mid.cown (by omega))
            clear hI hk hkn
            go_wp2
            go_ret2
            exact ⟨HBf.out, R, S, _, _, HRV.out, by rw [HN.out]; exact HD.out, rfl, HT.out, HC.out, by rw [HRl.out]; exact hqm⟩
          · have hin1 : ((k : Int) < (n : Int)) := by omega
            have hkn' : k < n := by omega
            by_cases hend : S.cols.length = M.length
            · have hin2 : ¬ ((S.cols.length : Int) < (M.length : Int)) := by omega
              have HD := Lib.hid (hI.out.done (.inr (by rw [HRl.out]; exact hend)))
              have HT := Lib.hid (hI.out.mid.mx.tblW (k := S.cols.length) (by rw [HSl.out]; omega) (by rw [HSl.out]; omega) (by omega))
              have HC := Lib.hid (oSl hI.out.mid.cown (by omega))
              have Hend := Lib.hid hend
              clear hI hk hkn
              go_wp2
              go_ret2
              refine ⟨HBf.out, R, S, _, _, HRV.out, by rw [HN.out]; exact HD.out, rfl, ?_, ?_, by rw [HRl.out]; exact hqm⟩
              · have h := HT.out
                rw [Hend.out] at h ⊢
                exact h
              · have h := HC.out
                rw [Hend.out] at h
                exact h
            · have hin2 : ((S.cols.length : Int) < (M.length : Int)) := by omega
              have hq1 : S.cols.length < M.length := by omega
              cases gk with
              | zero => exact absurd hk (by omega)
              | succ gh =>
                clear hk hkn hend
                go_wp2_with fail
                obtain ⟨wb, rfl⟩ : ∃ wb, wb = wr := ⟨_, rfl⟩
                go_loopg [12] (M.length - S.cols.length) (fun gh2 at_ wx => ∃ t : Nat, at_ = .int .i64 t ∧ S.cols.length ≤ t ∧ t + gh2 = M.length ∧ Hid (∀ i, S.cols.length ≤ i → i < t → numI S.rows i k = 0) ∧ wb = wx)
                case atStart => exact ⟨S.cols.length, rfl, Nat.le_refl _, by omega, Lib.hid (fun i h1 h2 => by omega), rfl⟩
                case round =>
                  obtain ⟨t, rfl, ht1, ht2, hZ, rfl⟩ := hrel
                  by_cases htm : t = M.length
                  · have htn : ¬ ((t : Int) < (M.length : Int)) := by omega
                    have hte : ((t : Int) == (M.length : Int)) = true := by simp; omega
                    have HS := Lib.hid (hI.out.skip hkn' (fun i h1 h2 => hZ.out i h1 (by have := HRl.out; omega)))
                    clear hZ hI htm ht2
                    go_wp2
                    go_roundg gh
                    case rel => exact ⟨S, k + 1, by go_num, by have := Hk.out; omega, HS⟩
                    case measure => omega
                  · have htn : ((t : Int) < (M.length : Int)) := by omega
                    have htl : t < M.length := by omega
                    obtain ⟨rt, hrt⟩ : ∃ r, S.rows[t]? = some r := ⟨S.rows[t]'(by have := HSl.out; omega), List.getElem?_eq_getElem _⟩
                    have hct := hI.out.mid.mx.cellRow hrt
                    have hcx := hI.out.mid.mx.cellNum hrt hkn'
                    have hte : ((t : Int) == (M.length : Int)) = false := by simp; omega
                    unfold rowV at hct
                    have Hx0 : Hid (numI S.rows t k = rt.2.2[k]?.getD 0) := Lib.hid (numI_eq hrt)
                    by_cases hx : rt.2.2[k]?.getD 0 = 0
                    · have hxb : (rt.2.2[k]?.getD 0 == 0) = true := by simp [hx]
                      have HZ : Hid (∀ i, S.cols.length ≤ i → i < t + 1 → numI S.rows i k = 0) := Lib.hid (fun i h1 h2 => by
                        rcases Nat.lt_or_ge i t with h3 | h3
                        · exact hZ.out i h1 h3
                        · have : i = t := by omega
                          rw [this, Hx0.out, hx])
                      cases gk with
                      | zero => exact absurd ht2 (by omega)
                      | succ gh2 =>
                        have Ht2 := Lib.hid ht2
                        clear hrt hZ Hx0 hx ht2 htm
                        generalize rt.2.2[k]?.getD 0 = x at *
                        go_wp2
                        go_roundg gh2
                        case rel => exact ⟨t + 1, by go_num, by omega, by have := Ht2.out; omega, HZ, rfl⟩
                        case measure => omega
                    · have hxb : (rt.2.2[k]?.getD 0 == 0) = false := by simp [hx]
                      have Hd : Hid (numI S.rows t k ≠ 0) := Lib.hid (by rw [Hx0.out]; exact hx)
                      obtain ⟨rq, hrq⟩ : ∃ r, S.rows[S.cols.length]? = some r := ⟨S.rows[S.cols.length]'(by have := HSl.out; omega), List.getElem?_eq_getElem _⟩
                      have hcq := hI.out.mid.mx.cellRow hrq
                      have hft := hI.out.mid.mx.own.free t
                      have hfq := hI.out.mid.mx.own.free S.cols.length
                      have HE2 := Lib.hid (hI.out.mid.swap hrt hrq)
                      have Hrow := Lib.hid (swapR_top hrt hrq)
                      have HQe : Hid (elSwap t S = swapR S.rows t S.cols.length) := Lib.hid (elSwap_all (by have := HSl.out; omega))
                      have H0 : Hid (∀ l, l < k → rt.2.2[l]?.getD 0 = 0) := Lib.hid (fun l hl => by rw [← numI_eq hrt]; exact hI.out.rest t ht1 (by have := HRl.out; omega) l hl)
                      have HIn : Hid (∀ x ∈ rt.2.2, 0 ≤ x ∧ x < p) := Lib.hid (hI.out.mid.inp _ (List.mem_of_getElem? hrt))
                      have Hil : Hid (rt.2.2.length = n) := Lib.hid (hI.out.mid.mx.len (List.mem_of_getElem? hrt))
                      unfold rowV at hcq HE2
                      obtain ⟨z2, hz2⟩ : ∃ z, (wb.setCell ⟨g, t, none⟩ (.slice (some ⟨rq.1, 0, none⟩) n rq.2.1)).cell? ⟨g, S.cols.length, none⟩ = some z := by
                        rw [(hI.out.mid.mx.own.put t (.slice (some ⟨rq.1, 0, none⟩) n rq.2.1)).cell (by rw [HSl.out]; exact hq1)]
                        exact ⟨_, List.getElem?_eq_getElem (by rw [List.length_set, List.length_map, HSl.out]; exact hq1)⟩
                      clear hrt hrq ht2 htm
                      obtain ⟨ib, ic, il⟩ := rt
                      obtain ⟨tb, tc, tl⟩ := rq
                      dsimp only at hct hcx hcq HE2 hz2 hx hxb H0 HIn Hil Hx0
                      have hdr : 0 ≤ il[k]?.getD 0 ∧ il[k]?.getD 0 < p := by
                        rw [List.getElem?_eq_getElem (by rw [Hil.out]; exact hkn'), Option.getD_some]
                        exact HIn.out _ (List.getElem_mem _)
                      have IV := Lib.hid (fun W => rInv_in HP.out hp9 (show 0 < il[k]?.getD 0 ∧ il[k]?.getD 0 < p by omega) W)
                      have HY : Hid (0 ≤ invI p (il[k]?.getD 0) ∧ invI p (il[k]?.getD 0) < p) := Lib.hid (by have := invI_spec HP.out (b := il[k]?.getD 0) (by omega) (by omega); exact ⟨this.1, this.2.1⟩)
                      have HMul : Hid (il.map (· * invI p (il[k]?.getD 0) % p) = divRow (resF p) (il[k]?.getD 0) k il) := Lib.hid (mul_row rfl H0.out)
                      have HSt := Lib.hid (fun Q (h : Q.length = R.length) (e : elSwap t S = Q) (hr : Q[S.cols.length]? = some (ib, ic, il)) => congrArg ElS.rows (elStep_eq (F := resF p) (S := S) (i := t) (j := k) (x := il[k]?.getD 0) e hr rfl rfl h))
                      rw [← HQe.out] at Hrow HE2
                      have HSt2 := Lib.hid (HSt.out _ HE2.out.len rfl Hrow.out)
                      clear HQe HSt Hx0 hx hdr
                      generalize elSwap t S = Q at *
                      generalize hde : il[k]?.getD 0 = d at *
                      have Hde := Lib.hid hde
                      clear hde
                      go_upto_region 20 with fail
                      go_region
                      obtain ⟨w2, hw2⟩ : ∃ w2, w2 = ((wb.setCell ⟨g, t, none⟩ (.slice (some ⟨tb, 0, none⟩) n tc)).setCell ⟨g, S.cols.length, none⟩ (.slice (some ⟨ib, 0, none⟩) n ic)).drew := ⟨_, rfl⟩
                      rw [← hw2] at HE2
                      rw [← hw2]
                      clear hw2 hz2 hct hcx hcq hft hfq hgl hc0 hxb hte htn
                      have hcr := HE2.out.mx.cellRow Hrow.out
                      have hcd := HE2.out.mx.cellNum Hrow.out hkn'
                      have hgl := HE2.out.mx.own.lt
                      unfold rowV at hcr
                      dsimp only at hcr hcd
                      rw [Hde.out] at hcd
                      go_wp2_with fail
                      refine (IV.out _).mono ?_
                      rintro e w4 ⟨rfl, hB4⟩
                      have HE4 := Lib.hid (HE2.out.below hB4)
                      have hgl4 := HE4.out.mx.own.lt
                      clear HE2 hB4 hcr hcd hgl IV
                      generalize invI p d = y at *
                      go_wp2_with fail
                      go_loopg [16] n (fun gh2 ik wx => ∃ j : Nat, ik = .int .i64 j ∧ j + gh2 = n ∧ Hid (PvMid p n g cg R w1 wx S.cols (setRow Q S.cols.length (mapFrom (· * y % p) 0 j il)) (.slice A1 S.cols.length k1)))
                      case atStart => exact ⟨0, rfl, by omega, Lib.hid (by rw [mapFrom_zero, setRow_same Hrow.out]; exact HE4.out)⟩
                      case round =>
                        clear HE4 hgl4
                        obtain ⟨j, rfl, hj, hE⟩ := hrel
                        have hrow2 := setRow_at Hrow.out (mapFrom (· * y % p) 0 j il)
                        have hcr := hE.out.mx.cellRow hrow2
                        have hgl := hE.out.mx.own.lt
                        unfold rowV at hcr
                        dsimp only at hcr
                        cases gk with
                        | zero =>
                          have hjn : ¬ ((j : Int) < (n : Int)) := by omega
                          have hjn' : j = n := by omega
                          have HE5 : Hid (PvMid p n g cg R w1 wr S.cols (setRow Q S.cols.length (divRow (resF p) d k il)) (.slice A1 S.cols.length k1)) := Lib.hid (by
                            have h := hE.out
                            have e : mapFrom (· * y % p) 0 n il = divRow (resF p) d k il := by rw [← HMul.out, ← Hil.out]; exact mapFrom_full ..
                            rwa [hjn', e] at h)
                          have HP0 := Lib.hid (div_before (p := p) (d := d) H0.out)
                          have HPin := Lib.hid (divRow_in (p := p) (by omega) d k HIn.out)
                          have HPl : Hid ((divRow (resF p) d k il).length = n) := Lib.hid (by rw [divRow_length]; exact Hil.out)
                          have Hrow2 := Lib.hid (setRow_at Hrow.out (divRow (resF p) d k il))
                          clear hE hj hjn' hrow2 HMul H0 HIn Hrow Hil
                          generalize divRow (resF p) d k il = P at *
                          generalize setRow Q S.cols.length P = Q2 at *
                          go_wp2_with fail
                          go_loopg [17] M.length (fun gh3 ii wx => ∃ i : Nat, ii = .int .i64 i ∧ i + gh3 = M.length ∧ Hid (PvMid p n g cg R w1 wx S.cols (clrTo (resF p) S.cols.length k P Q2 i) (.slice A1 S.cols.length k1)))
                          case atStart => exact ⟨0, rfl, by omega, Lib.hid (by rw [clrTo_zero]; exact HE5.out)⟩
                          case round =>
                            have HQl : Hid (Q2.length = M.length) := Lib.hid (by rw [← HRl.out]; exact HE5.out.len)
                            clear HE5 hgl hjn hcr
                            obtain ⟨i, rfl, hi, hE⟩ := hrel
                            cases gk with
                            | zero =>
                              have him : ¬ ((i : Int) < (M.length : Int)) := by omega
                              have HE6 : Hid (PvMid p n g cg R w1 wr S.cols (elStep (resF p) t k S).rows (.slice A1 S.cols.length k1)) := Lib.hid (by
                                have him' : i = R.length := by have := HRl.out; omega
                                rw [HSt2.out, ← him']; exact hE.out)
                              have hsz := HE6.out.buts.size
                              clear hE hi
                              go_wp2_with (at_builtin; (refine wpList_append_own _ rfl _ _ 50 rfl w1.heap.size 3 i0 (.int .i64 0) 1 8 Tryz.underlying50 hi0 hz0 hz1 hz2 rfl (by decide) _ _ _ rfl (HE6.out.cown.alloc _) ⟨wr.heap.size, 0, none⟩ 1 1 [.int .i64 k] rfl rfl (cell_one_new _ _ _) (fun x hx => by simp at hx; subst hx; rfl) (by unfold maxLen; omega) (by omega) (by simp; omega) ?_; intro v7 w7 hown7 hgrow7 _))
                              have HE7 := Lib.hid (HE6.out.addCol hown7 hgrow7)
                              go_roundg gh
                              case rel => exact ⟨elStep (resF p) t k S, k + 1, by go_num, by have := Hk.out; omega, Lib.hid (hI.out.step HP.out ht1 (by have := HRl.out; omega) hkn' Hd.out hZ.out HE7.out)⟩
                              case measure => omega
                            | succ gh3 =>
                              have hil : i < M.length := by omega
                              have hil' : ((i : Int) < (M.length : Int)) := by omega
                              obtain ⟨ri, hri⟩ : ∃ r, Q2[i]? = some r := ⟨Q2[i]'(by rw [HQl.out]; exact hil), List.getElem?_eq_getElem _⟩
                              have hri' := (clrTo_next (F := resF p) (R := Q2) (top := S.cols.length) (o := k) (P := P) i).trans hri
                              have hci := hE.out.mx.cellRow hri'
                              have hcx := hE.out.mx.cellNum hri' hkn'
                              have hgl := hE.out.mx.own.lt
                              have Hi := Lib.hid hi
                              unfold rowV at hci
                              by_cases hiq : i = S.cols.length
                              · have hne : ((i : Int) != (S.cols.length : Int)) = false := by simp; omega
                                have HE6 : Hid (PvMid p n g cg R w1 wr S.cols (clrTo (resF p) S.cols.length k P Q2 (i + 1)) (.slice A1 S.cols.length k1)) := Lib.hid (by rw [hiq, clrTo_skip]; have := hE.out; rw [hiq] at this; exact this)
                                clear hE hiq hri hri' hi
                                obtain ⟨kb, kc, kl⟩ := ri
                                dsimp only at hci hcx
                                generalize kl[k]?.getD 0 = x at *
                                go_wp2_with fail
                                go_loopg [19] 0 (fun gh4 il wx => il = .int .i64 0 ∧ wr = wx)
                                case atStart => exact ⟨rfl, rfl⟩
                                case round =>
                                  obtain ⟨rfl, rfl⟩ := hrel
                                  go_wp2
                                  go_roundg gh3
                                  case rel => exact ⟨i + 1, by go_num, by have := Hi.out; omega, HE6⟩
                                  case measure => omega
                              · have hne : ((i : Int) != (S.cols.length : Int)) = true := by simp; omega
                                have hkin := hE.out.inp _ (List.mem_of_getElem? hri')
                                have hkl := hE.out.mx.len (List.mem_of_getElem? hri')
                                have htop := (clrTo_top (F := resF p) (R := Q2) (top := S.cols.length) (o := k) (P := P) i).trans Hrow2.out
                                have Hsu := Lib.hid (clrTo_succ (F := resF p) (top := S.cols.length) (o := k) (P := P) hiq hri)
                                have HR1 := Lib.hid hri'
                                have HR2 := Lib.hid htop
                                have Hiq := Lib.hid hiq
                                clear hri hri' htop hi hiq
                                obtain ⟨kb, kc, kl⟩ := ri
                                dsimp only at hci hcx hkin hkl Hsu
                                have HKin := Lib.hid hkin
                                have Hkl := Lib.hid hkl
                                have hxr : 0 ≤ kl[k]?.getD 0 ∧ kl[k]?.getD 0 < p := by
                                  rw [List.getElem?_eq_getElem (by rw [hkl]; exact hkn'), Option.getD_some]
                                  exact hkin _ (List.getElem_mem _)
                                have HXr := Lib.hid hxr
                                generalize hze : kl[k]?.getD 0 = z at *
                                have Hclr : Hid ((kl.mapIdx fun l x => (x - z * (P[l]?.getD 0) % p) % p) = clrRow (resF p) k kl P) := Lib.hid (clr_row hkin HP0.out hze.symm)
                                have HE6 : Hid (PvMid p n g cg R w1 wr S.cols (setRow (clrTo (resF p) S.cols.length k P Q2 i) i (updTo (fun l x => (x - z * (P[l]?.getD 0) % p) % p) kl 0)) (.slice A1 S.cols.length k1)) := Lib.hid (by rw [updTo_zero, setRow_same HR1.out]; exact hE.out)
                                clear hkin hkl hxr hze hE
                                generalize clrTo (resF p) S.cols.length k P Q2 i = Q3 at *
                                go_wp2_with fail
                                go_loopg [19] n (fun gh4 ll wx => ∃ l : Nat, ll = .int .i64 l ∧ l + gh4 = n ∧ Hid (PvMid p n g cg R w1 wx S.cols (setRow Q3 i (updTo (fun l x => (x - z * (P[l]?.getD 0) % p) % p) kl l)) (.slice A1 S.cols.length k1)))
                                case atStart => exact ⟨0, rfl, by omega, HE6⟩
                                case round =>
                                  clear HE6 hci hcx hgl
                                  obtain ⟨l, rfl, hl, hE⟩ := hrel
                                  have hrow1 := setRow_at HR1.out (updTo (fun l x => (x - z * (P[l]?.getD 0) % p) % p) kl l)
                                  have hci := hE.out.mx.cellRow hrow1
                                  have hgl := hE.out.mx.own.lt
                                  have Hl := Lib.hid hl
                                  unfold rowV at hci
                                  dsimp only at hci
                                  cases gk with
                                  | zero =>
                                    have hln : ¬ ((l : Int) < (n : Int)) := by omega
                                    have HE7 : Hid (PvMid p n g cg R w1 wr S.cols (clrTo (resF p) S.cols.length k P Q2 (i + 1)) (.slice A1 S.cols.length k1)) := Lib.hid (by
                                      have h := hE.out
                                      have hln' : l = kl.length := by rw [Hkl.out]; omega
                                      rwa [hln', updTo_all, Hclr.out, Hsu.out] at h)
                                    clear hE hl hrow1
                                    go_wp2
                                    go_roundg gh3
                                    case rel => exact ⟨i + 1, by go_num, by have := Hi.out; omega, HE7⟩
                                    case measure => omega
                                  | succ gh4 =>
                                    have hll : l < n := by omega
                                    have hll' : ((l : Int) < (n : Int)) := by omega
                                    have hrow2 := (setRow_other (fun e => Hiq.out e) (updTo (fun l x => (x - z * (P[l]?.getD 0) % p) % p) kl l)).trans HR2.out
                                    have hcq := hE.out.mx.cellRow hrow2
                                    have c1 := hE.out.mx.cellNum hrow1 hll
                                    have c2 := hE.out.mx.cellNum hrow2 hll
                                    have f1 := (hE.out.mx.row _ (List.mem_of_getElem? hrow1)).free l
                                    have hbl := (hE.out.mx.row _ (List.mem_of_getElem? hrow1)).lt
                                    unfold rowV at hcq
                                    dsimp only at hcq c1 c2 f1 hbl
                                    rw [updTo_at] at c1
                                    have Hs := Lib.hid (updTo_succ (f := fun l x => (x - z * (P[l]?.getD 0) % p) % p) (L := kl) (k := l) (by rw [Hkl.out]; exact hll))
                                    have hxr : 0 ≤ kl[l]?.getD 0 ∧ kl[l]?.getD 0 < p := by
                                      rw [List.getElem?_eq_getElem (by rw [Hkl.out]; exact hll), Option.getD_some]
                                      exact HKin.out _ (List.getElem_mem _)
                                    have hpr : 0 ≤ P[l]?.getD 0 ∧ P[l]?.getD 0 < p := by
                                      rw [List.getElem?_eq_getElem (by rw [HPl.out]; exact hll), Option.getD_some]
                                      exact HPin.out _ (List.getElem_mem _)
                                    obtain ⟨m1, m2⟩ := mul_smallp hp9 HXr.out hpr
                                    have HP2 := Lib.hid (hE.out.setNum (j := l) hrow1 (mod_in HP.out (kl[l]?.getD 0 - z * (P[l]?.getD 0) % p)))
                                    rw [setRow_twice] at HP2
                                    dsimp only at HP2 Hs
                                    rw [Hs.out] at HP2
                                    obtain ⟨x1, x2⟩ := hxr
                                    have mr := mod_in HP.out (z * (P[l]?.getD 0))
                                    obtain ⟨r1, r2⟩ := mr
                                    clear hrow1 hrow2 Hs hE hl hpr
                                    generalize kl[l]?.getD 0 = x at *
                                    generalize P[l]?.getD 0 = u at *
                                    have MD3 := Lib.hid ((MD.out (x - z * u % p) wr.drew).mono fun e w' h => And.intro h.1 h.2.symm)
                                    have HPe : (x - z * u % p) % p = (x - z * u) % p := by simp
                                    rw [HPe] at HP2
                                    clear HPe
                                    have hp0 : ¬ p = 0 := by omega
                                    have hwm : IntKind.i64.wrap (z * u) = z * u := wrapP _ (by omega)
                                    have htm : (z * u).tmod p = z * u % p := Int.tmod_eq_emod_of_nonneg m1
                                    have hws : IntKind.i64.wrap (x - z * u % p) = x - z * u % p := wrapP _ (by omega)
                                    go_upto_region 33 with fail
                                    refine wp_region_still_tail 27 (by kernel_rfl) (by kernel_rfl) ?_
                                    simp only [List.take_succ_cons, List.take_zero, List.drop_succ_cons, List.drop_zero]
                                    change wpStill _ _ wr.drew (fun a' => wpList _ _ _ _ a' wr.drew) _ _
                                    repeat still_step
                                    still_call MD3.out
                                    repeat still_step
                                    refine wpStill_nil ?_
                                    go_wp2
                                    go_roundg gh4
                                    case rel => exact ⟨l + 1, by go_num, by have := Hl.out; omega, Lib.hid HP2.out⟩
                                    case measure => omega
                        | succ gh2 =>
                          have hjl : j < n := by omega
                          have hjl' : ((j : Int) < (n : Int)) := by omega
                          have c1 := hE.out.mx.cellNum hrow2 hjl
                          have f1 := (hE.out.mx.row _ (List.mem_of_getElem? hrow2)).free j
                          have hbl := (hE.out.mx.row _ (List.mem_of_getElem? hrow2)).lt
                          have hat : (mapFrom (· * y % p) 0 j il)[j]? = il[j]? := by have := mapFrom_at (· * y % p) 0 j il; simpa using this
                          have Hs := Lib.hid (mapFrom_step (· * y % p) il j (by have := Hil.out; omega))
                          dsimp only at c1 f1 hbl
                          rw [hat] at c1
                          have hxr : 0 ≤ il[j]?.getD 0 ∧ il[j]?.getD 0 < p := by
                            rw [List.getElem?_eq_getElem (by rw [Hil.out]; exact hjl), Option.getD_some]
                            exact HIn.out _ (List.getElem_mem _)
                          obtain ⟨m1, m2⟩ := mul_smallp hp9 hxr HY.out
                          have HP2 := Lib.hid (hE.out.setNum (j := j) hrow2 (mod_in HP.out (il[j]?.getD 0 * y)))
                          rw [setRow_twice] at HP2
                          dsimp only at HP2
                          rw [Hs.out] at HP2
                          have Hj := Lib.hid hj
                          have Hcr := Lib.hid hcr
                          clear hrow2 hat Hs hE hj hxr
                          generalize il[j]?.getD 0 = x at *
                          go_upto_region 25 with fail
                          go_region
                          go_wp2
                          go_roundg gh2
                          case rel => exact ⟨j + 1, by go_num, by have := Hj.out; omega, HP2⟩
                          case measure => omega
    | succ gh =>
      have hlt : k < M.length := by omega
      have hlt' : (k : Int) < (M.length : Int) := by omega
      obtain ⟨v1, hv1, hs1⟩ := HVR.out k _ (List.getElem?_eq_getElem hlt)
      obtain ⟨b1, off1, rfl, hbb1, hcell1⟩ := hvs.at_ (k := k) (by rw [hvl]; omega)
      have hck1 : Hid (∀ W, Below w.heap.size w W → W.cell? ⟨b1, off1 + k, none⟩ = some v1) := Lib.hid (fun W hB => (hB.cell (p := ⟨b1, off1 + k, none⟩) hbb1).trans ((hcell1 k (by rw [hvl]; omega)).trans hv1))
      obtain ⟨A1, c1, rfl, ha1, ha2⟩ := hs1.form
      rw [icells_length] at ha1 ha2
      have hrl := HR.out _ (List.getElem_mem hlt)
      rw [icells_length, hrl] at hck1
      rw [hrl] at ha1 ha2
      have HS1 := Lib.hid hs1
      have Hk := Lib.hid hk
      have HTk : Hid ((modM p M).take (k + 1) = (modM p M).take k ++ [M[k].map (· % p)]) := Lib.hid (by
        rw [List.take_add_one]
        congr 1
        unfold modM
        rw [List.getElem?_map, List.getElem?_eq_getElem hlt]; rfl)
      have Hrl := Lib.hid hrl
      clear hcell1 hk hv1 hs1 hrl
      generalize M[k] = L at *
      obtain ⟨A6, k6, hu6, hk61, hk62⟩ := oForm hT.out.own
      have hlk : ((modM p M).take k).length = k := by rw [List.length_take, HML.out]; omega
      rw [hlk] at hu6 hk61
      have hs2 := hW.out.size
      have HLK := Lib.hid hlk
      clear hlk
      subst hu6
      have hck := hck1.out _ hW.out
      go_wp2_with fail
      obtain ⟨wb, rfl⟩ : ∃ wb, wb = wr := ⟨_, rfl⟩
      clear hck
      go_loopg [8, 9] n (fun gh2 rv ix wx => ∃ j : Nat, ix = .int .i64 j ∧ j + gh2 = n ∧ Hid (wx.ownsRow wb.heap.size 3 1 rv j (icells ((L.map (· % p)).take j))) ∧ Hid (Below wb.heap.size wb wx))
      case atStart => exact ⟨0, rfl, by omega, Lib.hid (by rw [List.take_zero]; exact World.ownsRow_nil _ _ _ _), Lib.hid (Below.refl _ _)⟩
      case round =>
        obtain ⟨j, rfl, hj, hO, hB⟩ := hrel
        have hWx : Hid (Below w.heap.size w wr) := Lib.hid (hW.out.trans (hB.out.mono hs2))
        have hck := hck1.out _ hWx.out
        obtain ⟨A8, k8, rfl, hk81, hk82⟩ := oForm hO.out
        have hbl := hB.out.size
        cases gk with
        | zero =>
          have hin2 : ¬ ((j : Int) < (n : Int)) := by omega
          have hjn : j = n := by omega
          subst hjn
          have HT2 := Lib.hid (hT.out.below hB.out)
          have hHk := Hk.out
          clear hj
          go_wp2_with (at_builtin; (refine wpList_append_own _ rfl _ _ 57 rfl w.heap.size 50 s0 (.slice none 0 0) 1 24 Tryz.underlying57 hs0 hsz0 hsz1 hsz2 rfl (by decide) _ k us rfl (by have := HT2.out.own; rw [HLK.out] at this; exact this.alloc _) ⟨wr.heap.size, 0, none⟩ 1 1 [.slice A8 j k8] rfl rfl (cell_one_new _ _ _) (fun x hx => by simp at hx; subst hx; rfl) (by unfold maxLen; omega) (by omega) (by simp; omega) ?_; intro v7 w7 hown7 hgrow7 _))
          have hal : Below wr.heap.size wr (wr.alloc (.cells #[.slice A8 j k8] 50)) := (Below.refl _ _).alloc (Nat.le_refl _) _
          have HT7 := Lib.hid ((HT2.out.below hal).snoc (w0 := wb) (u := .slice A8 j k8) (L := L.map (· % p)) hgrow7 (by rw [HLK.out]; exact hown7) (oBelow (by have := hO.out; rw [List.take_of_length_le (by rw [List.length_map, Hrl.out]; omega)] at this; exact this) hal) hT.out hs2)
          have HW7 : Hid (Below w.heap.size w w7) := Lib.hid (Below.grown (hWx.out.alloc (by omega) _) hgrow7 (by simp; omega) (fun j hj => (HT2.out.own.lt j hj).1))
          go_roundg gh
          case rel => exact ⟨k + 1, us ++ [.slice A8 j k8], by go_num, by omega, Lib.hid (by rw [HTk.out]; exact HT7.out), HW7⟩
          case measure => omega
        | succ gh2 =>
          have hjl : j < n := by omega
          have hjl' : (j : Int) < (n : Int) := by omega
          obtain ⟨b2, off2, rfl, hbb2, hcell2⟩ := HS1.out.at_ (k := j) (by rw [icells_length, Hrl.out]; omega)
          have hx := (hWx.out.cell (p := ⟨b2, off2 + j, none⟩) hbb2).trans ((hcell2 j (by rw [icells_length, Hrl.out]; omega)).trans (icells_at L j (by rw [Hrl.out]; omega)))
          have Hs : Hid (icells ((L.map (· % p)).take (j + 1)) = icells ((L.map (· % p)).take j) ++ [.int .i64 (L[j]?.getD 0 % p)]) := Lib.hid (by
            rw [List.take_add_one, List.getElem?_map, List.getElem?_eq_getElem (by rw [Hrl.out]; omega)]
            simp [icells])
          have Hj := Lib.hid hj
          have hHj := Hj.out
          clear hcell2 hj
          generalize L[j]?.getD 0 = x at *
          go_wp2_with (first
            | (go_at_call 134; refine (MD.out _ _).mono ?_; rintro e w' ⟨rfl, rfl⟩)
            | (at_builtin; (refine wpList_append_own _ rfl _ _ 50 rfl wb.heap.size 3 i0 (.int .i64 0) 1 8 Tryz.underlying50 hi0 hz0 hz1 hz2 rfl (by decide) _ j _ rfl (hO.out.alloc _) ⟨wr.heap.size, 0, none⟩ 1 1 [.int .i64 (x % p)] rfl rfl (cell_one_new _ _ _) (fun x hx => by simp at hx; subst hx; rfl) (by unfold maxLen; omega) (by omega) (by simp; omega) ?_; intro v7 w7 hown7 hgrow7 _)))
          have HO7 : Hid (w7.ownsRow wb.heap.size 3 1 v7 (j + 1) (icells ((L.map (· % p)).take (j + 1)))) := Lib.hid (by rw [Hs.out]; exact hown7)
          have HB7 : Hid (Below wb.heap.size wb w7) := Lib.hid (Below.grown (hB.out.alloc (by omega) _) hgrow7 (by simp; omega) (fun j hj => (hO.out.lt j hj).1))
          go_roundg gh2
          case rel => exact ⟨j + 1, by go_num, by omega, HO7, HB7⟩
          case measure => omega
end Go.Proofs.YtneafcdfnhnpnaaGreatDoor
