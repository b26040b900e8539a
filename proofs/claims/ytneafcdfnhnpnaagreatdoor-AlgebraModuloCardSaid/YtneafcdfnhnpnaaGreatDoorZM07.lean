/- The law AlgebraModulo. -/
import Derived.Test.YtneafcdfnhnpnaaGreatDoorZM05
import Derived.Test.YtneafcdfnhnpnaaGreatDoorZM06
import Derived.Test.YtneafcdfnhnpnaaGreatDoorZ19
namespace Go.Proofs.YtneafcdfnhnpnaaGreatDoor
open Go.RowKit Go.Lib

section
variable {v : Value} {M : List (List Int)} {p : Int}
/-- the error of the arguments -/
def MBad (M : List (List Int)) (p bad : Int) : Prop := (matE M ≠ 0 ∧ bad = matE M) ∨ (matE M = 0 ∧ ¬ (IsPr p ∧ p ≤ 999999999) ∧ bad = 15)
theorem rk_bad {bad : Int} (hb : MBad M p bad) (w : World) (hv : TblS w v M) :
    Calls Tryz.prog 86 #[v, .int .i64 p] w fun e w' => e = .returned (.tuple #[.int .i64 0, .int .i64 bad]) ∧ Below w.heap.size w w' := by
  refine (RankModulo_c v M p w hv).mono ?_
  rintro e w' ⟨hB, ⟨h1, h2, h3, -⟩ | ⟨h1, h2, rfl⟩ | ⟨h1, rfl⟩⟩
  · rcases hb with ⟨h, -⟩ | ⟨-, h, -⟩
    · exact absurd h1 h
    · exact absurd ⟨h2, h3⟩ h
  · rcases hb with ⟨h, -⟩ | ⟨-, -, h⟩
    · exact absurd h1 h
    · exact ⟨by rw [h], hB⟩
  · rcases hb with ⟨-, h⟩ | ⟨h, -⟩
    · exact ⟨by rw [h], hB⟩
    · exact absurd h h1
theorem km_bad {bad : Int} (hb : MBad M p bad) (w : World) (hv : TblS w v M) :
    Calls Tryz.prog 87 #[v, .int .i64 p] w fun e w' => e = .returned (.tuple #[nilV, .int .i64 bad]) ∧ Below w.heap.size w w' := by
  refine (KernelModulo_c v M p w hv).mono ?_
  rintro e w' ⟨hB, ⟨h1, h2, h3, -⟩ | ⟨h1, h2, rfl⟩ | ⟨h1, rfl⟩⟩
  · rcases hb with ⟨h, -⟩ | ⟨-, h, -⟩
    · exact absurd h1 h
    · exact absurd ⟨h2, h3⟩ h
  · rcases hb with ⟨h, -⟩ | ⟨-, -, h⟩
    · exact absurd h1 h
    · exact ⟨by rw [h], hB⟩
  · rcases hb with ⟨-, h⟩ | ⟨h, -⟩
    · exact ⟨by rw [h], hB⟩
    · exact absurd h h1
def rkOk (M : List (List Int)) (p : Int) (w : World) (e : Ending) (w' : World) : Prop :=
  (∃ Q : List RowI, Q.map (·.2.2) = modM p M ∧ e = .returned (.tuple #[.int .i64 ((elGo (resF p) (wid M) Q.length 0 ⟨Q, [], [], false⟩).cols.length : Nat), .int .i64 0])) ∧ Below w.heap.size w w'
theorem rk_ok (hM : matE M = 0) (hp : IsPr p) (hp9 : p ≤ 999999999) (w : World) (hv : TblS w v M) : Calls Tryz.prog 86 #[v, .int .i64 p] w (rkOk M p w) := by
  refine (RankModulo_c v M p w hv).mono ?_
  rintro e w' ⟨hB, ⟨h1, h2, h3, Q, hQ, rfl⟩ | ⟨h1, h2, rfl⟩ | ⟨h1, rfl⟩⟩
  · exact ⟨⟨Q, hQ, rfl⟩, hB⟩
  · exact absurd ⟨hp, hp9⟩ h2
  · exact absurd hM h1
def kmOk (M : List (List Int)) (p : Int) (w : World) (e : Ending) (w' : World) : Prop :=
  (∃ (Q : List RowI) (u : Value), Q.map (·.2.2) = modM p M ∧ e = .returned (.tuple #[u, .int .i64 0]) ∧
    TblW w' u (nsBasis (resF p) 0 1 (wid M) (elGo (resF p) (wid M) Q.length 0 ⟨mapTo List.reverse Q Q.length, [], [], false⟩) (wid M))) ∧ Below w.heap.size w w'
theorem km_ok (hM : matE M = 0) (hp : IsPr p) (hp9 : p ≤ 999999999) (w : World) (hv : TblS w v M) : Calls Tryz.prog 87 #[v, .int .i64 p] w (kmOk M p w) := by
  refine (KernelModulo_c v M p w hv).mono ?_
  rintro e w' ⟨hB, ⟨h1, h2, h3, Q, u, B, rfl, hQ, hT, hl, hBe⟩ | ⟨h1, h2, rfl⟩ | ⟨h1, rfl⟩⟩
  · refine ⟨⟨Q, u, hQ, rfl, ?_⟩, hB⟩
    have := hT.tblW (by omega)
    rw [hBe] at this
    exact this
  · exact absurd ⟨hp, hp9⟩ h2
  · exact absurd hM h1
/-- what the law asks of the two null spaces -/
theorem kernels_agree (hp : PF p) (hM : matE M = 0) {Q R Ro : List RowI} {S Z : ElS Int} (h2 : Q.map (·.2.2) = modM p M) (h1 : R.map (·.2.2) = modM p M) (hS : S = elGo (resF p) (wid M) R.length 0 ⟨R, [], [], false⟩)
    (h3 : Ro.map (·.2.2) = modM p (keTo p (wid M) S (wid M))) (hZ : Z = elGo (resF p) (wid (keTo p (wid M) S (wid M))) Ro.length 0 ⟨Ro, [], [], false⟩) :
    nsBasis (resF p) 0 1 (wid M) (elGo (resF p) (wid M) Q.length 0 ⟨mapTo List.reverse Q Q.length, [], [], false⟩) (wid M) = (Z.rows.take Z.cols.length).map (·.2.2) := by
  rw [hZ]
  exact (kernel_same hp (fun r hr => ((matE_ok hM).2.2 r hr).1) h1 h2 hS h3).symm
end

open Classical in
theorem prime_bad {p : Int} (h : ¬ (IsPr p ∧ p ≤ 999999999)) (w : World) : Calls Tryz.prog 89 #[.int .i64 p] w fun e w' => e = .returned (.int .i64 15) ∧ Below w.heap.size w w' :=
  (prime_c p w).mono fun e w' k => ⟨by have := k.1; rwa [if_neg h] at this, k.2⟩
open Classical in
theorem prime_ok {p : Int} (h : IsPr p ∧ p ≤ 999999999) (w : World) : Calls Tryz.prog 89 #[.int .i64 p] w fun e w' => e = .returned (.int .i64 0) ∧ Below w.heap.size w w' :=
  (prime_c p w).mono fun e w' k => ⟨by have := k.1; rwa [if_pos h] at this, k.2⟩
theorem elGo_len {T : Type} {F : Fd T} {n : Nat} : ∀ (k fr : Nat) (S : ElS T), (elGo F n k fr S).rows.length = S.rows.length
  | 0, _, _ => rfl
  | k + 1, fr, S => by
    unfold elGo
    split
    · rfl
    · rw [elGo_len]
      show (clrTo F _ _ _ _ _).length = _
      rw [clrTo_length]
      unfold elDiv
      rw [setRow_length, elSwap_length]

set_option maxRecDepth 100000 in
set_option maxHeartbeats 8000000 in
theorem AlgebraModulo_c (v : Value) (M : List (List Int)) (p : Int) (w : World) (hv : TblS w v M) (hG : Glob w) :
    Calls Tryz.prog 10 #[v, .int .i64 p] w fun e w' => e = .returned (.bool true) ∧ Below w.heap.size w w' := by
  have AW := Lib.hid (fun (W : World) (hB : Below w.heap.size w W) => awake_c W (hG.below hB))
  have TB := Lib.hid (fun (W : World) (hB : Below w.heap.size w W) => hv.below hB)
  have SH := Lib.hid (fun (W : World) (hB : Below w.heap.size w W) => short_c v M W (hv.below hB))
  clear hv hG
  by_cases hS : ShortM M
  · rw [decide_eq_true hS] at SH
    by_cases hp5 : (100000 : Int) < p
    · by_cases hf : p < -999999999 ∨ 999999999 < p
      · have hnp : ¬ (IsPr p ∧ p ≤ 999999999) := by omega
        by_cases hM : matE M = 0
        · have hbad : MBad M p 15 := .inr ⟨hM, hnp, rfl⟩
          have RK := Lib.hid (fun (W : World) (hB : Below w.heap.size w W) => rk_bad hbad W (TB.out W hB))
          have KM := Lib.hid (fun (W : World) (hB : Below w.heap.size w W) => km_bad hbad W (TB.out W hB))
          have CI := Lib.hid (fun (W : World) (hB : Below w.heap.size w W) => (refCheckInts_c v M W (TB.out W hB)))
          rw [hM] at CI
          have PR := Lib.hid (fun (W : World) => prime_bad hnp W)
          clear hbad hS hnp hM
          go_enter Tryz.func10, Tryz.ntmps10
          go_wp2_with fail
          refine (AW.out _ (Below.refl _ _)).mono ?_
          rintro e w1 ⟨rfl, hB⟩
          have HB1 := Lib.hid hB
          clear hB
          go_wp2_with fail
          refine (SH.out _ HB1.out).mono ?_
          rintro e w2 ⟨rfl, hB⟩
          have HB2 := Lib.hid (bT HB1.out hB)
          clear hB
          go_wp2_with fail
          refine (far_t hf _).mono ?_
          rintro e w3 ⟨rfl, rfl⟩
          go_wp2_with fail
          refine (RK.out _ HB2.out).mono ?_
          rintro e w4 ⟨rfl, hB⟩
          have HB4 := Lib.hid (bT HB2.out hB)
          clear hB
          go_wp2_with fail
          refine (KM.out _ HB4.out).mono ?_
          rintro e w5 ⟨rfl, hB⟩
          have HB5 := Lib.hid (bT HB4.out hB)
          clear hB
          go_wp2_with fail
          refine (CI.out _ HB5.out).mono ?_
          rintro e w6 ⟨rfl, hB⟩
          have HB6 := Lib.hid (bT HB5.out hB)
          clear hB
          go_wp2_with fail
          refine (PR.out _).mono ?_
          rintro e w7 ⟨rfl, hB⟩
          have HB7 := Lib.hid (bT HB6.out hB)
          clear hB
          go_wp2_with fail
          refine (integerBad_c 15 0 _ (by decide)).mono ?_
          rintro e w8 ⟨rfl, rfl⟩
          go_wp2
          go_ret
          exact ⟨rfl, HB7.out⟩
        · have hbad : MBad M p (matE M) := .inl ⟨hM, rfl⟩
          have RK := Lib.hid (fun (W : World) (hB : Below w.heap.size w W) => rk_bad hbad W (TB.out W hB))
          have KM := Lib.hid (fun (W : World) (hB : Below w.heap.size w W) => km_bad hbad W (TB.out W hB))
          have CI := Lib.hid (fun (W : World) (hB : Below w.heap.size w W) => refCheckInts_c v M W (TB.out W hB))
          clear hbad hS hnp
          generalize matE M = E at *
          have hb1 : (E == 0) = false := by simpa using hM
          have hb2 : (E != 0) = true := by simpa using hM
          have hb3 : (E == E) = true := by simp
          have IB := Lib.hid (fun (W : World) => integerBad_c E 0 W hM)
          clear hM
          go_enter Tryz.func10, Tryz.ntmps10
          go_wp2_with fail
          refine (AW.out _ (Below.refl _ _)).mono ?_
          rintro e w1 ⟨rfl, hB⟩
          have HB1 := Lib.hid hB
          clear hB
          go_wp2_with fail
          refine (SH.out _ HB1.out).mono ?_
          rintro e w2 ⟨rfl, hB⟩
          have HB2 := Lib.hid (bT HB1.out hB)
          clear hB
          go_wp2_with fail
          refine (far_t hf _).mono ?_
          rintro e w3 ⟨rfl, rfl⟩
          go_wp2_with fail
          refine (RK.out _ HB2.out).mono ?_
          rintro e w4 ⟨rfl, hB⟩
          have HB4 := Lib.hid (bT HB2.out hB)
          clear hB
          go_wp2_with fail
          refine (KM.out _ HB4.out).mono ?_
          rintro e w5 ⟨rfl, hB⟩
          have HB5 := Lib.hid (bT HB4.out hB)
          clear hB
          go_wp2_with fail
          refine (CI.out _ HB5.out).mono ?_
          rintro e w6 ⟨rfl, hB⟩
          have HB6 := Lib.hid (bT HB5.out hB)
          clear hB
          go_wp2_with fail
          refine (IB.out _).mono ?_
          rintro e w7 ⟨rfl, rfl⟩
          go_wp2
          go_ret
          exact ⟨rfl, HB6.out⟩
      · clear hS
        go_enter Tryz.func10, Tryz.ntmps10
        go_wp2_with fail
        refine (AW.out _ (Below.refl _ _)).mono ?_
        rintro e w1 ⟨rfl, hB⟩
        have HB1 := Lib.hid hB
        clear hB
        go_wp2_with fail
        refine (SH.out _ HB1.out).mono ?_
        rintro e w2 ⟨rfl, hB⟩
        have HB2 := Lib.hid (bT HB1.out hB)
        clear hB
        go_wp2_with fail
        refine (far_f hf _).mono ?_
        rintro e w3 ⟨rfl, rfl⟩
        go_wp2_with fail
        refine (AW.out _ HB2.out).mono ?_
        rintro e w4 ⟨rfl, hB⟩
        have HB4 := Lib.hid (bT HB2.out hB)
        clear hB
        go_wp2
        go_ret
        exact ⟨rfl, HB4.out⟩
    · by_cases hM : matE M = 0
      · by_cases hp : IsPr p ∧ p ≤ 999999999
        · have hPF := PF.of_prime hp.1 hp.2
          have RK := Lib.hid (fun (W : World) (hB : Below w.heap.size w W) => rk_ok hM hp.1 hp.2 W (TB.out W hB))
          have KM := Lib.hid (fun (W : World) (hB : Below w.heap.size w W) => km_ok hM hp.1 hp.2 W (TB.out W hB))
          have CI := Lib.hid (fun (W : World) (hB : Below w.heap.size w W) => (refCheckInts_c v M W (TB.out W hB)))
          rw [hM] at CI
          have PR := Lib.hid (fun (W : World) => prime_ok hp W)
          have hMO := matE_ok hM
          have PV := Lib.hid (fun (W : World) (hB : Below w.heap.size w W) => refPivots_c v M p W (TB.out W hB).wide hMO.1 hMO.2.1 (fun r hr => (hMO.2.2 r hr).1) hPF hp.2)
          have RM := Lib.hid (fun (W : World) (hB : Below w.heap.size w W) => refKernelM_c v M p W (TB.out W hB).wide hMO.1 hMO.2.1 (fun r hr => (hMO.2.2 r hr).1) hPF hp.2)
          have KA := Lib.hid (fun (Q R Ro : List RowI) (S Z : ElS Int) h1 h2 h3 h4 h5 => kernels_agree (Q := Q) (R := R) (Ro := Ro) (S := S) (Z := Z) hPF hM h1 h2 h3 h4 h5)
          clear hPF hMO hM hp hS
          go_enter Tryz.func10, Tryz.ntmps10
          go_wp2_with fail
          refine (AW.out _ (Below.refl _ _)).mono ?_
          rintro e w1 ⟨rfl, hB⟩
          have HB1 := Lib.hid hB
          clear hB
          go_wp2_with fail
          refine (SH.out _ HB1.out).mono ?_
          rintro e w2 ⟨rfl, hB⟩
          have HB2 := Lib.hid (bT HB1.out hB)
          clear hB
          go_wp2_with fail
          refine (RK.out _ HB2.out).mono ?_
          rintro e w4 ⟨⟨Q, hQ, rfl⟩, hB⟩
          have HB4 := Lib.hid (bT HB2.out hB)
          have HQ := Lib.hid hQ
          clear hB hQ
          generalize hre : (elGo (resF p) (wid M) Q.length 0 ⟨Q, [], [], false⟩).cols.length = r at *
          have HRE := Lib.hid hre
          clear hre
          go_wp2_with fail
          refine (KM.out _ HB4.out).mono ?_
          rintro e w5 ⟨⟨Q2, u, hQ2, rfl, hTu⟩, hB⟩
          have HB5 := Lib.hid (bT HB4.out hB)
          have HQ2 := Lib.hid hQ2
          have HTu := Lib.hid hTu
          clear hB hQ2 hTu
          go_wp2_with fail
          refine (CI.out _ HB5.out).mono ?_
          rintro e w6 ⟨rfl, hB6⟩
          have HB6 := Lib.hid (bT HB5.out hB6)
          go_wp2_with fail
          refine (PR.out _).mono ?_
          rintro e w7 ⟨rfl, hB7⟩
          have HB7 := Lib.hid (bT HB6.out hB7)
          go_wp2_with fail
          refine (PV.out _ HB7.out).mono ?_
          rintro e w8 ⟨hB8, R, S, vE, vC, hRv, hS, rfl, hTE, -, hq⟩
          have HB8 := Lib.hid (bT HB7.out hB8)
          have HT8 := Lib.hid (((HTu.out.below hB6).below hB7).below hB8)
          obtain ⟨us, hus, hul, -⟩ := hTE
          obtain ⟨AE, kE, rfl, -, -⟩ := hus.form
          have hlen : us.length = r := by
            have e1 := rank_same (p := p) (M := M) (n := wid M) hRv HQ.out
            have e2 : S.cols.length = r := by rw [hS]; exact e1.trans HRE.out
            have e3 : S.rows.length = R.length := by
              rw [hS]; exact elGo_len ..
            rw [hul, List.length_map, List.length_take, e3]
            omega
          rw [hlen]
          clear hus hul hlen hq hS hRv hB6 hB7 hB8
          go_wp2_with fail
          refine (integerOk_c _ _).mono ?_
          rintro e w9 ⟨rfl, rfl⟩
          go_wp2_with fail
          refine (RM.out _ HB8.out).mono ?_
          rintro e w10 ⟨hB10, R1, Ro, S1, Z, v1, g1, g2, g3, g4, rfl, g5⟩
          have HB10 := Lib.hid (bT HB8.out hB10)
          have ST := Lib.hid (refSameTable_c u v1 _ _ w10 (HT8.out.below hB10) g5)
          rw [KA.out Q2 R1 Ro S1 Z HQ2.out g1 g2 g3 g4, decide_eq_true rfl] at ST
          clear g1 g2 g3 g4 g5 hB10 HT8
          go_wp2_with fail
          refine ST.out.mono ?_
          rintro e w11 ⟨rfl, hB⟩
          have HB11 := Lib.hid (bT HB10.out hB)
          clear hB
          go_wp2
          go_ret
          exact ⟨rfl, HB11.out⟩
        · have hnp := hp
          clear hp
          have hbad : MBad M p 15 := .inr ⟨hM, hnp, rfl⟩
          have RK := Lib.hid (fun (W : World) (hB : Below w.heap.size w W) => rk_bad hbad W (TB.out W hB))
          have KM := Lib.hid (fun (W : World) (hB : Below w.heap.size w W) => km_bad hbad W (TB.out W hB))
          have CI := Lib.hid (fun (W : World) (hB : Below w.heap.size w W) => (refCheckInts_c v M W (TB.out W hB)))
          rw [hM] at CI
          have PR := Lib.hid (fun (W : World) => prime_bad hnp W)
          clear hbad hS hnp hM
          go_enter Tryz.func10, Tryz.ntmps10
          go_wp2_with fail
          refine (AW.out _ (Below.refl _ _)).mono ?_
          rintro e w1 ⟨rfl, hB⟩
          have HB1 := Lib.hid hB
          clear hB
          go_wp2_with fail
          refine (SH.out _ HB1.out).mono ?_
          rintro e w2 ⟨rfl, hB⟩
          have HB2 := Lib.hid (bT HB1.out hB)
          clear hB
          go_wp2_with fail
          refine (RK.out _ HB2.out).mono ?_
          rintro e w4 ⟨rfl, hB⟩
          have HB4 := Lib.hid (bT HB2.out hB)
          clear hB
          go_wp2_with fail
          refine (KM.out _ HB4.out).mono ?_
          rintro e w5 ⟨rfl, hB⟩
          have HB5 := Lib.hid (bT HB4.out hB)
          clear hB
          go_wp2_with fail
          refine (CI.out _ HB5.out).mono ?_
          rintro e w6 ⟨rfl, hB⟩
          have HB6 := Lib.hid (bT HB5.out hB)
          clear hB
          go_wp2_with fail
          refine (PR.out _).mono ?_
          rintro e w7 ⟨rfl, hB⟩
          have HB7 := Lib.hid (bT HB6.out hB)
          clear hB
          go_wp2_with fail
          refine (integerBad_c 15 0 _ (by decide)).mono ?_
          rintro e w8 ⟨rfl, rfl⟩
          go_wp2
          go_ret
          exact ⟨rfl, HB7.out⟩
      · have hbad : MBad M p (matE M) := .inl ⟨hM, rfl⟩
        have RK := Lib.hid (fun (W : World) (hB : Below w.heap.size w W) => rk_bad hbad W (TB.out W hB))
        have KM := Lib.hid (fun (W : World) (hB : Below w.heap.size w W) => km_bad hbad W (TB.out W hB))
        have CI := Lib.hid (fun (W : World) (hB : Below w.heap.size w W) => refCheckInts_c v M W (TB.out W hB))
        clear hbad hS
        generalize matE M = E at *
        have hb1 : (E == 0) = false := by simpa using hM
        have hb2 : (E != 0) = true := by simpa using hM
        have hb3 : (E == E) = true := by simp
        have IB := Lib.hid (fun (W : World) => integerBad_c E 0 W hM)
        clear hM
        go_enter Tryz.func10, Tryz.ntmps10
        go_wp2_with fail
        refine (AW.out _ (Below.refl _ _)).mono ?_
        rintro e w1 ⟨rfl, hB⟩
        have HB1 := Lib.hid hB
        clear hB
        go_wp2_with fail
        refine (SH.out _ HB1.out).mono ?_
        rintro e w2 ⟨rfl, hB⟩
        have HB2 := Lib.hid (bT HB1.out hB)
        clear hB
        go_wp2_with fail
        refine (RK.out _ HB2.out).mono ?_
        rintro e w4 ⟨rfl, hB⟩
        have HB4 := Lib.hid (bT HB2.out hB)
        clear hB
        go_wp2_with fail
        refine (KM.out _ HB4.out).mono ?_
        rintro e w5 ⟨rfl, hB⟩
        have HB5 := Lib.hid (bT HB4.out hB)
        clear hB
        go_wp2_with fail
        refine (CI.out _ HB5.out).mono ?_
        rintro e w6 ⟨rfl, hB⟩
        have HB6 := Lib.hid (bT HB5.out hB)
        clear hB
        go_wp2_with fail
        refine (IB.out _).mono ?_
        rintro e w7 ⟨rfl, rfl⟩
        go_wp2
        go_ret
        exact ⟨rfl, HB6.out⟩
  · rw [decide_eq_false hS] at SH
    clear hS
    go_enter Tryz.func10, Tryz.ntmps10
    go_wp2_with fail
    refine (AW.out _ (Below.refl _ _)).mono ?_
    rintro e w1 ⟨rfl, hB⟩
    have HB1 := Lib.hid hB
    clear hB
    go_wp2_with fail
    refine (SH.out _ HB1.out).mono ?_
    rintro e w2 ⟨rfl, hB⟩
    have HB2 := Lib.hid (bT HB1.out hB)
    clear hB
    go_wp2_with fail
    refine (AW.out _ HB2.out).mono ?_
    rintro e w3 ⟨rfl, hB⟩
    have HB3 := Lib.hid (bT HB2.out hB)
    clear hB
    go_wp2
    go_ret
    exact ⟨rfl, HB3.out⟩
end Go.Proofs.YtneafcdfnhnpnaaGreatDoor
