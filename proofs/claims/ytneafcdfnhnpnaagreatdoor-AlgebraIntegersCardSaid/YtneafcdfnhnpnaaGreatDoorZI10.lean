/- The law AlgebraIntegers, case by case. -/
import Derived.Test.YtneafcdfnhnpnaaGreatDoorZI08
import Derived.Test.YtneafcdfnhnpnaaGreatDoorZI09
import Derived.Test.YtneafcdfnhnpnaaGreatDoorZ20
import Derived.OpenShut
namespace Go.Proofs.YtneafcdfnhnpnaaGreatDoor
open Go.RowKit Go.Lib


set_option maxRecDepth 100000 in
set_option maxHeartbeats 8000000 in
theorem ai_0Dno (s : ByteArray) (a n : Int) (w : World) (H : AiH s a n w) (haf : -999999999 ≤ a ∧ a ≤ 999999999) (hc : (1 ≤ n ∧ n ≤ 100000) ∧ n ≠ 1) (hco : Int.gcd a n ≠ 1) :
    aiGoal s a n w := by
  obtain ⟨hs, ha, hn, hG⟩ := H
  unfold aiGoal
  have HG := Lib.hid hG
  have HB := Lib.hid (Below.refl w.heap.size w)
  have HS1 : Hid (s.size ≤ 9223372036854775807) := Lib.hid (by omega)
  have HS2 : Hid (s.size ≤ 4611686018427387904) := Lib.hid (by omega)
  have hs40 : decide ((40 : Int) < (s.size : Int)) = false := decide_eq_false (by omega)
  have HGP := Lib.hid (gcd_in (a := a) (n := n) (by unfold far; omega))
  have HIP := Lib.hid (inv_no (a := a) (n := n) (by unfold far; omega) hco)
  have HFA := Lib.hid (far_f (a := a) (by omega))
  have HFN := Lib.hid (far_f (a := n) (by omega))
  have n0 : n ≠ 0 := by omega
  have N0 : (n == 0) = false := by simpa using n0
  have N1 : (n != 0) = true := by simpa using n0
  obtain ⟨hlt, hll, hlz⟩ := of_small (a := a) n0 ha hn
  have OF := Lib.hid (of_some ha hn n0 hlt)
  have RO := Lib.hid (fun w => OfA_c a n w n0 ha hn)
  have NK := Lib.hid (fun w => numberOk_c (rtext ((a : Rat) / (n : Rat))) w hll hlz)
  generalize rtext ((a : Rat) / (n : Rat)) = tx at *
  clear hlt hll hlz n0
  have RG := Lib.hid (fun w => refGcd_c a n w (by omega) (by omega))
  have RI := Lib.hid (fun w => refInverse_c a n w (by omega) (by omega))
  have hn1 : decide (n < 1) = false := decide_eq_false (by omega)
  have n5 : decide ((100000 : Int) < n) = false := decide_eq_false (by omega)
  have IP := Lib.hid (pr_in (n := n) (by omega))
  have RP := Lib.hid (rp_in (n := n) (by omega))
  have nz : decide (n < 0) = false := decide_eq_false (by omega)
  have HC := Lib.hid hc
  have HCO := Lib.hid hco
  clear hs hG ha hn hc haf hco
  go_enter Tryz.func4, Tryz.ntmps4
  go_wp2_with fail
  refine (awake_c _ (HG.out.below HB.out)).mono ?_
  rintro e w1 ⟨rfl, hB⟩
  replace HB := bt9 HB.out hB
  clear hB
  go_wp2_with fail
  refine (IsName_c s _ HS1.out).mono ?_
  rintro e w2 ⟨b1, rfl, hb1, hB⟩
  replace HB := bt9 HB.out hB
  clear hB
  go_wp2_with fail
  refine (refIsName_c s _ HS2.out).mono ?_
  rintro e w3 ⟨b2, rfl, hb2, hB⟩
  replace HB := bt9 HB.out hB
  clear hB
  obtain rfl : b2 = b1 := by rw [Bool.eq_iff_iff, hb1, hb2]
  clear hb1 hb2
  go_wp2_with fail
  refine (OF.out _ (HG.out.below HB.out)).mono ?_
  rintro e w4 ⟨rfl, hB⟩
  replace HB := bt9 HB.out hB
  clear hB
  go_wp2_with fail
  refine (RO.out _).mono ?_
  rintro e w5 ⟨rfl, hB⟩
  replace HB := bt9 HB.out hB
  clear hB
  go_wp2_with fail
  refine (NK.out _).mono ?_
  rintro e w6 ⟨rfl, rfl⟩
  go_wp2_with fail
  refine (HGP.out _).mono ?_
  rintro e w7 ⟨rfl, hB⟩
  replace HB := bt9 HB.out hB
  clear hB
  go_wp2_with fail
  refine (HFA.out _).mono ?_
  rintro e w8 ⟨rfl, rfl⟩
  go_wp2_with fail
  refine (HFN.out _).mono ?_
  rintro e w9 ⟨rfl, rfl⟩
  go_wp2_with fail
  refine (RG.out _).mono ?_
  rintro e w10 ⟨rfl, hB⟩
  replace HB := bt9 HB.out hB
  clear hB
  go_wp2_with fail
  refine (integerOk_c _ _).mono ?_
  rintro e w11 ⟨rfl, rfl⟩
  go_wp2_with fail
  refine (HIP.out _).mono ?_
  rintro e w12 ⟨rfl, hB⟩
  replace HB := bt9 HB.out hB
  clear hB
  go_wp2_with fail
  refine (HFA.out _).mono ?_
  rintro e w13 ⟨rfl, rfl⟩
  go_wp2_with fail
  refine (HFN.out _).mono ?_
  rintro e w14 ⟨rfl, rfl⟩
  go_wp2_with fail
  refine (RI.out _).mono ?_
  rintro e w15 ⟨⟨he1, _⟩ | ⟨_, hne, _⟩ | ⟨-, -, xj, rfl⟩, hB⟩
  case inl => exact absurd he1 HC.out.2
  case inr.inl => exact absurd hne HCO.out
  replace HB := bt9 HB.out hB
  clear hB
  go_wp2_with fail
  refine (when_c true 7 _).mono ?_
  rintro e w16 ⟨rfl, rfl⟩
  rw [if_pos rfl]
  go_wp2_with fail
  refine (integerBad_c 7 _ _ (by decide)).mono ?_
  rintro e w17 ⟨rfl, rfl⟩
  go_wp2_with fail
  refine (IP.out _).mono ?_
  rintro e w18 ⟨⟨p1, rfl, hp1⟩, rfl⟩
  go_wp2_with fail
  refine (HFN.out _).mono ?_
  rintro e w19 ⟨rfl, rfl⟩
  go_wp2_with fail
  refine (RP.out _).mono ?_
  rintro e w20 ⟨p2, rfl, hp2, rfl⟩
  obtain rfl : p2 = p1 := by rw [Bool.eq_iff_iff, hp1, hp2]
  clear hp1 hp2
  go_wp2
  go_ret
  exact ⟨by simp, HB.out⟩
set_option maxRecDepth 100000 in
set_option maxHeartbeats 8000000 in
theorem ai_0Done (s : ByteArray) (a n : Int) (w : World) (H : AiH s a n w) (haf : -999999999 ≤ a ∧ a ≤ 999999999) (hc : n = 1) (hco : Int.gcd a n = 1) :
    aiGoal s a n w := by
  obtain ⟨hs, ha, hn, hG⟩ := H
  unfold aiGoal
  have HG := Lib.hid hG
  have HB := Lib.hid (Below.refl w.heap.size w)
  have HS1 : Hid (s.size ≤ 9223372036854775807) := Lib.hid (by omega)
  have HS2 : Hid (s.size ≤ 4611686018427387904) := Lib.hid (by omega)
  have hs40 : decide ((40 : Int) < (s.size : Int)) = false := decide_eq_false (by omega)
  have HGP := Lib.hid (gcd_in (a := a) (n := n) (by unfold far; omega))
  have HIP := Lib.hid (inv_in (a := a) (n := n) (by unfold far; omega) hco)
  have HFA := Lib.hid (far_f (a := a) (by omega))
  have HFN := Lib.hid (far_f (a := n) (by omega))
  have n0 : n ≠ 0 := by omega
  have N0 : (n == 0) = false := by simpa using n0
  have N1 : (n != 0) = true := by simpa using n0
  obtain ⟨hlt, hll, hlz⟩ := of_small (a := a) n0 ha hn
  have OF := Lib.hid (of_some ha hn n0 hlt)
  have RO := Lib.hid (fun w => OfA_c a n w n0 ha hn)
  have NK := Lib.hid (fun w => numberOk_c (rtext ((a : Rat) / (n : Rat))) w hll hlz)
  generalize rtext ((a : Rat) / (n : Rat)) = tx at *
  clear hlt hll hlz n0
  have RG := Lib.hid (fun w => refGcd_c a n w (by omega) (by omega))
  have RI := Lib.hid (fun w => refInverse_c a n w (by omega) (by omega))
  have hn1 : decide (n < 1) = false := decide_eq_false (by omega)
  have n5 : decide ((100000 : Int) < n) = false := decide_eq_false (by omega)
  have IP := Lib.hid (pr_in (n := n) (by omega))
  have RP := Lib.hid (rp_in (n := n) (by omega))
  have nz : decide (n < 0) = false := decide_eq_false (by omega)
  have HC := Lib.hid hc
  have HCO := Lib.hid hco
  clear hs hG ha hn hc haf hco
  go_enter Tryz.func4, Tryz.ntmps4
  go_wp2_with fail
  refine (awake_c _ (HG.out.below HB.out)).mono ?_
  rintro e w1 ⟨rfl, hB⟩
  replace HB := bt9 HB.out hB
  clear hB
  go_wp2_with fail
  refine (IsName_c s _ HS1.out).mono ?_
  rintro e w2 ⟨b1, rfl, hb1, hB⟩
  replace HB := bt9 HB.out hB
  clear hB
  go_wp2_with fail
  refine (refIsName_c s _ HS2.out).mono ?_
  rintro e w3 ⟨b2, rfl, hb2, hB⟩
  replace HB := bt9 HB.out hB
  clear hB
  obtain rfl : b2 = b1 := by rw [Bool.eq_iff_iff, hb1, hb2]
  clear hb1 hb2
  go_wp2_with fail
  refine (OF.out _ (HG.out.below HB.out)).mono ?_
  rintro e w4 ⟨rfl, hB⟩
  replace HB := bt9 HB.out hB
  clear hB
  go_wp2_with fail
  refine (RO.out _).mono ?_
  rintro e w5 ⟨rfl, hB⟩
  replace HB := bt9 HB.out hB
  clear hB
  go_wp2_with fail
  refine (NK.out _).mono ?_
  rintro e w6 ⟨rfl, rfl⟩
  go_wp2_with fail
  refine (HGP.out _).mono ?_
  rintro e w7 ⟨rfl, hB⟩
  replace HB := bt9 HB.out hB
  clear hB
  go_wp2_with fail
  refine (HFA.out _).mono ?_
  rintro e w8 ⟨rfl, rfl⟩
  go_wp2_with fail
  refine (HFN.out _).mono ?_
  rintro e w9 ⟨rfl, rfl⟩
  go_wp2_with fail
  refine (RG.out _).mono ?_
  rintro e w10 ⟨rfl, hB⟩
  replace HB := bt9 HB.out hB
  clear hB
  go_wp2_with fail
  refine (integerOk_c _ _).mono ?_
  rintro e w11 ⟨rfl, rfl⟩
  go_wp2_with fail
  refine (HIP.out _).mono ?_
  rintro e w12 ⟨⟨xi, rfl, hx0, hx1, hx2⟩, hB⟩
  replace HB := bt9 HB.out hB
  clear hB
  go_wp2_with fail
  refine (HFA.out _).mono ?_
  rintro e w13 ⟨rfl, rfl⟩
  go_wp2_with fail
  refine (HFN.out _).mono ?_
  rintro e w14 ⟨rfl, rfl⟩
  go_wp2_with fail
  refine (RI.out _).mono ?_
  rintro e w15 ⟨⟨-, rfl⟩ | ⟨hne, _⟩ | ⟨hne, _⟩, hB⟩
  case inr.inl => exact absurd HC.out hne
  case inr.inr => exact absurd HC.out hne
  replace HB := bt9 HB.out hB
  clear hB
  obtain rfl : xi = 0 := by have := HC.out; omega
  clear hx0 hx1 hx2
  go_wp2_with fail
  refine (when_c false 7 _).mono ?_
  rintro e w16 ⟨rfl, rfl⟩
  rw [if_neg (by decide)]
  go_wp2_with fail
  refine (integerOk_c _ _).mono ?_
  rintro e w17 ⟨rfl, rfl⟩
  go_wp2_with fail
  refine (IP.out _).mono ?_
  rintro e w18 ⟨⟨p1, rfl, hp1⟩, rfl⟩
  go_wp2_with fail
  refine (HFN.out _).mono ?_
  rintro e w19 ⟨rfl, rfl⟩
  go_wp2_with fail
  refine (RP.out _).mono ?_
  rintro e w20 ⟨p2, rfl, hp2, rfl⟩
  obtain rfl : p2 = p1 := by rw [Bool.eq_iff_iff, hp1, hp2]
  clear hp1 hp2
  go_wp2
  go_ret
  exact ⟨by simp, HB.out⟩
set_option maxRecDepth 100000 in
set_option maxHeartbeats 8000000 in
theorem ai_0Eco (s : ByteArray) (a n : Int) (w : World) (H : AiH s a n w) (haf : -999999999 ≤ a ∧ a ≤ 999999999) (hc : (100000 < n ∧ n ≤ 999999999) ∧ n ≠ 1) (hco : Int.gcd a n = 1) :
    aiGoal s a n w := by
  obtain ⟨hs, ha, hn, hG⟩ := H
  unfold aiGoal
  have HG := Lib.hid hG
  have HB := Lib.hid (Below.refl w.heap.size w)
  have HS1 : Hid (s.size ≤ 9223372036854775807) := Lib.hid (by omega)
  have HS2 : Hid (s.size ≤ 4611686018427387904) := Lib.hid (by omega)
  have hs40 : decide ((40 : Int) < (s.size : Int)) = false := decide_eq_false (by omega)
  have HGP := Lib.hid (gcd_in (a := a) (n := n) (by unfold far; omega))
  have HIP := Lib.hid (inv_in (a := a) (n := n) (by unfold far; omega) hco)
  have HFA := Lib.hid (far_f (a := a) (by omega))
  have HFN := Lib.hid (far_f (a := n) (by omega))
  have n0 : n ≠ 0 := by omega
  have N0 : (n == 0) = false := by simpa using n0
  have N1 : (n != 0) = true := by simpa using n0
  obtain ⟨hlt, hll, hlz⟩ := of_small (a := a) n0 ha hn
  have OF := Lib.hid (of_some ha hn n0 hlt)
  have RO := Lib.hid (fun w => OfA_c a n w n0 ha hn)
  have NK := Lib.hid (fun w => numberOk_c (rtext ((a : Rat) / (n : Rat))) w hll hlz)
  generalize rtext ((a : Rat) / (n : Rat)) = tx at *
  clear hlt hll hlz n0
  have RG := Lib.hid (fun w => refGcd_c a n w (by omega) (by omega))
  have RI := Lib.hid (fun w => refInverse_c a n w (by omega) (by omega))
  have hn1 : decide (n < 1) = false := decide_eq_false (by omega)
  have n5 : (100000 : Int) < n := by omega
  have HC := Lib.hid hc
  have HCO := Lib.hid hco
  clear hs hG ha hn hc haf hco
  go_enter Tryz.func4, Tryz.ntmps4
  go_wp2_with fail
  refine (awake_c _ (HG.out.below HB.out)).mono ?_
  rintro e w1 ⟨rfl, hB⟩
  replace HB := bt9 HB.out hB
  clear hB
  go_wp2_with fail
  refine (IsName_c s _ HS1.out).mono ?_
  rintro e w2 ⟨b1, rfl, hb1, hB⟩
  replace HB := bt9 HB.out hB
  clear hB
  go_wp2_with fail
  refine (refIsName_c s _ HS2.out).mono ?_
  rintro e w3 ⟨b2, rfl, hb2, hB⟩
  replace HB := bt9 HB.out hB
  clear hB
  obtain rfl : b2 = b1 := by rw [Bool.eq_iff_iff, hb1, hb2]
  clear hb1 hb2
  go_wp2_with fail
  refine (OF.out _ (HG.out.below HB.out)).mono ?_
  rintro e w4 ⟨rfl, hB⟩
  replace HB := bt9 HB.out hB
  clear hB
  go_wp2_with fail
  refine (RO.out _).mono ?_
  rintro e w5 ⟨rfl, hB⟩
  replace HB := bt9 HB.out hB
  clear hB
  go_wp2_with fail
  refine (NK.out _).mono ?_
  rintro e w6 ⟨rfl, rfl⟩
  go_wp2_with fail
  refine (HGP.out _).mono ?_
  rintro e w7 ⟨rfl, hB⟩
  replace HB := bt9 HB.out hB
  clear hB
  go_wp2_with fail
  refine (HFA.out _).mono ?_
  rintro e w8 ⟨rfl, rfl⟩
  go_wp2_with fail
  refine (HFN.out _).mono ?_
  rintro e w9 ⟨rfl, rfl⟩
  go_wp2_with fail
  refine (RG.out _).mono ?_
  rintro e w10 ⟨rfl, hB⟩
  replace HB := bt9 HB.out hB
  clear hB
  go_wp2_with fail
  refine (integerOk_c _ _).mono ?_
  rintro e w11 ⟨rfl, rfl⟩
  go_wp2_with fail
  refine (HIP.out _).mono ?_
  rintro e w12 ⟨⟨xi, rfl, hx0, hx1, hx2⟩, hB⟩
  replace HB := bt9 HB.out hB
  clear hB
  go_wp2_with fail
  refine (HFA.out _).mono ?_
  rintro e w13 ⟨rfl, rfl⟩
  go_wp2_with fail
  refine (HFN.out _).mono ?_
  rintro e w14 ⟨rfl, rfl⟩
  go_wp2_with fail
  refine (RI.out _).mono ?_
  rintro e w15 ⟨⟨he1, _⟩ | ⟨-, -, xj, rfl, hy0, hy1, hy2⟩ | ⟨_, hne, _⟩, hB⟩
  case inl => exact absurd he1 HC.out.2
  case inr.inr => exact absurd HCO.out hne
  replace HB := bt9 HB.out hB
  clear hB
  obtain rfl : xj = xi := inv_unique ⟨hy0, hy1⟩ ⟨hx0, hx1⟩ hy2 hx2
  clear hx0 hx1 hx2 hy0 hy1 hy2
  go_wp2_with fail
  refine (when_c false 7 _).mono ?_
  rintro e w16 ⟨rfl, rfl⟩
  rw [if_neg (by decide)]
  go_wp2_with fail
  refine (integerOk_c _ _).mono ?_
  rintro e w17 ⟨rfl, rfl⟩
  go_wp2_with fail
  refine (HFN.out _).mono ?_
  rintro e w18 ⟨rfl, rfl⟩
  go_wp2
  go_ret
  exact ⟨rfl, HB.out⟩
set_option maxRecDepth 100000 in
set_option maxHeartbeats 8000000 in
theorem ai_0Eno (s : ByteArray) (a n : Int) (w : World) (H : AiH s a n w) (haf : -999999999 ≤ a ∧ a ≤ 999999999) (hc : (100000 < n ∧ n ≤ 999999999) ∧ n ≠ 1) (hco : Int.gcd a n ≠ 1) :
    aiGoal s a n w := by
  obtain ⟨hs, ha, hn, hG⟩ := H
  unfold aiGoal
  have HG := Lib.hid hG
  have HB := Lib.hid (Below.refl w.heap.size w)
  have HS1 : Hid (s.size ≤ 9223372036854775807) := Lib.hid (by omega)
  have HS2 : Hid (s.size ≤ 4611686018427387904) := Lib.hid (by omega)
  have hs40 : decide ((40 : Int) < (s.size : Int)) = false := decide_eq_false (by omega)
  have HGP := Lib.hid (gcd_in (a := a) (n := n) (by unfold far; omega))
  have HIP := Lib.hid (inv_no (a := a) (n := n) (by unfold far; omega) hco)
  have HFA := Lib.hid (far_f (a := a) (by omega))
  have HFN := Lib.hid (far_f (a := n) (by omega))
  have n0 : n ≠ 0 := by omega
  have N0 : (n == 0) = false := by simpa using n0
  have N1 : (n != 0) = true := by simpa using n0
  obtain ⟨hlt, hll, hlz⟩ := of_small (a := a) n0 ha hn
  have OF := Lib.hid (of_some ha hn n0 hlt)
  have RO := Lib.hid (fun w => OfA_c a n w n0 ha hn)
  have NK := Lib.hid (fun w => numberOk_c (rtext ((a : Rat) / (n : Rat))) w hll hlz)
  generalize rtext ((a : Rat) / (n : Rat)) = tx at *
  clear hlt hll hlz n0
  have RG := Lib.hid (fun w => refGcd_c a n w (by omega) (by omega))
  have RI := Lib.hid (fun w => refInverse_c a n w (by omega) (by omega))
  have hn1 : decide (n < 1) = false := decide_eq_false (by omega)
  have n5 : (100000 : Int) < n := by omega
  have HC := Lib.hid hc
  have HCO := Lib.hid hco
  clear hs hG ha hn hc haf hco
  go_enter Tryz.func4, Tryz.ntmps4
  go_wp2_with fail
  refine (awake_c _ (HG.out.below HB.out)).mono ?_
  rintro e w1 ⟨rfl, hB⟩
  replace HB := bt9 HB.out hB
  clear hB
  go_wp2_with fail
  refine (IsName_c s _ HS1.out).mono ?_
  rintro e w2 ⟨b1, rfl, hb1, hB⟩
  replace HB := bt9 HB.out hB
  clear hB
  go_wp2_with fail
  refine (refIsName_c s _ HS2.out).mono ?_
  rintro e w3 ⟨b2, rfl, hb2, hB⟩
  replace HB := bt9 HB.out hB
  clear hB
  obtain rfl : b2 = b1 := by rw [Bool.eq_iff_iff, hb1, hb2]
  clear hb1 hb2
  go_wp2_with fail
  refine (OF.out _ (HG.out.below HB.out)).mono ?_
  rintro e w4 ⟨rfl, hB⟩
  replace HB := bt9 HB.out hB
  clear hB
  go_wp2_with fail
  refine (RO.out _).mono ?_
  rintro e w5 ⟨rfl, hB⟩
  replace HB := bt9 HB.out hB
  clear hB
  go_wp2_with fail
  refine (NK.out _).mono ?_
  rintro e w6 ⟨rfl, rfl⟩
  go_wp2_with fail
  refine (HGP.out _).mono ?_
  rintro e w7 ⟨rfl, hB⟩
  replace HB := bt9 HB.out hB
  clear hB
  go_wp2_with fail
  refine (HFA.out _).mono ?_
  rintro e w8 ⟨rfl, rfl⟩
  go_wp2_with fail
  refine (HFN.out _).mono ?_
  rintro e w9 ⟨rfl, rfl⟩
  go_wp2_with fail
  refine (RG.out _).mono ?_
  rintro e w10 ⟨rfl, hB⟩
  replace HB := bt9 HB.out hB
  clear hB
  go_wp2_with fail
  refine (integerOk_c _ _).mono ?_
  rintro e w11 ⟨rfl, rfl⟩
  go_wp2_with fail
  refine (HIP.out _).mono ?_
  rintro e w12 ⟨rfl, hB⟩
  replace HB := bt9 HB.out hB
  clear hB
  go_wp2_with fail
  refine (HFA.out _).mono ?_
  rintro e w13 ⟨rfl, rfl⟩
  go_wp2_with fail
  refine (HFN.out _).mono ?_
  rintro e w14 ⟨rfl, rfl⟩
  go_wp2_with fail
  refine (RI.out _).mono ?_
  rintro e w15 ⟨⟨he1, _⟩ | ⟨_, hne, _⟩ | ⟨-, -, xj, rfl⟩, hB⟩
  case inl => exact absurd he1 HC.out.2
  case inr.inl => exact absurd hne HCO.out
  replace HB := bt9 HB.out hB
  clear hB
  go_wp2_with fail
  refine (when_c true 7 _).mono ?_
  rintro e w16 ⟨rfl, rfl⟩
  rw [if_pos rfl]
  go_wp2_with fail
  refine (integerBad_c 7 _ _ (by decide)).mono ?_
  rintro e w17 ⟨rfl, rfl⟩
  go_wp2_with fail
  refine (HFN.out _).mono ?_
  rintro e w18 ⟨rfl, rfl⟩
  go_wp2
  go_ret
  exact ⟨rfl, HB.out⟩
set_option maxRecDepth 100000 in
set_option maxHeartbeats 8000000 in
theorem ai_0F (s : ByteArray) (a n : Int) (w : World) (H : AiH s a n w) (haf : -999999999 ≤ a ∧ a ≤ 999999999) (hc : 999999999 < n) :
    aiGoal s a n w := by
  obtain ⟨hs, ha, hn, hG⟩ := H
  unfold aiGoal
  have HG := Lib.hid hG
  have HB := Lib.hid (Below.refl w.heap.size w)
  have HS1 : Hid (s.size ≤ 9223372036854775807) := Lib.hid (by omega)
  have HS2 : Hid (s.size ≤ 4611686018427387904) := Lib.hid (by omega)
  have hs40 : decide ((40 : Int) < (s.size : Int)) = false := decide_eq_false (by omega)
  have HGP := Lib.hid (gcd_far (a := a) (n := n) (by unfold far; omega))
  have HIP := Lib.hid (inv_far (a := a) (n := n) (by unfold far; omega))
  have HFA := Lib.hid (far_f (a := a) (by omega))
  have HFN := Lib.hid (far_t (a := n) (by omega))
  have n0 : n ≠ 0 := by omega
  have N0 : (n == 0) = false := by simpa using n0
  have N1 : (n != 0) = true := by simpa using n0
  obtain ⟨hlt, hll, hlz⟩ := of_small (a := a) n0 ha hn
  have OF := Lib.hid (of_some ha hn n0 hlt)
  have RO := Lib.hid (fun w => OfA_c a n w n0 ha hn)
  have NK := Lib.hid (fun w => numberOk_c (rtext ((a : Rat) / (n : Rat))) w hll hlz)
  generalize rtext ((a : Rat) / (n : Rat)) = tx at *
  clear hlt hll hlz n0
  have n5 : (100000 : Int) < n := by omega
  have IP := Lib.hid (pr_out (n := n) (by omega))
  have nz : decide (n < 0) = false := decide_eq_false (by omega)
  have HC := Lib.hid hc
  clear hs hG ha hn hc haf
  go_enter Tryz.func4, Tryz.ntmps4
  go_wp2_with fail
  refine (awake_c _ (HG.out.below HB.out)).mono ?_
  rintro e w1 ⟨rfl, hB⟩
  replace HB := bt9 HB.out hB
  clear hB
  go_wp2_with fail
  refine (IsName_c s _ HS1.out).mono ?_
  rintro e w2 ⟨b1, rfl, hb1, hB⟩
  replace HB := bt9 HB.out hB
  clear hB
  go_wp2_with fail
  refine (refIsName_c s _ HS2.out).mono ?_
  rintro e w3 ⟨b2, rfl, hb2, hB⟩
  replace HB := bt9 HB.out hB
  clear hB
  obtain rfl : b2 = b1 := by rw [Bool.eq_iff_iff, hb1, hb2]
  clear hb1 hb2
  go_wp2_with fail
  refine (OF.out _ (HG.out.below HB.out)).mono ?_
  rintro e w4 ⟨rfl, hB⟩
  replace HB := bt9 HB.out hB
  clear hB
  go_wp2_with fail
  refine (RO.out _).mono ?_
  rintro e w5 ⟨rfl, hB⟩
  replace HB := bt9 HB.out hB
  clear hB
  go_wp2_with fail
  refine (NK.out _).mono ?_
  rintro e w6 ⟨rfl, rfl⟩
  go_wp2_with fail
  refine (HGP.out _).mono ?_
  rintro e w7 ⟨rfl, hB⟩
  replace HB := bt9 HB.out hB
  clear hB
  go_wp2_with fail
  refine (HFA.out _).mono ?_
  rintro e w8 ⟨rfl, rfl⟩
  go_wp2_with fail
  refine (HFN.out _).mono ?_
  rintro e w9 ⟨rfl, rfl⟩
  go_wp2_with fail
  refine (integerBad_c 3 0 _ (by decide)).mono ?_
  rintro e w10 ⟨rfl, rfl⟩
  go_wp2_with fail
  refine (HIP.out _).mono ?_
  rintro e w11 ⟨rfl, hB⟩
  replace HB := bt9 HB.out hB
  clear hB
  go_wp2_with fail
  refine (HFA.out _).mono ?_
  rintro e w12 ⟨rfl, rfl⟩
  go_wp2_with fail
  refine (HFN.out _).mono ?_
  rintro e w13 ⟨rfl, rfl⟩
  go_wp2_with fail
  refine (integerBad_c 3 0 _ (by decide)).mono ?_
  rintro e w14 ⟨rfl, rfl⟩
  go_wp2_with fail
  refine (HFN.out _).mono ?_
  rintro e w15 ⟨rfl, rfl⟩
  go_wp2_with fail
  refine (IP.out _).mono ?_
  rintro e w16 ⟨rfl, rfl⟩
  go_wp2_with fail
  refine (HFN.out _).mono ?_
  rintro e w17 ⟨rfl, rfl⟩
  go_wp2
  go_ret
  exact ⟨by simp, HB.out⟩
end Go.Proofs.YtneafcdfnhnpnaaGreatDoor
/- The law AlgebraIntegers. -/
namespace Go.Proofs.YtneafcdfnhnpnaaGreatDoor
open Go.RowKit Go.Lib

set_option maxRecDepth 100000 in
set_option maxHeartbeats 2000000 in
theorem ai_long (s : ByteArray) (a n : Int) (w : World) (hs : ¬ s.size ≤ 40) (hs2 : s.size ≤ 9223372036854775807) (hG : Glob w) :
    Calls Tryz.prog 4 #[.string s, .int .i64 a, .int .i64 n] w fun e w' => e = .returned (.bool true) ∧ Below w.heap.size w w' := by
  have HG := Lib.hid hG
  have hI : (40 : Int) < (s.size : Int) := by omega
  have hI2 : (s.size : Int) ≤ 9223372036854775807 := by omega
  clear hs hs2 hG
  go_enter Tryz.func4, Tryz.ntmps4
  go_wp2_with fail
  refine (awake_c _ HG.out).mono ?_
  rintro e w1 ⟨rfl, hB⟩
  have HB := Lib.hid hB
  clear hB
  go_wp2_with fail
  refine (awake_c _ (HG.out.below HB.out)).mono ?_
  rintro e w2 ⟨rfl, hB⟩
  have HB2 := Lib.hid (HB.out.trans (hB.mono HB.out.size))
  clear hB
  go_wp2
  go_ret
  exact ⟨rfl, HB2.out⟩
theorem AlgebraIntegers_c (s : ByteArray) (a n : Int) (w : World) (ha : -9223372036854775808 ≤ a ∧ a ≤ 9223372036854775807) (hn : -9223372036854775808 ≤ n ∧ n ≤ 9223372036854775807) (hs2 : s.size ≤ 9223372036854775807) (hG : Glob w) :
    Calls Tryz.prog 4 #[.string s, .int .i64 a, .int .i64 n] w fun e w' => e = .returned (.bool true) ∧ Below w.heap.size w w' := by
  by_cases hs : s.size ≤ 40
  · by_cases haf : a < -999999999 ∨ 999999999 < a
    · by_cases h1 : n < -999999999
      · exact ai_1A s a n w ⟨hs, ha, hn, hG⟩ haf h1
      by_cases h2 : n < 0
      · exact ai_1B s a n w ⟨hs, ha, hn, hG⟩ haf ⟨by omega, h2⟩
      by_cases h3 : n = 0
      · exact ai_1C s a n w ⟨hs, ha, hn, hG⟩ haf h3
      by_cases h4 : n ≤ 100000
      · exact ai_1D s a n w ⟨hs, ha, hn, hG⟩ haf ⟨by omega, h4⟩
      by_cases h5 : n ≤ 999999999
      · exact ai_1E s a n w ⟨hs, ha, hn, hG⟩ haf ⟨by omega, h5⟩
      · exact ai_1F s a n w ⟨hs, ha, hn, hG⟩ haf (by omega)
    · have haf : -999999999 ≤ a ∧ a ≤ 999999999 := by omega
      by_cases h1 : n < -999999999
      · exact ai_0A s a n w ⟨hs, ha, hn, hG⟩ haf h1
      by_cases h2 : n < 0
      · exact ai_0B s a n w ⟨hs, ha, hn, hG⟩ haf ⟨by omega, h2⟩
      by_cases h3 : n = 0
      · exact ai_0C s a n w ⟨hs, ha, hn, hG⟩ haf h3
      by_cases h6 : n = 1
      · exact ai_0Done s a n w ⟨hs, ha, hn, hG⟩ haf h6 (by subst h6; exact Int.gcd_one_right a)
      by_cases hco : Int.gcd a n = 1
      · by_cases h4 : n ≤ 100000
        · exact ai_0Dco s a n w ⟨hs, ha, hn, hG⟩ haf ⟨⟨by omega, h4⟩, h6⟩ hco
        by_cases h5 : n ≤ 999999999
        · exact ai_0Eco s a n w ⟨hs, ha, hn, hG⟩ haf ⟨⟨by omega, h5⟩, h6⟩ hco
        · exact ai_0F s a n w ⟨hs, ha, hn, hG⟩ haf (by omega)
      · by_cases h4 : n ≤ 100000
        · exact ai_0Dno s a n w ⟨hs, ha, hn, hG⟩ haf ⟨⟨by omega, h4⟩, h6⟩ hco
        by_cases h5 : n ≤ 999999999
        · exact ai_0Eno s a n w ⟨hs, ha, hn, hG⟩ haf ⟨⟨by omega, h5⟩, h6⟩ hco
        · exact ai_0F s a n w ⟨hs, ha, hn, hG⟩ haf (by omega)
  · exact ai_long s a n w hs hs2 hG
end Go.Proofs.YtneafcdfnhnpnaaGreatDoor
/- The statement on AlgebraIntegers: its row, from inside. -/
namespace Go.Proofs.YtneafcdfnhnpnaaGreatDoor
open Go.ChangeShapes Go.WideShapes Go.ChangeAt Go.RowKit Go.Lib
open Go.ChangeMaps (open_string)

set_option maxRecDepth 100000 in
theorem ints_lifted (os : Os) (started : os.Started) (H : Type) (enc : TypeId × Value → H) :
    ReturnsInHanded {} Tryz.checked os 4 .any (fun w args => (Rows.algebraIntegersSpec.pre enc Tryz.checked.prog Tryz.f4 [] false w args ∧ laidMetH Tryz.prog laid5 w) ∧ sizedMet enc Tryz.checked.prog Tryz.f4 (OpenSpec.ofChange Rows.algebraIntegersSpec) false w args)
      (Rows.algebraIntegersSpec.post enc Tryz.checked.prog Tryz.f4 false true false false) := by
  refine returns_shaped started (by kernel_rfl) Tryz.func4
    (ChangeSpec.witness_shaped (enc := enc) (C := Tryz.checked) (os := os) (X := fun w _ => laidMetH Tryz.prog laid5 w) false (World.doorLaid Tryz.prog 400 os) #[.string ⟨#[]⟩, .int .i64 0, .int .i64 0] 8 rfl (World.shaped_of_RefB (by kernel_rfl) (by kernel_rfl)) (by kernel_rfl) (by kernel_rfl) (by kernel_rfl) (door_met os _)) ?_
  intro W base args ds gs before hval0 hW hsz hG
  have hval : ∀ (j : Nat) t v, Tryz.f4.params[j]? = some t → args[j]? = some v → Value.okWide Tryz.prog W .any base t v := hval0
  have hW' := hW
  obtain ⟨p, q, hA0, hV, rfl, hfz, hnd⟩ := hW
  have hA : DataW.TrodAll enc Tryz.prog W 0 (fun _ => true) true Tryz.f4.params.toList args.toList ds p := hA0
  rw [Tryz.params4] at hA hval hsz
  obtain ⟨v0, v1, v2, d0, d1, d2, p0, p1, p2, rfl, rfl, rfl, h0, h1, h2⟩ := trodAll_three hA
  obtain ⟨rfl, rfl⟩ := trodVars_none hV
  have h0k := h0
  have h1k := h1
  have h2k := h2
  obtain ⟨s, rfl, rfl, rfl, ws⟩ := open_string Tryz.underlying9 (hval 0 9 v0 rfl rfl) h0
  obtain ⟨k, rfl, rfl, rfl, wk⟩ := open_int Tryz.underlying3 (hval 1 3 v1 rfl rfl) h1
  obtain ⟨l, rfl, rfl, rfl, wl⟩ := open_int Tryz.underlying3 (hval 2 3 v2 rfl rfl) h2
  clear hA0 hval0
  simp only [List.append_nil] at hW' hsz
  refine (AlgebraIntegers_c s k l W (bounds_i64 wk) (bounds_i64 wl) (by unfold maxLen at ws; exact ws) hG).mono fun e W' ⟨he, bel⟩ => ?_
  subst he
  refine ⟨_, rfl, _, _, _, [], [] ++ ([] ++ []), [], hW', ?_, ?_, ?_, bel.frame _, fun h => by cases h⟩
  · exact trodAll_mk1 (shut_bool Tryz.underlying4 true)
  · exact trodAll_mk3 (Below.trod laid_out (by kernel_rfl) (of_decide_eq_true (by kernel_rfl)) h0k bel (fun x hx => by cases hx)) (Below.trod laid_out (by kernel_rfl) (of_decide_eq_true (by kernel_rfl)) h1k bel (fun x hx => by cases hx))
      (Below.trod laid_out (by kernel_rfl) (of_decide_eq_true (by kernel_rfl)) h2k bel (fun x hx => by cases hx))
  · rfl
end Go.Proofs.YtneafcdfnhnpnaaGreatDoor
