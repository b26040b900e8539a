/- The law AlgebraIntegers, case by case. -/
import Derived.Test.YtneafcdfnhnpnaaGreatDoorZI08
namespace Go.Proofs.YtneafcdfnhnpnaaGreatDoor
open Go.RowKit Go.Lib


set_option maxRecDepth 100000 in
set_option maxHeartbeats 8000000 in
theorem ai_1A (s : ByteArray) (a n : Int) (w : World) (H : AiH s a n w) (haf : a < -999999999 ∨ 999999999 < a) (hc : n < -999999999) :
    aiGoal s a n w := by
  obtain ⟨hs, ha, hn, hG⟩ := H
  unfold aiGoal
  have HG := Lib.hid hG
  have HB := Lib.hid (Below.refl w.heap.size w)
  have HS1 : Hid (s.size ≤ 9223372036854775807) := Lib.hid (by omega)
  have HS2 : Hid (s.size ≤ 4611686018427387904) := Lib.hid (by omega)
  have hs40 : decide ((40 : Int) < (s.size : Int)) = false := decide_eq_false (by omega)
  have HGP := Lib.hid (gcd_far (a := a) (n := n) (by unfold far; omega))
  have HIP := Lib.hid (inv_far (a := a) (n := n) (by unfold far; omega))
  have HFA := Lib.hid (far_t (a := a) (by omega))
  have HFN := Lib.hid (far_t (a := n) (by omega))
  have n0 : n ≠ 0 := by omega
  have N0 : (n == 0) = false := by simpa using n0
  have N1 : (n != 0) = true := by simpa using n0
  obtain ⟨hlt, hll, hlz⟩ := of_small (a := a) n0 ha hn
  have OF := Lib.hid (of_some ha hn n0 hlt)
  have RO := Lib.hid (fun w => OfA_c a n w n0 ha hn)
  have NK := Lib.hid (fun w => numberOk_c (rtext ((a : Rat) / (n : Rat))) w hll hlz)
  generalize rtext ((a : Rat) / (n : Rat)) = tx at *
  clear hlt hll hlz n0
  have n5 : decide ((100000 : Int) < n) = false := decide_eq_false (by omega)
  have IP := Lib.hid (pr_out (n := n) (by omega))
  have nz : n < 0 := by omega
  have HC := Lib.hid hc
  clear hs hG ha hn hc haf
  go_enter Tryz.func4, Tryz.ntmps4
  go_wp2_with fail
  refine (awake_c _ (HG.out.below HB.out)).mono ?_
  rintro e w1 ⟨rfl, hB⟩
  replace HB := bt9 HB.out hB
  clear hB
  go_wp2_with fail
  refine (IsName_c s _ HS1.out).mono ?_
  rintro e w2 ⟨b1, rfl, hb1, hB⟩
  replace HB := bt9 HB.out hB
  clear hB
  go_wp2_with fail
  refine (refIsName_c s _ HS2.out).mono ?_
  rintro e w3 ⟨b2, rfl, hb2, hB⟩
  replace HB := bt9 HB.out hB
  clear hB
  obtain rfl : b2 = b1 := by rw [Bool.eq_iff_iff, hb1, hb2]
  clear hb1 hb2
  go_wp2_with fail
  refine (OF.out _ (HG.out.below HB.out)).mono ?_
  rintro e w4 ⟨rfl, hB⟩
  replace HB := bt9 HB.out hB
  clear hB
  go_wp2_with fail
  refine (RO.out _).mono ?_
  rintro e w5 ⟨rfl, hB⟩
  replace HB := bt9 HB.out hB
  clear hB
  go_wp2_with fail
  refine (NK.out _).mono ?_
  rintro e w6 ⟨rfl, rfl⟩
  go_wp2_with fail
  refine (HGP.out _).mono ?_
  rintro e w7 ⟨rfl, hB⟩
  replace HB := bt9 HB.out hB
  clear hB
  go_wp2_with fail
  refine (HFA.out _).mono ?_
  rintro e w8 ⟨rfl, rfl⟩
  go_wp2_with fail
  refine (integerBad_c 3 0 _ (by decide)).mono ?_
  rintro e w9 ⟨rfl, rfl⟩
  go_wp2_with fail
  refine (HIP.out _).mono ?_
  rintro e w10 ⟨rfl, hB⟩
  replace HB := bt9 HB.out hB
  clear hB
  go_wp2_with fail
  refine (HFA.out _).mono ?_
  rintro e w11 ⟨rfl, rfl⟩
  go_wp2_with fail
  refine (integerBad_c 3 0 _ (by decide)).mono ?_
  rintro e w12 ⟨rfl, rfl⟩
  go_wp2_with fail
  refine (IP.out _).mono ?_
  rintro e w13 ⟨rfl, rfl⟩
  go_wp2
  go_ret
  exact ⟨by simp, HB.out⟩
set_option maxRecDepth 100000 in
set_option maxHeartbeats 8000000 in
theorem ai_1B (s : ByteArray) (a n : Int) (w : World) (H : AiH s a n w) (haf : a < -999999999 ∨ 999999999 < a) (hc : -999999999 ≤ n ∧ n < 0) :
    aiGoal s a n w := by
  obtain ⟨hs, ha, hn, hG⟩ := H
  unfold aiGoal
  have HG := Lib.hid hG
  have HB := Lib.hid (Below.refl w.heap.size w)
  have HS1 : Hid (s.size ≤ 9223372036854775807) := Lib.hid (by omega)
  have HS2 : Hid (s.size ≤ 4611686018427387904) := Lib.hid (by omega)
  have hs40 : decide ((40 : Int) < (s.size : Int)) = false := decide_eq_false (by omega)
  have HGP := Lib.hid (gcd_far (a := a) (n := n) (by unfold far; omega))
  have HIP := Lib.hid (inv_far (a := a) (n := n) (by unfold far; omega))
  have HFA := Lib.hid (far_t (a := a) (by omega))
  have HFN := Lib.hid (far_f (a := n) (by omega))
  have n0 : n ≠ 0 := by omega
  have N0 : (n == 0) = false := by simpa using n0
  have N1 : (n != 0) = true := by simpa using n0
  obtain ⟨hlt, hll, hlz⟩ := of_small (a := a) n0 ha hn
  have OF := Lib.hid (of_some ha hn n0 hlt)
  have RO := Lib.hid (fun w => OfA_c a n w n0 ha hn)
  have NK := Lib.hid (fun w => numberOk_c (rtext ((a : Rat) / (n : Rat))) w hll hlz)
  generalize rtext ((a : Rat) / (n : Rat)) = tx at *
  clear hlt hll hlz n0
  have n5 : decide ((100000 : Int) < n) = false := decide_eq_false (by omega)
  have IP := Lib.hid (pr_out (n := n) (by omega))
  have nz : n < 0 := by omega
  have HC := Lib.hid hc
  clear hs hG ha hn hc haf
  go_enter Tryz.func4, Tryz.ntmps4
  go_wp2_with fail
  refine (awake_c _ (HG.out.below HB.out)).mono ?_
  rintro e w1 ⟨rfl, hB⟩
  replace HB := bt9 HB.out hB
  clear hB
  go_wp2_with fail
  refine (IsName_c s _ HS1.out).mono ?_
  rintro e w2 ⟨b1, rfl, hb1, hB⟩
  replace HB := bt9 HB.out hB
  clear hB
  go_wp2_with fail
  refine (refIsName_c s _ HS2.out).mono ?_
  rintro e w3 ⟨b2, rfl, hb2, hB⟩
  replace HB := bt9 HB.out hB
  clear hB
  obtain rfl : b2 = b1 := by rw [Bool.eq_iff_iff, hb1, hb2]
  clear hb1 hb2
  go_wp2_with fail
  refine (OF.out _ (HG.out.below HB.out)).mono ?_
  rintro e w4 ⟨rfl, hB⟩
  replace HB := bt9 HB.out hB
  clear hB
  go_wp2_with fail
  refine (RO.out _).mono ?_
  rintro e w5 ⟨rfl, hB⟩
  replace HB := bt9 HB.out hB
  clear hB
  go_wp2_with fail
  refine (NK.out _).mono ?_
  rintro e w6 ⟨rfl, rfl⟩
  go_wp2_with fail
  refine (HGP.out _).mono ?_
  rintro e w7 ⟨rfl, hB⟩
  replace HB := bt9 HB.out hB
  clear hB
  go_wp2_with fail
  refine (HFA.out _).mono ?_
  rintro e w8 ⟨rfl, rfl⟩
  go_wp2_with fail
  refine (integerBad_c 3 0 _ (by decide)).mono ?_
  rintro e w9 ⟨rfl, rfl⟩
  go_wp2_with fail
  refine (HIP.out _).mono ?_
  rintro e w10 ⟨rfl, hB⟩
  replace HB := bt9 HB.out hB
  clear hB
  go_wp2_with fail
  refine (HFA.out _).mono ?_
  rintro e w11 ⟨rfl, rfl⟩
  go_wp2_with fail
  refine (integerBad_c 3 0 _ (by decide)).mono ?_
  rintro e w12 ⟨rfl, rfl⟩
  go_wp2_with fail
  refine (IP.out _).mono ?_
  rintro e w13 ⟨rfl, rfl⟩
  go_wp2
  go_ret
  exact ⟨by simp, HB.out⟩
set_option maxRecDepth 100000 in
set_option maxHeartbeats 8000000 in
theorem ai_1C (s : ByteArray) (a n : Int) (w : World) (H : AiH s a n w) (haf : a < -999999999 ∨ 999999999 < a) (hc : n = 0) :
    aiGoal s a n w := by
  obtain ⟨hs, ha, hn, hG⟩ := H
  unfold aiGoal
  have HG := Lib.hid hG
  have HB := Lib.hid (Below.refl w.heap.size w)
  have HS1 : Hid (s.size ≤ 9223372036854775807) := Lib.hid (by omega)
  have HS2 : Hid (s.size ≤ 4611686018427387904) := Lib.hid (by omega)
  have hs40 : decide ((40 : Int) < (s.size : Int)) = false := decide_eq_false (by omega)
  have HGP := Lib.hid (gcd_far (a := a) (n := n) (by unfold far; omega))
  have HIP := Lib.hid (inv_far (a := a) (n := n) (by unfold far; omega))
  have HFA := Lib.hid (far_t (a := a) (by omega))
  have HFN := Lib.hid (far_f (a := n) (by omega))
  have N0 : (n == 0) = true := by simpa using hc
  have N1 : (n != 0) = false := by simpa using hc
  have OF := Lib.hid (of_zero ha hn hc)
  have n5 : decide ((100000 : Int) < n) = false := decide_eq_false (by omega)
  have IP := Lib.hid (pr_in (n := n) (by omega))
  have RP := Lib.hid (rp_in (n := n) (by omega))
  have nz : decide (n < 0) = false := decide_eq_false (by omega)
  have HC := Lib.hid hc
  clear hs hG ha hn hc haf
  go_enter Tryz.func4, Tryz.ntmps4
  go_wp2_with fail
  refine (awake_c _ (HG.out.below HB.out)).mono ?_
  rintro e w1 ⟨rfl, hB⟩
  replace HB := bt9 HB.out hB
  clear hB
  go_wp2_with fail
  refine (IsName_c s _ HS1.out).mono ?_
  rintro e w2 ⟨b1, rfl, hb1, hB⟩
  replace HB := bt9 HB.out hB
  clear hB
  go_wp2_with fail
  refine (refIsName_c s _ HS2.out).mono ?_
  rintro e w3 ⟨b2, rfl, hb2, hB⟩
  replace HB := bt9 HB.out hB
  clear hB
  obtain rfl : b2 = b1 := by rw [Bool.eq_iff_iff, hb1, hb2]
  clear hb1 hb2
  go_wp2_with fail
  refine (OF.out _ (HG.out.below HB.out)).mono ?_
  rintro e w4 ⟨rfl, hB⟩
  replace HB := bt9 HB.out hB
  clear hB
  go_wp2_with fail
  refine (numberBad_c 6 [] _ (by decide)).mono ?_
  rintro e w5 ⟨rfl, rfl⟩
  go_wp2_with fail
  refine (HGP.out _).mono ?_
  rintro e w6 ⟨rfl, hB⟩
  replace HB := bt9 HB.out hB
  clear hB
  go_wp2_with fail
  refine (HFA.out _).mono ?_
  rintro e w7 ⟨rfl, rfl⟩
  go_wp2_with fail
  refine (integerBad_c 3 0 _ (by decide)).mono ?_
  rintro e w8 ⟨rfl, rfl⟩
  go_wp2_with fail
  refine (HIP.out _).mono ?_
  rintro e w9 ⟨rfl, hB⟩
  replace HB := bt9 HB.out hB
  clear hB
  go_wp2_with fail
  refine (HFA.out _).mono ?_
  rintro e w10 ⟨rfl, rfl⟩
  go_wp2_with fail
  refine (integerBad_c 3 0 _ (by decide)).mono ?_
  rintro e w11 ⟨rfl, rfl⟩
  go_wp2_with fail
  refine (IP.out _).mono ?_
  rintro e w12 ⟨⟨p1, rfl, hp1⟩, rfl⟩
  go_wp2_with fail
  refine (HFN.out _).mono ?_
  rintro e w13 ⟨rfl, rfl⟩
  go_wp2_with fail
  refine (RP.out _).mono ?_
  rintro e w14 ⟨p2, rfl, hp2, rfl⟩
  obtain rfl : p2 = p1 := by rw [Bool.eq_iff_iff, hp1, hp2]
  clear hp1 hp2
  go_wp2
  go_ret
  exact ⟨by simp, HB.out⟩
set_option maxRecDepth 100000 in
set_option maxHeartbeats 8000000 in
theorem ai_1D (s : ByteArray) (a n : Int) (w : World) (H : AiH s a n w) (haf : a < -999999999 ∨ 999999999 < a) (hc : 1 ≤ n ∧ n ≤ 100000) :
    aiGoal s a n w := by
  obtain ⟨hs, ha, hn, hG⟩ := H
  unfold aiGoal
  have HG := Lib.hid hG
  have HB := Lib.hid (Below.refl w.heap.size w)
  have HS1 : Hid (s.size ≤ 9223372036854775807) := Lib.hid (by omega)
  have HS2 : Hid (s.size ≤ 4611686018427387904) := Lib.hid (by omega)
  have hs40 : decide ((40 : Int) < (s.size : Int)) = false := decide_eq_false (by omega)
  have HGP := Lib.hid (gcd_far (a := a) (n := n) (by unfold far; omega))
  have HIP := Lib.hid (inv_far (a := a) (n := n) (by unfold far; omega))
  have HFA := Lib.hid (far_t (a := a) (by omega))
  have HFN := Lib.hid (far_f (a := n) (by omega))
  have n0 : n ≠ 0 := by omega
  have N0 : (n == 0) = false := by simpa using n0
  have N1 : (n != 0) = true := by simpa using n0
  obtain ⟨hlt, hll, hlz⟩ := of_small (a := a) n0 ha hn
  have OF := Lib.hid (of_some ha hn n0 hlt)
  have RO := Lib.hid (fun w => OfA_c a n w n0 ha hn)
  have NK := Lib.hid (fun w => numberOk_c (rtext ((a : Rat) / (n : Rat))) w hll hlz)
  generalize rtext ((a : Rat) / (n : Rat)) = tx at *
  clear hlt hll hlz n0
  have n5 : decide ((100000 : Int) < n) = false := decide_eq_false (by omega)
  have IP := Lib.hid (pr_in (n := n) (by omega))
  have RP := Lib.hid (rp_in (n := n) (by omega))
  have nz : decide (n < 0) = false := decide_eq_false (by omega)
  have HC := Lib.hid hc
  clear hs hG ha hn hc haf
  go_enter Tryz.func4, Tryz.ntmps4
  go_wp2_with fail
  refine (awake_c _ (HG.out.below HB.out)).mono ?_
  rintro e w1 ⟨rfl, hB⟩
  replace HB := bt9 HB.out hB
  clear hB
  go_wp2_with fail
  refine (IsName_c s _ HS1.out).mono ?_
  rintro e w2 ⟨b1, rfl, hb1, hB⟩
  replace HB := bt9 HB.out hB
  clear hB
  go_wp2_with fail
  refine (refIsName_c s _ HS2.out).mono ?_
  rintro e w3 ⟨b2, rfl, hb2, hB⟩
  replace HB := bt9 HB.out hB
  clear hB
  obtain rfl : b2 = b1 := by rw [Bool.eq_iff_iff, hb1, hb2]
  clear hb1 hb2
  go_wp2_with fail
  refine (OF.out _ (HG.out.below HB.out)).mono ?_
  rintro e w4 ⟨rfl, hB⟩
  replace HB := bt9 HB.out hB
  clear hB
  go_wp2_with fail
  refine (RO.out _).mono ?_
  rintro e w5 ⟨rfl, hB⟩
  replace HB := bt9 HB.out hB
  clear hB
  go_wp2_with fail
  refine (NK.out _).mono ?_
  rintro e w6 ⟨rfl, rfl⟩
  go_wp2_with fail
  refine (HGP.out _).mono ?_
  rintro e w7 ⟨rfl, hB⟩
  replace HB := bt9 HB.out hB
  clear hB
  go_wp2_with fail
  refine (HFA.out _).mono ?_
  rintro e w8 ⟨rfl, rfl⟩
  go_wp2_with fail
  refine (integerBad_c 3 0 _ (by decide)).mono ?_
  rintro e w9 ⟨rfl, rfl⟩
  go_wp2_with fail
  refine (HIP.out _).mono ?_
  rintro e w10 ⟨rfl, hB⟩
  replace HB := bt9 HB.out hB
  clear hB
  go_wp2_with fail
  refine (HFA.out _).mono ?_
  rintro e w11 ⟨rfl, rfl⟩
  go_wp2_with fail
  refine (integerBad_c 3 0 _ (by decide)).mono ?_
  rintro e w12 ⟨rfl, rfl⟩
  go_wp2_with fail
  refine (IP.out _).mono ?_
  rintro e w13 ⟨⟨p1, rfl, hp1⟩, rfl⟩
  go_wp2_with fail
  refine (HFN.out _).mono ?_
  rintro e w14 ⟨rfl, rfl⟩
  go_wp2_with fail
  refine (RP.out _).mono ?_
  rintro e w15 ⟨p2, rfl, hp2, rfl⟩
  obtain rfl : p2 = p1 := by rw [Bool.eq_iff_iff, hp1, hp2]
  clear hp1 hp2
  go_wp2
  go_ret
  exact ⟨by simp, HB.out⟩
set_option maxRecDepth 100000 in
set_option maxHeartbeats 8000000 in
theorem ai_1E (s : ByteArray) (a n : Int) (w : World) (H : AiH s a n w) (haf : a < -999999999 ∨ 999999999 < a) (hc : 100000 < n ∧ n ≤ 999999999) :
    aiGoal s a n w := by
  obtain ⟨hs, ha, hn, hG⟩ := H
  unfold aiGoal
  have HG := Lib.hid hG
  have HB := Lib.hid (Below.refl w.heap.size w)
  have HS1 : Hid (s.size ≤ 9223372036854775807) := Lib.hid (by omega)
  have HS2 : Hid (s.size ≤ 4611686018427387904) := Lib.hid (by omega)
  have hs40 : decide ((40 : Int) < (s.size : Int)) = false := decide_eq_false (by omega)
  have HGP := Lib.hid (gcd_far (a := a) (n := n) (by unfold far; omega))
  have HIP := Lib.hid (inv_far (a := a) (n := n) (by unfold far; omega))
  have HFA := Lib.hid (far_t (a := a) (by omega))
  have HFN := Lib.hid (far_f (a := n) (by omega))
  have n0 : n ≠ 0 := by omega
  have N0 : (n == 0) = false := by simpa using n0
  have N1 : (n != 0) = true := by simpa using n0
  obtain ⟨hlt, hll, hlz⟩ := of_small (a := a) n0 ha hn
  have OF := Lib.hid (of_some ha hn n0 hlt)
  have RO := Lib.hid (fun w => OfA_c a n w n0 ha hn)
  have NK := Lib.hid (fun w => numberOk_c (rtext ((a : Rat) / (n : Rat))) w hll hlz)
  generalize rtext ((a : Rat) / (n : Rat)) = tx at *
  clear hlt hll hlz n0
  have n5 : (100000 : Int) < n := by omega
  have HC := Lib.hid hc
  clear hs hG ha hn hc haf
  go_enter Tryz.func4, Tryz.ntmps4
  go_wp2_with fail
  refine (awake_c _ (HG.out.below HB.out)).mono ?_
  rintro e w1 ⟨rfl, hB⟩
  replace HB := bt9 HB.out hB
  clear hB
  go_wp2_with fail
  refine (IsName_c s _ HS1.out).mono ?_
  rintro e w2 ⟨b1, rfl, hb1, hB⟩
  replace HB := bt9 HB.out hB
  clear hB
  go_wp2_with fail
  refine (refIsName_c s _ HS2.out).mono ?_
  rintro e w3 ⟨b2, rfl, hb2, hB⟩
  replace HB := bt9 HB.out hB
  clear hB
  obtain rfl : b2 = b1 := by rw [Bool.eq_iff_iff, hb1, hb2]
  clear hb1 hb2
  go_wp2_with fail
  refine (OF.out _ (HG.out.below HB.out)).mono ?_
  rintro e w4 ⟨rfl, hB⟩
  replace HB := bt9 HB.out hB
  clear hB
  go_wp2_with fail
  refine (RO.out _).mono ?_
  rintro e w5 ⟨rfl, hB⟩
  replace HB := bt9 HB.out hB
  clear hB
  go_wp2_with fail
  refine (NK.out _).mono ?_
  rintro e w6 ⟨rfl, rfl⟩
  go_wp2_with fail
  refine (HGP.out _).mono ?_
  rintro e w7 ⟨rfl, hB⟩
  replace HB := bt9 HB.out hB
  clear hB
  go_wp2_with fail
  refine (HFA.out _).mono ?_
  rintro e w8 ⟨rfl, rfl⟩
  go_wp2_with fail
  refine (integerBad_c 3 0 _ (by decide)).mono ?_
  rintro e w9 ⟨rfl, rfl⟩
  go_wp2_with fail
  refine (HIP.out _).mono ?_
  rintro e w10 ⟨rfl, hB⟩
  replace HB := bt9 HB.out hB
  clear hB
  go_wp2_with fail
  refine (HFA.out _).mono ?_
  rintro e w11 ⟨rfl, rfl⟩
  go_wp2_with fail
  refine (integerBad_c 3 0 _ (by decide)).mono ?_
  rintro e w12 ⟨rfl, rfl⟩
  go_wp2_with fail
  refine (HFN.out _).mono ?_
  rintro e w13 ⟨rfl, rfl⟩
  go_wp2
  go_ret
  exact ⟨rfl, HB.out⟩
end Go.Proofs.YtneafcdfnhnpnaaGreatDoor
/- The law AlgebraIntegers, case by case. -/
namespace Go.Proofs.YtneafcdfnhnpnaaGreatDoor
open Go.RowKit Go.Lib


set_option maxRecDepth 100000 in
set_option maxHeartbeats 8000000 in
theorem ai_1F (s : ByteArray) (a n : Int) (w : World) (H : AiH s a n w) (haf : a < -999999999 ∨ 999999999 < a) (hc : 999999999 < n) :
    aiGoal s a n w := by
  obtain ⟨hs, ha, hn, hG⟩ := H
  unfold aiGoal
  have HG := Lib.hid hG
  have HB := Lib.hid (Below.refl w.heap.size w)
  have HS1 : Hid (s.size ≤ 9223372036854775807) := Lib.hid (by omega)
  have HS2 : Hid (s.size ≤ 4611686018427387904) := Lib.hid (by omega)
  have hs40 : decide ((40 : Int) < (s.size : Int)) = false := decide_eq_false (by omega)
  have HGP := Lib.hid (gcd_far (a := a) (n := n) (by unfold far; omega))
  have HIP := Lib.hid (inv_far (a := a) (n := n) (by unfold far; omega))
  have HFA := Lib.hid (far_t (a := a) (by omega))
  have HFN := Lib.hid (far_t (a := n) (by omega))
  have n0 : n ≠ 0 := by omega
  have N0 : (n == 0) = false := by simpa using n0
  have N1 : (n != 0) = true := by simpa using n0
  obtain ⟨hlt, hll, hlz⟩ := of_small (a := a) n0 ha hn
  have OF := Lib.hid (of_some ha hn n0 hlt)
  have RO := Lib.hid (fun w => OfA_c a n w n0 ha hn)
  have NK := Lib.hid (fun w => numberOk_c (rtext ((a : Rat) / (n : Rat))) w hll hlz)
  generalize rtext ((a : Rat) / (n : Rat)) = tx at *
  clear hlt hll hlz n0
  have n5 : (100000 : Int) < n := by omega
  have IP := Lib.hid (pr_out (n := n) (by omega))
  have nz : decide (n < 0) = false := decide_eq_false (by omega)
  have HC := Lib.hid hc
  clear hs hG ha hn hc haf
  go_enter Tryz.func4, Tryz.ntmps4
  go_wp2_with fail
  refine (awake_c _ (HG.out.below HB.out)).mono ?_
  rintro e w1 ⟨rfl, hB⟩
  replace HB := bt9 HB.out hB
  clear hB
  go_wp2_with fail
  refine (IsName_c s _ HS1.out).mono ?_
  rintro e w2 ⟨b1, rfl, hb1, hB⟩
  replace HB := bt9 HB.out hB
  clear hB
  go_wp2_with fail
  refine (refIsName_c s _ HS2.out).mono ?_
  rintro e w3 ⟨b2, rfl, hb2, hB⟩
  replace HB := bt9 HB.out hB
  clear hB
  obtain rfl : b2 = b1 := by rw [Bool.eq_iff_iff, hb1, hb2]
  clear hb1 hb2
  go_wp2_with fail
  refine (OF.out _ (HG.out.below HB.out)).mono ?_
  rintro e w4 ⟨rfl, hB⟩
  replace HB := bt9 HB.out hB
  clear hB
  go_wp2_with fail
  refine (RO.out _).mono ?_
  rintro e w5 ⟨rfl, hB⟩
  replace HB := bt9 HB.out hB
  clear hB
  go_wp2_with fail
  refine (NK.out _).mono ?_
  rintro e w6 ⟨rfl, rfl⟩
  go_wp2_with fail
  refine (HGP.out _).mono ?_
  rintro e w7 ⟨rfl, hB⟩
  replace HB := bt9 HB.out hB
  clear hB
  go_wp2_with fail
  refine (HFA.out _).mono ?_
  rintro e w8 ⟨rfl, rfl⟩
  go_wp2_with fail
  refine (integerBad_c 3 0 _ (by decide)).mono ?_
  rintro e w9 ⟨rfl, rfl⟩
  go_wp2_with fail
  refine (HIP.out _).mono ?_
  rintro e w10 ⟨rfl, hB⟩
  replace HB := bt9 HB.out hB
  clear hB
  go_wp2_with fail
  refine (HFA.out _).mono ?_
  rintro e w11 ⟨rfl, rfl⟩
  go_wp2_with fail
  refine (integerBad_c 3 0 _ (by decide)).mono ?_
  rintro e w12 ⟨rfl, rfl⟩
  go_wp2_with fail
  refine (HFN.out _).mono ?_
  rintro e w13 ⟨rfl, rfl⟩
  go_wp2_with fail
  refine (IP.out _).mono ?_
  rintro e w14 ⟨rfl, rfl⟩
  go_wp2_with fail
  refine (HFN.out _).mono ?_
  rintro e w15 ⟨rfl, rfl⟩
  go_wp2
  go_ret
  exact ⟨by simp, HB.out⟩
set_option maxRecDepth 100000 in
set_option maxHeartbeats 8000000 in
theorem ai_0A (s : ByteArray) (a n : Int) (w : World) (H : AiH s a n w) (haf : -999999999 ≤ a ∧ a ≤ 999999999) (hc : n < -999999999) :
    aiGoal s a n w := by
  obtain ⟨hs, ha, hn, hG⟩ := H
  unfold aiGoal
  have HG := Lib.hid hG
  have HB := Lib.hid (Below.refl w.heap.size w)
  have HS1 : Hid (s.size ≤ 9223372036854775807) := Lib.hid (by omega)
  have HS2 : Hid (s.size ≤ 4611686018427387904) := Lib.hid (by omega)
  have hs40 : decide ((40 : Int) < (s.size : Int)) = false := decide_eq_false (by omega)
  have HGP := Lib.hid (gcd_far (a := a) (n := n) (by unfold far; omega))
  have HIP := Lib.hid (inv_far (a := a) (n := n) (by unfold far; omega))
  have HFA := Lib.hid (far_f (a := a) (by omega))
  have HFN := Lib.hid (far_t (a := n) (by omega))
  have n0 : n ≠ 0 := by omega
  have N0 : (n == 0) = false := by simpa using n0
  have N1 : (n != 0) = true := by simpa using n0
  obtain ⟨hlt, hll, hlz⟩ := of_small (a := a) n0 ha hn
  have OF := Lib.hid (of_some ha hn n0 hlt)
  have RO := Lib.hid (fun w => OfA_c a n w n0 ha hn)
  have NK := Lib.hid (fun w => numberOk_c (rtext ((a : Rat) / (n : Rat))) w hll hlz)
  generalize rtext ((a : Rat) / (n : Rat)) = tx at *
  clear hlt hll hlz n0
  have n5 : decide ((100000 : Int) < n) = false := decide_eq_false (by omega)
  have IP := Lib.hid (pr_out (n := n) (by omega))
  have nz : n < 0 := by omega
  have HC := Lib.hid hc
  clear hs hG ha hn hc haf
  go_enter Tryz.func4, Tryz.ntmps4
  go_wp2_with fail
  refine (awake_c _ (HG.out.below HB.out)).mono ?_
  rintro e w1 ⟨rfl, hB⟩
  replace HB := bt9 HB.out hB
  clear hB
  go_wp2_with fail
  refine (IsName_c s _ HS1.out).mono ?_
  rintro e w2 ⟨b1, rfl, hb1, hB⟩
  replace HB := bt9 HB.out hB
  clear hB
  go_wp2_with fail
  refine (refIsName_c s _ HS2.out).mono ?_
  rintro e w3 ⟨b2, rfl, hb2, hB⟩
  replace HB := bt9 HB.out hB
  clear hB
  obtain rfl : b2 = b1 := by rw [Bool.eq_iff_iff, hb1, hb2]
  clear hb1 hb2
  go_wp2_with fail
  refine (OF.out _ (HG.out.below HB.out)).mono ?_
  rintro e w4 ⟨rfl, hB⟩
  replace HB := bt9 HB.out hB
  clear hB
  go_wp2_with fail
  refine (RO.out _).mono ?_
  rintro e w5 ⟨rfl, hB⟩
  replace HB := bt9 HB.out hB
  clear hB
  go_wp2_with fail
  refine (NK.out _).mono ?_
  rintro e w6 ⟨rfl, rfl⟩
  go_wp2_with fail
  refine (HGP.out _).mono ?_
  rintro e w7 ⟨rfl, hB⟩
  replace HB := bt9 HB.out hB
  clear hB
  go_wp2_with fail
  refine (HFA.out _).mono ?_
  rintro e w8 ⟨rfl, rfl⟩
  go_wp2_with fail
  refine (HFN.out _).mono ?_
  rintro e w9 ⟨rfl, rfl⟩
  go_wp2_with fail
  refine (integerBad_c 3 0 _ (by decide)).mono ?_
  rintro e w10 ⟨rfl, rfl⟩
  go_wp2_with fail
  refine (HIP.out _).mono ?_
  rintro e w11 ⟨rfl, hB⟩
  replace HB := bt9 HB.out hB
  clear hB
  go_wp2_with fail
  refine (HFA.out _).mono ?_
  rintro e w12 ⟨rfl, rfl⟩
  go_wp2_with fail
  refine (HFN.out _).mono ?_
  rintro e w13 ⟨rfl, rfl⟩
  go_wp2_with fail
  refine (integerBad_c 3 0 _ (by decide)).mono ?_
  rintro e w14 ⟨rfl, rfl⟩
  go_wp2_with fail
  refine (IP.out _).mono ?_
  rintro e w15 ⟨rfl, rfl⟩
  go_wp2
  go_ret
  exact ⟨by simp, HB.out⟩
set_option maxRecDepth 100000 in
set_option maxHeartbeats 8000000 in
theorem ai_0B (s : ByteArray) (a n : Int) (w : World) (H : AiH s a n w) (haf : -999999999 ≤ a ∧ a ≤ 999999999) (hc : -999999999 ≤ n ∧ n < 0) :
    aiGoal s a n w := by
  obtain ⟨hs, ha, hn, hG⟩ := H
  unfold aiGoal
  have HG := Lib.hid hG
  have HB := Lib.hid (Below.refl w.heap.size w)
  have HS1 : Hid (s.size ≤ 9223372036854775807) := Lib.hid (by omega)
  have HS2 : Hid (s.size ≤ 4611686018427387904) := Lib.hid (by omega)
  have hs40 : decide ((40 : Int) < (s.size : Int)) = false := decide_eq_false (by omega)
  have HGP := Lib.hid (gcd_in (a := a) (n := n) (by unfold far; omega))
  have HIP := Lib.hid (inv_far (a := a) (n := n) (by unfold far; omega))
  have HFA := Lib.hid (far_f (a := a) (by omega))
  have HFN := Lib.hid (far_f (a := n) (by omega))
  have n0 : n ≠ 0 := by omega
  have N0 : (n == 0) = false := by simpa using n0
  have N1 : (n != 0) = true := by simpa using n0
  obtain ⟨hlt, hll, hlz⟩ := of_small (a := a) n0 ha hn
  have OF := Lib.hid (of_some ha hn n0 hlt)
  have RO := Lib.hid (fun w => OfA_c a n w n0 ha hn)
  have NK := Lib.hid (fun w => numberOk_c (rtext ((a : Rat) / (n : Rat))) w hll hlz)
  generalize rtext ((a : Rat) / (n : Rat)) = tx at *
  clear hlt hll hlz n0
  have RG := Lib.hid (fun w => refGcd_c a n w (by omega) (by omega))
  have hn1 : n < 1 := by omega
  have n5 : decide ((100000 : Int) < n) = false := decide_eq_false (by omega)
  have IP := Lib.hid (pr_out (n := n) (by omega))
  have nz : n < 0 := by omega
  have HC := Lib.hid hc
  clear hs hG ha hn hc haf
  go_enter Tryz.func4, Tryz.ntmps4
  go_wp2_with fail
  refine (awake_c _ (HG.out.below HB.out)).mono ?_
  rintro e w1 ⟨rfl, hB⟩
  replace HB := bt9 HB.out hB
  clear hB
  go_wp2_with fail
  refine (IsName_c s _ HS1.out).mono ?_
  rintro e w2 ⟨b1, rfl, hb1, hB⟩
  replace HB := bt9 HB.out hB
  clear hB
  go_wp2_with fail
  refine (refIsName_c s _ HS2.out).mono ?_
  rintro e w3 ⟨b2, rfl, hb2, hB⟩
  replace HB := bt9 HB.out hB
  clear hB
  obtain rfl : b2 = b1 := by rw [Bool.eq_iff_iff, hb1, hb2]
  clear hb1 hb2
  go_wp2_with fail
  refine (OF.out _ (HG.out.below HB.out)).mono ?_
  rintro e w4 ⟨rfl, hB⟩
  replace HB := bt9 HB.out hB
  clear hB
  go_wp2_with fail
  refine (RO.out _).mono ?_
  rintro e w5 ⟨rfl, hB⟩
  replace HB := bt9 HB.out hB
  clear hB
  go_wp2_with fail
  refine (NK.out _).mono ?_
  rintro e w6 ⟨rfl, rfl⟩
  go_wp2_with fail
  refine (HGP.out _).mono ?_
  rintro e w7 ⟨rfl, hB⟩
  replace HB := bt9 HB.out hB
  clear hB
  go_wp2_with fail
  refine (HFA.out _).mono ?_
  rintro e w8 ⟨rfl, rfl⟩
  go_wp2_with fail
  refine (HFN.out _).mono ?_
  rintro e w9 ⟨rfl, rfl⟩
  go_wp2_with fail
  refine (RG.out _).mono ?_
  rintro e w10 ⟨rfl, hB⟩
  replace HB := bt9 HB.out hB
  clear hB
  go_wp2_with fail
  refine (integerOk_c _ _).mono ?_
  rintro e w11 ⟨rfl, rfl⟩
  go_wp2_with fail
  refine (HIP.out _).mono ?_
  rintro e w12 ⟨rfl, hB⟩
  replace HB := bt9 HB.out hB
  clear hB
  go_wp2_with fail
  refine (HFA.out _).mono ?_
  rintro e w13 ⟨rfl, rfl⟩
  go_wp2_with fail
  refine (HFN.out _).mono ?_
  rintro e w14 ⟨rfl, rfl⟩
  go_wp2_with fail
  refine (integerBad_c 3 0 _ (by decide)).mono ?_
  rintro e w15 ⟨rfl, rfl⟩
  go_wp2_with fail
  refine (IP.out _).mono ?_
  rintro e w16 ⟨rfl, rfl⟩
  go_wp2
  go_ret
  exact ⟨by simp, HB.out⟩
set_option maxRecDepth 100000 in
set_option maxHeartbeats 8000000 in
theorem ai_0C (s : ByteArray) (a n : Int) (w : World) (H : AiH s a n w) (haf : -999999999 ≤ a ∧ a ≤ 999999999) (hc : n = 0) :
    aiGoal s a n w := by
  obtain ⟨hs, ha, hn, hG⟩ := H
  unfold aiGoal
  have HG := Lib.hid hG
  have HB := Lib.hid (Below.refl w.heap.size w)
  have HS1 : Hid (s.size ≤ 9223372036854775807) := Lib.hid (by omega)
  have HS2 : Hid (s.size ≤ 4611686018427387904) := Lib.hid (by omega)
  have hs40 : decide ((40 : Int) < (s.size : Int)) = false := decide_eq_false (by omega)
  have HGP := Lib.hid (gcd_in (a := a) (n := n) (by unfold far; omega))
  have HIP := Lib.hid (inv_far (a := a) (n := n) (by unfold far; omega))
  have HFA := Lib.hid (far_f (a := a) (by omega))
  have HFN := Lib.hid (far_f (a := n) (by omega))
  have N0 : (n == 0) = true := by simpa using hc
  have N1 : (n != 0) = false := by simpa using hc
  have OF := Lib.hid (of_zero ha hn hc)
  have RG := Lib.hid (fun w => refGcd_c a n w (by omega) (by omega))
  have hn1 : n < 1 := by omega
  have n5 : decide ((100000 : Int) < n) = false := decide_eq_false (by omega)
  have IP := Lib.hid (pr_in (n := n) (by omega))
  have RP := Lib.hid (rp_in (n := n) (by omega))
  have nz : decide (n < 0) = false := decide_eq_false (by omega)
  have HC := Lib.hid hc
  clear hs hG ha hn hc haf
  go_enter Tryz.func4, Tryz.ntmps4
  go_wp2_with fail
  refine (awake_c _ (HG.out.below HB.out)).mono ?_
  rintro e w1 ⟨rfl, hB⟩
  replace HB := bt9 HB.out hB
  clear hB
  go_wp2_with fail
  refine (IsName_c s _ HS1.out).mono ?_
  rintro e w2 ⟨b1, rfl, hb1, hB⟩
  replace HB := bt9 HB.out hB
  clear hB
  go_wp2_with fail
  refine (refIsName_c s _ HS2.out).mono ?_
  rintro e w3 ⟨b2, rfl, hb2, hB⟩
  replace HB := bt9 HB.out hB
  clear hB
  obtain rfl : b2 = b1 := by rw [Bool.eq_iff_iff, hb1, hb2]
  clear hb1 hb2
  go_wp2_with fail
  refine (OF.out _ (HG.out.below HB.out)).mono ?_
  rintro e w4 ⟨rfl, hB⟩
  replace HB := bt9 HB.out hB
  clear hB
  go_wp2_with fail
  refine (numberBad_c 6 [] _ (by decide)).mono ?_
  rintro e w5 ⟨rfl, rfl⟩
  go_wp2_with fail
  refine (HGP.out _).mono ?_
  rintro e w6 ⟨rfl, hB⟩
  replace HB := bt9 HB.out hB
  clear hB
  go_wp2_with fail
  refine (HFA.out _).mono ?_
  rintro e w7 ⟨rfl, rfl⟩
  go_wp2_with fail
  refine (HFN.out _).mono ?_
  rintro e w8 ⟨rfl, rfl⟩
  go_wp2_with fail
  refine (RG.out _).mono ?_
  rintro e w9 ⟨rfl, hB⟩
  replace HB := bt9 HB.out hB
  clear hB
  go_wp2_with fail
  refine (integerOk_c _ _).mono ?_
  rintro e w10 ⟨rfl, rfl⟩
  go_wp2_with fail
  refine (HIP.out _).mono ?_
  rintro e w11 ⟨rfl, hB⟩
  replace HB := bt9 HB.out hB
  clear hB
  go_wp2_with fail
  refine (HFA.out _).mono ?_
  rintro e w12 ⟨rfl, rfl⟩
  go_wp2_with fail
  refine (HFN.out _).mono ?_
  rintro e w13 ⟨rfl, rfl⟩
  go_wp2_with fail
  refine (integerBad_c 3 0 _ (by decide)).mono ?_
  rintro e w14 ⟨rfl, rfl⟩
  go_wp2_with fail
  refine (IP.out _).mono ?_
  rintro e w15 ⟨⟨p1, rfl, hp1⟩, rfl⟩
  go_wp2_with fail
  refine (HFN.out _).mono ?_
  rintro e w16 ⟨rfl, rfl⟩
  go_wp2_with fail
  refine (RP.out _).mono ?_
  rintro e w17 ⟨p2, rfl, hp2, rfl⟩
  obtain rfl : p2 = p1 := by rw [Bool.eq_iff_iff, hp1, hp2]
  clear hp1 hp2
  go_wp2
  go_ret
  exact ⟨by simp, HB.out⟩
set_option maxRecDepth 100000 in
set_option maxHeartbeats 8000000 in
theorem ai_0Dco (s : ByteArray) (a n : Int) (w : World) (H : AiH s a n w) (haf : -999999999 ≤ a ∧ a ≤ 999999999) (hc : (1 ≤ n ∧ n ≤ 100000) ∧ n ≠ 1) (hco : Int.gcd a n = 1) :
    aiGoal s a n w := by
  obtain ⟨hs, ha, hn, hG⟩ := H
  unfold aiGoal
  have HG := Lib.hid hG
  have HB := Lib.hid (Below.refl w.heap.size w)
  have HS1 : Hid (s.size ≤ 9223372036854775807) := Lib.hid (by omega)
  have HS2 : Hid (s.size ≤ 4611686018427387904) := Lib.hid (by omega)
  have hs40 : decide ((40 : Int) < (s.size : Int)) = false := decide_eq_false (by omega)
  have HGP := Lib.hid (gcd_in (a := a) (n := n) (by unfold far; omega))
  have HIP := Lib.hid (inv_in (a := a) (n := n) (by unfold far; omega) hco)
  have HFA := Lib.hid (far_f (a := a) (by omega))
  have HFN := Lib.hid (far_f (a := n) (by omega))
  have n0 : n ≠ 0 := by omega
  have N0 : (n == 0) = false := by simpa using n0
  have N1 : (n != 0) = true := by simpa using n0
  obtain ⟨hlt, hll, hlz⟩ := of_small (a := a) n0 ha hn
  have OF := Lib.hid (of_some ha hn n0 hlt)
  have RO := Lib.hid (fun w => OfA_c a n w n0 ha hn)
  have NK := Lib.hid (fun w => numberOk_c (rtext ((a : Rat) / (n : Rat))) w hll hlz)
  generalize rtext ((a : Rat) / (n : Rat)) = tx at *
  clear hlt hll hlz n0
  have RG := Lib.hid (fun w => refGcd_c a n w (by omega) (by omega))
  have RI := Lib.hid (fun w => refInverse_c a n w (by omega) (by omega))
  have hn1 : decide (n < 1) = false := decide_eq_false (by omega)
  have n5 : decide ((100000 : Int) < n) = false := decide_eq_false (by omega)
  have IP := Lib.hid (pr_in (n := n) (by omega))
  have RP := Lib.hid (rp_in (n := n) (by omega))
  have nz : decide (n < 0) = false := decide_eq_false (by omega)
  have HC := Lib.hid hc
  have HCO := Lib.hid hco
  clear hs hG ha hn hc haf hco
  go_enter Tryz.func4, Tryz.ntmps4
  go_wp2_with fail
  refine (awake_c _ (HG.out.below HB.out)).mono ?_
  rintro e w1 ⟨rfl, hB⟩
  replace HB := bt9 HB.out hB
  clear hB
  go_wp2_with fail
  refine (IsName_c s _ HS1.out).mono ?_
  rintro e w2 ⟨b1, rfl, hb1, hB⟩
  replace HB := bt9 HB.out hB
  clear hB
  go_wp2_with fail
  refine (refIsName_c s _ HS2.out).mono ?_
  rintro e w3 ⟨b2, rfl, hb2, hB⟩
  replace HB := bt9 HB.out hB
  clear hB
  obtain rfl : b2 = b1 := by rw [Bool.eq_iff_iff, hb1, hb2]
  clear hb1 hb2
  go_wp2_with fail
  refine (OF.out _ (HG.out.below HB.out)).mono ?_
  rintro e w4 ⟨rfl, hB⟩
  replace HB := bt9 HB.out hB
  clear hB
  go_wp2_with fail
  refine (RO.out _).mono ?_
  rintro e w5 ⟨rfl, hB⟩
  replace HB := bt9 HB.out hB
  clear hB
  go_wp2_with fail
  refine (NK.out _).mono ?_
  rintro e w6 ⟨rfl, rfl⟩
  go_wp2_with fail
  refine (HGP.out _).mono ?_
  rintro e w7 ⟨rfl, hB⟩
  replace HB := bt9 HB.out hB
  clear hB
  go_wp2_with fail
  refine (HFA.out _).mono ?_
  rintro e w8 ⟨rfl, rfl⟩
  go_wp2_with fail
  refine (HFN.out _).mono ?_
  rintro e w9 ⟨rfl, rfl⟩
  go_wp2_with fail
  refine (RG.out _).mono ?_
  rintro e w10 ⟨rfl, hB⟩
  replace HB := bt9 HB.out hB
  clear hB
  go_wp2_with fail
  refine (integerOk_c _ _).mono ?_
  rintro e w11 ⟨rfl, rfl⟩
  go_wp2_with fail
  refine (HIP.out _).mono ?_
  rintro e w12 ⟨⟨xi, rfl, hx0, hx1, hx2⟩, hB⟩
  replace HB := bt9 HB.out hB
  clear hB
  go_wp2_with fail
  refine (HFA.out _).mono ?_
  rintro e w13 ⟨rfl, rfl⟩
  go_wp2_with fail
  refine (HFN.out _).mono ?_
  rintro e w14 ⟨rfl, rfl⟩
  go_wp2_with fail
  refine (RI.out _).mono ?_
  rintro e w15 ⟨⟨he1, _⟩ | ⟨-, -, xj, rfl, hy0, hy1, hy2⟩ | ⟨_, hne, _⟩, hB⟩
  case inl => exact absurd he1 HC.out.2
  case inr.inr => exact absurd HCO.out hne
  replace HB := bt9 HB.out hB
  clear hB
  obtain rfl : xj = xi := inv_unique ⟨hy0, hy1⟩ ⟨hx0, hx1⟩ hy2 hx2
  clear hx0 hx1 hx2 hy0 hy1 hy2
  go_wp2_with fail
  refine (when_c false 7 _).mono ?_
  rintro e w16 ⟨rfl, rfl⟩
  rw [if_neg (by decide)]
  go_wp2_with fail
  refine (integerOk_c _ _).mono ?_
  rintro e w17 ⟨rfl, rfl⟩
  go_wp2_with fail
  refine (IP.out _).mono ?_
  rintro e w18 ⟨⟨p1, rfl, hp1⟩, rfl⟩
  go_wp2_with fail
  refine (HFN.out _).mono ?_
  rintro e w19 ⟨rfl, rfl⟩
  go_wp2_with fail
  refine (RP.out _).mono ?_
  rintro e w20 ⟨p2, rfl, hp2, rfl⟩
  obtain rfl : p2 = p1 := by rw [Bool.eq_iff_iff, hp1, hp2]
  clear hp1 hp2
  go_wp2
  go_ret
  exact ⟨by simp, HB.out⟩
end Go.Proofs.YtneafcdfnhnpnaaGreatDoor
