/- Contracts of the reference: the quotient of great machine integers, of which the second is negative. -/
import Derived.Test.YtneafcdfnhnpnaaGreatDoorZI06
import Derived.Test.YtneafcdfnhnpnaaGreatDoorZI07
import Derived.Test.YtneafcdfnhnpnaaGreatDoorZI01
import Derived.Test.YtneafcdfnhnpnaaGreatDoorZ10
import Derived.Test.YtneafcdfnhnpnaaGreatDoorZ01
import Derived.Test.YtneafcdfnhnpnaaGreatDoorZ17
import Derived.Test.YtneafcdfnhnpnaaGreatDoorZ19
import Derived.Test.YtneafcdfnhnpnaaGreatDoorZ11
namespace Go.Proofs.YtneafcdfnhnpnaaGreatDoor
open Go.RowKit Go.Lib

set_option maxRecDepth 100000 in
set_option maxHeartbeats 4000000 in
theorem OfBigN_c (a : Int) (d : Nat) (w : World) (ha : -9223372036854775808 ≤ a ∧ a ≤ 9223372036854775807) (hd0 : 0 < d) (hd : (d : Int) ≤ 9223372036854775808) (hbig : a < -4000000000000000000 ∨ 4000000000000000000 < a ∨ 4000000000000000000 < (d : Int)) :
    Calls Tryz.prog 35 #[.int .i64 a, .int .i64 (-(d : Int))] w (ansText (rtext (((-a : Int) : Rat) / ((d : Int) : Rat))) w) := by
  have W1 := Lib.hid (fun w => whole_c a w ha)
  have W2 := Lib.hid (fun w => whole_c (-(d : Int)) w (by omega))
  have FR := Lib.hid (fun (u v : Value) (w : World) (hu : Ri w u a) (hv : Ri w v (-(d : Int))) => fractionN_c u v (-a) d w (by rw [Int.neg_neg]; exact hu) hv hd0 (big9_small (by omega)) (big9_small (by omega)))
  generalize rtext (((-a : Int) : Rat) / ((d : Int) : Rat)) = tx at *
  have hneg : ¬ a < -4000000000000000000 → ¬ 4000000000000000000 < a → -(d : Int) < -4000000000000000000 := fun k1 k2 => by omega
  generalize -(d : Int) = b at *
  have HNG := Lib.hid hneg
  clear hneg hbig hd hd0
  by_cases h1 : a < -4000000000000000000
  · have z : True := trivial
    go_enter Tryz.func35, Tryz.ntmps35
    go_wp2_with fail
    refine (W1.out _).mono ?_
    rintro e w1 ⟨u, rfl, hu, hB1⟩
    have HU := hu
    obtain ⟨A1, m1, c1, rfl, _, _⟩ := HU.open_
    go_wp2_with fail
    refine (W2.out _).mono ?_
    rintro e w2 ⟨v, rfl, hv, hB2⟩
    have HV := hv
    obtain ⟨A2, m2, c2, rfl, _, _⟩ := HV.open_
    have FF := Lib.hid (FR.out _ _ w2 (hu.below hB2) hv)
    clear hu hv HU HV
    go_wp2_with fail
    refine FF.out.mono ?_
    rintro e w3 ⟨rfl, hB3⟩
    go_wp2
    go_ret
    exact ⟨rfl, hB1.trans ((hB2.mono hB1.size).trans (hB3.mono (Nat.le_trans hB1.size hB2.size)))⟩
  have g1 : decide (a < -4000000000000000000) = false := decide_eq_false h1
  by_cases h2 : 4000000000000000000 < a
  · clear h1
    go_enter Tryz.func35, Tryz.ntmps35
    go_wp2_with fail
    refine (W1.out _).mono ?_
    rintro e w1 ⟨u, rfl, hu, hB1⟩
    have HU := hu
    obtain ⟨A1, m1, c1, rfl, _, _⟩ := HU.open_
    go_wp2_with fail
    refine (W2.out _).mono ?_
    rintro e w2 ⟨v, rfl, hv, hB2⟩
    have HV := hv
    obtain ⟨A2, m2, c2, rfl, _, _⟩ := HV.open_
    have FF := Lib.hid (FR.out _ _ w2 (hu.below hB2) hv)
    clear hu hv HU HV
    go_wp2_with fail
    refine FF.out.mono ?_
    rintro e w3 ⟨rfl, hB3⟩
    go_wp2
    go_ret
    exact ⟨rfl, hB1.trans ((hB2.mono hB1.size).trans (hB3.mono (Nat.le_trans hB1.size hB2.size)))⟩
  have g2 : decide (4000000000000000000 < a) = false := decide_eq_false h2
  have g3 : b < -4000000000000000000 := HNG.out h1 h2
  clear h1 h2
  go_enter Tryz.func35, Tryz.ntmps35
  go_wp2_with fail
  refine (W1.out _).mono ?_
  rintro e w1 ⟨u, rfl, hu, hB1⟩
  have HU := hu
  obtain ⟨A1, m1, c1, rfl, _, _⟩ := HU.open_
  go_wp2_with fail
  refine (W2.out _).mono ?_
  rintro e w2 ⟨v, rfl, hv, hB2⟩
  have HV := hv
  obtain ⟨A2, m2, c2, rfl, _, _⟩ := HV.open_
  have FF := Lib.hid (FR.out _ _ w2 (hu.below hB2) hv)
  clear hu hv HU HV
  go_wp2_with fail
  refine FF.out.mono ?_
  rintro e w3 ⟨rfl, hB3⟩
  go_wp2
  go_ret
  exact ⟨rfl, hB1.trans ((hB2.mono hB1.size).trans (hB3.mono (Nat.le_trans hB1.size hB2.size)))⟩
end Go.Proofs.YtneafcdfnhnpnaaGreatDoor
/- Contracts of the reference: numerators, denominators, signs, absolute values, and numbers that are too long. -/
namespace Go.Proofs.YtneafcdfnhnpnaaGreatDoor
open Go.RowKit Go.Lib

theorem t_ext_of {s : ByteArray} {l : List UInt8} (h : s.data.toList = l) (a b : Nat) : (s.extract a b).data.toList = (l.take b).drop a := by
  rw [← h]; simp [List.drop_take]
def tNum (l : List UInt8) : List UInt8 := l.take (slashAt l)
def tDen (l : List UInt8) : List UInt8 := if slashAt l = l.length then [49] else l.drop (slashAt l + 1)
def tSign (l : List UInt8) : Int := if l = [48] then 0 else if l[0]? = some 45 then -1 else 1
def tAbs (l : List UInt8) : List UInt8 := if tSign l < 0 then l.drop 1 else l
def tLarge (l : List UInt8) : Int := if 600 < (tAbs (tNum l)).length ∨ 600 < (tDen l).length then 4 else 0
def isText (l : List UInt8) (w : World) (e : Ending) (w' : World) : Prop := e = .returned (.string ⟨l.toArray⟩) ∧ w = w'
theorem str_list (s : ByteArray) : s = ⟨s.data.toList.toArray⟩ := by cases s; simp
theorem refNum_c (l : List UInt8) (w : World) (hl : l.length ≤ 4000000000000000000) : Calls Tryz.prog 166 #[.string ⟨l.toArray⟩] w (isText (tNum l) w) := by
  have SL := Lib.hid (slash_c ⟨l.toArray⟩ w (by simp [ByteArray.size]; omega))
  obtain ⟨s, hs⟩ : ∃ s : ByteArray, s = ⟨l.toArray⟩ := ⟨_, rfl⟩
  have hsl : s.data.toList = l := by rw [hs]
  have hsz : s.size = l.length := by rw [hs]; simp [ByteArray.size]
  rw [← hs] at SL ⊢
  rw [hsl] at SL
  have hk := slashAt_le l
  have HE : Hid (s.extract 0 (slashAt l) = ⟨(tNum l).toArray⟩) := Lib.hid (by
    have h := t_ext_of (a := 0) (b := slashAt l) hsl
    rw [str_list (s.extract 0 (slashAt l)), h]; unfold tNum; simp)
  clear hs hsl
  have hkI : ((slashAt l : Nat) : Int) ≤ (s.size : Int) := by omega
  have hsI : (s.size : Int) ≤ 4000000000000000000 := by omega
  clear hk hsz hl
  generalize slashAt l = k at *
  go_enter Tryz.func166, Tryz.ntmps166
  go_wp2_with fail
  refine SL.out.mono ?_
  rintro e w1 ⟨rfl, rfl⟩
  go_wp2
  go_ret
  exact ⟨by rw [← HE.out]; rfl, rfl⟩
theorem refDen_c (l : List UInt8) (w : World) (hl : l.length ≤ 4000000000000000000) : Calls Tryz.prog 167 #[.string ⟨l.toArray⟩] w (isText (tDen l) w) := by
  have SL := Lib.hid (slash_c ⟨l.toArray⟩ w (by simp [ByteArray.size]; omega))
  obtain ⟨s, hs⟩ : ∃ s : ByteArray, s = ⟨l.toArray⟩ := ⟨_, rfl⟩
  have hsl : s.data.toList = l := by rw [hs]
  have hsz : s.size = l.length := by rw [hs]; simp [ByteArray.size]
  rw [← hs] at SL ⊢
  rw [hsl] at SL
  have hk := slashAt_le l
  by_cases h : slashAt l = l.length
  · have HD : Hid (tDen l = [49]) := Lib.hid (by unfold tDen; rw [if_pos h])
    have hb : ((slashAt l : Nat) : Int) == (s.size : Int) := by rw [h, hsz]; simp
    clear hs hsl hsz h hk
    generalize slashAt l = k at *
    go_enter Tryz.func167, Tryz.ntmps167
    go_wp2_with fail
    refine SL.out.mono ?_
    rintro e w1 ⟨rfl, rfl⟩
    go_wp2
    go_ret
    exact ⟨by rw [HD.out]; rfl, rfl⟩
  · have hb : (((slashAt l : Nat) : Int) == (s.size : Int)) = false := by simpa using (by omega : ¬ ((slashAt l : Nat) : Int) = (s.size : Int))
    have hkI : ((slashAt l : Nat) : Int) + 1 ≤ (s.size : Int) := by omega
    have hsI : (s.size : Int) ≤ 4000000000000000000 := by omega
    have HE : Hid (s.extract (slashAt l + 1) s.size = ⟨(tDen l).toArray⟩) := Lib.hid (by
      have h1 := t_ext_of (a := slashAt l + 1) (b := s.size) hsl
      rw [str_list (s.extract (slashAt l + 1) s.size), h1]; unfold tDen; rw [if_neg h, hsz, List.take_of_length_le (Nat.le_refl _)])
    clear hs hsl hk hsz hl h
    generalize slashAt l = k at *
    go_enter Tryz.func167, Tryz.ntmps167
    go_wp2_with fail
    refine SL.out.mono ?_
    rintro e w1 ⟨rfl, rfl⟩
    go_wp2
    go_ret
    exact ⟨by rw [← HE.out]; rfl, rfl⟩
def isInt (n : Int) (w : World) (e : Ending) (w' : World) : Prop := e = .returned (.int .i64 n) ∧ w = w'
theorem refSign_c (l : List UInt8) (w : World) (hl : l.length ≤ 4000000000000000000) : Calls Tryz.prog 62 #[.string ⟨l.toArray⟩] w (isInt (tSign l) w) := by
  obtain ⟨s, hs⟩ : ∃ s : ByteArray, s = ⟨l.toArray⟩ := ⟨_, rfl⟩
  have hsl : s.data.toList = l := by rw [hs]
  have hsz : s.size = l.length := by rw [hs]; simp [ByteArray.size]
  rw [← hs]
  by_cases h : l = [48]
  · have HS : Hid (tSign l = 0) := Lib.hid (by unfold tSign; rw [if_pos h])
    have hz : (s.toList == [48]) = true := by rw [ByteArray.toList_eq, hsl, h]; rfl
    clear hs hsl hsz h
    go_enter Tryz.func62, Tryz.ntmps62
    go_wp2
    go_ret
    exact ⟨by rw [HS.out]; rfl, rfl⟩
  · have hz : (s.toList == [48]) = false := by rw [ByteArray.toList_eq, hsl]; simpa using h
    by_cases h0 : s.size = 0
    · have HS : Hid (tSign l = 1) := Lib.hid (by
        have : l = [] := List.length_eq_zero_iff.1 (by omega)
        subst this; unfold tSign; rw [if_neg (by simp), if_neg (by simp)])
      have hI : (0 < s.size) = False := eq_false (by omega)
      clear hs hsl hsz h h0
      go_enter Tryz.func62, Tryz.ntmps62
      go_wp2
      go_ret
      exact ⟨by rw [HS.out]; rfl, rfl⟩
    · have h1 : 0 < s.size := by omega
      have hI : (0 : Int) < (s.size : Int) := by omega
      have hg := ba_get s 0 h1
      rw [hsl] at hg
      by_cases hc : l[0]? = some 45
      · have HS : Hid (tSign l = -1) := Lib.hid (by unfold tSign; rw [if_neg h, if_pos hc])
        have hcc : (((s[0]).toNat : Int) == 45) = true := by
          rw [hc] at hg
          have : s[0] = 45 := (Option.some.inj hg).symm
          rw [this]; rfl
        clear hs hsl hsz h h0 hc hg
        go_enter Tryz.func62, Tryz.ntmps62
        go_wp2
        go_ret
        exact ⟨by rw [HS.out]; rfl, rfl⟩
      · have HS : Hid (tSign l = 1) := Lib.hid (by unfold tSign; rw [if_neg h, if_neg hc])
        have hcc : (((s[0]).toNat : Int) == 45) = false := by
          simp only [beq_eq_false_iff_ne]
          intro e
          apply hc
          rw [hg]
          have : (s[0]).toNat = 45 := by omega
          congr 1
          exact UInt8.toNat_inj.1 this
        clear hs hsl hsz h h0 hc hg
        go_enter Tryz.func62, Tryz.ntmps62
        go_wp2
        go_ret
        exact ⟨by rw [HS.out]; rfl, rfl⟩
theorem tSign_neg {l : List UInt8} (h : tSign l < 0) : 0 < l.length := by
  unfold tSign at h
  split at h
  · omega
  · split at h
    · rename_i hc
      rcases Nat.eq_zero_or_pos l.length with h0 | h0
      · rw [List.length_eq_zero_iff.1 h0] at hc; simp at hc
      · exact h0
    · omega
theorem refAbs_c (l : List UInt8) (w : World) (hl : l.length ≤ 4000000000000000000) : Calls Tryz.prog 165 #[.string ⟨l.toArray⟩] w (isText (tAbs l) w) := by
  have SG := Lib.hid (refSign_c l w hl)
  obtain ⟨s, hs⟩ : ∃ s : ByteArray, s = ⟨l.toArray⟩ := ⟨_, rfl⟩
  have hsl : s.data.toList = l := by rw [hs]
  have hsz : s.size = l.length := by rw [hs]; simp [ByteArray.size]
  rw [← hs] at SG ⊢
  by_cases h : tSign l < 0
  · have hp := tSign_neg h
    have HE : Hid (s.extract 1 s.size = ⟨(tAbs l).toArray⟩) := Lib.hid (by
      have h1 := t_ext_of (a := 1) (b := s.size) hsl
      rw [str_list (s.extract 1 s.size), h1]; unfold tAbs; rw [if_pos h, hsz, List.take_of_length_le (Nat.le_refl _)])
    have hI : (1 : Int) ≤ (s.size : Int) := by omega
    have hsI : (s.size : Int) ≤ 4000000000000000000 := by omega
    clear hs hsl hsz hp hl
    generalize tSign l = g at *
    go_enter Tryz.func165, Tryz.ntmps165
    go_wp2_with fail
    refine SG.out.mono ?_
    rintro e w1 ⟨rfl, rfl⟩
    go_wp2
    go_ret
    exact ⟨by rw [← HE.out]; rfl, rfl⟩
  · have HE : Hid (s = ⟨(tAbs l).toArray⟩) := Lib.hid (by unfold tAbs; rw [if_neg h]; exact hs)
    have hI : (tSign l < 0) = False := eq_false h
    clear hs hsl hsz hl h
    generalize tSign l = g at *
    go_enter Tryz.func165, Tryz.ntmps165
    go_wp2_with fail
    refine SG.out.mono ?_
    rintro e w1 ⟨rfl, rfl⟩
    go_wp2
    go_ret
    exact ⟨by rw [← HE.out]; rfl, rfl⟩
theorem tNum_len (l : List UInt8) : (tNum l).length ≤ l.length := by unfold tNum; rw [List.length_take]; omega
theorem tAbs_len (l : List UInt8) : (tAbs l).length ≤ l.length := by unfold tAbs; split <;> simp
theorem size_text (l : List UInt8) : (⟨l.toArray⟩ : ByteArray).size = l.length := by simp [ByteArray.size]
theorem refLarge_c (l : List UInt8) (w : World) (hl : l.length ≤ 4000000000000000000) : Calls Tryz.prog 115 #[.string ⟨l.toArray⟩] w (isInt (tLarge l) w) := by
  have NM := Lib.hid (refNum_c l w hl)
  have AB := Lib.hid (refAbs_c (tNum l) w (by have := tNum_len l; omega))
  have DN := Lib.hid (refDen_c l w hl)
  have ha : (tAbs (tNum l)).length ≤ 4000000000000000000 := by have := tNum_len l; have := tAbs_len (tNum l); omega
  have HL : Hid (∀ (a b : Prop) [Decidable a] [Decidable b], (a ↔ 600 < (tAbs (tNum l)).length) → (b ↔ 600 < (tDen l).length) → (a ∨ b → tLarge l = 4) ∧ (¬ a → ¬ b → tLarge l = 0)) := Lib.hid (fun a b _ _ h1 h2 => by
    unfold tLarge
    refine ⟨fun h => by rw [if_pos]; rw [← h1, ← h2]; exact h, fun h3 h4 => by rw [if_neg]; rw [← h1, ← h2]; rintro (h | h); exact h3 h; exact h4 h⟩)
  clear hl
  have s1 := size_text (tAbs (tNum l))
  have s2 := size_text (tDen l)
  obtain ⟨A, hA⟩ : ∃ A : ByteArray, A = ⟨(tAbs (tNum l)).toArray⟩ := ⟨_, rfl⟩
  obtain ⟨D, hD⟩ : ∃ D : ByteArray, D = ⟨(tDen l).toArray⟩ := ⟨_, rfl⟩
  unfold isText at AB DN
  rw [← hA] at AB s1
  rw [← hD] at DN s2
  rw [← s1] at HL ha
  rw [← s2] at HL
  clear hA hD s1 s2
  have HR : Hid ((600 < A.size → tLarge l = 4) ∧ (¬ 600 < A.size → 600 < D.size → tLarge l = 4) ∧ (¬ 600 < A.size → ¬ 600 < D.size → tLarge l = 0)) := Lib.hid ⟨fun h => (HL.out _ _ Iff.rfl Iff.rfl).1 (.inl h), fun _ h => (HL.out _ _ Iff.rfl Iff.rfl).1 (.inr h), fun h1 h2 => (HL.out _ _ Iff.rfl Iff.rfl).2 h1 h2⟩
  clear HL
  generalize tLarge l = g at *
  by_cases h1 : 600 < A.size
  · have hI : (600 : Int) < (A.size : Int) := by omega
    have HG := Lib.hid (HR.out.1 h1)
    clear h1 HR
    go_enter Tryz.func115, Tryz.ntmps115
    go_wp2_with fail
    refine NM.out.mono ?_
    rintro e w1 ⟨rfl, rfl⟩
    go_wp2_with fail
    refine AB.out.mono ?_
    rintro e w1 ⟨rfl, rfl⟩
    go_wp2
    go_ret
    exact ⟨by rw [HG.out]; rfl, rfl⟩
  · have hI : decide ((600 : Int) < (A.size : Int)) = false := decide_eq_false (by omega)
    by_cases h2 : 600 < D.size
    · have hJ : (600 : Int) < (D.size : Int) := by omega
      have HG := Lib.hid (HR.out.2.1 h1 h2)
      clear h1 h2 HR
      go_enter Tryz.func115, Tryz.ntmps115
      go_wp2_with fail
      refine NM.out.mono ?_
      rintro e w1 ⟨rfl, rfl⟩
      go_wp2_with fail
      refine AB.out.mono ?_
      rintro e w1 ⟨rfl, rfl⟩
      go_wp2_with fail
      refine DN.out.mono ?_
      rintro e w1 ⟨rfl, rfl⟩
      go_wp2
      go_ret
      exact ⟨by rw [HG.out]; rfl, rfl⟩
    · have hJ : decide ((600 : Int) < (D.size : Int)) = false := decide_eq_false (by omega)
      have HG := Lib.hid (HR.out.2.2 h1 h2)
      clear h1 h2 HR
      go_enter Tryz.func115, Tryz.ntmps115
      go_wp2_with fail
      refine NM.out.mono ?_
      rintro e w1 ⟨rfl, rfl⟩
      go_wp2_with fail
      refine AB.out.mono ?_
      rintro e w1 ⟨rfl, rfl⟩
      go_wp2_with fail
      refine DN.out.mono ?_
      rintro e w1 ⟨rfl, rfl⟩
      go_wp2
      go_ret
      exact ⟨by rw [HG.out]; rfl, rfl⟩
end Go.Proofs.YtneafcdfnhnpnaaGreatDoor
/- The texts of quotients: numerators, denominators; they are short. -/
namespace Go.Proofs.YtneafcdfnhnpnaaGreatDoor
open Go.RowKit Go.Lib

theorem slash_rtext (q : Rat) : tNum (rtext q) = (if q.num < 0 then [45] else []) ++ decDigits q.num.natAbs ∧ tDen (rtext q) = (if q.den = 1 then [49] else decDigits q.den) := by
  have hd : allDig (decDigits q.num.natAbs) := dec_all _
  have hs : slashAt (rtext q) = ((if q.num < 0 then [45] else []) ++ decDigits q.num.natAbs : List UInt8).length := by
    unfold rtext
    by_cases h1 : q.num < 0
    · rw [if_pos h1]
      show slashAt (45 :: (decDigits q.num.natAbs ++ _)) = _
      have e : ∀ r : List UInt8, slashAt (45 :: r) = slashAt r + 1 := fun r => by unfold slashAt; rw [List.findIdx_cons]; simp
      rw [e]
      by_cases h2 : q.den = 1
      · rw [if_pos h2, List.append_nil, slash_none hd]; simp
      · rw [if_neg h2, slash_app hd]; simp
    · rw [if_neg h1]
      simp only [List.nil_append]
      by_cases h2 : q.den = 1
      · rw [if_pos h2, List.append_nil, slash_none hd]
      · rw [if_neg h2, slash_app hd]
  unfold tNum tDen
  rw [hs]
  constructor
  · unfold rtext; rw [List.take_left']; rfl
  · by_cases h2 : q.den = 1
    · rw [if_pos h2, if_pos]; unfold rtext; rw [if_pos h2, List.append_nil]
    · rw [if_neg h2, if_neg]
      · unfold rtext
        rw [if_neg h2, List.drop_append]; simp
      · unfold rtext; rw [if_neg h2]; simp
theorem tAbs_num (n : Nat) (neg : Prop) [Decidable neg] : (tAbs ((if neg then [45] else []) ++ decDigits n)).length = (decDigits n).length := by
  have hd : allDig (decDigits n) := dec_all _
  by_cases h1 : neg
  · rw [if_pos h1]
    have : tSign ([45] ++ decDigits n) = -1 := by
      unfold tSign
      rw [if_neg (by simp), if_pos (by simp)]
    unfold tAbs
    rw [this, if_pos (by decide)]
    simp
  · rw [if_neg h1, List.nil_append]
    unfold tAbs
    have : ¬ tSign (decDigits n) < 0 := by
      unfold tSign
      split
      · omega
      · rw [if_neg]; omega
        intro hc
        have hm := hd 45 (List.mem_of_getElem? hc)
        revert hm; decide
    rw [if_neg this]
theorem large_rtext (q : Rat) : tLarge (rtext q) = if 600 < (decDigits q.num.natAbs).length ∨ 600 < (decDigits q.den).length then 4 else 0 := by
  obtain ⟨h1, h2⟩ := slash_rtext q
  unfold tLarge
  rw [h1, tAbs_num, h2]
  congr 1
  by_cases h : q.den = 1
  · rw [if_pos h, h, decDigits_one (by decide : (1 : Nat) < 10)]; rfl
  · rw [if_neg h]
theorem of_small {a n : Int} (h0 : n ≠ 0) (ha : -9223372036854775808 ≤ a ∧ a ≤ 9223372036854775807) (hn : -9223372036854775808 ≤ n ∧ n ≤ 9223372036854775807) :
    ¬ tooLong ((a : Rat) / (n : Rat)) ∧ (rtext ((a : Rat) / (n : Rat))).length ≤ 4000000000000000000 ∧ tLarge (rtext ((a : Rat) / (n : Rat))) = 0 := by
  obtain ⟨p1, p2⟩ := div_parts a n h0
  have b1 := nDigits_le 19 ((a : Rat) / (n : Rat)).num.natAbs (by omega)
  have b2 := nDigits_le 19 ((a : Rat) / (n : Rat)).den (by omega)
  refine ⟨by unfold tooLong; omega, ?_, ?_⟩
  · unfold rtext
    rw [List.length_append, List.length_append, decDigits_length]
    have : (if ((a : Rat) / (n : Rat)).den = 1 then ([] : List UInt8) else 47 :: decDigits ((a : Rat) / (n : Rat)).den).length ≤ 21 := by
      split
      · simp
      · rw [List.length_cons, decDigits_length]; omega
    have : (if ((a : Rat) / (n : Rat)).num < 0 then ([45] : List UInt8) else []).length ≤ 1 := by split <;> simp
    omega
  · rw [large_rtext, decDigits_length, decDigits_length, if_neg (by omega)]
end Go.Proofs.YtneafcdfnhnpnaaGreatDoor
/- Contracts of the reference: the quotient of any two machine integers. -/
namespace Go.Proofs.YtneafcdfnhnpnaaGreatDoor
open Go.RowKit Go.Lib

theorem rat_neg_div (a : Int) (d : Nat) (_hd : 0 < d) : (a : Rat) / ((-(d : Int) : Int) : Rat) = ((-a : Int) : Rat) / ((d : Int) : Rat) := by
  have hi : (-(((d : Int) : Rat)))⁻¹ = -((((d : Int) : Rat))⁻¹) := by
    by_cases h : ((d : Int) : Rat) = 0
    · simp [h]
    · exact Rat.inv_eq_of_mul_eq_one (by rw [Rat.mul_neg, Rat.neg_mul, Rat.neg_neg, Rat.mul_inv_cancel _ h])
  rw [Rat.intCast_neg, Rat.intCast_neg, Rat.div_def, Rat.div_def, hi, Rat.mul_neg, Rat.neg_mul]
theorem OfA_c (a n : Int) (w : World) (h0 : n ≠ 0) (ha : -9223372036854775808 ≤ a ∧ a ≤ 9223372036854775807) (hn : -9223372036854775808 ≤ n ∧ n ≤ 9223372036854775807) :
    Calls Tryz.prog 35 #[.int .i64 a, .int .i64 n] w (ansText (rtext ((a : Rat) / (n : Rat))) w) := by
  by_cases hp : 0 < n
  · obtain ⟨d, rfl⟩ : ∃ d : Nat, n = (d : Int) := ⟨n.toNat, by omega⟩
    by_cases hb : a < -4000000000000000000 ∨ 4000000000000000000 < a ∨ 4000000000000000000 < (d : Int)
    · exact OfBigP_c a d w ha (by omega) hn.2 hb
    · have h := OfR_c a d w (by omega) (by omega) (by omega)
      rw [← rat_div_nat] at h
      exact h
  · obtain ⟨d, rfl⟩ : ∃ d : Nat, n = -(d : Int) := ⟨(-n).toNat, by omega⟩
    rw [rat_neg_div a d (by omega)]
    by_cases hb : a < -4000000000000000000 ∨ 4000000000000000000 < a ∨ 4000000000000000000 < (d : Int)
    · exact OfBigN_c a d w ha (by omega) (by omega) hb
    · have h := OfRN_c (-a) d w (by omega) (by omega) (by omega)
      rw [← rat_div_nat, Int.neg_neg] at h
      exact h
end Go.Proofs.YtneafcdfnhnpnaaGreatDoor
/- Contracts of the law's own helpers on numbers and integers. -/
namespace Go.Proofs.YtneafcdfnhnpnaaGreatDoor
open Go.RowKit Go.Lib

theorem numberBad_c (bad : Int) (l : List UInt8) (w : World) (hb : bad ≠ 0) :
    Calls Tryz.prog 24 #[.string ⟨#[]⟩, .int .i64 bad, .int .i64 bad, .string ⟨l.toArray⟩] w fun e w' => e = .returned (.bool true) ∧ w = w' := by
  have h1 : (bad == 0) = false := by simpa using hb
  have h2 : (bad != 0) = true := by simpa using hb
  obtain ⟨s, hs⟩ : ∃ s : ByteArray, s = ⟨l.toArray⟩ := ⟨_, rfl⟩
  rw [← hs]
  clear hs hb
  go_enter Tryz.func24, Tryz.ntmps24
  go_wp2
  go_ret
  exact ⟨by simp, rfl⟩
theorem numberOk_c (l : List UInt8) (w : World) (hl : l.length ≤ 4000000000000000000) (hL : tLarge l = 0) :
    Calls Tryz.prog 24 #[.string ⟨l.toArray⟩, .int .i64 0, .int .i64 0, .string ⟨l.toArray⟩] w fun e w' => e = .returned (.bool true) ∧ w = w' := by
  have LG := Lib.hid (refLarge_c l w hl)
  rw [hL] at LG
  obtain ⟨s, hs⟩ : ∃ s : ByteArray, s = ⟨l.toArray⟩ := ⟨_, rfl⟩
  rw [← hs] at LG ⊢
  clear hs hL hl
  go_enter Tryz.func24, Tryz.ntmps24
  go_wp2_with fail
  refine LG.out.mono ?_
  rintro e w1 ⟨rfl, rfl⟩
  go_wp2
  go_ret
  exact ⟨by simp, rfl⟩
theorem numberLarge_c (l : List UInt8) (w : World) (hl : l.length ≤ 4000000000000000000) (hL : tLarge l = 4) :
    Calls Tryz.prog 24 #[.string ⟨#[]⟩, .int .i64 4, .int .i64 0, .string ⟨l.toArray⟩] w fun e w' => e = .returned (.bool true) ∧ w = w' := by
  have LG := Lib.hid (refLarge_c l w hl)
  rw [hL] at LG
  obtain ⟨s, hs⟩ : ∃ s : ByteArray, s = ⟨l.toArray⟩ := ⟨_, rfl⟩
  rw [← hs] at LG ⊢
  clear hs hL hl
  go_enter Tryz.func24, Tryz.ntmps24
  go_wp2_with fail
  refine LG.out.mono ?_
  rintro e w1 ⟨rfl, rfl⟩
  go_wp2
  go_ret
  exact ⟨by simp, rfl⟩
theorem integerBad_c (bad want : Int) (w : World) (hb : bad ≠ 0) :
    Calls Tryz.prog 25 #[.int .i64 0, .int .i64 bad, .int .i64 bad, .int .i64 want] w fun e w' => e = .returned (.bool true) ∧ w = w' := by
  have h2 : (bad != 0) = true := by simpa using hb
  clear hb
  go_enter Tryz.func25, Tryz.ntmps25
  go_wp2
  go_ret
  exact ⟨by simp, rfl⟩
theorem integerOk_c (x : Int) (w : World) :
    Calls Tryz.prog 25 #[.int .i64 x, .int .i64 0, .int .i64 0, .int .i64 x] w fun e w' => e = .returned (.bool true) ∧ w = w' := by
  go_enter Tryz.func25, Tryz.ntmps25
  go_wp2
  go_ret
  exact ⟨by simp, rfl⟩
theorem far_c (a : Int) (w : World) :
    Calls Tryz.prog 37 #[.int .i64 a] w fun e w' => e = .returned (.bool (decide (a < -999999999 ∨ 999999999 < a))) ∧ w = w' := by
  by_cases h1 : a < -999999999
  · rw [decide_eq_true (.inl h1)]
    go_enter Tryz.func37, Tryz.ntmps37
    go_wp2
    go_ret
    exact ⟨by simp, rfl⟩
  · have h2 : decide (a < -999999999) = false := decide_eq_false h1
    by_cases h3 : 999999999 < a
    · rw [decide_eq_true (.inr h3)]
      clear h1
      go_enter Tryz.func37, Tryz.ntmps37
      go_wp2
      go_ret
      exact ⟨by simp, rfl⟩
    · have h4 : decide (999999999 < a) = false := decide_eq_false h3
      rw [decide_eq_false (by omega : ¬ (a < -999999999 ∨ 999999999 < a))]
      clear h1 h3
      go_enter Tryz.func37, Tryz.ntmps37
      go_wp2
      go_ret
      exact ⟨by simp, rfl⟩
end Go.Proofs.YtneafcdfnhnpnaaGreatDoor
/- Contracts of the reference: inverses modulo n, prime numbers, greatest common divisors. -/
namespace Go.Proofs.YtneafcdfnhnpnaaGreatDoor
open Go.RowKit Go.Lib

theorem refMod2_c (a n : Int) (w : World) (hn : 1 ≤ n) (hn2 : n ≤ 4000000000000000000) :
    Calls Tryz.prog 134 #[.int .i64 a, .int .i64 n] w fun e w' => e = .returned (.int .i64 (a % n)) ∧ w = w' := by
  go_enter Tryz.func134, Tryz.ntmps134
  go_wp2
  go_ret
  exact ⟨ret_int (rem_eq a n hn hn2), rfl⟩
theorem inv_unique {a n x y : Int} (hx : 0 ≤ x ∧ x < n) (hy : 0 ≤ y ∧ y < n) (h1 : n ∣ (x * a - 1)) (h2 : n ∣ (y * a - 1)) : x = y := by
  have h3 : n ∣ (y * (x * a - 1) - x * (y * a - 1)) := Int.dvd_sub (Int.dvd_mul_of_dvd_right h1) (Int.dvd_mul_of_dvd_right h2)
  have e : y * (x * a - 1) - x * (y * a - 1) = x - y := by
    rw [Int.mul_sub, Int.mul_sub, Int.mul_one, Int.mul_one, ← Int.mul_assoc, ← Int.mul_assoc, Int.mul_comm y x]; omega
  rw [e] at h3
  obtain ⟨k, hk⟩ := h3
  have hk0 : k = 0 := by
    rcases Int.lt_trichotomy k 0 with h | h | h
    · have : n * k ≤ n * (-1) := Int.mul_le_mul_of_nonneg_left (by omega) (by omega)
      omega
    · exact h
    · have : n * 1 ≤ n * k := Int.mul_le_mul_of_nonneg_left (by omega) (by omega)
      omega
  subst hk0; omega
def invRPost (a n : Int) (w : World) (e : Ending) (w' : World) : Prop :=
  ((n = 1 ∧ e = .returned (.tuple #[.int .i64 0, .bool true])) ∨ (n ≠ 1 ∧ Int.gcd a n = 1 ∧ ∃ x : Int, e = .returned (.tuple #[.int .i64 x, .bool true]) ∧ 0 ≤ x ∧ x < n ∧ n ∣ (x * a - 1)) ∨
    (n ≠ 1 ∧ Int.gcd a n ≠ 1 ∧ ∃ x : Int, e = .returned (.tuple #[.int .i64 x, .bool false]))) ∧ Below w.heap.size w w'
set_option maxRecDepth 100000 in
set_option maxHeartbeats 2000000 in
theorem refInverse_c (a n : Int) (w : World) (hn : 1 ≤ n) (hn2 : n ≤ 999999999) :
    Calls Tryz.prog 40 #[.int .i64 a, .int .i64 n] w (invRPost a n w) := by
  by_cases h1 : n = 1
  · subst h1
    go_enter Tryz.func40, Tryz.ntmps40
    go_wp2
    go_ret2
    exact ⟨.inl ⟨rfl, rfl⟩, Below.refl _ _⟩
  · have hb1 : (n == 1) = false := by simpa using h1
    have H1 := Lib.hid h1
    clear h1
    have hst := Lib.hid (EI.start a n hn)
    go_enter Tryz.func40, Tryz.ntmps40
    go_wp2_with (go_at_call 134; refine (refMod2_c _ _ _ hn (by omega)).mono ?_; rintro e w' ⟨rfl, rfl⟩)
    go_loopw [6, 7, 8, 9] (fun u v p q wr => ∃ (r x f g : Int) (k : Nat), u = .int .i64 r ∧ v = .int .i64 x ∧ p = .int .i64 f ∧ q = .int .i64 g ∧ Hid (EI a n r x f g) ∧ wr = w.drewN k) (fun _ v _ _ _ => (RowKit.intOf v).toNat)
    case atStart => exact ⟨n, a % n, 0, 1, 0, rfl, rfl, rfl, rfl, hst, rfl⟩
    case round =>
      obtain ⟨r, x, f, g, k, rfl, rfl, rfl, rfl, hE, rfl⟩ := hrel
      have hx0 : 0 ≤ x := hE.out.1
      have hrx : x < r := hE.out.2.1
      have hrn : r ≤ n := hE.out.2.2.1
      by_cases hx : x = 0
      · subst hx
        obtain ⟨he, hd⟩ := hE.out.last
        have He := Lib.hid he; clear he
        have HD := Lib.hid hd; clear hd
        by_cases hr : r = 1
        · subst hr
          go_wp2_with (go_at_call 134; refine (refMod2_c _ _ _ hn (by omega)).mono ?_; rintro e w' ⟨rfl, rfl⟩)
          go_ret2
          have h1 : Int.gcd a n = 1 := by have := He.out; omega
          refine ⟨.inr (.inl ⟨H1.out, h1, f % n, rfl, Int.emod_nonneg _ (by omega), Int.emod_lt_of_pos _ (by omega), ?_⟩), below_drewN (Below.refl _ _) k⟩
          have hd := HD.out
          rw [h1] at hd
          exact mod_dvd hd
        · have hb : (r == 1) = false := by simpa using hr
          have hgc : Hid (Int.gcd a n ≠ 1) := Lib.hid (fun h1 => hr (by have := He.out; omega))
          go_wp2_with (go_at_call 134; refine (refMod2_c _ _ _ hn (by omega)).mono ?_; rintro e w' ⟨rfl, rfl⟩)
          go_ret2
          exact ⟨.inr (.inr ⟨H1.out, hgc.out, _, rfl⟩), below_drewN (Below.refl _ _) k⟩
      · have hb : (x != 0) = true := by simpa using hx
        obtain ⟨b1, b2, b3, b4, b5, b6, b7, b8, b9⟩ := hE.out.bounds hx
        go_wp2
        have hs := hE.out.step hx
        refine ⟨⟨x, r - r / x * x, g, f - r / x * g, k, rfl, rfl, rfl, rfl, Lib.hid hs, rfl⟩, ?_⟩
        have := hs.1
        have := hs.2.1
        simp [RowKit.intOf]; omega
def prAns (m : Int) (w : World) (e : Ending) (w' : World) : Prop := ∃ b : Bool, e = .returned (.bool b) ∧ (b = true ↔ IsPr m) ∧ w = w'
set_option maxRecDepth 100000 in
set_option maxHeartbeats 2000000 in
theorem refIsPrime_c (m : Nat) (w : World) (hm : (m : Int) ≤ 999999999) :
    Calls Tryz.prog 43 #[.int .i64 m] w (prAns m w) := by
  by_cases h2 : (m : Int) < 2
  · have hn : Hid (¬ IsPr m) := Lib.hid (fun h => by have := h.1; omega)
    go_enter Tryz.func43, Tryz.ntmps43
    go_wp2
    go_ret
    exact ⟨false, rfl, by simp; exact hn.out, rfl⟩
  · have H2 : Hid (2 ≤ m) := Lib.hid (by omega)
    go_enter Tryz.func43, Tryz.ntmps43
    go_wp2
    go_loopg [3] m (fun g i wr => ∃ k : Nat, i = .int .i64 k ∧ k + g = m + 2 ∧ (2 : Int) ≤ k ∧ (k : Int) ≤ 1000000 ∧ Hid (∀ e : Int, 2 ≤ e → e < k → (m : Int) % e ≠ 0) ∧ wr = w)
    case atStart => exact ⟨2, rfl, by omega, by omega, by omega, Lib.hid (fun e h1 h2 => by omega), rfl⟩
    case round =>
      obtain ⟨k, rfl, hk, hk2, hk6, hI, rfl⟩ := hrel
      obtain ⟨z, hz⟩ : ∃ z : Nat, k * k = z := ⟨_, rfl⟩
      have hzb : z ≤ 1000000 * 1000000 := by rw [← hz]; exact Nat.mul_le_mul (by omega) (by omega)
      have hzw : wrap64 ((k : Int) * (k : Int)) = (z : Int) := by rw [← Int.natCast_mul, hz]; exact IntWalk.wrap64_in _ (by omega)
      have HZ := Lib.hid hz
      clear hz
      by_cases hc : z ≤ m
      · have hcI : (z : Int) ≤ (m : Int) := by omega
        have hkm : Hid (k < m ∨ m < 4) := Lib.hid (by
          rcases Nat.lt_or_ge k m with h | h
          · exact .inl h
          · have h3 : k * k ≤ k * 1 := by rw [HZ.out]; omega
            have := Nat.le_of_mul_le_mul_left h3 (by omega)
            omega)
        have hk5 : k < 40000 := by
          rcases Nat.lt_or_ge k 40000 with h | h
          · exact h
          · have : 40000 * 40000 ≤ k * k := Nat.mul_le_mul h h
            rw [HZ.out] at this; omega
        by_cases hd : (m : Int) % (k : Int) = 0
        · have hb : ((m : Int) % (k : Int) == 0) = true := by simpa using hd
          have hkk : k < m := by
            rcases hkm.out with h | h
            · exact h
            · have : k * k ≤ 3 := by rw [HZ.out]; omega
              have h4 : 2 * 2 ≤ k * k := Nat.mul_le_mul (by omega) (by omega)
              omega
          have hn : Hid (¬ IsPr m) := Lib.hid (fun h => h.2 k hk2 (by omega) hd)
          clear hd hkm hk
          go_wp2
          go_ret
          exact ⟨false, rfl, by simp; exact hn.out, rfl⟩
        · have hb : ((m : Int) % (k : Int) == 0) = false := by simpa using hd
          have HS : Hid (∀ e : Int, 2 ≤ e → e < ((k + 1 : Nat) : Int) → (m : Int) % e ≠ 0) := Lib.hid (fun e h1 h2 => by
            rcases Int.lt_or_le e k with h | h
            · exact hI.out e h1 h
            · rw [show e = k from by omega]; exact hd)
          have hgk : 1 ≤ gk := by
            rcases hkm.out with h | h
            · omega
            · have : k * k ≤ 3 := by rw [HZ.out]; omega
              have h4 : 2 * 2 ≤ k * k := Nat.mul_le_mul (by omega) (by omega)
              omega
          clear hd hkm hI
          obtain ⟨gh, rfl⟩ : ∃ gh, gk = gh + 1 := ⟨gk - 1, by omega⟩
          go_wp2
          go_roundg gh
          case rel => exact ⟨k + 1, by go_num, by omega, by omega, by omega, HS, rfl⟩
          case measure => omega
      · have hcI : ¬ (z : Int) ≤ (m : Int) := by omega
        have hn : Hid (IsPr m) := Lib.hid ⟨by have := H2.out; omega, fun x hx hxm => by
          refine no_small (d := (k : Int)) hk2 ?_ hI.out x hx hxm
          have h3 : (m : Int) < (k : Int) * (k : Int) := by rw [← Int.natCast_mul, HZ.out]; omega
          exact Int.ediv_lt_of_lt_mul (by omega) h3⟩
        clear hI hk
        go_wp2
        go_ret
        exact ⟨true, rfl, by simp; exact hn.out, rfl⟩
set_option maxRecDepth 100000 in
set_option maxHeartbeats 2000000 in
theorem refGcd_c (a b : Int) (w : World) (ha : -999999999 ≤ a ∧ a ≤ 999999999) (hb : -999999999 ≤ b ∧ b ≤ 999999999) :
    Calls Tryz.prog 38 #[.int .i64 a, .int .i64 b] w fun e w' => e = .returned (.int .i64 (Int.gcd a b : Nat)) ∧ Below w.heap.size w w' := by
  have GC := Lib.hid (gcdR_c a.natAbs b.natAbs w (by omega) (by omega))
  have ea : max a (-a) = (a.natAbs : Int) := by omega
  have eb : max b (-b) = (b.natAbs : Int) := by omega
  have HA := Lib.hid ea
  have HB := Lib.hid eb
  clear ea eb
  go_enter Tryz.func38, Tryz.ntmps38
  go_wp2_with fail
  rw [HA.out, HB.out]
  refine GC.out.mono ?_
  rintro e w1 ⟨rfl, hB⟩
  go_wp2
  go_ret
  exact ⟨rfl, hB⟩
end Go.Proofs.YtneafcdfnhnpnaaGreatDoor
/- Contract of the reference: names. -/
namespace Go.Proofs.YtneafcdfnhnpnaaGreatDoor
open Go.RowKit Go.Lib

theorem ba_nil' {s : ByteArray} (h : s.size = 0) : s.data.toList = [] := List.length_eq_zero_iff.1 (by simpa using h)
theorem nameAt_iff (i : Nat) (c : UInt8) : nameAt i c ↔ (((97 ≤ (c.toNat : Int) ∧ (c.toNat : Int) ≤ 122) ∨ (65 ≤ (c.toNat : Int) ∧ (c.toNat : Int) ≤ 90)) ∨ (i ≠ 0 ∧ ((48 ≤ (c.toNat : Int) ∧ (c.toNat : Int) ≤ 57) ∨ (c.toNat : Int) = 95))) := by
  unfold nameAt isLet isDig
  simp only [decide_eq_true_eq]
  constructor
  · rintro (h | ⟨h1, h2⟩)
    · exact .inl h
    · exact .inr ⟨h1, by omega⟩
  · rintro (h | ⟨h1, h2⟩)
    · exact .inl h
    · exact .inr ⟨h1, by omega⟩
set_option maxRecDepth 100000 in
set_option maxHeartbeats 2000000 in
theorem refIsName_c (s : ByteArray) (w : World) (hs : s.size ≤ 4611686018427387904) :
    Calls Tryz.prog 33 #[.string s] w (namePost s w) := by
  by_cases h0 : s.size < 1
  · have hno : ¬ NameOk s.data.toList := fun h => h.1.1 (ba_nil' (by omega))
    have Hno := Lib.hid hno
    have hb : (s.size : Int) < 1 := by omega
    clear hno h0
    go_enter Tryz.func33, Tryz.ntmps33
    go_wp2
    go_ret
    exact ⟨false, rfl, by simp; exact Hno.out, Below.refl _ _⟩
  have hb0 : ¬ (s.size : Int) < 1 := by omega
  by_cases h24 : s.size ≤ 24
  · have hb1 : ¬ ((s.size : Int) > 24) := by omega
    have hnb : s.data.toList ≠ [] ∧ s.data.toList.length ≤ 24 := by
      have e : s.data.toList.length = s.size := by simp
      exact ⟨fun h => by rw [h] at e; simp at e; omega, by omega⟩
    have HNB := Lib.hid hnb
    clear hnb h0
    go_enter Tryz.func33, Tryz.ntmps33
    go_wp2
    go_loopg [3, 4, 5] s.size (fun g i _ _ wr => ∃ pos : Nat, i = .int .i64 pos ∧ pos + g = s.size ∧ Hid (nameTo s.data.toList pos) ∧ wr = w)
    case atStart => exact ⟨0, rfl, by omega, Lib.hid (fun i hi => by omega), rfl⟩
    case round =>
      obtain ⟨pos, rfl, hp, hd, rfl⟩ := hrel
      cases gk with
      | zero =>
        have hb : ¬ ((pos : Int) < (s.size : Int)) := by omega
        have hlen : s.data.toList.length = s.size := by simp
        have Hyes : Hid (NameOk s.data.toList) := Lib.hid ⟨HNB.out, fun i hi c hc => hd.out i (by omega) c hc⟩
        clear hd hlen
        go_wp2
        go_ret
        exact ⟨true, rfl, by simp; exact Hyes.out, Below.refl _ _⟩
      | succ gh =>
        have hlt : pos < s.size := by omega
        have hge := ba_get s pos hlt
        by_cases hN : nameAt pos s[pos]
        · have HR := Lib.hid (hd.out.succ hge hN)
          have hx := (nameAt_iff pos s[pos]).1 hN
          clear hd hge hN
          rcases hx with (⟨x1, x2⟩ | ⟨x1, x2⟩) | ⟨h3, (⟨x1, x2⟩ | x1)⟩
          all_goals (
            go_wp2
            go_roundg gh
            case rel => exact ⟨pos + 1, by go_num, by omega, HR, rfl⟩
            case measure => omega)
        · have Hno := Lib.hid (name_not hge hN)
          have hx : ¬ ((97 ≤ ((s[pos]).toNat : Int) ∧ ((s[pos]).toNat : Int) ≤ 122) ∨ (65 ≤ ((s[pos]).toNat : Int) ∧ ((s[pos]).toNat : Int) ≤ 90)) := fun hh => hN ((nameAt_iff pos s[pos]).2 (.inl hh))
          have hy : pos = 0 ∨ (pos ≠ 0 ∧ ¬ ((48 ≤ ((s[pos]).toNat : Int) ∧ ((s[pos]).toNat : Int) ≤ 57) ∨ ((s[pos]).toNat : Int) = 95)) := by
            by_cases hz : pos = 0
            · exact .inl hz
            · exact .inr ⟨hz, fun hh => hN ((nameAt_iff pos s[pos]).2 (.inr ⟨hz, hh⟩))⟩
          clear hd hge hN
          rcases hy with hy | ⟨hy, hz⟩
          · subst hy
            go_wp2
            all_goals (first
              | (go_ret; exact ⟨false, rfl, by simp; exact Hno.out, Below.refl _ _⟩)
              | (exfalso; rename_i hh; simp at hh; omega)
              | (exfalso; rename_i hh _; simp at hh; omega)
              | (exfalso; rename_i hh _ _; simp at hh; omega)
              | (exfalso; rename_i hh _ _ _; simp at hh; omega)
              | (exfalso; omega))
          · have hz5 : (((s[pos]).toNat : Int) == 95) = false := by simpa using (by omega : ¬ ((s[pos]).toNat : Int) = 95)
            have hp0 : ((pos : Int) == 0) = false := by simpa using hy
            go_wp2
            all_goals (first
              | (go_ret; exact ⟨false, rfl, by simp; exact Hno.out, Below.refl _ _⟩)
              | (exfalso; rename_i hh; simp at hh; omega)
              | (exfalso; rename_i hh _; simp at hh; omega)
              | (exfalso; rename_i hh _ _; simp at hh; omega)
              | (exfalso; rename_i hh _ _ _; simp at hh; omega)
              | (exfalso; omega))
  · have hb1 : ((s.size : Int) > 24) := by omega
    have hno : ¬ NameOk s.data.toList := fun h => h24 (by simpa using h.1.2)
    have Hno := Lib.hid hno
    clear hno h0 h24
    go_enter Tryz.func33, Tryz.ntmps33
    go_wp2
    go_ret
    exact ⟨false, rfl, by simp; exact Hno.out, Below.refl _ _⟩
end Go.Proofs.YtneafcdfnhnpnaaGreatDoor
/- What the law AlgebraIntegers needs of the program's functions, case by case. -/
namespace Go.Proofs.YtneafcdfnhnpnaaGreatDoor
open Go.RowKit Go.Lib

/-- the law's arguments -/
structure AiH (s : ByteArray) (a n : Int) (w : World) : Prop where
  hs : s.size ≤ 40
  ha : -9223372036854775808 ≤ a ∧ a ≤ 9223372036854775807
  hn : -9223372036854775808 ≤ n ∧ n ≤ 9223372036854775807
  hG : Glob w
def aiGoal (s : ByteArray) (a n : Int) (w : World) : Prop :=
  Calls Tryz.prog 4 #[.string s, .int .i64 a, .int .i64 n] w fun e w' => e = .returned (.bool true) ∧ Below w.heap.size w w'
def two (x y : Value) (w : World) (e : Ending) (w' : World) : Prop := e = .returned (.tuple #[x, y]) ∧ Below w.heap.size w w'
theorem bt9 {w a b : World} (h : Below w.heap.size w a) (k : Below a.heap.size a b) : Hid (Below w.heap.size w b) := Lib.hid (h.trans (k.mono h.size))
variable {a n : Int}
theorem gcd_far (h : far a ∨ far n) (w : World) : Calls Tryz.prog 36 #[.int .i64 a, .int .i64 n] w (two (.int .i64 0) (.int .i64 3) w) :=
  (Gcd_c a n w).mono fun e w' k => ⟨by have h1 := k.1; rw [if_pos h] at h1; exact h1, k.2⟩
theorem gcd_in (h : ¬ (far a ∨ far n)) (w : World) : Calls Tryz.prog 36 #[.int .i64 a, .int .i64 n] w (two (.int .i64 (Int.gcd a n)) (.int .i64 0) w) :=
  (Gcd_c a n w).mono fun e w' k => ⟨by have h1 := k.1; rw [if_neg h] at h1; exact h1, k.2⟩
theorem inv_far (h : far a ∨ n < 1 ∨ 999999999 < n) (w : World) : Calls Tryz.prog 39 #[.int .i64 a, .int .i64 n] w (two (.int .i64 0) (.int .i64 3) w) :=
  (Inverse_c a n w).mono fun e w' k => ⟨by have h1 := k.1; rw [if_pos h] at h1; exact h1, k.2⟩
theorem inv_no (h : ¬ (far a ∨ n < 1 ∨ 999999999 < n)) (hc : Int.gcd a n ≠ 1) (w : World) : Calls Tryz.prog 39 #[.int .i64 a, .int .i64 n] w (two (.int .i64 0) (.int .i64 7) w) :=
  (Inverse_c a n w).mono fun e w' k => ⟨by have h1 := k.1; rw [if_neg h, if_neg hc] at h1; exact h1, k.2⟩
def invIn (a n : Int) (w : World) (e : Ending) (w' : World) : Prop := (∃ x : Int, e = .returned (.tuple #[.int .i64 x, .int .i64 0]) ∧ 0 ≤ x ∧ x < n ∧ n ∣ (x * a - 1)) ∧ Below w.heap.size w w'
theorem inv_in (h : ¬ (far a ∨ n < 1 ∨ 999999999 < n)) (hc : Int.gcd a n = 1) (w : World) : Calls Tryz.prog 39 #[.int .i64 a, .int .i64 n] w (invIn a n w) :=
  (Inverse_c a n w).mono fun e w' k => ⟨by have h1 := k.1; rw [if_neg h, if_pos hc] at h1; exact h1, k.2⟩
theorem of_zero (ha : -9223372036854775808 ≤ a ∧ a ≤ 9223372036854775807) (hn : -9223372036854775808 ≤ n ∧ n ≤ 9223372036854775807) (h : n = 0) (w : World) (hG : Glob w) : Calls Tryz.prog 34 #[.int .i64 a, .int .i64 n] w (two (.string ⟨#[]⟩) (.int .i64 6) w) :=
  (Of_c a n w ha hn hG).mono fun e w' k => ⟨by have h1 := k.1; rw [if_pos h] at h1; exact h1, k.2⟩
theorem of_some (ha : -9223372036854775808 ≤ a ∧ a ≤ 9223372036854775807) (hn : -9223372036854775808 ≤ n ∧ n ≤ 9223372036854775807) (h : n ≠ 0) (hl : ¬ tooLong ((a : Rat) / (n : Rat))) (w : World) (hG : Glob w) :
    Calls Tryz.prog 34 #[.int .i64 a, .int .i64 n] w (two (.string ⟨(rtext ((a : Rat) / (n : Rat))).toArray⟩) (.int .i64 0) w) :=
  (Of_c a n w ha hn hG).mono fun e w' k => ⟨by have h1 := k.1; rw [if_neg h, writeEnd_ok hl] at h1; exact h1, k.2⟩
def prIn (n : Int) (w : World) (e : Ending) (w' : World) : Prop := (∃ b : Bool, e = .returned (.tuple #[.bool b, .int .i64 0]) ∧ (b = true ↔ IsPr n)) ∧ w = w'
theorem pr_in (h : 0 ≤ n ∧ n ≤ 999999999) (w : World) : Calls Tryz.prog 42 #[.int .i64 n] w (prIn n w) :=
  (IsPrime_c n w).mono fun e w' k => ⟨by have h1 := k.1; rw [if_pos h] at h1; exact h1, k.2⟩
def prOut (w : World) (e : Ending) (w' : World) : Prop := e = .returned (.tuple #[.bool false, .int .i64 3]) ∧ w = w'
theorem pr_out (h : ¬ (0 ≤ n ∧ n ≤ 999999999)) (w : World) : Calls Tryz.prog 42 #[.int .i64 n] w (prOut w) :=
  (IsPrime_c n w).mono fun e w' k => ⟨by have h1 := k.1; rw [if_neg h] at h1; exact h1, k.2⟩
def farIs (b : Bool) (w : World) (e : Ending) (w' : World) : Prop := e = .returned (.bool b) ∧ w = w'
theorem far_t (h : a < -999999999 ∨ 999999999 < a) (w : World) : Calls Tryz.prog 37 #[.int .i64 a] w (farIs true w) := by
  have := far_c a w; rw [decide_eq_true h] at this; exact this
theorem far_f (h : ¬ (a < -999999999 ∨ 999999999 < a)) (w : World) : Calls Tryz.prog 37 #[.int .i64 a] w (farIs false w) := by
  have := far_c a w; rw [decide_eq_false h] at this; exact this
theorem rp_in {n : Int} (h : 0 ≤ n ∧ n ≤ 999999999) (w : World) : Calls Tryz.prog 43 #[.int .i64 n] w (prAns n w) := by
  obtain ⟨m, rfl⟩ : ∃ m : Nat, n = (m : Int) := ⟨n.toNat, by omega⟩
  exact refIsPrime_c m w h.2
end Go.Proofs.YtneafcdfnhnpnaaGreatDoor
