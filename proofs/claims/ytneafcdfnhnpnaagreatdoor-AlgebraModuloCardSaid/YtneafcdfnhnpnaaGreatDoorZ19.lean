/- Contract: the self-check. -/
import Derived.Test.YtneafcdfnhnpnaaGreatDoorZ18
import Derived.Test.YtneafcdfnhnpnaaGreatDoorZ16
import Derived.Test.YtneafcdfnhnpnaaGreatDoorZ17
import Derived.Test.YtneafcdfnhnpnaaGreatDoorZ11
import Derived.Deep.RegionWith
import Derived.Deep.DrawnRows
namespace Go.Proofs.YtneafcdfnhnpnaaGreatDoor
open Go.RowKit Go.Lib

set_option maxRecDepth 100000 in
set_option maxHeartbeats 8000000 in
theorem awake_c (w : World) (hG : Glob w) : Calls Tryz.prog 15 #[] w fun e w' => e = .returned (.bool true) ∧ Below w.heap.size w w' := by
  have HG := Lib.hid hG
  clear hG
  go_enter Tryz.func15, Tryz.ntmps15
  go_wp2_with fail
  refine (aw_Of _ HG.out).mono ?_
  rintro e w1 ⟨rfl, hB⟩
  have HB1 := Lib.hid hB
  clear hB
  go_wp2_with fail
  refine (aw_Gcd _).mono ?_
  rintro e w2 ⟨rfl, hB⟩
  have HB2 := Lib.hid (bT HB1.out hB)
  clear hB HB1
  go_wp2_with fail
  refine (aw_Inverse _).mono ?_
  rintro e w3 ⟨rfl, hB⟩
  have HB3 := Lib.hid (bT HB2.out hB)
  clear hB HB2
  go_wp2_with fail
  have HP := Lib.hid (litI w3 3 pA 5 rfl (by decide))
  refine (aw_Cycles _ _ HP.out).mono ?_
  rintro e w4 ⟨⟨vc, rfl, hvc⟩, hB⟩
  have HC := Lib.hid hvc
  have HP4 := Lib.hid (HP.out.below hB)
  have HB4 := Lib.hid (bT (bA HB3.out _) hB)
  clear hB HB3 HP hvc
  go_wp2_with fail
  refine (aw_Sign _ _ HP4.out).mono ?_
  rintro e w5 ⟨rfl, hB⟩
  have HP5 := Lib.hid (HP4.out.below hB)
  have HB5 := Lib.hid (bT HB4.out hB)
  have S5 := Lib.hid hB
  clear hB HB4 HP4
  go_wp2_with fail
  refine (aw_Power _ _ HP5.out).mono ?_
  rintro e w6 ⟨⟨vq, rfl, hvq⟩, hB⟩
  have HQ := Lib.hid hvq
  have HB6 := Lib.hid (bT HB5.out hB)
  have S6 := Lib.hid (bT S5.out hB)
  clear hB HB5 HP5 S5 hvq
  go_wp2_with fail
  refine (aw_Rank _ _ (litI w6 3 [2, 0, 1] 3 rfl (by decide)) (HG.out.below (bA HB6.out _))).mono ?_
  rintro e w7 ⟨rfl, hB⟩
  have HB7 := Lib.hid (bT (bA HB6.out _) hB)
  have R7 := Lib.hid (bT (bA (Below.refl _ w6) _) hB)
  clear hB HB6
  go_wp2_with fail
  refine (aw_Unrank _ (HG.out.below HB7.out)).mono ?_
  rintro e w8 ⟨⟨vu, rfl, hvu⟩, hB⟩
  have HU := Lib.hid hvu
  have HB8 := Lib.hid (bT HB7.out hB)
  have R8 := Lib.hid (bT R7.out hB)
  clear hB HB7 R7 hvu
  go_wp2_with fail
  refine (aw_Kernel _ _ (litT2 w8 _ _ [[49], [50], [51]] [[50], [52], [55]] 3 rfl rfl (by decide)) (HG.out.below (bA (bA (bA HB8.out _) _) _))).mono ?_
  rintro e w9 ⟨⟨vk, rfl, hvk⟩, hB⟩
  have HK := Lib.hid hvk
  have HB9 := Lib.hid (bT (bA (bA (bA HB8.out _) _) _) hB)
  have R9 := Lib.hid (bT (bA (bA (bA (Below.refl _ w8) _) _) _) hB)
  clear hB HB8 hvk
  go_wp2_with fail
  refine (aw_Solve _ _ _ ((litT2 w9 _ _ [[49], [50], [51]] [[50], [52], [55]] 3 rfl rfl (by decide)).more _) (litXat _ _ (size3 _ _ _ _) _ [[52], [57]] 2 rfl (by decide)) (HG.out.below (bA (bA (bA (bA HB9.out _) _) _) _))).mono ?_
  rintro e w10 ⟨⟨vx, rfl, hvx⟩, hB⟩
  have HX := Lib.hid hvx
  have HB10 := Lib.hid (bT (bA (bA (bA (bA HB9.out _) _) _) _) hB)
  have R10 := Lib.hid (bT (bA (bA (bA (bA (Below.refl _ w9) _) _) _) _) hB)
  clear hB HB9 hvx
  go_wp2_with fail
  refine (aw_Det _ _ (litT2 w10 _ _ [[49], [50]] [[51], [52]] 2 rfl rfl (by decide)) (HG.out.below (bA (bA (bA HB10.out _) _) _))).mono ?_
  rintro e w11 ⟨rfl, hB⟩
  have HB11 := Lib.hid (bT (bA (bA (bA HB10.out _) _) _) hB)
  have R11 := Lib.hid (bT (bA (bA (bA (Below.refl _ w10) _) _) _) hB)
  clear hB HB10
  go_wp2_with fail
  refine (aw_KerM _ _ (litS2 w11 _ _ [1, 2] [3, 4] 2 2 rfl rfl (by decide) (by decide))).mono ?_
  rintro e w12 ⟨⟨vm, rfl, hvm⟩, hB⟩
  have HM := Lib.hid hvm
  have HB12 := Lib.hid (bT (bA (bA (bA HB11.out _) _) _) hB)
  have R12 := Lib.hid (bT (bA (bA (bA (Below.refl _ w11) _) _) _) hB)
  clear hB HB11 hvm
  go_wp2_with fail
  have K12 := Lib.hid (bT (bT (bT R9.out R10.out) R11.out) R12.out)
  refine (aw_st [[0, 1, 2], [3, 4]] _ _ _ ((((HC.out.below (bT (bT S6.out R8.out) K12.out)).more _).more _).more _) (litS2 w12 _ _ [0, 1, 2] [3, 4] 3 2 rfl rfl (by decide) (by decide)).wide).mono ?_
  rintro e w13 ⟨rfl, hB⟩
  have HB13 := Lib.hid (bT (bA (bA (bA HB12.out _) _) _) hB)
  have R13 := Lib.hid (bT (bA (bA (bA (Below.refl _ w12) _) _) _) hB)
  clear hB HB12 HC
  go_wp2_with fail
  refine (aw_si [2, 0, 1, 3, 4] _ _ _ ((HQ.out.below (bT (bT R8.out K12.out) R13.out)).more _) (litI w13 _ [2, 0, 1, 3, 4] 5 rfl (by decide)).wide).mono ?_
  rintro e w14 ⟨rfl, hB⟩
  have HB14 := Lib.hid (bT (bA HB13.out _) hB)
  have R14 := Lib.hid (bT R13.out (bT (bA (Below.refl _ w13) _) hB))
  clear hB HB13 HQ R13
  go_wp2_with fail
  refine (aw_si [3, 2, 1, 0] _ _ _ ((HU.out.below (bT K12.out R14.out)).more _) (litI w14 _ [3, 2, 1, 0] 4 rfl (by decide)).wide).mono ?_
  rintro e w15 ⟨rfl, hB⟩
  have HB15 := Lib.hid (bT (bA HB14.out _) hB)
  have R15 := Lib.hid (bT R14.out (bT (bA (Below.refl _ w14) _) hB))
  clear hB HB14 HU R14
  go_wp2_with fail
  refine (aw_st [[0, 1]] _ _ _ (((HM.out.below R15.out).more _).more _) (litW1 w15 _ _ [0, 1] 2 rfl (by decide))).mono ?_
  rintro e w16 ⟨rfl, hB⟩
  have HB16 := Lib.hid (bT (bA (bA HB15.out _) _) hB)
  have R16 := Lib.hid (bT R15.out (bT (bA (bA (Below.refl _ w15) _) _) hB))
  clear hB HB15 HM R15
  go_wp2_with fail
  refine (aw_Refute _ _ _ _ (((litT2 w16 _ _ [[49], [49]] [[50], [50]] 2 rfl rfl (by decide)).more _).more _) ((litXat _ _ (size3 _ _ _ _) _ [[49], [51]] 2 rfl (by decide)).more _) (litXat _ _ (size4 _ _ _ _ _) _ [[45, 50], [49]] 2 rfl (by decide)) (HG.out.below (bA (bA (bA (bA (bA HB16.out _) _) _) _) _))).mono ?_
  rintro e w17 ⟨rfl, hB⟩
  have HB17 := Lib.hid (bT (bA (bA (bA (bA (bA HB16.out _) _) _) _) _) hB)
  have R17 := Lib.hid (bT R16.out (bT (bA (bA (bA (bA (bA (Below.refl _ w16) _) _) _) _) _) hB))
  clear hB HB16 R16
  go_wp2_with fail
  refine (aw_sm [[[49], [45, 49, 47, 50], [48]]] _ _ _ (((HK.out.below (bT (bT (bT R10.out R11.out) R12.out) R17.out)).more _).more _) (litT1 w17 _ _ [[49], [45, 49, 47, 50], [48]] 3 rfl (by decide))).mono ?_
  rintro e w18 ⟨rfl, hB⟩
  have HB18 := Lib.hid (bT (bA (bA HB17.out _) _) hB)
  have R18 := Lib.hid (bT R17.out (bT (bA (bA (Below.refl _ w17) _) _) hB))
  clear hB HB17 HK R17
  go_wp2_with fail
  refine (aw_sr [[49], [48], [49]] _ _ _ ((HX.out.below (bT (bT R11.out R12.out) R18.out)).more _) (litX w18 _ [[49], [48], [49]] 3 rfl (by decide))).mono ?_
  rintro e w19 ⟨rfl, hB⟩
  have HB19 := Lib.hid (bT (bA HB18.out _) hB)
  clear hB HB18 HX R18
  go_wp2_with fail
  refine (aw_n1 _).mono ?_
  rintro e w20 ⟨rfl, hB⟩
  have HB20 := Lib.hid (bT HB19.out hB)
  clear hB HB19
  go_wp2_with fail
  refine (aw_n2 _).mono ?_
  rintro e w21 ⟨rfl, hB⟩
  have HB21 := Lib.hid (bT HB20.out hB)
  clear hB HB20
  go_wp2
  go_ret
  exact ⟨rfl, HB21.out⟩
end Go.Proofs.YtneafcdfnhnpnaaGreatDoor
/- The cycles of a permutation: what the program's way of finding them gives. Plain Lean. -/
namespace Go.Proofs.YtneafcdfnhnpnaaGreatDoor
open Go.RowKit Go.Lib

/-- where an element goes -/
def ph (p : List Int) (i : Nat) : Nat := (p[i]?.getD 0).toNat
def it (p : List Int) : Nat → Nat → Nat
  | 0, i => i
  | t + 1, i => ph p (it p t i)
theorem it_add (p : List Int) (a b i : Nat) : it p (a + b) i = it p a (it p b i) := by
  induction a with
  | zero => rw [Nat.zero_add]; rfl
  | succ a ih => rw [show a + 1 + b = (a + b) + 1 by omega, it, it, ih]
section
variable {p : List Int} (hp : PermL p)
include hp
theorem ph_val {i : Nat} (hi : i < p.length) : p[i]? = some (ph p i : Int) := by
  have h := hp.1 p[i] (List.getElem_mem hi)
  unfold ph
  rw [List.getElem?_eq_getElem hi, Option.getD_some, Int.toNat_of_nonneg h.1]
theorem ph_lt {i : Nat} (hi : i < p.length) : ph p i < p.length := by
  have h := hp.1 p[i] (List.getElem_mem hi)
  have := ph_val hp hi
  rw [List.getElem?_eq_getElem hi] at this
  have := Option.some.inj this
  omega
theorem ph_inj {i j : Nat} (hi : i < p.length) (hj : j < p.length) (h : ph p i = ph p j) : i = j := by
  have h1 := ph_val hp hi
  have h2 := ph_val hp hj
  rw [h] at h1
  rw [List.getElem?_eq_getElem hi] at h1
  rw [List.getElem?_eq_getElem hj] at h2
  exact (List.getElem_inj hp.2).1 (Option.some.inj (h1.trans h2.symm))
theorem it_lt {i : Nat} (hi : i < p.length) : ∀ t, it p t i < p.length
  | 0 => hi
  | t + 1 => ph_lt hp (it_lt hi t)
theorem it_cancel {i j : Nat} (hi : i < p.length) (hj : j < p.length) : ∀ t, it p t i = it p t j → i = j
  | 0, h => h
  | t + 1, h => it_cancel hi hj t (ph_inj hp (it_lt hp hi t) (it_lt hp hj t) h)
theorem it_back {i : Nat} (hi : i < p.length) {u t : Nat} (hu : u ≤ t) (h : it p u i = it p t i) : it p (t - u) i = i := by
  refine (it_cancel hp hi (it_lt hp hi _) u ?_).symm
  rw [← it_add, show u + (t - u) = t by omega]; exact h
end
/-- seen, as the program asks it -/
def Sn (s : List Bool) (j : Nat) : Prop := s[j]?.getD true = true
theorem sn_set {s : List Bool} {i j : Nat} (_hi : i < s.length) (hj : j < s.length) : Sn (s.set i true) j ↔ Sn s j ∨ i = j := by
  unfold Sn
  rw [List.getElem?_set]
  by_cases h : i = j
  · subst h; simp [hj]
  · rw [if_neg h]; simp [h]
theorem unseen_zero {s : List Bool} (h : unseen s = 0) {j : Nat} (hj : j < s.length) : Sn s j := by
  unfold unseen at h
  have := List.countP_eq_zero.1 h (s[j]) (List.getElem_mem hj)
  unfold Sn
  rw [List.getElem?_eq_getElem hj]
  simpa using this
/-- a cycle from k on, of m elements -/
def orb (p : List Int) (m k : Nat) : List Int := (List.range m).map fun t => (it p t k : Int)
/-- m is the least number of steps that lead back to k -/
def Per (p : List Int) (m k : Nat) : Prop := k < p.length ∧ 0 < m ∧ it p m k = k ∧ ∀ u, 0 < u → u < m → it p u k ≠ k
def Closed (p : List Int) (s : List Bool) : Prop := ∀ j, j < p.length → Sn s (ph p j) → Sn s j

theorem not_sn_it {p : List Int} (hp : PermL p) {s : List Bool} (hc : Closed p s) {k : Nat} (hk : k < p.length) (h0 : ¬ Sn s k) : ∀ t, ¬ Sn s (it p t k)
  | 0 => h0
  | t + 1 => fun h => not_sn_it hp hc hk h0 t (hc _ (it_lt hp hk t) h)
theorem follow_it {p : List Int} (hp : PermL p) {s0 : List Bool} (hc : Closed p s0) {k : Nat} (hk : k < p.length) (h0 : ¬ Sn s0 k) :
    ∀ (f t : Nat) (s : List Bool), unseen s ≤ f → s.length = p.length → (∀ j, j < p.length → (Sn s j ↔ Sn s0 j ∨ ∃ u, u < t ∧ it p u k = j)) → (∀ u, 0 < u → u < t → it p u k ≠ k) →
    ∃ d, Per p (t + d) k ∧ (follow p f s (it p t k)).1 = (List.range d).map (fun u => (it p (t + u) k : Int)) ∧ (follow p f s (it p t k)).2.length = p.length ∧
      ∀ j, j < p.length → (Sn (follow p f s (it p t k)).2 j ↔ Sn s0 j ∨ ∃ u, u < t + d ∧ it p u k = j) := by
  have stop : ∀ (t : Nat) (s : List Bool), (∀ j, j < p.length → (Sn s j ↔ Sn s0 j ∨ ∃ u, u < t ∧ it p u k = j)) → (∀ u, 0 < u → u < t → it p u k ≠ k) → Sn s (it p t k) → Per p t k := by
    intro t s hs hm h
    rcases (hs _ (it_lt hp hk t)).1 h with h1 | ⟨u, hu, he⟩
    · exact absurd h1 (not_sn_it hp hc hk h0 t)
    · have hb := it_back hp hk (Nat.le_of_lt hu) he
      have hu0 : u = 0 := by
        rcases Nat.eq_zero_or_pos u with h | h
        · exact h
        · exact absurd hb (hm (t - u) (by omega) (by omega))
      subst hu0
      exact ⟨hk, by omega, he.symm, hm⟩
  intro f
  induction f with
  | zero =>
    intro t s hu hl hs hm
    have h := stop t s hs hm (unseen_zero (by omega) (by rw [hl]; exact it_lt hp hk t))
    exact ⟨0, h, rfl, hl, hs⟩
  | succ f ih =>
    intro t s hu hl hs hm
    by_cases h : Sn s (it p t k)
    · have h2 := stop t s hs hm h
      rw [follow_seen p _ s _ h]
      exact ⟨0, h2, rfl, hl, hs⟩
    · have hlt := it_lt hp hk t
      have hsf : s[it p t k]? = some false := by
        unfold Sn at h
        rw [List.getElem?_eq_getElem (by omega)] at h ⊢
        simpa using h
      have hun := unseen_set s _ hsf
      have hne : ¬ (s[it p t k]?.getD true = true) := h
      obtain ⟨d, h1, h2, h3, h4⟩ := ih (t + 1) (s.set (it p t k) true) (by omega) (by simpa using hl) (fun j hj => by
          rw [sn_set (by omega) (by omega), hs j hj]
          constructor
          · rintro ((h | ⟨u, hu, he⟩) | h)
            · exact .inl h
            · exact .inr ⟨u, by omega, he⟩
            · exact .inr ⟨t, by omega, h⟩
          · rintro (h | ⟨u, hu, he⟩)
            · exact .inl (.inl h)
            · rcases Nat.lt_or_ge u t with h | h
              · exact .inl (.inr ⟨u, h, he⟩)
              · have : u = t := by omega
                subst this; exact .inr he) (fun u hu0 hu => by
          rcases Nat.lt_or_ge u t with h2 | h2
          · exact hm u hu0 h2
          · have : u = t := by omega
            subst this
            intro he
            exact h ((hs _ hlt).2 (.inr ⟨0, hu0, he.symm⟩)))
      rw [follow, if_neg hne]
      have hph : (p[it p t k]?.getD 0).toNat = it p (t + 1) k := rfl
      rw [hph]
      refine ⟨d + 1, by rw [show t + (d + 1) = t + 1 + d by omega]; exact h1, ?_, h3, ?_⟩
      · simp only
        rw [h2, List.range_succ_eq_map, List.map_cons, List.map_map]
        congr 1
        refine List.map_congr_left fun u _ => ?_
        simp only [Function.comp_apply]
        rw [show t + 1 + u = t + (u + 1) by omega]
      · intro j hj
        rw [h4 j hj, show t + (d + 1) = t + 1 + d by omega]
/-- what holds of the cycles that the first k starts give -/
structure CycTo (p : List Int) (k : Nat) (cs : List (List Int)) (s : List Bool) : Prop where
  len : s.length = p.length
  closed : Closed p s
  cyc : ∀ c ∈ cs, ∃ m i, c = orb p m i ∧ Per p m i
  seen : ∀ j, j < p.length → (Sn s j ↔ ∃ c ∈ cs, (j : Int) ∈ c)
  starts : ∀ j, j < k → j < p.length → Sn s j
  apart : cs.Pairwise fun c d => ∀ x ∈ c, x ∉ d
theorem mem_orb {p : List Int} {m k : Nat} {x : Int} : x ∈ orb p m k ↔ ∃ u, u < m ∧ (it p u k : Int) = x := by
  unfold orb; simp [List.mem_map, List.mem_range]
/-- a new cycle, as the program finds it -/
theorem follow_new {p : List Int} (hp : PermL p) {s : List Bool} (hl : s.length = p.length) (hc : Closed p s) {k : Nat} (hk : k < p.length) (h0 : ¬ Sn s k) :
    ∃ m, Per p m k ∧ (follow p p.length s k).1 = orb p m k ∧ (follow p p.length s k).2.length = p.length ∧ ∀ j, j < p.length → (Sn (follow p p.length s k).2 j ↔ Sn s j ∨ ∃ u, u < m ∧ it p u k = j) := by
  obtain ⟨d, h1, h2, h3, h4⟩ := follow_it hp hc hk h0 p.length 0 s (by rw [← hl]; exact unseen_le s) hl (fun j hj => by simp) (fun u hu hu2 => by omega)
  rw [Nat.zero_add] at h1 h4
  exact ⟨d, h1, h2.trans (List.map_congr_left fun u _ => by rw [Nat.zero_add]), h3, h4⟩
theorem cycTo_all {p : List Int} (hp : PermL p) : ∀ k, k ≤ p.length → CycTo p k (cycTo p k).1 (cycTo p k).2
  | 0, _ => by
    have hf : ∀ j, j < p.length → ¬ Sn (List.replicate p.length false) j := fun j hj h => by
      unfold Sn at h; rw [List.getElem?_replicate, if_pos hj] at h; cases h
    refine ⟨by simp [cycTo], fun j hj h => absurd h (hf _ (ph_lt hp hj)), fun c hc => by simp [cycTo] at hc, fun j hj => ?_, fun j hj => by omega, by simp [cycTo]⟩
    constructor
    · intro h; exact absurd h (hf j hj)
    · rintro ⟨c, hc, _⟩; simp [cycTo] at hc
  | k + 1, hk => by
    have ih := cycTo_all hp k (by omega)
    by_cases h : Sn (cycTo p k).2 k
    · have e : cycTo p (k + 1) = cycTo p k := by rw [cycTo]; exact if_pos h
      rw [e]
      exact ⟨ih.len, ih.closed, ih.cyc, ih.seen, fun j hj hj2 => by
        rcases Nat.lt_or_ge j k with h1 | h1
        · exact ih.starts j h1 hj2
        · have : j = k := by omega
          subst this; exact h, ih.apart⟩
    · have e : cycTo p (k + 1) = ((cycTo p k).1 ++ [(follow p p.length (cycTo p k).2 k).1], (follow p p.length (cycTo p k).2 k).2) := by rw [cycTo]; exact if_neg h
      obtain ⟨m, h1, h2, h3, h4⟩ := follow_new hp ih.len ih.closed (by omega) h
      rw [e]
      refine ⟨h3, ?_, ?_, ?_, ?_, ?_⟩
      · intro j hj hs
        rw [h4 j hj]
        rcases (h4 _ (ph_lt hp hj)).1 hs with h5 | ⟨u, hu, he⟩
        · exact .inl (ih.closed j hj h5)
        · rcases Nat.eq_zero_or_pos u with h6 | h6
          · subst h6
            obtain ⟨m', rfl⟩ : ∃ m', m = m' + 1 := ⟨m - 1, by have := h1.2.1; omega⟩
            have h7 : ph p (it p m' k) = ph p j := h1.2.2.1.trans he
            exact .inr ⟨m', by omega, ph_inj hp (it_lt hp (by omega) m') hj h7⟩
          · obtain ⟨u', rfl⟩ : ∃ u', u = u' + 1 := ⟨u - 1, by omega⟩
            exact .inr ⟨u', by omega, ph_inj hp (it_lt hp (by omega) u') hj he⟩
      · intro c hc
        rcases List.mem_append.1 hc with h5 | h5
        · exact ih.cyc c h5
        · rw [List.mem_singleton] at h5
          exact ⟨m, k, by rw [h5, h2], h1⟩
      · intro j hj
        rw [h4 j hj, ih.seen j hj]
        constructor
        · rintro (⟨c, hc, hm⟩ | ⟨u, hu, he⟩)
          · exact ⟨c, List.mem_append_left _ hc, hm⟩
          · exact ⟨_, List.mem_append_right _ (List.mem_singleton.2 rfl), by rw [h2, mem_orb]; exact ⟨u, hu, by rw [he]⟩⟩
        · rintro ⟨c, hc, hm⟩
          rcases List.mem_append.1 hc with h5 | h5
          · exact .inl ⟨c, h5, hm⟩
          · rw [List.mem_singleton] at h5
            rw [h5, h2, mem_orb] at hm
            obtain ⟨u, hu, he⟩ := hm
            exact .inr ⟨u, hu, by omega⟩
      · intro j hj hj2
        rw [h4 j hj2]
        rcases Nat.lt_or_ge j k with h5 | h5
        · exact .inl (ih.starts j h5 hj2)
        · have : j = k := by omega
          exact .inr ⟨0, h1.2.1, this.symm⟩
      · rw [List.pairwise_append]
        refine ⟨ih.apart, by simp, fun c hc d hd x hx hxd => ?_⟩
        rw [List.mem_singleton] at hd
        rw [hd, h2, mem_orb] at hxd
        obtain ⟨u, hu, rfl⟩ := hxd
        have h6 := it_lt hp (i := k) (by omega) u
        have := (ih.seen _ h6).2 ⟨c, hc, hx⟩
        exact not_sn_it hp ih.closed (by omega) h u this
theorem cycs_all {p : List Int} (hp : PermL p) : CycTo p p.length (cycs p) (cycTo p p.length).2 := cycTo_all hp p.length (Nat.le_refl _)
theorem cycs_cover {p : List Int} (hp : PermL p) {j : Nat} (hj : j < p.length) : ∃ c ∈ cycs p, (j : Int) ∈ c :=
  ((cycs_all hp).seen j hj).1 ((cycs_all hp).starts j hj hj)
end Go.Proofs.YtneafcdfnhnpnaaGreatDoor
/- The sign of a permutation by its exchanges is that of its cycles. Plain Lean. -/
namespace Go.Proofs.YtneafcdfnhnpnaaGreatDoor
open Go.RowKit Go.Lib

/-- whether x and what stands behind it are an odd number of exchanges -/
def cx (x : Int) : List Int → Bool
  | [] => false
  | y :: l => xor (decide (y < x)) (cx x l)
/-- whether what stands ahead of x is exchanged with it an odd number of times -/
def cy (x : Int) : List Int → Bool
  | [] => false
  | y :: l => xor (decide (x < y)) (cy x l)
def par : List Int → Bool
  | [] => false
  | x :: l => xor (cx x l) (par l)
/-- exchanges between two lists -/
def cross : List Int → List Int → Bool
  | [], _ => false
  | a :: A, L => xor (cx a L) (cross A L)
theorem cx_append (x : Int) : ∀ A B, cx x (A ++ B) = xor (cx x A) (cx x B)
  | [], B => by simp [cx]
  | a :: A, B => by rw [List.cons_append, cx, cx, cx_append x A B, Bool.xor_assoc]
theorem par_append : ∀ A B, par (A ++ B) = xor (xor (par A) (cross A B)) (par B)
  | [], B => by simp [par, cross]
  | a :: A, B => by
    rw [List.cons_append, par, par, cross, cx_append, par_append A B]
    cases cx a A <;> cases cx a B <;> cases par A <;> cases cross A B <;> cases par B <;> rfl
theorem cross_cons (y : Int) (L : List Int) : ∀ A, cross A (y :: L) = xor (cy y A) (cross A L)
  | [] => rfl
  | a :: A => by
    rw [cross, cross, cy, cx, cross_cons y L A]
    cases decide (y < a) <;> cases cx a L <;> cases cy y A <;> cases cross A L <;> rfl
theorem cross_append (A B C : List Int) : cross A (B ++ C) = xor (cross A B) (cross A C) := by
  induction A with
  | nil => rfl
  | cons a A ih => rw [cross, cross, cross, cx_append, ih]; cases cx a B <;> cases cx a C <;> cases cross A B <;> cases cross A C <;> rfl
theorem cx_cy (x : Int) : ∀ B, x ∉ B → xor (cx x B) (cy x B) = decide (B.length % 2 = 1)
  | [], _ => rfl
  | b :: B, h => by
    have hb : x ≠ b := fun e => h (e ▸ List.mem_cons_self)
    have ih := cx_cy x B (fun e => h (List.mem_cons_of_mem _ e))
    rw [cx, cy, List.length_cons]
    have h1 : decide ((B.length + 1) % 2 = 1) = !decide (B.length % 2 = 1) := by
      by_cases h2 : B.length % 2 = 1
      · rw [decide_eq_true h2, decide_eq_false (by omega)]; rfl
      · rw [decide_eq_false h2, decide_eq_true (by omega)]; rfl
    rw [h1, ← ih]
    rcases Int.lt_or_lt_of_ne hb with h3 | h3
    · rw [decide_eq_false (by omega : ¬ b < x), decide_eq_true h3]; cases cx x B <;> cases cy x B <;> rfl
    · rw [decide_eq_true h3, decide_eq_false (by omega : ¬ x < b)]; cases cx x B <;> cases cy x B <;> rfl
theorem cross_swap (x y : Int) (B C : List Int) : ∀ A, cross A (x :: (B ++ y :: C)) = cross A (y :: (B ++ x :: C))
  | [] => rfl
  | a :: A => by
    rw [cross, cross, cross_swap x y B C A]
    congr 1
    rw [cx, cx, cx_append, cx_append, cx, cx]
    cases decide (x < a) <;> cases decide (y < a) <;> cases cx a B <;> cases cx a C <;> rfl
theorem par_swap0 (B C : List Int) (x y : Int) (hxy : x ≠ y) (hx : x ∉ B) (hy : y ∉ B) : par (x :: (B ++ y :: C)) = !(par (y :: (B ++ x :: C))) := by
  have h1 := cx_cy x B hx
  have h2 := cx_cy y B hy
  have h3 : decide (y < x) = !decide (x < y) := by
    rcases Int.lt_or_lt_of_ne hxy with h | h
    · rw [decide_eq_false (by omega : ¬ y < x), decide_eq_true h]; rfl
    · rw [decide_eq_true h, decide_eq_false (by omega : ¬ x < y)]; rfl
  rw [par, par, cx_append, cx_append, par_append, par_append, cx, cx, cross_cons, cross_cons, par, par, h3]
  generalize decide (B.length % 2 = 1) = e at *
  generalize decide (x < y) = f at *
  generalize cx x B = a1 at *
  generalize cy x B = a2 at *
  generalize cx y B = a3 at *
  generalize cy y B = a4 at *
  generalize par B = a10
  generalize cross B C = a11
  generalize cx y C = a12
  generalize cx x C = a13
  generalize par C = a14
  have e1 : a1 = xor e a2 := by rw [← h1]; cases a1 <;> cases a2 <;> rfl
  have e3 : a3 = xor e a4 := by rw [← h2]; cases a3 <;> cases a4 <;> rfl
  rw [e1, e3]
  clear h1 h2 e1 e3 h3
  revert e f a2 a4 a10 a11 a12 a13 a14
  decide
theorem par_swap (A B C : List Int) (x y : Int) (hxy : x ≠ y) (hx : x ∉ B) (hy : y ∉ B) : par (A ++ x :: (B ++ y :: C)) = !(par (A ++ y :: (B ++ x :: C))) := by
  rw [par_append, par_append, cross_swap, par_swap0 B C x y hxy hx hy]
  cases par A <;> cases cross A (y :: (B ++ x :: C)) <;> cases par (y :: (B ++ x :: C)) <;> rfl
end Go.Proofs.YtneafcdfnhnpnaaGreatDoor
/- Contract: the reference's cycles. -/
namespace Go.Proofs.YtneafcdfnhnpnaaGreatDoor
open Go.RowKit Go.Lib

set_option maxRecDepth 100000 in
set_option maxHeartbeats 4000000 in
theorem refCycles_c (v : Value) (p : List Int) (w : World) (hv : Sl w 1 v (icells p)) (hp : PermL p) (hl : p.length ≤ 256) :
    Calls Tryz.prog 55 #[v] w fun e w' => ∃ u, e = .returned u ∧ TI w' (w.heap.size + 1) u (cycs p) ∧ Below w.heap.size w w' := by
  obtain ⟨A, c, rfl, hc1, hc2⟩ := hv.form
  simp only [icells_length] at hc1 hv ⊢
  obtain ⟨i0, hi0, hz0, hz1, hz2⟩ := info_parts info_int
  obtain ⟨j0, hj0, hy0, hy1, hy2⟩ := info_parts info_sli
  have HV := Lib.hid hv
  have HP := Lib.hid hp
  have hmk := fun W => make_bools W p.length (by omega)
  clear hv hp
  go_enter Tryz.func55, Tryz.ntmps55
  go_wp2_with fail
  go_loopg [3, 5] p.length (fun gh ov ix wr => ∃ k : Nat, ix = .int .i64 k ∧ k + gh = p.length ∧ Hid (Own wr w.heap.size 4 (bcells (cycTo p k).2)) ∧ Hid (TI wr (w.heap.size + 1) ov (cycTo p k).1) ∧ Hid (Below w.heap.size w wr))
  case atStart =>
    exact ⟨0, rfl, by omega, Lib.hid (Own.make _ _ _), Lib.hid ⟨[], World.ownsRow_nil _ _ _ _, rfl, fun i x h => by simp [cycTo] at h⟩, Lib.hid ((Below.refl _ _).alloc (Nat.le_refl _) _)⟩
  case round =>
    obtain ⟨k, rfl, hk, hO, hT, hB⟩ := hrel
    generalize wr = wb at *
    have hcl := cycTo_len p k
    clear hmk
    cases gk with
    | zero =>
      have hin : ¬ ((k : Int) < (p.length : Int)) := by omega
      have hkk : k = p.length := by omega
      subst hkk
      clear hcl hO
      go_wp2
      go_ret
      exact ⟨_, rfl, hT.out, hB.out⟩
    | succ gh =>
      have hlt : k < p.length := by omega
      have hlt' : (k : Int) < (p.length : Int) := by omega
      have hsb := hO.out.lt
      have hcn : (cycTo p k).1.length ≤ 256 := by
        have h : ∀ k, (cycTo p k).1.length ≤ k := by
          intro k
          induction k with
          | zero => simp [cycTo]
          | succ k ih => rw [cycTo]; split
                         · omega
                         · simp; omega
        have := h k; omega
      have hnew : (cycTo p (k + 1)) = if (cycTo p k).2[k]?.getD true = true then cycTo p k else ((cycTo p k).1 ++ [(follow p p.length (cycTo p k).2 k).1], (follow p p.length (cycTo p k).2 k).2) := rfl
      have HNew := Lib.hid hnew
      clear hnew
      generalize hS0 : (cycTo p k).2 = S0 at *
      go_wp2_with fail
      go_loopg [6, 7] p.length (fun gh2 cv iv wx => ∃ (C : List Int) (s : List Bool) (i : Nat), iv = .int .i64 i ∧ i < p.length ∧ C.length + gh2 = p.length ∧ Hid (follow p p.length S0 k = (C ++ (follow p gh2 s i).1, (follow p gh2 s i).2)) ∧ Hid (unseen s ≤ gh2) ∧ s.length = p.length ∧ Hid (Own wx w.heap.size 4 (bcells s)) ∧ Hid (wx.ownsRow wb.heap.size 3 1 cv C.length (icells C)) ∧ Hid (But w.heap.size wb wx))
      case atStart => exact ⟨[], S0, k, rfl, hlt, by simp, Lib.hid (by simp), Lib.hid (by have := unseen_le S0; omega), hcl, hO, Lib.hid (World.ownsRow_nil _ _ _ _), Lib.hid (But.refl _ _)⟩
      case round =>
        obtain ⟨C, s, i, rfl, hi, hC, hF, hU, hsl, hOs, hcv, hW⟩ := hrel
        have hci := (hOs.out.cell i).trans (bcells_at s i (by omega))
        have hfr := hOs.out.free i
        have hwsz := hW.out.size
        cases hs : s[i]?.getD true with
        | true =>
          have hs2 : s[i]?.getD false = true := by
            rw [List.getElem?_eq_getElem (by omega)] at hs ⊢; exact hs
          rw [hs2] at hci
          have hfs := hF.out
          rw [follow_seen p gk s i hs, List.append_nil] at hfs
          have hBw := hB.out.trans (hW.out.toBelow (Nat.le_refl _) hB.out.size)
          have hT2 : TI wr (w.heap.size + 1) u3 (cycTo p k).1 := hT.out.keep fun k h1 h2 => hW.out.block k h2 (by omega)
          by_cases h0 : S0[k]?.getD true = true
          · have hC0 : C = [] ∧ s = S0 := by
              rw [follow_seen p p.length S0 k h0] at hfs
              exact ⟨(congrArg Prod.fst hfs).symm, (congrArg Prod.snd hfs).symm⟩
            obtain ⟨rfl, rfl⟩ := hC0
            have HN2 : Hid (cycTo p (k + 1) = cycTo p k) := Lib.hid (by rw [HNew.out, if_pos h0])
            have HB2 := Lib.hid hBw
            have HT2 := Lib.hid hT2
            obtain ⟨A6, c6, rfl, _, _⟩ := oForm hcv.out
            clear hs hs2 hfs h0 hBw hT2 hF hU hcv hT hB HNew
            go_wp2
            go_roundg gh
            case rel => exact ⟨k + 1, by go_num, by omega, by rw [HN2.out, hS0]; exact hOs, by rw [HN2.out]; exact HT2, HB2⟩
            case measure => omega
          · have hne : C ≠ [] := by
              rintro rfl
              have : (follow p p.length S0 k).1 = [] := by rw [hfs]
              rw [show p.length = gh + k + 1 by omega, follow, if_neg h0] at this
              cases this
            have HN2 : Hid (cycTo p (k + 1) = ((cycTo p k).1 ++ [C], s)) := Lib.hid (by rw [HNew.out, if_neg h0, hfs])
            obtain ⟨vs, hv1, hv2, hv3⟩ := hT2
            obtain ⟨A5, c5, hov, _, _⟩ := oForm hv1
            obtain ⟨A6, c6, hcv6, _, _⟩ := oForm hcv.out
            have hC1 : 0 < C.length := List.length_pos_iff.2 hne
            have hC1' : (C.length : Int) > 0 := by omega
            have HV3 := Lib.hid hv3
            have HV1 := Lib.hid hv1
            have HB2 := Lib.hid hBw
            have H0 := Lib.hid (oBelow hv1 ((Below.refl wr.heap.size wr).alloc (Nat.le_refl _) (.cells #[u6] 50)))
            have HRow := Lib.hid hcv.out
            subst hov hcv6
            clear hs hs2 hfs h0 hBw hv1 hv3 hF hU hcv hT hB HNew hne
            go_wp2_with (at_builtin; (refine wpList_append_own _ rfl _ _ 57 rfl (w.heap.size + 1) 50 j0 (.slice none 0 0) 1 24 Tryz.underlying57 hj0 hy0 hy1 hy2 rfl (by decide) _ _ _ rfl H0.out ⟨wr.heap.size, 0, none⟩ 1 1 [.slice A6 C.length c6] rfl rfl (cell_one_new _ _ _) (fun x hx => by simp at hx; subst hx; rfl) (by unfold maxLen; omega) (by omega) (by simp; omega) ?_; intro v' w1 hown' hgrow _))
            have halb : Below wr.heap.size wr (wr.alloc (.cells #[.slice A6 C.length c6] 50)) := (Below.refl _ _).alloc (Nat.le_refl _) _
            have hT3 : TI w1 (w.heap.size + 1) v' ((cycTo p k).1 ++ [C]) := TI.snoc H0.out hv2
              (fun i y hy => by obtain ⟨u, bx, h1, h2, h3⟩ := HV3.out i y hy; exact ⟨u, bx, h1, h2, oBelow h3 halb⟩) (by omega) (oBelow HRow.out halb) hown' hgrow
            have hBw1 : Below w.heap.size w w1 := Below.grown (HB2.out.alloc HB2.out.size _) hgrow (by have := HB2.out.size; simp; omega) (fun k hk => by have := (H0.out.lt k hk).1; omega)
            have hO1 := (hOs.out.alloc (.cells #[.slice A6 C.length c6] 50)).grown hgrow (fun e => by have := (H0.out.lt _ e).1; omega)
            have HT3 := Lib.hid hT3
            have HB3 := Lib.hid hBw1
            have HO3 := Lib.hid hO1
            clear hT3 hBw1 hO1 hown' hgrow halb
            go_wp2
            go_roundg gh
            case rel => exact ⟨k + 1, by go_num, by omega, by rw [HN2.out]; exact HO3, by rw [HN2.out]; exact HT3, HB3⟩
            case measure => omega
        | false =>
          have hs2 : s[i]?.getD false = false := by
            rw [List.getElem?_eq_getElem (by omega)] at hs ⊢; exact hs
          have hs3 : s[i]? = some false := by
            rw [List.getElem?_eq_getElem (by omega)] at hs ⊢; exact congrArg some hs
          rw [hs2] at hci
          cases gk with
          | zero => have := unseen_set s i hs3; have := hU.out; omega
          | succ g2 =>
            have hU2 : Hid (unseen (s.set i true) ≤ g2) := Lib.hid (by have := unseen_set s i hs3; have := hU.out; omega)
            have hpi := HP.out.1 (p[i]?.getD 0) (by rw [List.getElem?_eq_getElem hi]; exact List.getElem_mem hi)
            obtain ⟨b0, off, hA0, hb0, hpc⟩ := HV.out.at_ (k := i) (by rw [icells_length]; exact hi)
            have hpc := (hpc i (by rw [icells_length]; exact hi)).trans (icells_at p i hi)
            have hF2 := hF.out
            rw [follow, if_neg (by rw [hs]; decide)] at hF2
            have hbw := hB.out.trans (hW.out.toBelow (Nat.le_refl _) hB.out.size)
            have hpw : wr.cell? ⟨b0, off + i, none⟩ = some (.int .i64 (p[i]?.getD 0)) := (hbw.cell (p := ⟨b0, off + i, none⟩) hb0).trans hpc
            generalize p[i]?.getD 0 = x at *
            obtain ⟨j, rfl⟩ := Int.eq_ofNat_of_zero_le hpi.1
            have hjp : j < p.length := by omega
            have HF2 : Hid (follow p p.length S0 k = ((C ++ [(i : Int)]) ++ (follow p g2 (s.set i true) j).1, (follow p g2 (s.set i true) j).2)) := Lib.hid (by rw [hF2]; simp)
            subst hA0
            have hkc : C.length < 256 := by omega
            have HO2 := Lib.hid (show Own (wr.setCell ⟨w.heap.size, i, none⟩ (.bool true)) w.heap.size 4 (bcells (s.set i true)) from by rw [← bcells_set]; exact hOs.out.put i _)
            have HW2 := Lib.hid (hW.out.setCell ⟨w.heap.size, i, none⟩ rfl (.bool true))
            have HC2 := Lib.hid (show (wr.setCell ⟨w.heap.size, i, none⟩ (.bool true)).ownsRow wb.heap.size 3 1 u6 C.length (icells C) from oKeep hcv.out (fun k' _ e => Below.heap_setCell _ _ _ _ (fun e2 => by have := (hcv.out.lt k' e).1; dsimp only at e2; omega)))
            have hBS : Below w.heap.size w (wr.setCell ⟨w.heap.size, i, none⟩ (.bool true)) := hbw.setCell (Nat.le_refl _) _
            have HBS := Lib.hid hBS
            have hnew : ∀ (j' : Nat) (u : Value), [Value.int .i64 (i : Int)][j']? = some u → ((wr.setCell ⟨w.heap.size, i, none⟩ (.bool true)).alloc (.cells #[.int .i64 (i : Int)] 3)).cell? ((⟨wr.heap.size, 0, none⟩ : Addr).add j') = some u := by
              have h := cell_one_new (wr.setCell ⟨w.heap.size, i, none⟩ (.bool true)) (.int .i64 (i : Int)) 3
              have e : (wr.setCell ⟨w.heap.size, i, none⟩ (.bool true)).heap.size = wr.heap.size := by simp
              rw [e] at h
              exact h
            have HN := Lib.hid hnew
            have HPC : Hid (w.cell? ⟨b0, off + i, none⟩ = some (.int .i64 (j : Int))) := Lib.hid hpc
            clear hs hs2 hs3 hF hU hF2 hpc hpw hcv hOs hW hnew hbw hBS
            go_wp2_with (at_builtin; (refine wpList_append_own _ rfl _ _ 50 rfl wb.heap.size 3 i0 (.int .i64 0) 1 8 Tryz.underlying50 hi0 hz0 hz1 hz2 rfl (by decide) _ _ _ rfl (HC2.out.alloc _) ⟨wr.heap.size, 0, none⟩ 1 1 [.int .i64 i] rfl rfl HN.out (fun x hx => by simp at hx; subst hx; rfl) (by unfold maxLen; omega) (by omega) (by simp; omega) ?_; intro v' w1 hown' hgrow _; have hB1 := ((HW2.out.allocQ (.cells #[.int .i64 (i : Int)] 3))).grownQ hgrow (fun k' e => (HC2.out.lt k' e).1); have hBw1 : Below w.heap.size w w1 := Below.grown (HBS.out.alloc HBS.out.size (.cells #[.int .i64 (i : Int)] 3)) hgrow (by have := HBS.out.size; simp; omega) (fun k' e => by have := (HC2.out.lt k' e).1; omega); have hx1 := (hBw1.cell (p := ⟨b0, off + i, none⟩) hb0).trans HPC.out; have HO3 := Lib.hid ((HO2.out.alloc (.cells #[.int .i64 (i : Int)] 3)).grown hgrow (fun e => by have := (HC2.out.lt _ e).1; omega)); have HC3 := Lib.hid hown'; have HB1 := Lib.hid hB1; clear hown' hgrow hB1 hBw1))
            go_roundg g2
            case rel =>
              exact ⟨C ++ [(i : Int)], s.set i true, j, rfl, hjp, by simp; omega, HF2, hU2, by simpa using hsl, HO3, Lib.hid (by simpa [icells] using HC3.out), HB1⟩
            case measure => omega
end Go.Proofs.YtneafcdfnhnpnaaGreatDoor
/- Contracts: the reference's remainder, parity of a permutation, and powers. -/
namespace Go.Proofs.YtneafcdfnhnpnaaGreatDoor
open Go.RowKit Go.Lib

theorem refMod_c (a n : Int) (w : World) (hn : 1 ≤ n) (hn2 : n ≤ 4000000000000000000) :
    Calls Tryz.prog 134 #[.int .i64 a, .int .i64 n] w fun e w' => e = .returned (.int .i64 (a % n)) ∧ w = w' := by
  go_enter Tryz.func134, Tryz.ntmps134
  go_wp2
  go_ret
  exact ⟨ret_int (rem_eq a n hn hn2), rfl⟩

/-- the sign of the exchanges among the first k elements and the one behind -/
def parIn (p : List Int) (i : Nat) : Nat → Int → Int
  | 0, s => s
  | k + 1, s => if p[i]?.getD 0 < p[k]?.getD 0 then -(parIn p i k s) else parIn p i k s
def parTo (p : List Int) : Nat → Int
  | 0 => 1
  | i + 1 => parIn p i i (parTo p i)
def parL (p : List Int) : Int := parTo p p.length
theorem parIn_pm (p : List Int) (i : Nat) (s : Int) (hs : s = 1 ∨ s = -1) : ∀ k, parIn p i k s = 1 ∨ parIn p i k s = -1
  | 0 => hs
  | k + 1 => by
    have := parIn_pm p i s hs k
    rw [parIn]; split <;> omega
theorem parTo_pm (p : List Int) : ∀ k, parTo p k = 1 ∨ parTo p k = -1
  | 0 => .inl rfl
  | k + 1 => parIn_pm p k _ (parTo_pm p k) k

set_option maxRecDepth 100000 in
set_option maxHeartbeats 4000000 in
theorem refParityOf_c (v : Value) (p : List Int) (w : World) (hv : Sl w 1 v (icells p)) :
    Calls Tryz.prog 56 #[v] w fun e w' => e = .returned (.int .i64 (parL p)) ∧ Below w.heap.size w w' := by
  obtain ⟨A, c, rfl, hc1, hc2⟩ := hv.form
  simp only [icells_length] at hc1 hv ⊢
  have HV := Lib.hid hv
  clear hv
  go_enter Tryz.func56, Tryz.ntmps56
  go_wp2
  go_loopg [3, 4] p.length (fun gh sv ix wr => ∃ i : Nat, sv = .int .i64 (parTo p i) ∧ ix = .int .i64 i ∧ i + gh = p.length ∧ Below w.heap.size w wr)
  case atStart => exact ⟨0, rfl, rfl, by omega, Below.refl _ _⟩
  case round =>
    obtain ⟨i, rfl, rfl, hi, hB⟩ := hrel
    cases gk with
    | zero =>
      have hin : ¬ ((i : Int) < (p.length : Int)) := by omega
      have hii : i = p.length := by omega
      subst hii
      go_wp2
      go_ret
      exact ⟨rfl, hB⟩
    | succ gh =>
      have hlt : (i : Int) < (p.length : Int) := by omega
      have hil : i < p.length := by omega
      have HI := Lib.hid hi
      have hnx : Hid (parTo p (i + 1) = parIn p i i (parTo p i)) := Lib.hid rfl
      have hpm := parIn_pm p i (parTo p i) (parTo_pm p i)
      have HPM := Lib.hid hpm
      clear hi hpm
      obtain ⟨s0, hs0⟩ : ∃ s0, parTo p i = s0 := ⟨_, rfl⟩
      rw [hs0] at hnx HPM ⊢
      clear hs0
      go_wp2
      go_loopg [3, 5] i (fun gh2 sv kx wx => ∃ k : Nat, sv = .int .i64 (parIn p i k s0) ∧ kx = .int .i64 k ∧ k + gh2 = i ∧ Below w.heap.size w wx)
      case atStart => exact ⟨0, rfl, rfl, by omega, hB⟩
      case round =>
        obtain ⟨k, rfl, rfl, hk, hBx⟩ := hrel
        cases gk with
        | zero =>
          have hin : ¬ ((k : Int) < (i : Int)) := by omega
          have hki : k = i := by omega
          subst hki
          go_wp2
          go_roundg gh
          case rel => exact ⟨k + 1, by rw [hnx.out], by go_num, by have := HI.out; omega, hBx⟩
          case measure => omega
        | succ gh2 =>
          have hin : ((k : Int) < (i : Int)) := by omega
          have hkl : k < p.length := by omega
          obtain ⟨b0, off, rfl, hb0, hcell⟩ := HV.out.at_ (k := i) (by rw [icells_length]; exact hil)
          have hci := (hBx.cell (p := ⟨b0, off + i, none⟩) hb0).trans ((hcell i (by rw [icells_length]; exact hil)).trans (icells_at p i hil))
          have hck := (hBx.cell (p := ⟨b0, off + k, none⟩) hb0).trans ((hcell k (by rw [icells_length]; exact hkl)).trans (icells_at p k hkl))
          have hst : parIn p i (k + 1) s0 = if p[i]?.getD 0 < p[k]?.getD 0 then -(parIn p i k s0) else parIn p i k s0 := rfl
          have HST := Lib.hid hst
          have HK := Lib.hid hk
          have hpk := HPM.out k
          clear hcell hst hk
          generalize p[i]?.getD 0 = x at *
          generalize p[k]?.getD 0 = y at *
          obtain ⟨s, hs⟩ : ∃ s, parIn p i k s0 = s := ⟨_, rfl⟩
          rw [hs] at HST hpk ⊢
          clear hs
          by_cases hxy : x < y
          · have HS2 : Hid (parIn p i (k + 1) s0 = -s) := Lib.hid (by rw [HST.out, if_pos hxy])
            have hb : y > x := hxy
            have hs1 : -1 ≤ s ∧ s ≤ 1 := by omega
            clear hpk HST hxy
            go_wp2
            go_quiet (fail)
            have hB' := below_drewN hBx nq
            go_wp2
            go_roundg gh2
            case rel => exact ⟨k + 1, by rw [HS2.out], by go_num, by have := HK.out; omega, hB'⟩
            case measure => omega
          · have HS2 : Hid (parIn p i (k + 1) s0 = s) := Lib.hid (by rw [HST.out, if_neg hxy])
            have hb : ¬ y > x := hxy
            clear hpk HST hxy
            go_wp2
            go_quiet (fail)
            have hB' := below_drewN hBx nq
            go_wp2
            go_roundg gh2
            case rel => exact ⟨k + 1, by rw [HS2.out], by go_num, by have := HK.out; omega, hB'⟩
            case measure => omega
end Go.Proofs.YtneafcdfnhnpnaaGreatDoor
/- The sign of a permutation by its exchanges is that of its cycles: the proof by exchanges along the cycles. Plain Lean. -/
namespace Go.Proofs.YtneafcdfnhnpnaaGreatDoor
open Go.RowKit Go.Lib

def LF (n : Nat) (f : Nat → Int) : List Int := (List.range n).map f
def InjF (n : Nat) (f : Nat → Int) : Prop := ∀ i j, i < n → j < n → f i = f j → i = j
theorem LF_split {n a b : Nat} (f : Nat → Int) (hab : a < b) (hb : b < n) :
    LF n f = (List.range' 0 a).map f ++ f a :: ((List.range' (a + 1) (b - a - 1)).map f ++ f b :: (List.range' (b + 1) (n - b - 1)).map f) := by
  have h1 : List.range n = List.range' 0 a ++ a :: (List.range' (a + 1) (b - a - 1) ++ b :: List.range' (b + 1) (n - b - 1)) := by
    have e3 : b :: List.range' (b + 1) (n - b - 1) = List.range' b (n - b) := by
      rw [show n - b = (n - b - 1) + 1 by omega, List.range'_succ]; rfl
    have e2 : List.range' (a + 1) (b - a - 1) ++ List.range' b (n - b) = List.range' (a + 1) (n - a - 1) := by
      have := List.range'_append_1 (s := a + 1) (m := b - a - 1) (n := n - b)
      rw [show a + 1 + (b - a - 1) = b by omega, show b - a - 1 + (n - b) = n - a - 1 by omega] at this
      exact this
    have e1 : a :: List.range' (a + 1) (n - a - 1) = List.range' a (n - a) := by
      rw [show n - a = (n - a - 1) + 1 by omega, List.range'_succ]; rfl
    rw [e3, e2, e1]
    have := List.range'_append_1 (s := 0) (m := a) (n := n - a)
    rw [Nat.zero_add, show a + (n - a) = n by omega] at this
    rw [this, List.range_eq_range']
  unfold LF
  rw [h1]
  simp
theorem par_fun0 {n a b : Nat} {f g : Nat → Int} (hab : a < b) (hb : b < n) (hga : g a = f b) (hgb : g b = f a) (hg : ∀ i, i < n → i ≠ a → i ≠ b → g i = f i) (hf : InjF n f) : par (LF n g) = !(par (LF n f)) := by
  rw [LF_split f hab hb, LF_split g hab hb]
  have e1 : (List.range' 0 a).map g = (List.range' 0 a).map f := List.map_congr_left fun i hi => by
    have := List.mem_range'_1.1 hi; exact hg i (by omega) (by omega) (by omega)
  have e2 : (List.range' (a + 1) (b - a - 1)).map g = (List.range' (a + 1) (b - a - 1)).map f := List.map_congr_left fun i hi => by
    have := List.mem_range'_1.1 hi; exact hg i (by omega) (by omega) (by omega)
  have e3 : (List.range' (b + 1) (n - b - 1)).map g = (List.range' (b + 1) (n - b - 1)).map f := List.map_congr_left fun i hi => by
    have := List.mem_range'_1.1 hi; exact hg i (by omega) (by omega) (by omega)
  rw [e1, e2, e3, hga, hgb]
  refine par_swap _ _ _ _ _ (fun h => by have := hf _ _ hb (by omega) h; omega) (fun h => ?_) (fun h => ?_)
  · obtain ⟨i, hi, he⟩ := List.mem_map.1 h
    have h2 := List.mem_range'_1.1 hi
    have := hf i b (by omega) hb he; omega
  · obtain ⟨i, hi, he⟩ := List.mem_map.1 h
    have h2 := List.mem_range'_1.1 hi
    have := hf i a (by omega) (by omega) he; omega
theorem par_fun {n a b : Nat} {f g : Nat → Int} (ha : a < n) (hb : b < n) (hab : a ≠ b) (hga : g a = f b) (hgb : g b = f a) (hg : ∀ i, i < n → i ≠ a → i ≠ b → g i = f i) (hf : InjF n f) : par (LF n g) = !(par (LF n f)) := by
  rcases Nat.lt_or_ge a b with h | h
  · exact par_fun0 h hb hga hgb hg hf
  · exact par_fun0 (show b < a by omega) ha hgb hga (fun i h1 h2 h3 => hg i h1 h3 h2) hf
theorem inj_fun {n a b : Nat} {f g : Nat → Int} (ha : a < n) (hb : b < n) (hga : g a = f b) (hgb : g b = f a) (hg : ∀ i, i < n → i ≠ a → i ≠ b → g i = f i) (hf : InjF n f) : InjF n g := by
  have key : ∀ i, i < n → ∃ j, j < n ∧ g i = f j ∧ (i = a → j = b) ∧ (i = b → j = a) ∧ (i ≠ a → i ≠ b → j = i) := fun i hi => by
    by_cases h1 : i = a
    · subst h1
      by_cases h2 : i = b
      · subst h2; exact ⟨i, ha, hga, fun _ => rfl, fun _ => rfl, fun _ _ => rfl⟩
      · exact ⟨b, hb, hga, fun _ => rfl, fun h => absurd h h2, fun h => absurd rfl h⟩
    · by_cases h2 : i = b
      · subst h2; exact ⟨a, ha, hgb, fun h => absurd h h1, fun _ => rfl, fun _ h => absurd rfl h⟩
      · exact ⟨i, hi, hg i hi h1 h2, fun h => absurd h h1, fun h => absurd h h2, fun _ _ => rfl⟩
  intro i j hi hj he
  obtain ⟨i', hi', ei, a1, a2, a3⟩ := key i hi
  obtain ⟨j', hj', ej, b1, b2, b3⟩ := key j hj
  rw [ei, ej] at he
  have hij := hf _ _ hi' hj' he
  subst hij
  by_cases h1 : i = a
  · have := a1 h1
    by_cases h3 : j = a
    · omega
    · by_cases h4 : j = b
      · have := b2 h4; omega
      · have := b3 h3 h4; omega
  · by_cases h2 : i = b
    · have := a2 h2
      by_cases h4 : j = b
      · omega
      · by_cases h3 : j = a
        · have := b1 h3; omega
        · have := b3 h3 h4; omega
    · have := a3 h1 h2
      by_cases h3 : j = a
      · have := b1 h3; omega
      · by_cases h4 : j = b
        · have := b2 h4; omega
        · have := b3 h3 h4; omega
/-- a list whose seen places are at home -/
noncomputable def fx (p : List Int) (s : List Bool) (i : Nat) : Int := open Classical in if Sn s i then (i : Int) else (ph p i : Int)
noncomputable def rx (p : List Int) (s : List Bool) (k u i : Nat) : Int := open Classical in
  if Sn s i then (i : Int) else if ∃ j, 1 ≤ j ∧ j ≤ u ∧ it p j k = i then (i : Int) else if i = k then (it p (u + 1) k : Int) else (ph p i : Int)
theorem fx_inj {p : List Int} (hp : PermL p) {s : List Bool} (hc : Closed p s) : InjF p.length (fx p s) := by
  intro i j hi hj he
  unfold fx at he
  by_cases h1 : Sn s i
  · by_cases h2 : Sn s j
    · rw [if_pos h1, if_pos h2] at he; omega
    · rw [if_pos h1, if_neg h2] at he
      have e : i = ph p j := by omega
      exact absurd (hc j hj (e ▸ h1)) h2
  · by_cases h2 : Sn s j
    · rw [if_neg h1, if_pos h2] at he
      have e : ph p i = j := by omega
      exact absurd (hc i hi (e ▸ h2)) h1
    · rw [if_neg h1, if_neg h2] at he
      exact ph_inj hp hi hj (by omega)
theorem it_diff {p : List Int} (hp : PermL p) {m k : Nat} (h : Per p m k) {i j : Nat} (hi : i < j) (hj : j < m) : it p i k ≠ it p j k := fun e =>
  h.2.2.2 (j - i) (by omega) (by omega) (it_back hp h.1 (Nat.le_of_lt hi) e)
theorem rx_step {p : List Int} (hp : PermL p) {s : List Bool} (hc : Closed p s) {m k : Nat} (h : Per p m k) (h0 : ¬ Sn s k) {u : Nat} (hu : u + 1 < m) (hI : InjF p.length (rx p s k u)) :
    par (LF p.length (rx p s k (u + 1))) = !(par (LF p.length (rx p s k u))) ∧ InjF p.length (rx p s k (u + 1)) := by
  have hb := it_lt hp h.1 (u + 1)
  have hsb : ¬ Sn s (it p (u + 1) k) := not_sn_it hp hc h.1 h0 (u + 1)
  have hkb : it p (u + 1) k ≠ k := h.2.2.2 (u + 1) (by omega) hu
  have nk : ∀ v, v < m → ¬ ∃ j, 1 ≤ j ∧ j ≤ v ∧ it p j k = k := fun v hv ⟨j, h1, h2, h3⟩ => h.2.2.2 j (by omega) (by omega) h3
  have nb : ¬ ∃ j, 1 ≤ j ∧ j ≤ u ∧ it p j k = it p (u + 1) k := fun ⟨j, h1, h2, h3⟩ => it_diff hp h (show j < u + 1 by omega) hu h3
  have e1 : rx p s k (u + 1) k = (it p (u + 2) k : Int) := by unfold rx; rw [if_neg h0, if_neg (nk (u + 1) hu), if_pos rfl]
  have e2 : rx p s k u k = (it p (u + 1) k : Int) := by unfold rx; rw [if_neg h0, if_neg (nk u (by omega)), if_pos rfl]
  have e3 : rx p s k (u + 1) (it p (u + 1) k) = (it p (u + 1) k : Int) := by unfold rx; rw [if_neg hsb, if_pos ⟨u + 1, by omega, by omega, rfl⟩]
  have e4 : rx p s k u (it p (u + 1) k) = (it p (u + 2) k : Int) := by unfold rx; rw [if_neg hsb, if_neg nb, if_neg hkb]; rfl
  have e5 : ∀ i, i < p.length → i ≠ k → i ≠ it p (u + 1) k → rx p s k (u + 1) i = rx p s k u i := fun i _ h1 h2 => by
    unfold rx
    by_cases h3 : Sn s i
    · rw [if_pos h3, if_pos h3]
    · rw [if_neg h3, if_neg h3]
      by_cases h4 : ∃ j, 1 ≤ j ∧ j ≤ u ∧ it p j k = i
      · obtain ⟨j, h5, h6, h7⟩ := h4
        rw [if_pos ⟨j, h5, by omega, h7⟩, if_pos ⟨j, h5, h6, h7⟩]
      · rw [if_neg h4, if_neg (fun ⟨j, h5, h6, h7⟩ => by
          rcases Nat.lt_or_ge u j with h8 | h8
          · have : j = u + 1 := by omega
            subst this; exact h2 h7.symm
          · exact h4 ⟨j, h5, h8, h7⟩), if_neg h1, if_neg h1]
  exact ⟨par_fun h.1 hb (fun e => hkb e.symm) (e1.trans e4.symm) (e3.trans e2.symm) e5 hI, inj_fun h.1 hb (e1.trans e4.symm) (e3.trans e2.symm) e5 hI⟩
theorem rx_all {p : List Int} (hp : PermL p) {s : List Bool} (hc : Closed p s) {m k : Nat} (h : Per p m k) (h0 : ¬ Sn s k) :
    ∀ u, u < m → par (LF p.length (rx p s k u)) = xor (decide (u % 2 = 1)) (par (LF p.length (fx p s))) ∧ InjF p.length (rx p s k u)
  | 0, _ => by
    have e : ∀ i, rx p s k 0 i = fx p s i := fun i => by
      unfold rx fx
      by_cases h3 : Sn s i
      · rw [if_pos h3, if_pos h3]
      · rw [if_neg h3, if_neg h3, if_neg (fun ⟨j, h5, h6, _⟩ => by omega)]
        by_cases h4 : i = k
        · subst h4; rw [if_pos rfl]; rfl
        · rw [if_neg h4]
    have e' : rx p s k 0 = fx p s := funext e
    rw [e']
    exact ⟨by simp, fx_inj hp hc⟩
  | u + 1, hu => by
    obtain ⟨h1, h2⟩ := rx_all hp hc h h0 u (by omega)
    obtain ⟨h3, h4⟩ := rx_step hp hc h h0 hu h2
    refine ⟨?_, h4⟩
    rw [h3, h1]
    by_cases h5 : u % 2 = 1
    · rw [decide_eq_true h5, decide_eq_false (by omega)]; cases par (LF p.length (fx p s)) <;> rfl
    · rw [decide_eq_false h5, decide_eq_true (by omega)]; cases par (LF p.length (fx p s)) <;> rfl
theorem fx_new {p : List Int} (hp : PermL p) {s s' : List Bool} (hc : Closed p s) {m k : Nat} (h : Per p m k) (h0 : ¬ Sn s k) (hs : ∀ j, j < p.length → (Sn s' j ↔ Sn s j ∨ ∃ u, u < m ∧ it p u k = j)) :
    par (LF p.length (fx p s')) = xor (decide (m % 2 = 0)) (par (LF p.length (fx p s))) := by
  obtain ⟨h1, _⟩ := rx_all hp hc h h0 (m - 1) (by have := h.2.1; omega)
  have e : LF p.length (fx p s') = LF p.length (rx p s k (m - 1)) := by
    unfold LF
    refine List.map_congr_left fun i hi => ?_
    have hi := List.mem_range.1 hi
    unfold fx rx
    by_cases h3 : Sn s i
    · rw [if_pos ((hs i hi).2 (.inl h3)), if_pos h3]
    · rw [if_neg h3]
      by_cases h4 : ∃ j, 1 ≤ j ∧ j ≤ m - 1 ∧ it p j k = i
      · obtain ⟨j, h5, h6, h7⟩ := h4
        rw [if_pos ((hs i hi).2 (.inr ⟨j, by omega, h7⟩)), if_pos ⟨j, h5, h6, h7⟩]
      · rw [if_neg h4]
        by_cases h5 : i = k
        · subst h5
          rw [if_pos ((hs i hi).2 (.inr ⟨0, h.2.1, rfl⟩)), if_pos rfl, show m - 1 + 1 = m by have := h.2.1; omega, h.2.2.1]
        · rw [if_neg h5, if_neg (fun h6 => by
            rcases (hs i hi).1 h6 with h7 | ⟨u, hu, he⟩
            · exact h3 h7
            · rcases Nat.eq_zero_or_pos u with h8 | h8
              · subst h8; exact h5 he.symm
              · exact h4 ⟨u, h8, by omega, he⟩)]
  rw [e, h1]
  congr 1
  have := h.2.1
  by_cases h5 : m % 2 = 0
  · rw [decide_eq_true h5, decide_eq_true (by omega)]
  · rw [decide_eq_false h5, decide_eq_false (by omega)]
def sb (cs : List (List Int)) : Bool := cs.foldl (fun b c => xor b (decide (c.length % 2 = 0))) false
theorem sb_snoc (cs : List (List Int)) (c : List Int) : sb (cs ++ [c]) = xor (sb cs) (decide (c.length % 2 = 0)) := by simp [sb]
theorem par_cycTo {p : List Int} (hp : PermL p) : ∀ k, k ≤ p.length → par p = xor (sb (cycTo p k).1) (par (LF p.length (fx p (cycTo p k).2)))
  | 0, _ => by
    have e : LF p.length (fx p (cycTo p 0).2) = p := by
      unfold LF
      refine List.ext_getElem (by simp) fun i h1 h2 => ?_
      rw [List.getElem_map, List.getElem_range]
      unfold fx
      have hns : ¬ Sn (cycTo p 0).2 i := fun h => by
        unfold Sn at h; rw [cycTo, List.getElem?_replicate, if_pos h2] at h; cases h
      rw [if_neg hns]
      have := ph_val hp h2
      rw [List.getElem?_eq_getElem h2] at this
      exact (Option.some.inj this).symm
    rw [e]; simp [sb, cycTo]
  | k + 1, hk => by
    have ih := par_cycTo hp k (by omega)
    have hA := cycTo_all hp k (by omega)
    by_cases h : Sn (cycTo p k).2 k
    · have e : cycTo p (k + 1) = cycTo p k := by rw [cycTo]; exact if_pos h
      rw [e]; exact ih
    · have e : cycTo p (k + 1) = ((cycTo p k).1 ++ [(follow p p.length (cycTo p k).2 k).1], (follow p p.length (cycTo p k).2 k).2) := by rw [cycTo]; exact if_neg h
      obtain ⟨m, h1, h2, h3, h4⟩ := follow_new hp hA.len hA.closed (by omega) h
      rw [e]
      dsimp only
      rw [sb_snoc, h2, fx_new hp hA.closed h1 h h4, ih]
      have : (orb p m k).length = m := by simp [orb]
      rw [this]
      cases sb (cycTo p k).1 <;> cases decide (m % 2 = 0) <;> cases par (LF p.length (fx p (cycTo p k).2)) <;> rfl
theorem cross_nil : ∀ A, cross A [] = false
  | [] => rfl
  | a :: A => by rw [cross, cross_nil A]; rfl
theorem cx_ge {x : Int} : ∀ {l : List Int}, (∀ y ∈ l, x ≤ y) → cx x l = false
  | [], _ => rfl
  | y :: l, h => by
    rw [cx, cx_ge (fun z hz => h z (List.mem_cons_of_mem _ hz)), decide_eq_false (by have := h y List.mem_cons_self; omega)]; rfl
theorem par_sorted : ∀ {l : List Int}, l.Pairwise (· ≤ ·) → par l = false
  | [], _ => rfl
  | x :: l, h => by
    rw [List.pairwise_cons] at h
    rw [par, cx_ge h.1, par_sorted h.2]; rfl
theorem par_cycs {p : List Int} (hp : PermL p) : par p = sb (cycs p) := by
  have h := par_cycTo hp p.length (Nat.le_refl _)
  have hA := cycTo_all hp p.length (Nat.le_refl _)
  have e : LF p.length (fx p (cycTo p p.length).2) = (List.range p.length).map fun (i : Nat) => (i : Int) := by
    unfold LF
    refine List.map_congr_left fun i hi => ?_
    have hi := List.mem_range.1 hi
    unfold fx
    rw [if_pos (hA.starts i hi hi)]
  have h0 : par ((List.range p.length).map fun (i : Nat) => (i : Int)) = false := par_sorted (by
    rw [List.pairwise_map]
    exact List.pairwise_lt_range.imp fun h => by omega)
  rw [e, h0, Bool.xor_false] at h
  exact h
theorem signL_sb (cs : List (List Int)) : signL cs = if sb cs = true then -1 else 1 := by
  have h : ∀ (cs : List (List Int)) (s : Int) (b : Bool), s = (if b = true then -1 else 1) → cs.foldl (fun s c => if c.length % 2 = 0 then -s else s) s = if cs.foldl (fun b c => xor b (decide (c.length % 2 = 0))) b = true then -1 else 1 := by
    intro cs
    induction cs with
    | nil => intro s b h; exact h
    | cons c cs ih =>
      intro s b h
      rw [List.foldl_cons, List.foldl_cons]
      refine ih _ _ ?_
      by_cases h2 : c.length % 2 = 0
      · rw [if_pos h2, decide_eq_true h2, h]; cases b <;> rfl
      · rw [if_neg h2, decide_eq_false h2, h]; cases b <;> rfl
  exact h cs 1 false rfl
theorem cy_append (x : Int) : ∀ A B, cy x (A ++ B) = xor (cy x A) (cy x B)
  | [], B => by simp [cy]
  | a :: A, B => by rw [List.cons_append, cy, cy, cy_append x A B, Bool.xor_assoc]
theorem parIn_cy (p : List Int) (i : Nat) (s : Int) : ∀ k, k ≤ p.length → parIn p i k s = if cy (p[i]?.getD 0) (p.take k) = true then -s else s
  | 0, _ => by simp [parIn, cy]
  | k + 1, hk => by
    rw [parIn, parIn_cy p i s k (by omega), take_succ_int p k (by omega), cy_append, cy, cy, Bool.xor_false]
    by_cases h : p[i]?.getD 0 < p[k]?.getD 0
    · rw [if_pos h, decide_eq_true h]
      cases cy (p[i]?.getD 0) (p.take k) <;> simp
    · rw [if_neg h, decide_eq_false h]
      cases cy (p[i]?.getD 0) (p.take k) <;> simp
theorem parTo_par (p : List Int) : ∀ i, i ≤ p.length → parTo p i = if par (p.take i) = true then -1 else 1
  | 0, _ => by simp [parTo, par]
  | i + 1, hi => by
    rw [parTo, parIn_cy p i _ i (by omega), parTo_par p i (by omega), take_succ_int p i (by omega), par_append, cross_cons, cross_nil, par, cx, par]
    cases cy (p[i]?.getD 0) (p.take i) <;> cases par (p.take i) <;> simp
theorem sign_parity {p : List Int} (hp : PermL p) : signL (cycs p) = parL p := by
  unfold parL
  rw [parTo_par p p.length (Nat.le_refl _), List.take_length, par_cycs hp, signL_sb]
end Go.Proofs.YtneafcdfnhnpnaaGreatDoor
