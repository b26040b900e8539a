/- Contract: the number that a text stands for. -/
import Derived.Test.YtneafcdfnhnpnaaGreatDoorZ08
import Derived.Test.YtneafcdfnhnpnaaGreatDoorZ01
import Derived.Deep.RegionHeld3
import Derived.Deep.DeepCutAuto
namespace Go.Proofs.YtneafcdfnhnpnaaGreatDoor
open Go.RowKit Go.Lib

instance (l : List UInt8) : Decidable (allDig l) := by unfold allDig; infer_instance
instance (l : List UInt8) : Decidable (Numeral l) := by unfold Numeral; infer_instance

/-- the error of a text, and the number that it stands for -/
def readParts (neg : Bool) (a b : List UInt8) (f : Bool) : Int × Rat :=
  if ¬ Numeral a ∨ (neg = true ∧ a = [48]) then (1, 0)
  else if f = true then
    if ¬ Numeral b ∨ b = [48] ∨ b = [49] then (1, 0)
    else if 600 < a.length ∨ 600 < b.length then (4, 0)
    else if Nat.gcd (decVal a) (decVal b) = 1 then (0, mkR neg (decVal a) (decVal b)) else (1, 0)
  else if 600 < a.length then (4, 0) else (0, mkR neg (decVal a) 1)
def readRes (l : List UInt8) : Int × Rat := readParts (hasPrefix l [45]) (cut (trimPrefix l [45]) [47]).1 (cut (trimPrefix l [45]) [47]).2.1 (cut (trimPrefix l [45]) [47]).2.2
def readPost (r : Int × Rat) (w : World) (e : Ending) (w' : World) : Prop := if r.1 = 0 then okPost r.2 w e w' else errPost r.1 w e w'
theorem readPost_ok {q : Rat} {w : World} {e : Ending} {w' : World} (h : okPost q w e w') : readPost (0, q) w e w' := by unfold readPost; rw [if_pos rfl]; exact h
theorem readPost_err {c : Int} {w : World} {e : Ending} {w' : World} (hc : c ≠ 0) (h : errPost c w e w') : readPost (c, 0) w e w' := by unfold readPost; rw [if_neg hc]; exact h

theorem cut_miss_nil (dg a b : List UInt8) (h : cut dg [47] = (a, b, false)) : b = [] := by
  unfold cut at h; split at h
  · simp at h
  · simp at h; exact h.2
theorem cut_len (dg a b : List UInt8) (f : Bool) (h : cut dg [47] = (a, b, f)) : a.length ≤ dg.length ∧ b.length ≤ dg.length := by
  unfold cut at h; split at h
  · simp only [Prod.mk.injEq] at h
    obtain ⟨h1, h2, _⟩ := h
    subst h1 h2
    constructor
    · rw [List.length_take]; omega
    · rw [List.length_drop]; omega
  · simp only [Prod.mk.injEq] at h
    obtain ⟨h1, h2, _⟩ := h
    subst h1 h2
    simp
theorem trim_len (l : List UInt8) : (trimPrefix l [45]).length ≤ l.length := by
  unfold trimPrefix; split
  · rw [List.length_drop]; omega
  · exact Nat.le_refl _

theorem read_parts (l dg a b : List UInt8) (neg f : Bool) (w : World) (h1 : hasPrefix l [45] = neg) (h2 : trimPrefix l [45] = dg) (h3 : cut dg [47] = (a, b, f)) (hdl : dg.length < 4294967281) (hG : Glob w) (hD : OkLen dg.length) :
    Calls Tryz.prog 102 #[.string ⟨l.toArray⟩] w (readPost (readParts neg a b f) w) := by
  obtain ⟨ha, hb⟩ := cut_len dg a b f h3
  have hal : a.length < 4294967281 := by omega
  have hbl : b.length < 4294967281 := by omega
  unfold readParts
  by_cases hn : Numeral a
  · by_cases hz : neg = true ∧ a = [48]
    · rw [if_pos (.inr hz)]
      obtain ⟨rfl, hz⟩ := hz
      have hz' : (a == [48]) = true := by simpa using hz
      cases f with
      | true => exact (read_minuszero_f l dg a b w h1 h2 h3 hdl hal hG hn hz').mono fun _ _ h => readPost_err (by decide) h
      | false => exact (read_minuszero_w l dg a b w h1 h2 h3 hdl hal hG hn hz').mono fun _ _ h => readPost_err (by decide) h
    · rw [if_neg (by rintro (h | h); exact h hn; exact hz h)]
      cases f with
      | false =>
        rw [if_neg (by simp)]
        have hbn := cut_miss_nil dg a b h3
        by_cases hlen : 600 < a.length
        · rw [if_pos hlen]
          cases neg with
          | true => exact (read_longw_n l dg a b w h1 h2 h3 hdl hal hG hn (by simpa using hz) hlen).mono fun _ _ h => readPost_err (by decide) h
          | false => exact (read_longw_p l dg a b w h1 h2 h3 hdl hal hG hn hlen).mono fun _ _ h => readPost_err (by decide) h
        · rw [if_neg hlen]
          cases neg with
          | true => exact (read_whole_n l dg a b w h1 h2 h3 hdl hal hG (hD.le ha) hn (by simpa using hz) hbn (by omega)).mono fun _ _ h => readPost_ok h
          | false => exact (read_whole_p l dg a b w h1 h2 h3 hdl hal hG (hD.le ha) hn hbn (by omega)).mono fun _ _ h => readPost_ok h
      | true =>
        rw [if_pos rfl]
        by_cases hd : Numeral b
        · by_cases h48 : b = [48]
          · rw [if_pos (.inr (.inl h48))]
            have h48' : (b == [48]) = true := by simpa using h48
            cases neg with
            | true => exact (read_den0_n l dg a b w h1 h2 h3 hdl hal hbl hG hn (by simpa using hz) hd h48').mono fun _ _ h => readPost_err (by decide) h
            | false => exact (read_den0_p l dg a b w h1 h2 h3 hdl hal hbl hG hn hd h48').mono fun _ _ h => readPost_err (by decide) h
          · have h48' : (b == [48]) = false := by simpa using h48
            by_cases h49 : b = [49]
            · rw [if_pos (.inr (.inr h49))]
              have h49' : (b == [49]) = true := by simpa using h49
              cases neg with
              | true => exact (read_den1_n l dg a b w h1 h2 h3 hdl hal hbl hG hn (by simpa using hz) hd h48' h49').mono fun _ _ h => readPost_err (by decide) h
              | false => exact (read_den1_p l dg a b w h1 h2 h3 hdl hal hbl hG hn hd h48' h49').mono fun _ _ h => readPost_err (by decide) h
            · have h49' : (b == [49]) = false := by simpa using h49
              rw [if_neg (by rintro (h | h | h); exact h hd; exact h48 h; exact h49 h)]
              by_cases hla : 600 < a.length
              · rw [if_pos (.inl hla)]
                cases neg with
                | true => exact (read_longn_n l dg a b w h1 h2 h3 hdl hal hbl hG hn (by simpa using hz) hd h48' h49' hla).mono fun _ _ h => readPost_err (by decide) h
                | false => exact (read_longn_p l dg a b w h1 h2 h3 hdl hal hbl hG hn hd h48' h49' hla).mono fun _ _ h => readPost_err (by decide) h
              · by_cases hlb : 600 < b.length
                · rw [if_pos (.inr hlb)]
                  cases neg with
                  | true => exact (read_longd_n l dg a b w h1 h2 h3 hdl hal hbl hG hn (by simpa using hz) hd h48' h49' (by omega) hlb).mono fun _ _ h => readPost_err (by decide) h
                  | false => exact (read_longd_p l dg a b w h1 h2 h3 hdl hal hbl hG hn hd h48' h49' (by omega) hlb).mono fun _ _ h => readPost_err (by decide) h
                · rw [if_neg (by omega)]
                  by_cases hg : Nat.gcd (decVal a) (decVal b) = 1
                  · rw [if_pos hg]
                    cases neg with
                    | true => exact (read_frac_n l dg a b w h1 h2 h3 hdl hal hbl hG (hD.le ha) (hD.le hb) hn (by simpa using hz) hd h48' h49' (by omega) (by omega) (decide_eq_true hg)).mono fun _ _ h => readPost_ok h
                    | false => exact (read_frac_p l dg a b w h1 h2 h3 hdl hal hbl hG (hD.le ha) (hD.le hb) hn hd h48' h49' (by omega) (by omega) (decide_eq_true hg)).mono fun _ _ h => readPost_ok h
                  · rw [if_neg hg]
                    cases neg with
                    | true => exact (read_notlow_n l dg a b w h1 h2 h3 hdl hal hbl hG (hD.le ha) (hD.le hb) hn (by simpa using hz) hd h48' h49' (by omega) (by omega) (decide_eq_false hg)).mono fun _ _ h => readPost_err (by decide) h
                    | false => exact (read_notlow_p l dg a b w h1 h2 h3 hdl hal hbl hG (hD.le ha) (hD.le hb) hn hd h48' h49' (by omega) (by omega) (decide_eq_false hg)).mono fun _ _ h => readPost_err (by decide) h
        · rw [if_pos (.inl hd)]
          cases neg with
          | true => exact (read_badden_n l dg a b w h1 h2 h3 hdl hal hbl hG hn (by simpa using hz) hd).mono fun _ _ h => readPost_err (by decide) h
          | false => exact (read_badden_p l dg a b w h1 h2 h3 hdl hal hbl hG hn hd).mono fun _ _ h => readPost_err (by decide) h
  · rw [if_pos (.inl hn)]
    cases neg with
    | true => cases f with
      | true => exact (read_badnum_nf l dg a b w h1 h2 h3 hdl hal hG hn).mono fun _ _ h => readPost_err (by decide) h
      | false => exact (read_badnum_nw l dg a b w h1 h2 h3 hdl hal hG hn).mono fun _ _ h => readPost_err (by decide) h
    | false => cases f with
      | true => exact (read_badnum_pf l dg a b w h1 h2 h3 hdl hal hG hn).mono fun _ _ h => readPost_err (by decide) h
      | false => exact (read_badnum_pw l dg a b w h1 h2 h3 hdl hal hG hn).mono fun _ _ h => readPost_err (by decide) h

theorem read_c (l : List UInt8) (w : World) (hl : l.length < 4294967281) (hG : Glob w) (hD : OkLen l.length) :
    Calls Tryz.prog 102 #[.string ⟨l.toArray⟩] w (readPost (readRes l) w) :=
  read_parts l _ _ _ _ _ w rfl rfl rfl (Nat.lt_of_le_of_lt (trim_len l) hl) hG (hD.le (trim_len l))

end Go.Proofs.YtneafcdfnhnpnaaGreatDoor
/- Plain mathematics of sums and products of rational numbers. -/
namespace Go.Proofs.YtneafcdfnhnpnaaGreatDoor

/-- a natural number with a sign -/
def sg (neg : Bool) (n : Nat) : Int := if neg then -(n : Int) else n
theorem mkR_sg (neg : Bool) (n d : Nat) : (if neg then mkRat (-(n : Int)) d else mkRat n d) = mkRat (sg neg n) d := by cases neg <;> rfl
theorem sg_mul (a b : Bool) (n m : Nat) : sg a n * sg b m = sg ((a != b) && decide (0 < n * m)) (n * m) := by
  by_cases h : n * m = 0
  · rw [h]
    simp only [Nat.lt_irrefl, decide_false, Bool.and_false]
    rcases Nat.mul_eq_zero.1 h with rfl | rfl
    · cases a <;> simp [sg]
    · cases b <;> simp [sg]
  · rw [decide_eq_true (Nat.pos_of_ne_zero h), Bool.and_true]
    cases a <;> cases b <;> simp [sg, Int.neg_mul, Int.mul_neg]
theorem sg_scale (a : Bool) (n k : Nat) : sg a (n * k) = sg a n * k := by cases a <;> simp [sg, Int.neg_mul]
theorem mul_low (n d m e : Nat) (hd : d ≠ 0) (he : e ≠ 0) (h1 : Nat.gcd n d = 1) (h2 : Nat.gcd m e = 1) :
    Nat.gcd ((n / Nat.gcd n e) * (m / Nat.gcd m d)) ((d / Nat.gcd m d) * (e / Nat.gcd n e)) = 1 := by
  have c1 : Nat.Coprime n d := h1
  have c2 : Nat.Coprime m e := h2
  show Nat.Coprime _ _
  rw [Nat.coprime_mul_iff_left, Nat.coprime_mul_iff_right, Nat.coprime_mul_iff_right]
  refine ⟨⟨?_, ?_⟩, ⟨?_, ?_⟩⟩
  · exact (c1.coprime_div_left (Nat.gcd_dvd_left ..)).coprime_div_right (Nat.gcd_dvd_right ..)
  · exact Nat.coprime_div_gcd_div_gcd (Nat.gcd_pos_of_pos_right _ (by omega))
  · exact Nat.coprime_div_gcd_div_gcd (Nat.gcd_pos_of_pos_right _ (by omega))
  · exact (c2.coprime_div_left (Nat.gcd_dvd_left ..)).coprime_div_right (Nat.gcd_dvd_right ..)
theorem mul_eq (a b : Bool) (n d m e : Nat) (hd : d ≠ 0) (he : e ≠ 0) :
    mkRat (sg a n) d * mkRat (sg b m) e = mkRat (sg ((a != b) && decide (0 < (n / Nat.gcd n e) * (m / Nat.gcd m d))) ((n / Nat.gcd n e) * (m / Nat.gcd m d))) ((d / Nat.gcd m d) * (e / Nat.gcd n e)) := by
  have g1 : 0 < Nat.gcd n e := Nat.gcd_pos_of_pos_right _ (by omega)
  have g2 : 0 < Nat.gcd m d := Nat.gcd_pos_of_pos_right _ (by omega)
  rw [← sg_mul, Rat.mkRat_mul_mkRat]
  have e1 : n = (n / Nat.gcd n e) * Nat.gcd n e := (Nat.div_mul_cancel (Nat.gcd_dvd_left n e)).symm
  have e2 : e = (e / Nat.gcd n e) * Nat.gcd n e := (Nat.div_mul_cancel (Nat.gcd_dvd_right n e)).symm
  have e3 : m = (m / Nat.gcd m d) * Nat.gcd m d := (Nat.div_mul_cancel (Nat.gcd_dvd_left m d)).symm
  have e4 : d = (d / Nat.gcd m d) * Nat.gcd m d := (Nat.div_mul_cancel (Nat.gcd_dvd_right m d)).symm
  generalize Nat.gcd n e = p at *
  generalize Nat.gcd m d = q at *
  generalize n / p = n' at *
  generalize e / p = e' at *
  generalize m / q = m' at *
  generalize d / q = d' at *
  subst e1 e2 e3 e4
  rw [sg_scale, sg_scale]
  have r1 : sg a n' * (p : Int) * (sg b m' * (q : Int)) = sg a n' * sg b m' * ((p * q : Nat) : Int) := by
    rw [Int.natCast_mul]; simp only [Int.mul_assoc, Int.mul_left_comm]
  have r2 : d' * q * (e' * p) = d' * e' * (p * q) := by
    simp only [Nat.mul_left_comm, Nat.mul_comm]
  rw [r1, r2]
  exact Rat.mkRat_mul_right (Nat.mul_ne_zero (by omega) (by omega))

end Go.Proofs.YtneafcdfnhnpnaaGreatDoor
/- Contract: the product of two rational numbers. -/
namespace Go.Proofs.YtneafcdfnhnpnaaGreatDoor
open Go.RowKit Go.Lib

/-- four cells that stay while memory grows -/
theorem keep4 {W0 x x' : World} {p q : Nat} {a1 a2 b1 b2 : Value} (hb : Below x.heap.size x x') (hp : p < W0.heap.size) (hq : q < W0.heap.size)
    (h1 : x.cell? ⟨p, 1, none⟩ = some a1) (h2 : x.cell? ⟨p, 2, none⟩ = some a2) (h3 : x.cell? ⟨q, 1, none⟩ = some b1) (h4 : x.cell? ⟨q, 2, none⟩ = some b2) (h5 : Below W0.heap.size W0 x) :
    x'.cell? ⟨p, 1, none⟩ = some a1 ∧ x'.cell? ⟨p, 2, none⟩ = some a2 ∧ x'.cell? ⟨q, 1, none⟩ = some b1 ∧ x'.cell? ⟨q, 2, none⟩ = some b2 ∧ Below W0.heap.size W0 x' := by
  have hs := h5.size
  exact ⟨(hb.cell (p := ⟨p, 1, none⟩) (Nat.lt_of_lt_of_le hp hs)).trans h1, (hb.cell (p := ⟨p, 2, none⟩) (Nat.lt_of_lt_of_le hp hs)).trans h2, (hb.cell (p := ⟨q, 1, none⟩) (Nat.lt_of_lt_of_le hq hs)).trans h3, (hb.cell (p := ⟨q, 2, none⟩) (Nat.lt_of_lt_of_le hq hs)).trans h4, h5.trans (hb.mono hs)⟩

theorem keepD {W0 x : World} {p q : Nat} {a1 a2 b1 b2 : Value} (h : x.cell? ⟨p, 1, none⟩ = some a1 ∧ x.cell? ⟨p, 2, none⟩ = some a2 ∧ x.cell? ⟨q, 1, none⟩ = some b1 ∧ x.cell? ⟨q, 2, none⟩ = some b2 ∧ Below W0.heap.size W0 x) :
    x.drew.cell? ⟨p, 1, none⟩ = some a1 ∧ x.drew.cell? ⟨p, 2, none⟩ = some a2 ∧ x.drew.cell? ⟨q, 1, none⟩ = some b1 ∧ x.drew.cell? ⟨q, 2, none⟩ = some b2 ∧ Below W0.heap.size W0 x.drew :=
  ⟨h.1, h.2.1, h.2.2.1, h.2.2.2.1, h.2.2.2.2.drew⟩

def ratPost (q : Rat) (w : World) (e : Ending) (w' : World) : Prop := ∃ v, e = .returned v ∧ Rt w' v q ∧ Below w.heap.size w w'
theorem mkR_eq (neg : Bool) (n d : Nat) : mkR neg n d = mkRat (sg neg n) d := by unfold mkR; exact mkR_sg neg n d
theorem Nt.pos_len {w : World} {v : Value} {x : Nat} (h : Nt w v x) (h0 : x ≠ 0) : ∃ A k c, v = .slice A k c ∧ 0 < k ∧ k ≤ 140737488355328 := by
  obtain ⟨ws, A, c, rfl, g1, g2, g3, hc1, hc2, hs⟩ := h.open_
  refine ⟨A, ws.length, c, rfl, ?_, by omega⟩
  rcases Nat.eq_zero_or_pos ws.length with hl | hl
  · exfalso; apply h0; rw [← g1, List.length_eq_zero_iff.1 hl]; rfl
  · exact hl

set_option maxRecDepth 100000 in
set_option maxHeartbeats 4000000 in
theorem ratTimes_c (na nb : Bool) (nv dv mv ev : Value) (n d m e : Nat) (w : World) (h1 : Nt w nv n) (h2 : Nt w dv d) (h3 : Nt w mv m) (h4 : Nt w ev e) (hd : d ≠ 0) (he : e ≠ 0)
    (f1 : Fits n) (f2 : Fits d) (f3 : Fits m) (f4 : Fits e)
    (c1 : Nat.gcd n d = 1) (c2 : Nat.gcd m e = 1) :
    Calls Tryz.prog 110 #[.agg #[.bool na, nv, dv], .agg #[.bool nb, mv, ev]] w (ratPost (mkR na n d * mkR nb m e) w) := by
  have Hm := Lib.hid (mul_eq na nb n d m e hd he)
  have Hl := Lib.hid (mul_low n d m e hd he c1 c2)
  clear c1 c2
  have hD1 : 0 < d / Nat.gcd m d := Nat.div_pos (Nat.gcd_le_right m (by omega)) (Nat.gcd_pos_of_pos_right _ (by omega))
  have hE1 : 0 < e / Nat.gcd n e := Nat.div_pos (Nat.gcd_le_right n (by omega)) (Nat.gcd_pos_of_pos_right _ (by omega))
  obtain ⟨W0, hW0⟩ : ∃ W0, W0 = ((w.alloc (.cells #[.bool na, nv, dv] 122)).alloc (.cells #[.bool nb, mv, ev] 122)).alloc (.cells #[.bool false, .slice none 0 0, .slice none 0 0] 122) := ⟨_, rfl⟩
  have hB0 : Below w.heap.size w W0 := by rw [hW0]; exact (((Below.refl _ _).alloc (Nat.le_refl _) _).alloc (by simp) _).alloc (by simp; omega) _
  have hs0 : W0.heap.size = w.heap.size + 3 := by rw [hW0]; simp
  have hP : Own W0 w.heap.size 122 [.bool na, nv, dv] := by rw [hW0]; exact ((Own.make w _ [.bool na, nv, dv]).alloc _).alloc _
  have hQ : Own W0 (w.heap.size + 1) 122 [.bool nb, mv, ev] := by
    rw [hW0]
    have := Own.make (w.alloc (.cells #[.bool na, nv, dv] 122)) 122 [.bool nb, mv, ev]
    simp only [World.size_alloc] at this
    exact this.alloc _
  have hR : Own W0 (w.heap.size + 1 + 1) 122 [.bool false, .slice none 0 0, .slice none 0 0] := by
    rw [hW0]
    have := Own.make ((w.alloc (.cells #[.bool na, nv, dv] 122)).alloc (.cells #[.bool nb, mv, ev] 122)) 122 [.bool false, .slice none 0 0, .slice none 0 0]
    simp only [World.size_alloc] at this
    exact this
  have N1 := h1.below hB0
  have N2 := h2.below hB0
  have N3 := h3.below hB0
  have N4 := h4.below hB0
  have S0 : W0.drew.cell? ⟨w.heap.size, 1, none⟩ = some nv ∧ W0.drew.cell? ⟨w.heap.size, 2, none⟩ = some dv ∧ W0.drew.cell? ⟨w.heap.size + 1, 1, none⟩ = some mv ∧ W0.drew.cell? ⟨w.heap.size + 1, 2, none⟩ = some ev ∧ Below W0.heap.size W0 W0.drew :=
    ⟨hP.cell 1, hP.cell 2, hQ.cell 1, hQ.cell 2, (Below.refl _ _).drew⟩
  have hp : w.heap.size < W0.heap.size := by omega
  have hq : w.heap.size + 1 < W0.heap.size := by omega
  have HS0 := Lib.hid hs0
  clear hs0 h1 h2 h3 h4
  go_enter Tryz.func110, Tryz.ntmps110
  go_upto_region 1 with fail
  rw [← hW0]
  clear hW0
  go_region_held3 (fun w' => w'.cell? ⟨w.heap.size, 1, none⟩ = some nv ∧ w'.cell? ⟨w.heap.size, 2, none⟩ = some dv ∧ w'.cell? ⟨w.heap.size + 1, 1, none⟩ = some mv ∧ w'.cell? ⟨w.heap.size + 1, 2, none⟩ = some ev ∧ Below W0.heap.size W0 w')
    (first | exact S0 | exact keep4 (by assumption) hp hq (by assumption) (by assumption) (by assumption) (by assumption) (by assumption))
    (first
      | (go_at_call_of 172 nv; go_split_ands; refine (gcd_c nv ev n e _ (N1.below (by assumption)) (N4.below (by assumption)) f1 f4).mono ?_; rintro e w1 ⟨l, rfl, hl1, hB1⟩)
      | (go_at_call_of 172 mv; go_split_ands; refine (gcd_c mv dv m d _ (N3.below (by assumption)) (N2.below (by assumption)) f3 f2).mono ?_; rintro e w2 ⟨r, rfl, hr, hB2⟩))
  have hl := hl1.below hB2
  have hS2 : w2.cell? ⟨w.heap.size, 1, none⟩ = some nv ∧ w2.cell? ⟨w.heap.size, 2, none⟩ = some dv ∧ w2.cell? ⟨w.heap.size + 1, 1, none⟩ = some mv ∧ w2.cell? ⟨w.heap.size + 1, 2, none⟩ = some ev ∧ Below W0.heap.size W0 w2 := by assumption
  clear hl1 hB1 hB2
  have M1 := N1.below hS2.2.2.2.2
  have M2 := N2.below hS2.2.2.2.2
  have M3 := N3.below hS2.2.2.2.2
  have M4 := N4.below hS2.2.2.2.2
  have HS2 := Lib.hid hS2
  clear hS2
  generalize hg1 : Nat.gcd n e = g1 at *
  generalize hg2 : Nat.gcd m d = g2 at *
  have hg1p : 0 < g1 := by rw [← hg1]; exact Nat.gcd_pos_of_pos_right _ (by omega)
  have hg2p : 0 < g2 := by rw [← hg2]; exact Nat.gcd_pos_of_pos_right _ (by omega)
  have q1 : Fits (n / g1) := f1.le (Nat.div_le_self _ _)
  have q2 : Fits (m / g2) := f3.le (Nat.div_le_self _ _)
  have q3 : Fits (d / g2) := f2.le (Nat.div_le_self _ _)
  have q4 : Fits (e / g1) := f4.le (Nat.div_le_self _ _)
  clear hg1 hg2
  go_wp2
  go_region_held3 (fun w' => w'.cell? ⟨w.heap.size, 1, none⟩ = some nv ∧ w'.cell? ⟨w.heap.size, 2, none⟩ = some dv ∧ w'.cell? ⟨w.heap.size + 1, 1, none⟩ = some mv ∧ w'.cell? ⟨w.heap.size + 1, 2, none⟩ = some ev ∧ Below w2.heap.size w2 w')
    (first | exact ⟨HS2.out.1, HS2.out.2.1, HS2.out.2.2.1, HS2.out.2.2.2.1, (Below.refl _ _).drew⟩ | exact keep4 (by assumption) (Nat.lt_of_lt_of_le hp HS2.out.2.2.2.2.size) (Nat.lt_of_lt_of_le hq HS2.out.2.2.2.2.size) (by assumption) (by assumption) (by assumption) (by assumption) (by assumption))
    (first
      | (go_at_call_of 176 nv; go_split_ands; refine (divided_c nv l n g1 _ (M1.below (by assumption)) (hl.below (by assumption)) hg1p f1).mono ?_; rintro e w3 ⟨x1, rfl, hx1, hB3⟩)
      | (go_at_call_of 176 mv; go_split_ands; refine (divided_c mv r m g2 _ (M3.below (by assumption)) (hr.below (by assumption)) hg2p f3).mono ?_; rintro e w4 ⟨x2, rfl, hx2, hB4⟩)
      | (go_at_call 178; go_split_ands; refine (times_c _ _ (n / g1) (m / g2) _ (hx1.below (by assumption)) hx2 q1 q2).mono ?_; rintro e w5 ⟨num, rfl, hnum, hB5⟩))
  have hS5 : w5.cell? ⟨w.heap.size, 1, none⟩ = some nv ∧ w5.cell? ⟨w.heap.size, 2, none⟩ = some dv ∧ w5.cell? ⟨w.heap.size + 1, 1, none⟩ = some mv ∧ w5.cell? ⟨w.heap.size + 1, 2, none⟩ = some ev ∧ Below w2.heap.size w2 w5 := by assumption
  have L2 := Nat.lt_of_lt_of_le hp HS2.out.2.2.2.2.size
  have L3 := Nat.lt_of_lt_of_le hq HS2.out.2.2.2.2.size
  have L5 := Nat.lt_of_lt_of_le L2 hS5.2.2.2.2.size
  have L6 := Nat.lt_of_lt_of_le L3 hS5.2.2.2.2.size
  have P2 := M2.below hS5.2.2.2.2
  have P4 := M4.below hS5.2.2.2.2
  have hl5 := hl.below hS5.2.2.2.2
  have hr5 := hr.below hS5.2.2.2.2
  have hW5 := HS2.out.2.2.2.2.trans (hS5.2.2.2.2.mono HS2.out.2.2.2.2.size)
  have HS5 := Lib.hid hS5
  clear hS5 M1 M2 M3 M4 hx1 hx2 hl hr
  go_wp2
  go_region_held3 (fun w' => w'.cell? ⟨w.heap.size, 1, none⟩ = some nv ∧ w'.cell? ⟨w.heap.size, 2, none⟩ = some dv ∧ w'.cell? ⟨w.heap.size + 1, 1, none⟩ = some mv ∧ w'.cell? ⟨w.heap.size + 1, 2, none⟩ = some ev ∧ Below w5.heap.size w5 w')
    (first | exact ⟨HS5.out.1, HS5.out.2.1, HS5.out.2.2.1, HS5.out.2.2.2.1, (Below.refl _ _).drew⟩ | exact keep4 (by assumption) L5 L6 (by assumption) (by assumption) (by assumption) (by assumption) (by assumption))
    (first
      | (go_at_call_of 176 dv; go_split_ands; refine (divided_c dv r d g2 _ (P2.below (by assumption)) (hr5.below (by assumption)) hg2p f2).mono ?_; rintro e w6 ⟨x1, rfl, hx1, hB6⟩)
      | (go_at_call_of 176 ev; go_split_ands; refine (divided_c ev l e g1 _ (P4.below (by assumption)) (hl5.below (by assumption)) hg1p f4).mono ?_; rintro e w7 ⟨x2, rfl, hx2, hB7⟩)
      | (go_at_call 178; go_split_ands; refine (times_c _ _ (d / g2) (e / g1) _ (hx1.below (by assumption)) hx2 q3 q4).mono ?_; rintro e w8 ⟨den, rfl, hden, hB8⟩))
  have hS8 : w8.cell? ⟨w.heap.size, 1, none⟩ = some nv ∧ w8.cell? ⟨w.heap.size, 2, none⟩ = some dv ∧ w8.cell? ⟨w.heap.size + 1, 1, none⟩ = some mv ∧ w8.cell? ⟨w.heap.size + 1, 2, none⟩ = some ev ∧ Below w5.heap.size w5 w8 := by assumption
  have hnum8 := hnum.below hS8.2.2.2.2
  have hW8 := hW5.trans (hS8.2.2.2.2.mono hW5.size)
  have hP8 := hP.below hW8 hp
  have hQ8 := hQ.below hW8 hq
  have hR8 := hR.below hW8 (by have := HS0.out; omega)
  clear hS8 hx1 hx2 hnum P2 P4 hl5 hr5
  obtain ⟨c0, c1, c2, _, _, _⟩ := hP8.three
  obtain ⟨d0, d1, d2, _, _, _⟩ := hQ8.three
  obtain ⟨e0, e1, e2, k0, k1, k2⟩ := hR8.three
  have hWt := hB0.trans (hW8.mono hB0.size)
  have hDp : d / g2 * (e / g1) ≠ 0 := Nat.mul_ne_zero (by omega) (by omega)
  have key : ∀ ng : Bool, ng = ((na != nb) && decide (0 < n / g1 * (m / g2))) → Hid (Rt (((w8.setCell ⟨w.heap.size + 1 + 1, 0, none⟩ (.bool ng)).setCell ⟨w.heap.size + 1 + 1, 1, none⟩ num).setCell ⟨w.heap.size + 1 + 1, 2, none⟩ den) (.agg #[.bool ng, num, den]) (mkR na n d * mkR nb m e)) := by
    intro ng hng
    apply Lib.hid
    rw [mkR_eq, mkR_eq, Hm.out, ← hng, ← mkR_eq]
    refine Rt.mk_ hDp Hl.out ?_ (hnum8.put3 hR8 (noInt_bool _) (noInt_slice _ _ _) (noInt_slice _ _ _) (noInt_bool _) hnum8.noInt) (hden.put3 hR8 (noInt_bool _) (noInt_slice _ _ _) (noInt_slice _ _ _) (noInt_bool _) hnum8.noInt)
    intro h hz
    rw [hng, hz] at h
    simp at h
  have Key := Lib.hid key
  clear key
  obtain ⟨A2, k2', cc2, hdvs, _⟩ := hden.size_
  by_cases hz : n / g1 * (m / g2) = 0
  · have hdz : decide (0 < n / g1 * (m / g2)) = false := by simp [hz]
    obtain ⟨A, cc, hnv⟩ := Nt.zero_len (hz ▸ hnum8)
    rw [hdz] at Key
    clear hnum8 hden hz hdz
    subst hnv hdvs
    cases na <;> cases nb
    all_goals
      have KR := Key.out false rfl
      go_wp2
      exact bodyPost_ret (v := .agg #[.bool false, .slice A 0 cc, .slice A2 k2' cc2]) (by simp [results, Tryz.results110, go_sem, e0, e1, e2]) rfl ⟨_, rfl, KR.out, ((hWt.setCell (by simp; omega) _).setCell (by simp; omega) _).setCell (by simp; omega) _⟩
  · have hdz : decide (0 < n / g1 * (m / g2)) = true := by simp; omega
    obtain ⟨A, kk, cc, hnv, hkk, hkm⟩ := hnum8.pos_len hz
    rw [hdz] at Key
    clear hnum8 hden hz hdz
    subst hnv hdvs
    cases na <;> cases nb
    · have KR := Key.out false rfl
      go_wp2
      exact bodyPost_ret (v := .agg #[.bool false, .slice A kk cc, .slice A2 k2' cc2]) (by simp [results, Tryz.results110, go_sem, e0, e1, e2]) rfl ⟨_, rfl, KR.out, ((hWt.setCell (by simp; omega) _).setCell (by simp; omega) _).setCell (by simp; omega) _⟩
    · have KR := Key.out true rfl
      go_wp2
      exact bodyPost_ret (v := .agg #[.bool true, .slice A kk cc, .slice A2 k2' cc2]) (by simp [results, Tryz.results110, go_sem, e0, e1, e2]) rfl ⟨_, rfl, KR.out, ((hWt.setCell (by simp; omega) _).setCell (by simp; omega) _).setCell (by simp; omega) _⟩
    · have KR := Key.out true rfl
      go_wp2
      exact bodyPost_ret (v := .agg #[.bool true, .slice A kk cc, .slice A2 k2' cc2]) (by simp [results, Tryz.results110, go_sem, e0, e1, e2]) rfl ⟨_, rfl, KR.out, ((hWt.setCell (by simp; omega) _).setCell (by simp; omega) _).setCell (by simp; omega) _⟩
    · have KR := Key.out false rfl
      go_wp2
      exact bodyPost_ret (v := .agg #[.bool false, .slice A kk cc, .slice A2 k2' cc2]) (by simp [results, Tryz.results110, go_sem, e0, e1, e2]) rfl ⟨_, rfl, KR.out, ((hWt.setCell (by simp; omega) _).setCell (by simp; omega) _).setCell (by simp; omega) _⟩

theorem ratTimes_r (v u : Value) (p q : Rat) (w : World) (h : Rt w v p) (h' : Rt w u q) (f1 : Fits p.num.natAbs) (f2 : Fits p.den) (f3 : Fits q.num.natAbs) (f4 : Fits q.den) :
    Calls Tryz.prog 110 #[v, u] w (ratPost (p * q) w) := by
  obtain ⟨na, nv, dv, n, d, rfl, h1, h2, hd, c1, _, hp, _, hn, hdd⟩ := h.open_
  obtain ⟨nb, mv, ev, m, e, rfl, h3, h4, he, c2, _, hq, _, hm, hee⟩ := h'.open_
  rw [hp, hq]
  exact ratTimes_c na nb nv dv mv ev n d m e w h1 h2 h3 h4 hd he (hn ▸ f1) (hdd ▸ f2) (hm ▸ f3) (hee ▸ f4) c1 c2

end Go.Proofs.YtneafcdfnhnpnaaGreatDoor
/- Contracts: the negative, the sign and the quotient of rational numbers; integers as rational numbers. -/
namespace Go.Proofs.YtneafcdfnhnpnaaGreatDoor
open Go.RowKit Go.Lib

theorem neg_mkR (neg : Bool) (n d : Nat) : -mkR neg n d = mkR ((!neg) && decide (0 < n)) n d := by
  rw [mkR_eq, mkR_eq, Rat.neg_mkRat]
  congr 1
  by_cases h : n = 0
  · subst h; cases neg <;> simp [sg]
  · rw [decide_eq_true (Nat.pos_of_ne_zero h)]; cases neg <;> simp [sg]
theorem inv_mkR (neg : Bool) (n d : Nat) : (mkR neg n d)⁻¹ = mkR neg d n := by
  rw [mkR_eq, mkR_eq, ← Rat.divInt_ofNat, ← Rat.divInt_ofNat, Rat.inv_divInt]
  cases neg
  · rfl
  · show Rat.divInt (d : Int) (-(n : Int)) = Rat.divInt (-(d : Int)) n
    rw [Rat.divInt_neg']

theorem box1 (w : World) (a b c : Value) : ∃ W0, W0 = (w.alloc (.cells #[a, b, c] 122)).alloc (.cells #[.bool false, .slice none 0 0, .slice none 0 0] 122) ∧
    Own W0 w.heap.size 122 [a, b, c] ∧ Own W0 (w.heap.size + 1) 122 [.bool false, .slice none 0 0, .slice none 0 0] ∧ Below w.heap.size w W0 ∧ w.heap.size + 1 < W0.heap.size := by
  refine ⟨_, rfl, (Own.make w _ [a, b, c]).alloc _, ?_, ((Below.refl _ _).alloc (Nat.le_refl _) _).alloc (by simp) _, by simp⟩
  have := Own.make (w.alloc (.cells #[a, b, c] 122)) 122 [.bool false, .slice none 0 0, .slice none 0 0]
  simp only [World.size_alloc] at this
  exact this
theorem box2 (w : World) (a b c a' b' c' : Value) : ∃ W0, W0 = ((w.alloc (.cells #[a, b, c] 122)).alloc (.cells #[a', b', c'] 122)).alloc (.cells #[.bool false, .slice none 0 0, .slice none 0 0] 122) ∧
    Own W0 w.heap.size 122 [a, b, c] ∧ Own W0 (w.heap.size + 1) 122 [a', b', c'] ∧ Own W0 (w.heap.size + 1 + 1) 122 [.bool false, .slice none 0 0, .slice none 0 0] ∧ Below w.heap.size w W0 ∧ w.heap.size + 1 + 1 < W0.heap.size := by
  refine ⟨_, rfl, ((Own.make w _ [a, b, c]).alloc _).alloc _, ?_, ?_, (((Below.refl _ _).alloc (Nat.le_refl _) _).alloc (by simp) _).alloc (by simp; omega) _, by simp⟩
  · have := Own.make (w.alloc (.cells #[a, b, c] 122)) 122 [a', b', c']
    simp only [World.size_alloc] at this
    exact this.alloc _
  · have := Own.make ((w.alloc (.cells #[a, b, c] 122)).alloc (.cells #[a', b', c'] 122)) 122 [.bool false, .slice none 0 0, .slice none 0 0]
    simp only [World.size_alloc] at this
    exact this

set_option maxRecDepth 100000 in
set_option maxHeartbeats 2000000 in
theorem negated_c (v : Value) (q : Rat) (w : World) (h : Rt w v q) : Calls Tryz.prog 179 #[v] w (ratPost (-q) w) := by
  obtain ⟨neg, nv, dv, n, d, rfl, h1, h2, hd, hc, hnn, hq, z1, z2, z3⟩ := h.open_
  clear z1 z2 z3
  obtain ⟨W0, hW0, hP, hR, hB0, hs0⟩ := box1 w (.bool neg) nv dv
  have key : ∀ ng : Bool, ng = ((!neg) && decide (0 < n)) → Hid (Rt (((W0.setCell ⟨w.heap.size + 1, 0, none⟩ (.bool ng)).setCell ⟨w.heap.size + 1, 1, none⟩ nv).setCell ⟨w.heap.size + 1, 2, none⟩ dv) (.agg #[.bool ng, nv, dv]) (-q)) := by
    intro ng hng
    apply Lib.hid
    rw [hq, neg_mkR, ← hng]
    refine Rt.mk_ hd hc ?_ ((h1.below hB0).put3 hR (noInt_bool _) (noInt_slice _ _ _) (noInt_slice _ _ _) (noInt_bool _) h1.noInt) ((h2.below hB0).put3 hR (noInt_bool _) (noInt_slice _ _ _) (noInt_slice _ _ _) (noInt_bool _) h1.noInt)
    intro e hz
    rw [hng, hz] at e
    simp at e
  have Key := Lib.hid key
  obtain ⟨A2, k2, c2, hdv, _⟩ := h2.size_
  obtain ⟨c0, c1, c2', _, _, _⟩ := hP.three
  obtain ⟨e0, e1, e2, k0, k1, k2'⟩ := hR.three
  clear key hd hc hnn hq h hP hR
  by_cases hz : n = 0
  · obtain ⟨A, cc, hnv⟩ := Nt.zero_len (hz ▸ h1)
    rw [hz] at Key
    clear h1 h2 hz
    subst hnv hdv
    have KR := Key.out false (by cases neg <;> rfl)
    clear Key
    cases neg
    all_goals
      go_enter Tryz.func179, Tryz.ntmps179
      go_upto_region 1 with fail
      rw [← hW0]
      clear hW0
      go_wp2
      exact bodyPost_ret (v := .agg #[.bool false, .slice A 0 cc, .slice A2 k2 c2]) (by simp [results, Tryz.results179, go_sem, e0, e1, e2]) rfl ⟨_, rfl, KR.out, ((hB0.setCell (by simp) _).setCell (by simp) _).setCell (by simp) _⟩
  · obtain ⟨A, kk, cc, hnv, hkk, hkm⟩ := h1.pos_len hz
    rw [decide_eq_true (Nat.pos_of_ne_zero hz)] at Key
    clear h1 h2 hz
    subst hnv hdv
    cases neg
    · have KR := Key.out true rfl
      go_enter Tryz.func179, Tryz.ntmps179
      go_upto_region 1 with fail
      rw [← hW0]
      clear hW0
      go_wp2
      exact bodyPost_ret (v := .agg #[.bool true, .slice A kk cc, .slice A2 k2 c2]) (by simp [results, Tryz.results179, go_sem, e0, e1, e2]) rfl ⟨_, rfl, KR.out, ((hB0.setCell (by simp) _).setCell (by simp) _).setCell (by simp) _⟩
    · have KR := Key.out false rfl
      go_enter Tryz.func179, Tryz.ntmps179
      go_upto_region 1 with fail
      rw [← hW0]
      clear hW0
      go_wp2
      exact bodyPost_ret (v := .agg #[.bool false, .slice A kk cc, .slice A2 k2 c2]) (by simp [results, Tryz.results179, go_sem, e0, e1, e2]) rfl ⟨_, rfl, KR.out, ((hB0.setCell (by simp) _).setCell (by simp) _).setCell (by simp) _⟩

/-- the sign as a number -/
def ratSign (q : Rat) : Int := if q.num = 0 then 0 else if q.num < 0 then -1 else 1
set_option maxRecDepth 100000 in
set_option maxHeartbeats 2000000 in
theorem sign_c (v : Value) (q : Rat) (w : World) (h : Rt w v q) : Calls Tryz.prog 114 #[v] w fun e w' => e = .returned (.int .i64 (ratSign q)) ∧ Below w.heap.size w w' := by
  obtain ⟨neg, nv, dv, n, d, rfl, h1, h2, z1, z2, z3, z4, hneg, hn, z5⟩ := h.open_
  clear z1 z2 z3 z4 z5
  by_cases hz : n = 0
  · obtain ⟨A, cc, hnv⟩ := Nt.zero_len (hz ▸ h1)
    have hs : ratSign q = 0 := by unfold ratSign; rw [if_pos (by omega)]
    have Hs := Lib.hid hs
    clear h1 h2 hz h hneg hn hs
    subst hnv
    go_enter Tryz.func114, Tryz.ntmps114
    go_wp2
    go_ret
    exact ⟨by rw [Hs.out]; rfl, (Below.refl _ _).alloc (Nat.le_refl _) _⟩
  · obtain ⟨A, kk, cc, hnv, hkk, hkm⟩ := h1.pos_len hz
    have hb : ((kk : Int) == 0) = false := by simpa using (by omega : ¬ (kk : Int) = 0)
    cases neg
    · have hs : ratSign q = 1 := by
        have := of_decide_eq_false hneg.symm
        unfold ratSign; rw [if_neg (by omega), if_neg this]
      have Hs := Lib.hid hs
      clear h1 h2 hz h hneg hn hs
      subst hnv
      go_enter Tryz.func114, Tryz.ntmps114
      go_wp2
      go_ret
      exact ⟨by rw [Hs.out]; rfl, (Below.refl _ _).alloc (Nat.le_refl _) _⟩
    · have hs : ratSign q = -1 := by
        have := of_decide_eq_true hneg.symm
        unfold ratSign; rw [if_neg (by omega), if_pos this]
      have Hs := Lib.hid hs
      clear h1 h2 hz h hneg hn hs
      subst hnv
      go_enter Tryz.func114, Tryz.ntmps114
      go_wp2
      go_ret
      exact ⟨by rw [Hs.out]; rfl, (Below.refl _ _).alloc (Nat.le_refl _) _⟩

set_option maxRecDepth 100000 in
set_option maxHeartbeats 2000000 in
theorem rationalOf_c (n : Int) (w : World) (h1 : -9223372036854775808 ≤ n) (h2 : n ≤ 9223372036854775807) : Calls Tryz.prog 125 #[.int .i64 n] w (ratPost (n : Rat) w) := by
  have hO := Own.make w 122 [.bool false, .slice none 0 0, .slice none 0 0]
  have hB : Below w.heap.size w (w.alloc (.cells #[.bool false, .slice none 0 0, .slice none 0 0] 122)) := (Below.refl _ _).alloc (Nat.le_refl _) _
  obtain ⟨W0, hW0⟩ : ∃ W0, W0 = w.alloc (.cells #[.bool false, .slice none 0 0, .slice none 0 0] 122) := ⟨_, rfl⟩
  have hs : w.heap.size < W0.heap.size := by rw [hW0]; simp
  change Own (w.alloc (.cells #[.bool false, .slice none 0 0, .slice none 0 0] 122)) _ _ _ at hO
  rw [← hW0] at hO hB
  have ha : n.natAbs < WB := by unfold WB; omega
  have hq : (n : Rat) = mkR (decide (n < 0)) n.natAbs 1 := by
    rw [mkR_eq]
    by_cases h : n < 0
    · rw [decide_eq_true h]; show _ = mkRat (-(n.natAbs : Int)) 1; rw [show -(n.natAbs : Int) = n from by omega]; exact (Rat.mkRat_one n).symm
    · rw [decide_eq_false h]; show _ = mkRat (n.natAbs : Int) 1; rw [show (n.natAbs : Int) = n from by omega]; exact (Rat.mkRat_one n).symm
  have Hq := Lib.hid hq
  clear hq
  go_enter Tryz.func125, Tryz.ntmps125
  go_upto_region 1 with fail
  rw [← hW0]
  clear hW0
  go_wp2_with (go_at_call 131; refine (magnitude_c _ _ h1 h2).mono ?_; rintro e w' ⟨rfl, rfl⟩)
  refine (naturalOf_c n.natAbs _ ha).mono ?_
  rintro e w2 ⟨nv, rfl, hnv, hB2⟩
  have hO2 := (hO.below hB2 hs).alloc (.cells #[.int .u64 1] 148)
  have hnv2 := hnv.below ((Below.refl _ w2).alloc (Nat.le_refl _) (.cells #[.int .u64 1] 148))
  have hone := Nt.one w2 148
  have hW2 := (hB.trans (hB2.mono hB.size)).alloc (Nat.le_trans hB.size hB2.size) (.cells #[.int .u64 1] 148)
  have hR := Rt.mk_ (neg := decide (n < 0)) (by decide : (1 : Nat) ≠ 0) (Nat.gcd_one_right n.natAbs) (by intro h; have := of_decide_eq_true h; omega)
    (hnv2.put3 (a' := .bool (decide (n < 0))) (b' := nv) (c' := .slice (some ⟨w2.heap.size, 0, none⟩) 1 1) hO2 (noInt_bool _) (noInt_slice _ _ _) (noInt_slice _ _ _) (noInt_bool _) hnv.noInt)
    (hone.put3 (a' := .bool (decide (n < 0))) (b' := nv) (c' := .slice (some ⟨w2.heap.size, 0, none⟩) 1 1) hO2 (noInt_bool _) (noInt_slice _ _ _) (noInt_slice _ _ _) (noInt_bool _) hnv.noInt)
  rw [← Hq.out] at hR
  have HR := Lib.hid hR
  have HW := Lib.hid hW2
  obtain ⟨A, kk, cc, hnvs, _⟩ := hnv.size_
  obtain ⟨e0, e1, e2, k0, k1, k2⟩ := hO2.three
  clear hR hone hnv hnv2 hO2 hW2 h1 h2 ha
  generalize decide (n < 0) = ng at *
  subst hnvs
  go_wp2
  exact bodyPost_ret (v := .agg #[.bool ng, .slice A kk cc, .slice (some ⟨w2.heap.size, 0, none⟩) 1 1]) (by simp [results, Tryz.results125, go_sem, e0, e1, e2]) rfl ⟨_, rfl, HR.out, ((HW.out.setCell (by simp) _).setCell (by simp) _).setCell (by simp) _⟩

set_option maxRecDepth 100000 in
set_option maxHeartbeats 2000000 in
theorem over_c (v u : Value) (p q : Rat) (w : World) (h : Rt w v p) (h' : Rt w u q) (hq0 : q ≠ 0) (f1 : Fits p.num.natAbs) (f2 : Fits p.den) (f3 : Fits q.num.natAbs) (f4 : Fits q.den) :
    Calls Tryz.prog 112 #[v, u] w (ratPost (p / q) w) := by
  obtain ⟨na, nv, dv, n, d, rfl, h1, h2, hd, hc1, hna, hp, z1, z2, z3⟩ := h.open_
  obtain ⟨nb, mv, ev, m, e, rfl, h3, h4, he, hc2, hnb, hq, y1, y2, y3⟩ := h'.open_
  have hm0 : m ≠ 0 := by
    intro hm
    apply hq0
    rw [hq, hm, mkR_eq]
    cases nb <;> simp [sg]
  obtain ⟨W0, hW0, hP, hQ, hR, hB0, hs0⟩ := box2 w (.bool na) nv dv (.bool nb) mv ev
  have hcall := ratTimes_c na nb nv dv ev mv n d e m W0 (h1.below hB0) (h2.below hB0) (h4.below hB0) (h3.below hB0) hd hm0 (z2 ▸ f1) (z3 ▸ f2) (y3 ▸ f4) (y2 ▸ f3) hc1 (by rw [Nat.gcd_comm]; exact hc2)
  rw [← hp, ← inv_mkR nb m e, ← hq, ← Rat.div_def] at hcall
  have Hcall := Lib.hid hcall
  obtain ⟨A, k1, c1, hnv, _⟩ := h1.size_
  obtain ⟨A2, k2, c2, hdv, _⟩ := h2.size_
  obtain ⟨A3, k3, c3, hmv, _⟩ := h3.size_
  obtain ⟨A4, k4, c4, hev, _⟩ := h4.size_
  clear hcall z1 z2 z3 y1 y2 y3 hq hp hc1 hc2 hna hnb h h' h1 h2 h3 h4 f1 f2 f3 f4 hd he hm0 hq0
  subst hnv hdv hmv hev
  obtain ⟨a0, a1, a2, _, _, _⟩ := hP.three
  obtain ⟨b0, b1, b2, _, _, _⟩ := hQ.three
  go_enter Tryz.func112, Tryz.ntmps112
  go_upto_region 1 with fail
  rw [← hW0]
  clear hW0
  go_wp2_with fail
  refine Hcall.out.mono ?_
  rintro e w1 ⟨v, rfl, hv, hB1⟩
  obtain ⟨nv1, dv1, hvs, g1, g2⟩ := hv
  obtain ⟨A5, k5, c5, hnv1, _⟩ := g1.size_
  obtain ⟨A6, k6, c6, hdv1, _⟩ := g2.size_
  have hR1 := hR.below hB1 hs0
  have hv2 : Rt w1 (.agg #[.bool (decide ((p / q).num < 0)), nv1, dv1]) (p / q) := ⟨nv1, dv1, rfl, g1, g2⟩
  have HV := Lib.hid (hv2.put3 (a' := .bool (decide ((p / q).num < 0))) (b' := nv1) (c' := dv1) hR1 (noInt_bool _) (noInt_slice _ _ _) (noInt_slice _ _ _) (noInt_bool _) g1.noInt)
  obtain ⟨e0, e1, e2, k0, k1', k2'⟩ := hR1.three
  have hWt := hB0.trans (hB1.mono hB0.size)
  clear g1 g2 hR1 hv2 hP hQ hR
  generalize decide ((p / q).num < 0) = ng at *
  subst hvs hnv1 hdv1
  go_wp2
  exact bodyPost_ret (v := .agg #[.bool ng, .slice A5 k5 c5, .slice A6 k6 c6]) (by simp [results, Tryz.results112, go_sem, e0, e1, e2]) rfl ⟨_, rfl, HV.out, ((hWt.setCell (by simp; omega) _).setCell (by simp; omega) _).setCell (by simp; omega) _⟩

end Go.Proofs.YtneafcdfnhnpnaaGreatDoor
/- Contract: the sum of two numbers with signs. -/
namespace Go.Proofs.YtneafcdfnhnpnaaGreatDoor
open Go.RowKit Go.Lib

/-- the sign and the magnitude of a sum -/
def sumSg (na : Bool) (x : Nat) (nb : Bool) (y : Nat) : Bool × Nat :=
  if na = nb then (na, x + y) else if x = y then (false, 0) else if y < x then (na, x - y) else (nb, y - x)
theorem ord3_eq {x y : Nat} (h : x = y) : ord3 x y = 0 := by unfold ord3; rw [if_neg (by omega), if_neg (by omega)]
theorem ord3_gt {x y : Nat} (h : y < x) : ord3 x y = 1 := by unfold ord3; rw [if_neg (by omega), if_pos h]
theorem ord3_lt {x y : Nat} (h : x < y) : ord3 x y = -1 := by unfold ord3; rw [if_pos h]
def sumPost (r : Bool × Nat) (w : World) (e : Ending) (w' : World) : Prop := ∃ v, e = .returned (.tuple #[.bool r.1, v]) ∧ Nt w' v r.2 ∧ Below w.heap.size w w'

set_option maxHeartbeats 1000000 in
theorem signedSum_c (na nb : Bool) (v u : Value) (x y : Nat) (w : World) (h : Nt w v x) (h' : Nt w u y) (f1 : Fits x) (f2 : Fits y) :
    Calls Tryz.prog 177 #[.bool na, v, .bool nb, u] w (sumPost (sumSg na x nb y) w) := by
  have HS := Lib.hid (rfl : sumSg na x nb y = sumSg na x nb y)
  conv at HS => rhs; rhs; unfold sumSg
  generalize sumSg na x nb y = r at *
  by_cases he : na = nb
  · have HS' := Lib.hid (HS.out.trans (if_pos he))
    clear HS
    have hb : (na == nb) = true := by simp [he]
    clear he
    go_enter Tryz.func177, Tryz.ntmps177
    go_wp2_with (go_at_call 228; refine (plus_c v u x y _ h h' f1 f2).mono ?_; rintro e w2 ⟨s, rfl, hs, hB⟩)
    go_ret2
    exact ⟨s, by rw [HS'.out]; rfl, by rw [HS'.out]; exact hs, hB⟩
  · have HS1 := Lib.hid (HS.out.trans (if_neg he))
    have hb : (na == nb) = false := by simpa using he
    clear HS he
    by_cases hxy : x = y
    · have HS2 := Lib.hid (HS1.out.trans (if_pos hxy))
      have Ho := Lib.hid (ord3_eq hxy)
      clear HS1 hxy
      go_enter Tryz.func177, Tryz.ntmps177
      go_wp2_with (go_at_call 220; refine (compare_c v u x y _ h h').mono ?_; rintro e w2 ⟨rfl, n, rfl⟩; rw [Ho.out])
      go_ret2
      exact ⟨_, by rw [HS2.out]; rfl, by rw [HS2.out]; exact Nt.nil, below_drewN (Below.refl _ _) n⟩
    · have HS2 := Lib.hid (HS1.out.trans (if_neg hxy))
      clear HS1
      by_cases hlt : y < x
      · have HS3 := Lib.hid (HS2.out.trans (if_pos hlt))
        have Ho := Lib.hid (ord3_gt hlt)
        have Hl := Lib.hid (Nat.le_of_lt hlt)
        clear HS2 hxy hlt
        go_enter Tryz.func177, Tryz.ntmps177
        go_wp2_with (first
          | (go_at_call 220; refine (compare_c v u x y _ h h').mono ?_; rintro e w2 ⟨rfl, n, rfl⟩; rw [Ho.out])
          | (go_at_call 229; refine (minus_c v u x y _ (h.drewN n) (h'.drewN n) Hl.out f1).mono ?_; rintro e w3 ⟨s, rfl, hs, hB⟩))
        go_ret2
        exact ⟨s, by rw [HS3.out]; rfl, by rw [HS3.out]; exact hs, (below_drewN (Below.refl _ w) n).trans hB⟩
      · have HS3 := Lib.hid (HS2.out.trans (if_neg hlt))
        have Ho := Lib.hid (ord3_lt (show x < y by omega))
        have Hl := Lib.hid (show x ≤ y by omega)
        clear HS2 hxy hlt
        go_enter Tryz.func177, Tryz.ntmps177
        go_wp2_with (first
          | (go_at_call 220; refine (compare_c v u x y _ h h').mono ?_; rintro e w2 ⟨rfl, n, rfl⟩; rw [Ho.out])
          | (go_at_call 229; refine (minus_c u v y x _ (h'.drewN n) (h.drewN n) Hl.out f2).mono ?_; rintro e w3 ⟨s, rfl, hs, hB⟩))
        go_ret2
        exact ⟨s, by rw [HS3.out]; rfl, by rw [HS3.out]; exact hs, (below_drewN (Below.refl _ w) n).trans hB⟩

end Go.Proofs.YtneafcdfnhnpnaaGreatDoor
/- Numbers: the sum of two rational numbers, as the program computes it. -/
namespace Go.Proofs.YtneafcdfnhnpnaaGreatDoor
open Go.RowKit Go.Lib

theorem maybe_parts (num : Int) (den g : Nat) (h1 : (g : Int) ∣ num) (h2 : g ∣ den) (h3 : den / g ≠ 0) (h4 : (num / g).natAbs.Coprime (den / g)) : (Rat.maybeNormalize num den g h1 h2 h3 h4).num = num / g ∧ (Rat.maybeNormalize num den g h1 h2 h3 h4).den = den / g := by
  unfold Rat.maybeNormalize
  split
  · rename_i h; subst h; simp
  · simp
theorem add_parts (p q : Rat) : (p + q).num = (p.num * ((q.den / Nat.gcd p.den q.den : Nat) : Int) + q.num * ((p.den / Nat.gcd p.den q.den : Nat) : Int)) / ((Nat.gcd (p.num * ((q.den / Nat.gcd p.den q.den : Nat) : Int) + q.num * ((p.den / Nat.gcd p.den q.den : Nat) : Int)).natAbs (Nat.gcd p.den q.den) : Nat) : Int)
    ∧ (p + q).den = (p.den / Nat.gcd p.den q.den) * (q.den / Nat.gcd (p.num * ((q.den / Nat.gcd p.den q.den : Nat) : Int) + q.num * ((p.den / Nat.gcd p.den q.den : Nat) : Int)).natAbs (Nat.gcd p.den q.den)) := by
  change (Rat.add p q).num = _ ∧ (Rat.add p q).den = _
  unfold Rat.add
  dsimp only
  have hgq : Nat.gcd p.den q.den ∣ q.den := Nat.gcd_dvd_right _ _
  split
  · rename_i h1
    simp [h1]
  · rename_i h1
    have hcg := Nat.gcd_dvd_right (p.num * ((q.den / Nat.gcd p.den q.den : Nat) : Int) + q.num * ((p.den / Nat.gcd p.den q.den : Nat) : Int)).natAbs (Nat.gcd p.den q.den)
    have hcq := Nat.dvd_trans hcg hgq
    refine ⟨(maybe_parts _ _ _ _ _ _ _).1, ?_⟩
    exact (maybe_parts _ _ _ _ _ _ _).2.trans (Nat.mul_div_assoc _ hcq)

theorem sumSg_eq (na nb : Bool) (x y : Nat) : sg (sumSg na x nb y).1 (sumSg na x nb y).2 = sg na x + sg nb y := by
  unfold sumSg
  by_cases h1 : na = nb
  · subst h1; rw [if_pos rfl]; cases na <;> simp [sg] <;> omega
  · rw [if_neg h1]
    by_cases h2 : x = y
    · rw [if_pos h2]; cases na <;> cases nb <;> simp_all [sg] <;> omega
    · rw [if_neg h2]
      by_cases h3 : y < x
      · rw [if_pos h3]; cases na <;> cases nb <;> simp_all [sg] <;> omega
      · rw [if_neg h3]; cases na <;> cases nb <;> simp_all [sg] <;> omega
theorem sumSg_abs (na nb : Bool) (x y : Nat) : (sumSg na x nb y).2 = (sg na x + sg nb y).natAbs := by
  rw [← sumSg_eq]; unfold sg; split <;> simp
/-- no number but one below 0 has the sign of one -/
theorem sumSg_neg (na nb : Bool) (x y : Nat) (hx : na = true → x ≠ 0) (hy : nb = true → y ≠ 0) : (sumSg na x nb y).1 = decide (sg na x + sg nb y < 0) := by
  unfold sumSg
  by_cases h1 : na = nb
  · subst h1; rw [if_pos rfl]; cases na <;> simp_all [sg] <;> omega
  · rw [if_neg h1]
    by_cases h2 : x = y
    · rw [if_pos h2]; cases na <;> cases nb <;> simp_all [sg] <;> omega
    · rw [if_neg h2]
      by_cases h3 : y < x
      · rw [if_pos h3]; cases na <;> cases nb <;> simp_all [sg] <;> omega
      · rw [if_neg h3]; cases na <;> cases nb <;> simp_all [sg] <;> omega

end Go.Proofs.YtneafcdfnhnpnaaGreatDoor
