/- Contracts: the sum and the difference of two rational numbers. -/
import Derived.Test.YtneafcdfnhnpnaaGreatDoorZ09
import Derived.Deep.RegionHeld3
import Derived.Deep.DeepCutAuto
import Derived.Test.YtneafcdfnhnpnaaGreatDoorZ03
import Derived.Deep.LoopGhost
namespace Go.Proofs.YtneafcdfnhnpnaaGreatDoor
open Go.RowKit Go.Lib

/-- numbers whose parts fit -/
def FitQ (p : Rat) : Prop := Fits p.num.natAbs ∧ Fits p.den
/-- numbers that can be added -/
def FitP (p q : Rat) : Prop := FitQ p ∧ FitQ q ∧ Fits (p.num.natAbs * q.den + q.num.natAbs * p.den)
theorem sg_num (p : Rat) : sg (decide (p.num < 0)) p.num.natAbs = p.num := by
  unfold sg
  by_cases h : p.num < 0
  · rw [decide_eq_true h, if_pos rfl]; omega
  · rw [decide_eq_false h, if_neg (by simp)]; omega
/-- the parts of a sum, as the program computes them -/
theorem plus_parts (p q : Rat) (g : Nat) (hg : Nat.gcd p.den q.den = g) (r : Bool × Nat) (hr : sumSg (decide (p.num < 0)) (p.num.natAbs * (q.den / g)) (decide (q.num < 0)) (q.num.natAbs * (p.den / g)) = r) :
    decide ((p + q).num < 0) = r.1 ∧ (p + q).num.natAbs = r.2 / Nat.gcd r.2 g ∧ (p + q).den = p.den / g * (q.den / Nat.gcd r.2 g) := by
  obtain ⟨h1, h2⟩ := add_parts p q
  rw [hg] at h1 h2
  have hgp : 0 < g := by rw [← hg]; exact Nat.gcd_pos_of_pos_left _ p.den_pos
  have hA : 0 < q.den / g := Nat.div_pos (by rw [← hg]; exact Nat.gcd_le_right _ q.den_pos) hgp
  have hB : 0 < p.den / g := Nat.div_pos (by rw [← hg]; exact Nat.gcd_le_left _ p.den_pos) hgp
  have e1 : p.num * ((q.den / g : Nat) : Int) = sg (decide (p.num < 0)) (p.num.natAbs * (q.den / g)) := by rw [sg_scale, sg_num]
  have e2 : q.num * ((p.den / g : Nat) : Int) = sg (decide (q.num < 0)) (q.num.natAbs * (p.den / g)) := by rw [sg_scale, sg_num]
  rw [e1, e2] at h1 h2
  have hn := sumSg_neg (decide (p.num < 0)) (decide (q.num < 0)) (p.num.natAbs * (q.den / g)) (q.num.natAbs * (p.den / g)) (fun h => by
    have := of_decide_eq_true h
    exact Nat.mul_ne_zero (by omega) (by omega)) (fun h => by
    have := of_decide_eq_true h
    exact Nat.mul_ne_zero (by omega) (by omega))
  have ha := sumSg_abs (decide (p.num < 0)) (decide (q.num < 0)) (p.num.natAbs * (q.den / g)) (q.num.natAbs * (p.den / g))
  rw [hr] at hn ha
  generalize sg (decide (p.num < 0)) (p.num.natAbs * (q.den / g)) + sg (decide (q.num < 0)) (q.num.natAbs * (p.den / g)) = T at *
  rw [← ha] at h1 h2
  have hc : 0 < Nat.gcd r.2 g := Nat.gcd_pos_of_pos_right _ hgp
  have hd : ((Nat.gcd r.2 g : Nat) : Int) ∣ T := by
    have : Nat.gcd r.2 g ∣ T.natAbs := by rw [← ha]; exact Nat.gcd_dvd_left _ _
    exact Int.ofNat_dvd_left.mpr this
  generalize Nat.gcd r.2 g = c at *
  obtain ⟨z, hz⟩ := hd
  have hzz : T / (c : Int) = z := by rw [hz]; exact Int.mul_ediv_cancel_left _ (by omega)
  rw [hzz] at h1
  refine ⟨?_, ?_, h2⟩
  · rw [h1, hn]
    apply decide_eq_decide.mpr
    constructor
    · intro h; rw [hz]; exact Int.mul_neg_of_pos_of_neg (by omega) h
    · intro h
      by_cases h3 : z < 0
      · exact h3
      · have : 0 ≤ (c : Int) * z := Int.mul_nonneg (by omega) (by omega)
        omega
  · rw [h1]
    have : r.2 = c * z.natAbs := by rw [ha, hz, Int.natAbs_mul]; simp
    conv => rhs; lhs; rw [this]
    rw [Nat.mul_div_cancel_left _ hc]
theorem drB {a b : World} (h : Below a.drew.heap.size a.drew b) : Below a.heap.size a b := ⟨h.os, h.tape, h.output, h.size, h.block⟩
theorem ownKeep {x x' : World} {R : Nat} {t : TypeId} {cs : List Value} (hb : Below x.heap.size x x') (h : Hid (Own x R t cs)) : Hid (Own x' R t cs) := Lib.hid (h.out.below hb h.out.lt)

set_option maxRecDepth 100000 in
set_option maxHeartbeats 4000000 in
theorem ratPlus_c (v u : Value) (p q : Rat) (w : World) (h : Rt w v p) (h' : Rt w u q) (hf : FitP p q) :
    Calls Tryz.prog 108 #[v, u] w (ratPost (p + q) w) := by
  obtain ⟨nv, dv, rfl, h1, h2⟩ := h
  obtain ⟨mv, ev, rfl, h3, h4⟩ := h'
  have hdp := p.den_pos
  have heq := q.den_pos
  obtain ⟨g, hg⟩ : ∃ g, Nat.gcd p.den q.den = g := ⟨_, rfl⟩
  obtain ⟨r, hr⟩ : ∃ r, sumSg (decide (p.num < 0)) (p.num.natAbs * (q.den / g)) (decide (q.num < 0)) (q.num.natAbs * (p.den / g)) = r := ⟨_, rfl⟩
  have PP := Lib.hid (plus_parts p q g hg r hr)
  have hgp : 0 < g := by rw [← hg]; exact Nat.gcd_pos_of_pos_left _ p.den_pos
  have fx : Fits (p.num.natAbs * (q.den / g)) := hf.2.2.le (Nat.le_trans (Nat.mul_le_mul_left _ (Nat.div_le_self _ _)) (Nat.le_add_right _ _))
  have fy : Fits (q.num.natAbs * (p.den / g)) := hf.2.2.le (Nat.le_trans (Nat.mul_le_mul_left _ (Nat.div_le_self _ _)) (Nat.le_add_left _ _))
  have fr : Fits r.2 := hf.2.2.le (by
    have ha := sumSg_abs (decide (p.num < 0)) (decide (q.num < 0)) (p.num.natAbs * (q.den / g)) (q.num.natAbs * (p.den / g))
    rw [hr] at ha
    have h1 : p.num.natAbs * (q.den / g) ≤ p.num.natAbs * q.den := Nat.mul_le_mul_left _ (Nat.div_le_self _ _)
    have h2 : q.num.natAbs * (p.den / g) ≤ q.num.natAbs * p.den := Nat.mul_le_mul_left _ (Nat.div_le_self _ _)
    unfold sg at ha
    split at ha <;> split at ha <;> omega)
  have fn := hf.1.1
  have fd := hf.1.2
  have fm := hf.2.1.1
  have fe := hf.2.1.2
  clear hf
  have fA : Fits (q.den / g) := fe.le (Nat.div_le_self _ _)
  have fB : Fits (p.den / g) := fd.le (Nat.div_le_self _ _)
  have SS := Lib.hid (fun (x y : Value) W (hx : Nt W x (p.num.natAbs * (q.den / g))) (hy : Nt W y (q.num.natAbs * (p.den / g))) => (by have := signedSum_c (decide (p.num < 0)) (decide (q.num < 0)) x y _ _ W hx hy fx fy; rw [hr] at this; exact this : Calls Tryz.prog 177 #[.bool (decide (p.num < 0)), x, .bool (decide (q.num < 0)), y] W (sumPost r W)))
  obtain ⟨s, z⟩ := r
  dsimp only at PP fr
  have HR := Lib.hid hr
  have HGg := Lib.hid hg
  clear hr hg fx fy
  generalize decide (p.num < 0) = na at *
  generalize decide (q.num < 0) = nb at *
  generalize p.num.natAbs = n at *
  generalize q.num.natAbs = m at *
  generalize hpd : p.den = d at *
  generalize hqe : q.den = e at *
  have Hpd := Lib.hid hpd
  have Hqe := Lib.hid hqe
  clear hpd hqe
  obtain ⟨W0, hW0⟩ : ∃ W0, W0 = ((w.alloc (.cells #[.bool na, nv, dv] 122)).alloc (.cells #[.bool nb, mv, ev] 122)).alloc (.cells #[.bool false, .slice none 0 0, .slice none 0 0] 122) := ⟨_, rfl⟩
  have hB0 : Below w.heap.size w W0 := by rw [hW0]; exact (((Below.refl _ _).alloc (Nat.le_refl _) _).alloc (by simp) _).alloc (by simp; omega) _
  have hs0 : W0.heap.size = w.heap.size + 3 := by rw [hW0]; simp
  have hP : Own W0 w.heap.size 122 [.bool na, nv, dv] := by rw [hW0]; exact ((Own.make w _ [.bool na, nv, dv]).alloc _).alloc _
  have hQ : Own W0 (w.heap.size + 1) 122 [.bool nb, mv, ev] := by
    rw [hW0]
    have := Own.make (w.alloc (.cells #[.bool na, nv, dv] 122)) 122 [.bool nb, mv, ev]
    simp only [World.size_alloc] at this
    exact this.alloc _
  have hRR : Own W0 (w.heap.size + 1 + 1) 122 [.bool false, .slice none 0 0, .slice none 0 0] := by
    rw [hW0]
    have := Own.make ((w.alloc (.cells #[.bool na, nv, dv] 122)).alloc (.cells #[.bool nb, mv, ev] 122)) 122 [.bool false, .slice none 0 0, .slice none 0 0]
    simp only [World.size_alloc] at this
    exact this
  have N1 := h1.below hB0
  have N2 := h2.below hB0
  have N3 := h3.below hB0
  have N4 := h4.below hB0
  have KS : Hid (∀ x, Below W0.heap.size W0 x → x.cell? ⟨w.heap.size, 0, none⟩ = some (.bool na) ∧ x.cell? ⟨w.heap.size, 1, none⟩ = some nv ∧ x.cell? ⟨w.heap.size + 1, 0, none⟩ = some (.bool nb) ∧ x.cell? ⟨w.heap.size + 1, 1, none⟩ = some mv ∧ x.cell? ⟨w.heap.size + 1, 2, none⟩ = some ev ∧ Below W0.heap.size W0 x) := Lib.hid (fun x hb =>
    ⟨(hb.cell (p := ⟨w.heap.size, 0, none⟩) hP.lt).trans (hP.cell 0), (hb.cell (p := ⟨w.heap.size, 1, none⟩) hP.lt).trans (hP.cell 1), (hb.cell (p := ⟨w.heap.size + 1, 0, none⟩) hQ.lt).trans (hQ.cell 0), (hb.cell (p := ⟨w.heap.size + 1, 1, none⟩) hQ.lt).trans (hQ.cell 1), (hb.cell (p := ⟨w.heap.size + 1, 2, none⟩) hQ.lt).trans (hQ.cell 2), hb⟩)
  have KT := Lib.hid (fun (x x' : World) (hb : Below x.heap.size x x') (h5 : Below W0.heap.size W0 x) => KS.out x' (h5.trans (hb.mono h5.size)))
  have HS0 := Lib.hid hs0
  have HRR := Lib.hid hRR
  have HB0 := Lib.hid hB0
  obtain ⟨p0, p1, p2, _, _, _⟩ := hP.three
  obtain ⟨q0, q1, q2, _, _, _⟩ := hQ.three
  have hPl := hP.lt
  have hQl := hQ.lt
  have HP := Lib.hid hP
  have HQ := Lib.hid hQ
  clear hs0 h1 h2 h3 h4 hP hQ hRR hB0
  go_enter Tryz.func108, Tryz.ntmps108
  go_upto_region 1 with fail
  rw [← hW0]
  clear hW0
  go_wp2_with fail
  refine (gcd_c dv ev d e _ N2 N4 fd fe).mono ?_
  rintro e1 w1 ⟨gv, rfl, hgv, hB1⟩
  rw [HGg.out] at hgv
  have x2 := (hB1.cell (p := ⟨w.heap.size, 2, none⟩) hPl).trans p2
  have HB1 := Lib.hid hB1
  go_wp2_with fail
  refine (divided_c dv gv d g _ (N2.below hB1) hgv hgp fd).mono ?_
  rintro e2 w2 ⟨rv, rfl, hrv, hB2⟩
  have HW2 := Lib.hid (hB1.trans (hB2.mono hB1.size))
  have hgv2 := hgv.below hB2
  clear hB1 hB2 hgv x2 p0 p1 p2 q0 q1 q2
  go_wp2_with fail
  go_region_held3 (fun x => x.cell? ⟨w.heap.size, 0, none⟩ = some (.bool na) ∧ x.cell? ⟨w.heap.size, 1, none⟩ = some nv ∧ x.cell? ⟨w.heap.size + 1, 0, none⟩ = some (.bool nb) ∧ x.cell? ⟨w.heap.size + 1, 1, none⟩ = some mv ∧ x.cell? ⟨w.heap.size + 1, 2, none⟩ = some ev ∧ Below W0.heap.size W0 x)
    (first | exact KS.out _ HW2.out.drew | exact KT.out _ _ (by assumption) (by assumption))
    (first
      | (go_at_call 176; go_split_ands; refine (divided_c ev gv e g _ (N4.below (by assumption)) (hgv2.below (Below.refl _ _).drew) hgp fe).mono ?_; rintro e3 w3 ⟨xv, rfl, hxv, hB3⟩)
      | (go_at_call_of 178 nv; go_split_ands; refine (times_c nv xv n (e / g) _ (N1.below (by assumption)) hxv fn fA).mono ?_; rintro e4 w4 ⟨yv, rfl, hyv, hB4⟩)
      | (go_at_call_of 178 mv; go_split_ands; refine (times_c mv rv m (d / g) _ (N3.below (by assumption)) (hrv.below ((((Below.refl _ w2).drew).trans hB3).trans (hB4.mono hB3.size))) fm fB).mono ?_; rintro e5 w5 ⟨zv, rfl, hzv, hB5⟩)
      | (go_at_call 177; go_split_ands; refine (SS.out yv zv _ (hyv.below hB5) hzv).mono ?_; rintro e6 w6 ⟨sv, rfl, hsv, hB6⟩))
  have hW6 : Below W0.heap.size W0 w6 := by go_split_ands; assumption
  have h26 : Below w2.heap.size w2 w6 := (((drB hB3).trans (hB4.mono hB3.size)).trans (hB5.mono (Nat.le_trans hB3.size hB4.size))).trans (hB6.mono (Nat.le_trans hB3.size (Nat.le_trans hB4.size hB5.size)))
  have hgv6 := hgv2.below h26
  have hrv6 := hrv.below h26
  have HW6 := Lib.hid (HB0.out.trans (hW6.mono HB0.out.size))
  have HR6 := Lib.hid (HRR.out.below hW6 HRR.out.lt)
  have HQ6 := Lib.hid (HQ.out.below hW6 hQl)
  have N4' := N4.below hW6
  have fg : Fits g := fd.le (by rw [← HGg.out]; exact Nat.gcd_le_left _ hdp)
  clear hgv2 hrv hxv hyv hzv hB3 hB4 hB5 hB6 h26 KS KT HRR HW2 SS N1 N2 N3 N4 HP HQ hW6 HB1
  obtain ⟨cg, hcg⟩ : ∃ c, Nat.gcd z g = c := ⟨_, rfl⟩
  have hcp : 0 < cg := by rw [← hcg]; exact Nat.gcd_pos_of_pos_right _ hgp
  have HCG := Lib.hid hcg
  rw [hcg] at PP
  clear hcg
  go_wp2_with fail
  refine (gcd_c sv gv z g _ hsv hgv6 fr fg).mono ?_
  rintro e7 w7 ⟨cv, rfl, hcv, hB7⟩
  rw [HCG.out] at hcv
  have HW7 := Lib.hid (HW6.out.trans (hB7.mono HW6.out.size))
  have hR7 : Hid (Own w7.drew (w.heap.size + 1 + 1) 122 [.bool false, .slice none 0 0, .slice none 0 0]) := Lib.hid (by have t := HR6.out.below hB7 HR6.out.lt; exact t)
  have HQ7 := Lib.hid (HQ6.out.below hB7 HQ6.out.lt)
  have hs7 : w.heap.size + 2 < w7.heap.size := by have := HR6.out.lt; have := hB7.size; omega
  have hsv7 := hsv.below hB7
  have hrv7 := hrv6.below hB7
  have hev7 := N4'.below hB7
  clear hB7 hsv hrv6 hgv6 HR6 HW6 HQ6 N4'
  have KS : Hid (w7.drew.cell? ⟨w.heap.size + 1, 2, none⟩ = some ev ∧ w.heap.size + 2 < w7.drew.heap.size ∧ Below w.heap.size w w7.drew) := Lib.hid ⟨HQ7.out.cell 2, hs7, HW7.out.drew⟩
  have KT : Hid (∀ x x' : World, Below x.heap.size x x' → x.cell? ⟨w.heap.size + 1, 2, none⟩ = some ev → w.heap.size + 2 < x.heap.size → Below w.heap.size w x → x'.cell? ⟨w.heap.size + 1, 2, none⟩ = some ev ∧ w.heap.size + 2 < x'.heap.size ∧ Below w.heap.size w x') := Lib.hid (fun x x' hb h1 h2 h3 => ⟨(hb.cell (p := ⟨w.heap.size + 1, 2, none⟩) (by simp; omega)).trans h1, Nat.lt_of_lt_of_le h2 hb.size, h3.trans (hb.mono h3.size)⟩)
  have KU : Hid (∀ (x : World) (a b c : Value), x.cell? ⟨w.heap.size + 1, 2, none⟩ = some ev → w.heap.size + 2 < x.heap.size → Below w.heap.size w x → (((x.setCell ⟨w.heap.size + 1 + 1, 0, none⟩ a).setCell ⟨w.heap.size + 1 + 1, 1, none⟩ b).setCell ⟨w.heap.size + 1 + 1, 2, none⟩ c).cell? ⟨w.heap.size + 1, 2, none⟩ = some ev ∧ w.heap.size + 2 < (((x.setCell ⟨w.heap.size + 1 + 1, 0, none⟩ a).setCell ⟨w.heap.size + 1 + 1, 1, none⟩ b).setCell ⟨w.heap.size + 1 + 1, 2, none⟩ c).heap.size ∧ Below w.heap.size w (((x.setCell ⟨w.heap.size + 1 + 1, 0, none⟩ a).setCell ⟨w.heap.size + 1 + 1, 1, none⟩ b).setCell ⟨w.heap.size + 1 + 1, 2, none⟩ c)) := Lib.hid (fun x a b c h1 h2 h3 => by
    refine ⟨?_, by simpa using h2, ((h3.setCell (by simp; omega) _).setCell (by simp; omega) _).setCell (by simp; omega) _⟩
    rw [World.cell?_setCell_other _ _ _ _ (by intro e; injection e with e1; omega), World.cell?_setCell_other _ _ _ _ (by intro e; injection e with e1; omega), World.cell?_setCell_other _ _ _ _ (by intro e; injection e with e1; omega)]
    exact h1)
  have fec : Fits (e / cg) := fe.le (Nat.div_le_self _ _)
  go_wp2_with fail
  go_region_held3 (fun x => x.cell? ⟨w.heap.size + 1, 2, none⟩ = some ev ∧ w.heap.size + 2 < x.heap.size ∧ Below w.heap.size w x)
    (first | exact KS.out | exact KT.out _ _ (by assumption) (by assumption) (by assumption) (by assumption) | (go_split_ands; exact KU.out _ _ _ _ (by assumption) (by assumption) (by assumption)))
    (first
      | (go_at_call_of 176 sv; go_split_ands; refine (divided_c sv cv z cg _ (hsv7.below (Below.refl _ _).drew) (hcv.below (Below.refl _ _).drew) hcp fr).mono ?_; rintro e8 w8 ⟨xv, rfl, hxv, hB8⟩; have hR8 := ownKeep hB8 hR7)
      | (go_at_call_of 176 ev; go_split_ands; refine (divided_c ev cv e cg _ (hev7.below (drB hB8)) (hcv.below (drB hB8)) hcp fe).mono ?_; rintro e9 w9 ⟨yv, rfl, hyv, hB9⟩; have hR9 := ownKeep hB9 hR8)
      | (go_at_call 178; go_split_ands; refine (times_c rv yv (d / g) (e / cg) _ (hrv7.below ((drB hB8).trans (hB9.mono hB8.size))) hyv fB fec).mono ?_; rintro e10 w10 ⟨tv, rfl, htv, hB10⟩; have hR10 := ownKeep hB10 hR9; obtain ⟨r0, r1, r2, k0, k1, k2⟩ := hR10.out.three; obtain ⟨A1, n1, c1, rfl, _⟩ := hxv.size_; obtain ⟨A2, n2, c2, rfl, _⟩ := htv.size_))
  have hWf : Below w.heap.size w (((w10.setCell ⟨w.heap.size + 1 + 1, 0, none⟩ (.bool s)).setCell ⟨w.heap.size + 1 + 1, 1, none⟩ (.slice A1 n1 c1)).setCell ⟨w.heap.size + 1 + 1, 2, none⟩ (.slice A2 n2 c2)) := by go_split_ands; assumption
  have hx10 := hxv.below (hB9.trans (hB10.mono hB9.size))
  have Hn := Lib.hid (hx10.put3 (c' := .slice A2 n2 c2) hR10.out (noInt_bool _) (noInt_slice _ _ _) (noInt_slice _ _ _) (noInt_bool s) hx10.noInt)
  have Hd := Lib.hid (htv.put3 (c' := .slice A2 n2 c2) hR10.out (noInt_bool _) (noInt_slice _ _ _) (noInt_slice _ _ _) (noInt_bool s) hx10.noInt)
  have HWf := Lib.hid hWf
  have HRt : Hid (ratPost (p + q) w (.returned (.agg #[.bool s, .slice A1 n1 c1, .slice A2 n2 c2])) (((w10.setCell ⟨w.heap.size + 1 + 1, 0, none⟩ (.bool s)).setCell ⟨w.heap.size + 1 + 1, 1, none⟩ (.slice A1 n1 c1)).setCell ⟨w.heap.size + 1 + 1, 2, none⟩ (.slice A2 n2 c2))) := Lib.hid (by
    refine ⟨_, rfl, ⟨_, _, by rw [PP.out.1], ?_, ?_⟩, HWf.out⟩
    · rw [PP.out.2.1]; exact Hn.out
    · rw [PP.out.2.2]; exact Hd.out)
  clear hx10 hxv htv hyv hWf Hn Hd HWf hB8 hB9 hB10 hR8 hR9 hR7 HW7 hcv hsv7 hrv7 hev7 KS KT KU PP
  go_wp2
  exact bodyPost_ret (v := .agg #[.bool s, .slice A1 n1 c1, .slice A2 n2 c2]) (by simp [results, Tryz.results108, go_sem, r0, r1, r2]) rfl HRt.out
end Go.Proofs.YtneafcdfnhnpnaaGreatDoor
/- Contract: the text of a rational number. -/
namespace Go.Proofs.YtneafcdfnhnpnaaGreatDoor
open Go.RowKit Go.Lib

theorem keep2 {W0 x x' : World} {p : Nat} {a1 a2 : Value} (hb : Below x.heap.size x x') (hp : p < W0.heap.size)
    (h1 : x.cell? ⟨p, 1, none⟩ = some a1) (h2 : x.cell? ⟨p, 2, none⟩ = some a2) (h5 : Below W0.heap.size W0 x) :
    x'.cell? ⟨p, 1, none⟩ = some a1 ∧ x'.cell? ⟨p, 2, none⟩ = some a2 ∧ Below W0.heap.size W0 x' := by
  have hs := h5.size
  exact ⟨(hb.cell (p := ⟨p, 1, none⟩) (Nat.lt_of_lt_of_le hp hs)).trans h1, (hb.cell (p := ⟨p, 2, none⟩) (Nat.lt_of_lt_of_le hp hs)).trans h2, h5.trans (hb.mono hs)⟩

/-- the text of a rational number -/
def rtext (q : Rat) : List UInt8 := (if q.num < 0 then [45] else []) ++ decDigits q.num.natAbs ++ (if q.den = 1 then [] else 47 :: decDigits q.den)
/-- too many digits -/
def tooLong (q : Rat) : Prop := 600 < nDigits q.num.natAbs ∨ 600 < nDigits q.den
instance (q : Rat) : Decidable (tooLong q) := by unfold tooLong; infer_instance
def writeEnd (q : Rat) : Ending := if tooLong q then .returned (.tuple #[.string ⟨#[]⟩, .int .i64 4]) else .returned (.tuple #[.string ⟨(rtext q).toArray⟩, .int .i64 0])
def writePost (q : Rat) (w : World) (e : Ending) (w' : World) : Prop := e = writeEnd q ∧ Below w.heap.size w w'
theorem writeEnd_long {q : Rat} (h : tooLong q) : writeEnd q = .returned (.tuple #[.string ⟨#[]⟩, .int .i64 4]) := by unfold writeEnd; rw [if_pos h]
theorem writeEnd_ok {q : Rat} (h : ¬ tooLong q) : writeEnd q = .returned (.tuple #[.string ⟨(rtext q).toArray⟩, .int .i64 0]) := by unfold writeEnd; rw [if_neg h]
theorem ret_str {a b : ByteArray} (h : a = b) : Ending.returned (.tuple #[.string a, .int .i64 0]) = .returned (.tuple #[.string b, .int .i64 0]) := by rw [h]
theorem big_words {x k : Nat} (hk : 38 ≤ k) (h : WB ^ k ≤ x) : 600 < nDigits x := by
  rcases Nat.lt_or_ge 600 (nDigits x) with h6 | h6
  · exact h6
  · exfalso
    have e1 : 10 ^ nDigits x ≤ 10 ^ (19 * k) := Nat.pow_le_pow_right (by decide) (by omega)
    rw [Nat.pow_mul] at e1
    have e2 : (10 ^ 19) ^ k ≤ WB ^ k := Nat.pow_le_pow_left (by decide) k
    exact Nat.lt_irrefl _ (Nat.lt_of_lt_of_le (lt_pow_nDigits x) (Nat.le_trans e1 (Nat.le_trans e2 h)))

theorem many_words {w : World} {v : Value} {x : Nat} (h : Nt w v x) : ∃ A n c, v = .slice A n c ∧ n ≤ 140737488355328 ∧ (38 < n → 600 < nDigits x) ∧ (nDigits x ≤ 600 → n ≤ 38) := by
  obtain ⟨ws, A, c, rfl, h1, h2, h3, hc1, hc2, hs⟩ := h.open_
  have key : 38 < ws.length → 600 < nDigits x := by
    intro hl
    have h4 := wnorm_last h3 (by intro e; subst e; simp at hl)
    rw [h1] at h4
    exact big_words (by omega) h4
  exact ⟨A, ws.length, c, rfl, by omega, key, fun h6 => by
    rcases Nat.lt_or_ge 38 ws.length with hl | hl
    · have := key hl; omega
    · exact hl⟩

set_option maxRecDepth 100000 in
set_option maxHeartbeats 4000000 in
theorem write_c (v : Value) (q : Rat) (w : World) (h : Rt w v q) (f1 : Fits q.num.natAbs) (f2 : Fits q.den) (hG : Glob w) : Calls Tryz.prog 124 #[v] w (writePost q w) := by
  obtain ⟨neg, nv, dv, n, d, rfl, h1, h2, z1, z2, z3, z4, hneg, hn, hd⟩ := h.open_
  clear z1 z2 z3 z4 h
  have hlong : tooLong q ↔ (600 < nDigits n ∨ 600 < nDigits d) := by unfold tooLong; rw [hn, hd]
  have htxt : rtext q = (if neg = true then [45] else []) ++ decDigits n ++ (if d = 1 then [] else 47 :: decDigits d) := by
    unfold rtext; rw [hn, hd, hneg]; congr 2; by_cases h : q.num < 0 <;> simp [h]
  rw [← hn] at f1
  rw [← hd] at f2
  have Hlong := Lib.hid hlong
  have Htxt := Lib.hid htxt
  clear hlong htxt hneg hn hd
  obtain ⟨A1, k1, c1, hnv, hk1, hw1, hm1⟩ := many_words h1
  obtain ⟨A2, k2, c2, hdv, hk2, hw2, hm2⟩ := many_words h2
  obtain ⟨W0, hW0⟩ : ∃ W0, W0 = w.alloc (.cells #[.bool neg, nv, dv] 122) := ⟨_, rfl⟩
  have hP : Own W0 w.heap.size 122 [.bool neg, nv, dv] := by rw [hW0]; exact Own.make w _ [.bool neg, nv, dv]
  have hB0 : Below w.heap.size w W0 := by rw [hW0]; exact (Below.refl _ _).alloc (Nat.le_refl _) _
  have hp : w.heap.size < W0.heap.size := by rw [hW0]; simp
  have N1 := h1.below hB0
  have N2 := h2.below hB0
  have hG0 := Lib.hid (hG.below hB0)
  clear h1 h2 hG
  obtain ⟨a0, a1, a2, _, _, _⟩ := hP.three
  by_cases hb1 : 38 < k1
  · have hL := Lib.hid (Hlong.out.2 (.inl (hw1 hb1)))
    clear hw1 hw2 hm1 hm2 N1 N2
    subst hnv hdv
    go_enter Tryz.func124, Tryz.ntmps124
    go_upto_region 1 with fail
    rw [← hW0]
    clear hW0
    go_wp2
    go_ret2
    exact ⟨by rw [writeEnd_long hL.out]; rfl, hB0⟩
  · by_cases hb2 : 38 < k2
    · have hL := Lib.hid (Hlong.out.2 (.inr (hw2 hb2)))
      clear hw1 hw2 hm1 hm2 N1 N2
      subst hnv hdv
      go_enter Tryz.func124, Tryz.ntmps124
      go_upto_region 1 with fail
      rw [← hW0]
      clear hW0
      go_wp2
      go_ret2
      exact ⟨by rw [writeEnd_long hL.out]; rfl, hB0⟩
    · clear hw1 hw2 hm1 hm2
      have hd1 : decide ((38 : Int) < (k1 : Int)) = false := decide_eq_false (by omega)
      have hd2 : decide ((38 : Int) < (k2 : Int)) = false := decide_eq_false (by omega)
      subst hnv hdv
      go_enter Tryz.func124, Tryz.ntmps124
      go_upto_region 1 with fail
      rw [← hW0]
      clear hW0
      go_wp2
      go_region_held3 (fun w' => w'.cell? ⟨w.heap.size, 1, none⟩ = some (.slice A1 k1 c1) ∧ w'.cell? ⟨w.heap.size, 2, none⟩ = some (.slice A2 k2 c2) ∧ Below W0.heap.size W0 w')
        (first | exact ⟨a1, a2, (Below.refl _ _).drew⟩ | exact keep2 (by assumption) hp (by assumption) (by assumption) (by assumption))
        (first
          | (go_at_call_of 188 (Value.slice A1 k1 c1); go_split_ands; refine (text_c (.slice A1 k1 c1) n _ (N1.below (by assumption)) f1 (hG0.out.below (by assumption))).mono ?_; rintro e w1 ⟨rfl, hB1⟩)
          | (go_at_call_of 188 (Value.slice A2 k2 c2); go_split_ands; refine (text_c (.slice A2 k2 c2) d _ (N2.below (by assumption)) f2 (hG0.out.below (by assumption))).mono ?_; rintro e w2 ⟨rfl, hB2⟩))
      have hS : w2.cell? ⟨w.heap.size, 1, none⟩ = some (.slice A1 k1 c1) ∧ w2.cell? ⟨w.heap.size, 2, none⟩ = some (.slice A2 k2 c2) ∧ Below W0.heap.size W0 w2 := by assumption
      have l1 := decDigits_length n
      have l2 := decDigits_length d
      have hWt := hB0.trans (hS.2.2.mono hB0.size)
      have a0' := (hS.2.2.cell (p := ⟨w.heap.size, 0, none⟩) hp).trans a0
      have a1' := hS.1
      have a2' := hS.2.1
      have M2 := N2.below hS.2.2
      clear hS
      by_cases hl1 : 600 < nDigits n
      · have hL := Lib.hid (Hlong.out.2 (.inl hl1))
        clear M2
        go_wp2
        go_ret2
        exact ⟨by rw [writeEnd_long hL.out]; rfl, hWt⟩
      · by_cases hl2 : 600 < nDigits d
        · have hL := Lib.hid (Hlong.out.2 (.inr hl2))
          clear M2
          go_wp2
          go_ret2
          exact ⟨by rw [writeEnd_long hL.out]; rfl, hWt⟩
        · have hL := Lib.hid (fun h => by rcases Hlong.out.1 h with h | h; exact hl1 h; exact hl2 h : ¬ tooLong q)
          by_cases hone : d = 1
          · have hd1' := decide_eq_true hone
            have Hd1 := Lib.hid hd1'
            cases neg
            · have Ht := Lib.hid (show rtext q = decDigits n from by rw [Htxt.out, hone]; simp)
              clear hone hd1'
              go_wp2_with fail
              refine (isOne_c _ d _ M2).mono ?_
              rintro e w3 ⟨rfl, rfl⟩
              rw [Hd1.out]
              go_wp2
              go_ret2
              refine ⟨?_, hWt⟩
              rw [writeEnd_ok hL.out]
              exact ret_str (by rw [Ht.out])
            · have Ht := Lib.hid (show rtext q = [45] ++ decDigits n from by rw [Htxt.out, hone]; simp)
              clear hone hd1'
              go_wp2_with fail
              refine (isOne_c _ d _ M2).mono ?_
              rintro e w3 ⟨rfl, rfl⟩
              rw [Hd1.out]
              go_wp2
              go_ret2
              refine ⟨?_, hWt⟩
              rw [writeEnd_ok hL.out]
              exact ret_str (by rw [Ht.out, ← ByteArray.mk_append_mk])
          · have hd1' := decide_eq_false hone
            have Hd1 := Lib.hid hd1'
            cases neg
            · have Ht := Lib.hid (show rtext q = decDigits n ++ ([47] ++ decDigits d) from by rw [Htxt.out, if_neg hone]; simp)
              clear hone hd1'
              go_wp2_with fail
              refine (isOne_c _ d _ M2).mono ?_
              rintro e w3 ⟨rfl, rfl⟩
              rw [Hd1.out]
              go_wp2
              go_ret2
              refine ⟨?_, hWt⟩
              rw [writeEnd_ok hL.out]
              exact ret_str (by rw [Ht.out, ← ByteArray.mk_append_mk, ← ByteArray.mk_append_mk])
            · have Ht := Lib.hid (show rtext q = [45] ++ decDigits n ++ ([47] ++ decDigits d) from by rw [Htxt.out, if_neg hone]; simp)
              clear hone hd1'
              go_wp2_with fail
              refine (isOne_c _ d _ M2).mono ?_
              rintro e w3 ⟨rfl, rfl⟩
              rw [Hd1.out]
              go_wp2
              go_ret2
              refine ⟨?_, hWt⟩
              rw [writeEnd_ok hL.out]
              exact ret_str (by rw [Ht.out, ← ByteArray.mk_append_mk, ← ByteArray.mk_append_mk, ← ByteArray.mk_append_mk])

end Go.Proofs.YtneafcdfnhnpnaaGreatDoor
/- Contract: the quotient of two integers as a text. -/
namespace Go.Proofs.YtneafcdfnhnpnaaGreatDoor
open Go.RowKit Go.Lib

theorem div_parts (a b : Int) (hb : b ≠ 0) : ((a : Rat) / (b : Rat)).num.natAbs ≤ a.natAbs ∧ ((a : Rat) / (b : Rat)).den ≤ b.natAbs := by
  have h : Rat.divInt a b = (a : Rat) / (b : Rat) := Rat.divInt_eq_div a b
  obtain ⟨m, hm, h1, h2⟩ := Rat.divInt_num_den hb (n' := ((a : Rat) / (b : Rat)).num) (d' := ((a : Rat) / (b : Rat)).den) (z' := ((a : Rat) / (b : Rat)).den_nz) (c := ((a : Rat) / (b : Rat)).reduced) h
  have hm1 : 1 ≤ m.natAbs := by omega
  constructor
  · have : a.natAbs = ((a : Rat) / (b : Rat)).num.natAbs * m.natAbs := by
      conv => lhs; rw [h1]
      rw [Int.natAbs_mul]
    rw [this]; exact Nat.le_mul_of_pos_right _ hm1
  · have : b.natAbs = ((a : Rat) / (b : Rat)).den * m.natAbs := by
      conv => lhs; rw [h2]
      rw [Int.natAbs_mul]; rfl
    rw [this]; exact Nat.le_mul_of_pos_right _ hm1

theorem writeEnd_form (q : Rat) : ∃ s c, writeEnd q = .returned (.tuple #[.string s, .int .i64 c]) := by
  unfold writeEnd; split
  · exact ⟨_, _, rfl⟩
  · exact ⟨_, _, rfl⟩

def ofPost (a b : Int) (w : World) (e : Ending) (w' : World) : Prop :=
  (if b = 0 then e = .returned (.tuple #[.string ⟨#[]⟩, .int .i64 6]) else e = writeEnd ((a : Rat) / (b : Rat))) ∧ Below w.heap.size w w'

set_option maxHeartbeats 1000000 in
theorem Of_c (a b : Int) (w : World) (ha : -9223372036854775808 ≤ a ∧ a ≤ 9223372036854775807) (hb : -9223372036854775808 ≤ b ∧ b ≤ 9223372036854775807) (hG : Glob w) :
    Calls Tryz.prog 34 #[.int .i64 a, .int .i64 b] w (ofPost a b w) := by
  by_cases h0 : b = 0
  · subst h0
    go_enter Tryz.func34, Tryz.ntmps34
    go_wp2
    go_ret2
    exact ⟨by rw [if_pos rfl]; rfl, Below.refl _ _⟩
  · have hb0 : (b == 0) = false := by simpa using h0
    have hq : (b : Rat) ≠ 0 := by simpa using h0
    obtain ⟨p1, p2⟩ := div_parts a b h0
    have f1 : Fits ((a : Rat)).num.natAbs := Fits.small (by show a.natAbs < WB; unfold WB; omega)
    have f2 : Fits ((a : Rat)).den := Fits.small (by show 1 < WB; decide)
    have f3 : Fits ((b : Rat)).num.natAbs := Fits.small (by show b.natAbs < WB; unfold WB; omega)
    have f4 : Fits ((b : Rat)).den := Fits.small (by show 1 < WB; decide)
    have f5 : Fits ((a : Rat) / (b : Rat)).num.natAbs := Fits.small (by unfold WB; omega)
    have f6 : Fits ((a : Rat) / (b : Rat)).den := Fits.small (by unfold WB; omega)
    have H0 := Lib.hid h0
    clear h0 p1 p2
    go_enter Tryz.func34, Tryz.ntmps34
    go_wp2_with fail
    refine (rationalOf_c a _ ha.1 ha.2).mono ?_
    rintro e w1 ⟨v1, rfl, hv1, hB1⟩
    go_wp2_with fail
    refine (rationalOf_c b _ hb.1 hb.2).mono ?_
    rintro e w2 ⟨v2, rfl, hv2, hB2⟩
    go_wp2_with fail
    refine (over_c v1 v2 _ _ _ (hv1.below hB2) hv2 hq f1 f2 f3 f4).mono ?_
    rintro e w3 ⟨v3, rfl, hv3, hB3⟩
    go_wp2_with fail
    refine (write_c v3 _ _ hv3 f5 f6 (((hG.below hB1).below hB2).below hB3)).mono ?_
    rintro e w4 ⟨he, hB4⟩
    have hBt := hB1.trans ((hB2.trans ((hB3.trans (hB4.mono hB3.size)).mono hB2.size)).mono hB1.size)
    have Hif : Hid (∀ e, e = writeEnd ((a : Rat) / (b : Rat)) → ofPost a b w e w4) := fun e he => ⟨by rw [if_neg H0.out]; exact he, hBt⟩
    obtain ⟨s, c, hs⟩ := writeEnd_form ((a : Rat) / (b : Rat))
    rw [hs] at he Hif
    subst he
    clear hs
    go_wp2
    go_ret2
    exact Hif.out _ rfl

end Go.Proofs.YtneafcdfnhnpnaaGreatDoor
/- Contracts: the field of the rational numbers. -/
namespace Go.Proofs.YtneafcdfnhnpnaaGreatDoor
open Go.RowKit Go.Lib

set_option maxRecDepth 100000 in
set_option maxHeartbeats 1000000 in
theorem rtIsZero_c (v : Value) (q : Rat) (w : World) (h : Rt w v q) : Calls Tryz.prog 314 #[.agg #[], v] w fun e w' => e = .returned (.bool (ratSign q == 0)) ∧ Below w.heap.size w w' := by
  obtain ⟨sg0, hs0⟩ : ∃ s, ratSign q = s := ⟨_, rfl⟩
  have SG := Lib.hid (fun wx (h : Rt wx v q) => hs0 ▸ sign_c v q wx h)
  have Hs := Lib.hid hs0
  clear hs0
  have HH := Lib.hid h
  obtain ⟨nv, dv, hv, -, -⟩ := h
  generalize decide (q.num < 0) = neg at *
  have H1 := Lib.hid (HH.out.below (((Below.refl _ w).alloc (Nat.le_refl _) (.cells #[] 172))))
  have H2 := Lib.hid (H1.out.below (((Below.refl _ _).alloc (Nat.le_refl _) (.cells #[.bool neg, nv, dv] 122))))
  subst hv
  go_enter Tryz.func314, Tryz.ntmps314
  go_wp2_with fail
  refine (SG.out _ H2.out).mono ?_
  rintro e w2 ⟨rfl, hB2⟩
  have hBt := (((Below.refl _ w).alloc (Nat.le_refl _) (.cells #[] 172)).alloc (by simp) (.cells #[.bool neg, nv, dv] 122)).trans (hB2.mono (by simp; omega))
  clear hB2
  go_wp2
  go_ret
  exact ⟨by rw [Hs.out]; rfl, hBt⟩

set_option maxRecDepth 100000 in
set_option maxHeartbeats 1000000 in
theorem rtOf_c (n : Int) (w : World) (h1 : -9223372036854775808 ≤ n) (h2 : n ≤ 9223372036854775807) : Calls Tryz.prog 316 #[.agg #[], .int .i64 n] w (ratPost (n : Rat) w) := by
  obtain ⟨W0, hW0⟩ : ∃ W0, W0 = (w.alloc (.cells #[] 172)).alloc (.cells #[.bool false, .slice none 0 0, .slice none 0 0] 122) := ⟨_, rfl⟩
  have hB0 : Below w.heap.size w W0 := by rw [hW0]; exact ((Below.refl _ _).alloc (Nat.le_refl _) _).alloc (by simp) _
  have hR : Own W0 (w.heap.size + 1) 122 [.bool false, .slice none 0 0, .slice none 0 0] := by
    rw [hW0]
    have := Own.make (w.alloc (.cells #[] 172)) 122 [.bool false, .slice none 0 0, .slice none 0 0]
    simp only [World.size_alloc] at this
    exact this
  have RO := Lib.hid (fun W => rationalOf_c n W h1 h2)
  clear h1 h2
  go_enter Tryz.func316, Tryz.ntmps316
  go_upto_region 1 with fail
  rw [← hW0]
  clear hW0
  go_wp2_with fail
  refine (RO.out _).mono ?_
  rintro e w2 ⟨v, rfl, hv, hB2⟩
  obtain ⟨nv, dv, rfl, hn, hd⟩ := hv
  have hR2 := hR.below hB2 hR.lt
  have hBt := hB0.trans (hB2.mono hB0.size)
  have Hn := Lib.hid (hn.put3 (c' := dv) hR2 (noInt_bool _) (noInt_slice _ _ _) (noInt_slice _ _ _) (noInt_bool (decide ((n : Rat).num < 0))) hn.noInt)
  have Hd := Lib.hid (hd.put3 (c' := dv) hR2 (noInt_bool _) (noInt_slice _ _ _) (noInt_slice _ _ _) (noInt_bool (decide ((n : Rat).num < 0))) hn.noInt)
  obtain ⟨e0, e1, e2, k0, k1, k2⟩ := hR2.three
  obtain ⟨A1, k1', c1, rfl, _⟩ := hn.size_
  obtain ⟨A2, k2', c2, rfl, _⟩ := hd.size_
  clear hn hd hR hR2 hB2
  have KR : ∃ ng, Hid (ng = decide ((n : Rat).num < 0)) := ⟨_, Lib.hid rfl⟩
  obtain ⟨ng, hng⟩ := KR
  rw [← hng.out] at Hn Hd
  rw [← hng.out]
  go_wp2
  exact bodyPost_ret (v := .agg #[.bool ng, .slice A1 k1' c1, .slice A2 k2' c2]) (by simp [results, Tryz.results316, go_sem, e0, e1, e2]) rfl ⟨_, rfl, ⟨_, _, by rw [hng.out], Hn.out, Hd.out⟩, ((hBt.setCell (by simp) _).setCell (by simp) _).setCell (by simp) _⟩

set_option maxRecDepth 100000 in
set_option maxHeartbeats 2000000 in
theorem rtTimes_c (v u : Value) (p q : Rat) (w : World) (h : Rt w v p) (h' : Rt w u q) (f1 : Fits p.num.natAbs) (f2 : Fits p.den) (f3 : Fits q.num.natAbs) (f4 : Fits q.den) :
    Calls Tryz.prog 318 #[.agg #[], v, u] w (ratPost (p * q) w) := by
  have RO := Lib.hid (fun W (h : Rt W v p) (h' : Rt W u q) => ratTimes_r v u p q W h h'  f1 f2 f3 f4)
  clear f1 f2 f3 f4
  have HH := Lib.hid h
  have HH' := Lib.hid h'
  obtain ⟨av, bv, hv, -, -⟩ := h
  obtain ⟨cv, dv, hu, -, -⟩ := h'
  generalize decide (p.num < 0) = na at hv
  generalize decide (q.num < 0) = nb at hu
  obtain ⟨W0, hW0⟩ : ∃ W0, W0 = (((w.alloc (.cells #[] 172)).alloc (.cells #[.bool na, av, bv] 122)).alloc (.cells #[.bool nb, cv, dv] 122)).alloc (.cells #[.bool false, .slice none 0 0, .slice none 0 0] 122) := ⟨_, rfl⟩
  have hB0 : Below w.heap.size w W0 := by rw [hW0]; exact ((((Below.refl _ _).alloc (Nat.le_refl _) _).alloc (by simp) _).alloc (by simp; omega) _).alloc (by simp; omega) _
  have hP : Own W0 (w.heap.size + 1) 122 [.bool na, av, bv] := by
    rw [hW0]
    have := Own.make (w.alloc (.cells #[] 172)) 122 [.bool na, av, bv]
    simp only [World.size_alloc] at this
    exact (this.alloc _).alloc _
  have hQ : Own W0 (w.heap.size + 1 + 1) 122 [.bool nb, cv, dv] := by
    rw [hW0]
    have := Own.make ((w.alloc (.cells #[] 172)).alloc (.cells #[.bool na, av, bv] 122)) 122 [.bool nb, cv, dv]
    simp only [World.size_alloc] at this
    exact this.alloc _
  have hR : Own W0 (w.heap.size + 1 + 1 + 1) 122 [.bool false, .slice none 0 0, .slice none 0 0] := by
    rw [hW0]
    have := Own.make (((w.alloc (.cells #[] 172)).alloc (.cells #[.bool na, av, bv] 122)).alloc (.cells #[.bool nb, cv, dv] 122)) 122 [.bool false, .slice none 0 0, .slice none 0 0]
    simp only [World.size_alloc] at this
    exact this
  have HR := Lib.hid hR
  obtain ⟨c0, c1, c2, _, _, _⟩ := hP.three
  obtain ⟨d0, d1, d2, _, _, _⟩ := hQ.three
  have RX := Lib.hid (RO.out W0 (HH.out.below hB0) (HH'.out.below hB0))
  clear hP hQ hR RO HH HH'
  subst hv hu
  go_enter Tryz.func318, Tryz.ntmps318
  go_upto_region 1 with fail
  rw [← hW0]
  clear hW0
  go_wp2_with fail
  refine RX.out.mono ?_
  rintro e w2 ⟨v, rfl, hv, hB2⟩
  clear c0 c1 c2 d0 d1 d2
  obtain ⟨nv, ev, rfl, hn, hd⟩ := hv
  have hR2 := HR.out.below hB2 HR.out.lt
  have hBt := hB0.trans (hB2.mono hB0.size)
  have Hn := Lib.hid (hn.put3 (c' := ev) hR2 (noInt_bool _) (noInt_slice _ _ _) (noInt_slice _ _ _) (noInt_bool (decide ((p * q).num < 0))) hn.noInt)
  have Hd := Lib.hid (hd.put3 (c' := ev) hR2 (noInt_bool _) (noInt_slice _ _ _) (noInt_slice _ _ _) (noInt_bool (decide ((p * q).num < 0))) hn.noInt)
  obtain ⟨e0, e1, e2, k0, k1, k2⟩ := hR2.three
  obtain ⟨A1, k1', c1, rfl, _⟩ := hn.size_
  obtain ⟨A2, k2', c2, rfl, _⟩ := hd.size_
  clear hn hd hR2 hB2 RX HR
  have KR : ∃ ng, Hid (ng = decide ((p * q).num < 0)) := ⟨_, Lib.hid rfl⟩
  obtain ⟨ng, hng⟩ := KR
  rw [← hng.out] at Hn Hd
  rw [← hng.out]
  go_wp2
  exact bodyPost_ret (v := .agg #[.bool ng, .slice A1 k1' c1, .slice A2 k2' c2]) (by simp [results, Tryz.results318, go_sem, e0, e1, e2]) rfl ⟨_, rfl, ⟨_, _, by rw [hng.out], Hn.out, Hd.out⟩, ((hBt.setCell (by simp; omega) _).setCell (by simp; omega) _).setCell (by simp; omega) _⟩

set_option maxRecDepth 100000 in
set_option maxHeartbeats 2000000 in
theorem rtOver_c (v u : Value) (p q : Rat) (w : World) (h : Rt w v p) (h' : Rt w u q) (hq0 : q ≠ 0) (f1 : Fits p.num.natAbs) (f2 : Fits p.den) (f3 : Fits q.num.natAbs) (f4 : Fits q.den) :
    Calls Tryz.prog 317 #[.agg #[], v, u] w (ratPost (p / q) w) := by
  have RO := Lib.hid (fun W (h : Rt W v p) (h' : Rt W u q) => over_c v u p q W h h' hq0 f1 f2 f3 f4)
  clear f1 f2 f3 f4 hq0
  have HH := Lib.hid h
  have HH' := Lib.hid h'
  obtain ⟨av, bv, hv, -, -⟩ := h
  obtain ⟨cv, dv, hu, -, -⟩ := h'
  generalize decide (p.num < 0) = na at hv
  generalize decide (q.num < 0) = nb at hu
  obtain ⟨W0, hW0⟩ : ∃ W0, W0 = (((w.alloc (.cells #[] 172)).alloc (.cells #[.bool na, av, bv] 122)).alloc (.cells #[.bool nb, cv, dv] 122)).alloc (.cells #[.bool false, .slice none 0 0, .slice none 0 0] 122) := ⟨_, rfl⟩
  have hB0 : Below w.heap.size w W0 := by rw [hW0]; exact ((((Below.refl _ _).alloc (Nat.le_refl _) _).alloc (by simp) _).alloc (by simp; omega) _).alloc (by simp; omega) _
  have hP : Own W0 (w.heap.size + 1) 122 [.bool na, av, bv] := by
    rw [hW0]
    have := Own.make (w.alloc (.cells #[] 172)) 122 [.bool na, av, bv]
    simp only [World.size_alloc] at this
    exact (this.alloc _).alloc _
  have hQ : Own W0 (w.heap.size + 1 + 1) 122 [.bool nb, cv, dv] := by
    rw [hW0]
    have := Own.make ((w.alloc (.cells #[] 172)).alloc (.cells #[.bool na, av, bv] 122)) 122 [.bool nb, cv, dv]
    simp only [World.size_alloc] at this
    exact this.alloc _
  have hR : Own W0 (w.heap.size + 1 + 1 + 1) 122 [.bool false, .slice none 0 0, .slice none 0 0] := by
    rw [hW0]
    have := Own.make (((w.alloc (.cells #[] 172)).alloc (.cells #[.bool na, av, bv] 122)).alloc (.cells #[.bool nb, cv, dv] 122)) 122 [.bool false, .slice none 0 0, .slice none 0 0]
    simp only [World.size_alloc] at this
    exact this
  have HR := Lib.hid hR
  obtain ⟨c0, c1, c2, _, _, _⟩ := hP.three
  obtain ⟨d0, d1, d2, _, _, _⟩ := hQ.three
  have RX := Lib.hid (RO.out W0 (HH.out.below hB0) (HH'.out.below hB0))
  clear hP hQ hR RO HH HH'
  subst hv hu
  go_enter Tryz.func317, Tryz.ntmps317
  go_upto_region 1 with fail
  rw [← hW0]
  clear hW0
  go_wp2_with fail
  refine RX.out.mono ?_
  rintro e w2 ⟨v, rfl, hv, hB2⟩
  clear c0 c1 c2 d0 d1 d2
  obtain ⟨nv, ev, rfl, hn, hd⟩ := hv
  have hR2 := HR.out.below hB2 HR.out.lt
  have hBt := hB0.trans (hB2.mono hB0.size)
  have Hn := Lib.hid (hn.put3 (c' := ev) hR2 (noInt_bool _) (noInt_slice _ _ _) (noInt_slice _ _ _) (noInt_bool (decide ((p / q).num < 0))) hn.noInt)
  have Hd := Lib.hid (hd.put3 (c' := ev) hR2 (noInt_bool _) (noInt_slice _ _ _) (noInt_slice _ _ _) (noInt_bool (decide ((p / q).num < 0))) hn.noInt)
  obtain ⟨e0, e1, e2, k0, k1, k2⟩ := hR2.three
  obtain ⟨A1, k1', c1, rfl, _⟩ := hn.size_
  obtain ⟨A2, k2', c2, rfl, _⟩ := hd.size_
  clear hn hd hR2 hB2 RX HR
  have KR : ∃ ng, Hid (ng = decide ((p / q).num < 0)) := ⟨_, Lib.hid rfl⟩
  obtain ⟨ng, hng⟩ := KR
  rw [← hng.out] at Hn Hd
  rw [← hng.out]
  go_wp2
  exact bodyPost_ret (v := .agg #[.bool ng, .slice A1 k1' c1, .slice A2 k2' c2]) (by simp [results, Tryz.results317, go_sem, e0, e1, e2]) rfl ⟨_, rfl, ⟨_, _, by rw [hng.out], Hn.out, Hd.out⟩, ((hBt.setCell (by simp; omega) _).setCell (by simp; omega) _).setCell (by simp; omega) _⟩

end Go.Proofs.YtneafcdfnhnpnaaGreatDoor
/- Contracts: the difference of two rational numbers. -/
namespace Go.Proofs.YtneafcdfnhnpnaaGreatDoor
open Go.RowKit Go.Lib

theorem FitP.neg {p q : Rat} (h : FitP p q) : FitP p (-q) := by
  obtain ⟨h1, h2, h3⟩ := h
  refine ⟨h1, ⟨by rw [Rat.neg_num, Int.natAbs_neg]; exact h2.1, by rw [Rat.neg_den]; exact h2.2⟩, by rw [Rat.neg_num, Int.natAbs_neg, Rat.neg_den]; exact h3⟩
/-- the end of a function that stores a number into its result -/
theorem ratEnd {w x : World} {q : Rat} {g : Nat} {s : Bool} {a b : Value} (hv : Rt x (.agg #[.bool s, a, b]) q) (hR : Own x g 122 [.bool false, .slice none 0 0, .slice none 0 0]) (hB : Below w.heap.size w x) (hg : w.heap.size ≤ g) :
    ratPost q w (.returned (.agg #[.bool s, a, b])) (((x.setCell ⟨g, 0, none⟩ (.bool s)).setCell ⟨g, 1, none⟩ a).setCell ⟨g, 2, none⟩ b) := by
  obtain ⟨nv, dv, he, h1, h2⟩ := hv
  have e : s = decide (q.num < 0) ∧ a = nv ∧ b = dv := by simpa using he
  obtain ⟨rfl, rfl, rfl⟩ := e
  exact ⟨_, rfl, ⟨_, _, rfl, h1.put3 hR (noInt_bool _) (noInt_slice _ _ _) (noInt_slice _ _ _) (noInt_bool _) h1.noInt, h2.put3 hR (noInt_bool _) (noInt_slice _ _ _) (noInt_slice _ _ _) (noInt_bool _) h1.noInt⟩, ((hB.setCell (by simpa using hg) _).setCell (by simpa using hg) _).setCell (by simpa using hg) _⟩
theorem Rt.shape {w : World} {v : Value} {q : Rat} (h : Rt w v q) : ∃ s A1 n1 c1 A2 n2 c2, v = .agg #[.bool s, .slice A1 n1 c1, .slice A2 n2 c2] := by
  obtain ⟨nv, dv, rfl, h1, h2⟩ := h
  obtain ⟨A1, n1, c1, rfl, _⟩ := h1.size_
  obtain ⟨A2, n2, c2, rfl, _⟩ := h2.size_
  exact ⟨_, _, _, _, _, _, _, rfl⟩

set_option maxRecDepth 100000 in
set_option maxHeartbeats 4000000 in
theorem ratMinus_c (v u : Value) (p q : Rat) (w : World) (h : Rt w v p) (h' : Rt w u q) (hf : FitP p q) :
    Calls Tryz.prog 109 #[v, u] w (ratPost (p - q) w) := by
  have PL := Lib.hid (fun (u : Value) W (h : Rt W v p) (h' : Rt W u (-q)) => ratPlus_c v u p (-q) W h h' hf.neg)
  have HE : Hid (p - q = p + -q) := Lib.hid (Rat.sub_eq_add_neg p q)
  obtain ⟨s1, A1, n1, c1, A2, n2, c2, hv⟩ := h.shape
  obtain ⟨s2, A3, n3, c3, A4, n4, c4, hu⟩ := h'.shape
  obtain ⟨W0, hW0, hP, hQ, hR, hB0, hs0⟩ := box2 w (.bool s1) (.slice A1 n1 c1) (.slice A2 n2 c2) (.bool s2) (.slice A3 n3 c3) (.slice A4 n4 c4)
  have Hv := Lib.hid (h.below hB0)
  have Hu := Lib.hid (h'.below hB0)
  subst hv hu
  obtain ⟨p0, p1, p2, _, _, _⟩ := hP.three
  obtain ⟨q0, q1, q2, _, _, _⟩ := hQ.three
  have HP := Lib.hid hP
  have HQ := Lib.hid hQ
  have HR := Lib.hid hR
  have HB0 := Lib.hid hB0
  have hs := hs0
  have HRd : Hid (Own W0.drew (w.heap.size + 1 + 1) 122 [.bool false, .slice none 0 0, .slice none 0 0]) := Lib.hid (by have t := hR; exact t)
  clear h h' hf hP hQ hR hB0 hs0
  have KW : Hid (∀ x : World, Own x w.heap.size 122 [.bool s1, .slice A1 n1 c1, .slice A2 n2 c2] → Own x (w.heap.size + 1) 122 [.bool s2, .slice A3 n3 c3, .slice A4 n4 c4] → x.cell? ⟨w.heap.size, 0, none⟩ = some (.bool s1) ∧ x.cell? ⟨w.heap.size, 1, none⟩ = some (.slice A1 n1 c1) ∧ x.cell? ⟨w.heap.size, 2, none⟩ = some (.slice A2 n2 c2) ∧ x.cell? ⟨w.heap.size + 1, 0, none⟩ = some (.bool s2) ∧ x.cell? ⟨w.heap.size + 1, 1, none⟩ = some (.slice A3 n3 c3) ∧ x.cell? ⟨w.heap.size + 1, 2, none⟩ = some (.slice A4 n4 c4)) := Lib.hid (fun x h1 h2 =>
    ⟨h1.cell 0, h1.cell 1, h1.cell 2, h2.cell 0, h2.cell 1, h2.cell 2⟩)
  have hK0 : Hid (Own W0.drew w.heap.size 122 [.bool s1, .slice A1 n1 c1, .slice A2 n2 c2] ∧ Own W0.drew (w.heap.size + 1) 122 [.bool s2, .slice A3 n3 c3, .slice A4 n4 c4]) := Lib.hid ⟨HP.out, HQ.out⟩
  have KT : Hid (∀ x x' : World, Below x.heap.size x x' → Hid (Own x w.heap.size 122 [.bool s1, .slice A1 n1 c1, .slice A2 n2 c2] ∧ Own x (w.heap.size + 1) 122 [.bool s2, .slice A3 n3 c3, .slice A4 n4 c4]) → Hid (Own x' w.heap.size 122 [.bool s1, .slice A1 n1 c1, .slice A2 n2 c2] ∧ Own x' (w.heap.size + 1) 122 [.bool s2, .slice A3 n3 c3, .slice A4 n4 c4])) := Lib.hid (fun x x' hb h => Lib.hid ⟨h.out.1.below hb h.out.1.lt, h.out.2.below hb h.out.2.lt⟩)
  have KU : Hid (∀ (x : World) (a b c : Value), Hid (Own x w.heap.size 122 [.bool s1, .slice A1 n1 c1, .slice A2 n2 c2] ∧ Own x (w.heap.size + 1) 122 [.bool s2, .slice A3 n3 c3, .slice A4 n4 c4]) → Hid (Own (((x.setCell ⟨w.heap.size + 1 + 1, 0, none⟩ a).setCell ⟨w.heap.size + 1 + 1, 1, none⟩ b).setCell ⟨w.heap.size + 1 + 1, 2, none⟩ c) w.heap.size 122 [.bool s1, .slice A1 n1 c1, .slice A2 n2 c2] ∧ Own (((x.setCell ⟨w.heap.size + 1 + 1, 0, none⟩ a).setCell ⟨w.heap.size + 1 + 1, 1, none⟩ b).setCell ⟨w.heap.size + 1 + 1, 2, none⟩ c) (w.heap.size + 1) 122 [.bool s2, .slice A3 n3 c3, .slice A4 n4 c4])) := Lib.hid (fun x a b c h => Lib.hid
    ⟨((h.out.1.other (p := ⟨w.heap.size + 1 + 1, 0, none⟩) (by simp; omega) _).other (p := ⟨w.heap.size + 1 + 1, 1, none⟩) (by simp; omega) _).other (p := ⟨w.heap.size + 1 + 1, 2, none⟩) (by simp; omega) _, ((h.out.2.other (p := ⟨w.heap.size + 1 + 1, 0, none⟩) (by simp) _).other (p := ⟨w.heap.size + 1 + 1, 1, none⟩) (by simp) _).other (p := ⟨w.heap.size + 1 + 1, 2, none⟩) (by simp) _⟩)
  go_enter Tryz.func109, Tryz.ntmps109
  go_upto_region 1 with fail
  rw [← hW0]
  clear hW0
  go_region_held3 (fun x => x.cell? ⟨w.heap.size, 0, none⟩ = some (.bool s1) ∧ x.cell? ⟨w.heap.size, 1, none⟩ = some (.slice A1 n1 c1) ∧ x.cell? ⟨w.heap.size, 2, none⟩ = some (.slice A2 n2 c2) ∧ x.cell? ⟨w.heap.size + 1, 0, none⟩ = some (.bool s2) ∧ x.cell? ⟨w.heap.size + 1, 1, none⟩ = some (.slice A3 n3 c3) ∧ x.cell? ⟨w.heap.size + 1, 2, none⟩ = some (.slice A4 n4 c4))
    (first | exact KW.out _ hK0.out.1 hK0.out.2 | exact KW.out _ hK1.out.1 hK1.out.2 | exact KW.out _ hK2.out.1 hK2.out.2 | exact KW.out _ (KU.out _ _ _ _ hK2).out.1 (KU.out _ _ _ _ hK2).out.2)
    (first
      | (go_at_call 179; refine (negated_c _ q _ (Hu.out.below (Below.refl _ _).drew)).mono ?_; rintro e1 w1 ⟨nv, rfl, hnv, hB1⟩; have hK1 := KT.out _ _ hB1 hK0; have hR1 := ownKeep hB1 HRd)
      | (go_at_call 108; refine (PL.out nv _ (Hv.out.below (drB hB1)) hnv).mono ?_; rintro e2 w2 ⟨rv, rfl, hrv, hB2⟩; have hK2 := KT.out _ _ hB2 hK1; have hR2 := ownKeep hB2 hR1; obtain ⟨s5, A5, n5, c5, A6, n6, c6, rfl⟩ := hrv.shape; obtain ⟨r0, r1, r2, k0, k1, k2⟩ := hR2.out.three))
  have hB2' := ((HB0.out.trans ((drB hB1).mono HB0.out.size)).trans (hB2.mono (Nat.le_trans HB0.out.size hB1.size)))
  have HEnd := Lib.hid (ratEnd hrv hR2.out hB2' (show w.heap.size ≤ w.heap.size + 1 + 1 by omega))
  clear hB2' hB1 hB2 hrv hR1 hR2 hK1 hK2 KW KT KU PL Hu Hv
  rw [← HE.out] at HEnd
  go_wp2
  exact bodyPost_ret (v := .agg #[.bool s5, .slice A5 n5 c5, .slice A6 n6 c6]) (by simp [results, Tryz.results109, go_sem, r0, r1, r2]) rfl HEnd.out

set_option maxRecDepth 100000 in
set_option maxHeartbeats 2000000 in
theorem rtMinus_c (v u : Value) (p q : Rat) (w : World) (h : Rt w v p) (h' : Rt w u q) (hf : FitP p q) :
    Calls Tryz.prog 315 #[.agg #[], v, u] w (ratPost (p - q) w) := by
  have RO := Lib.hid (fun W (h : Rt W v p) (h' : Rt W u q) => ratMinus_c v u p q W h h' hf)
  clear hf
  have HH := Lib.hid h
  have HH' := Lib.hid h'
  obtain ⟨av, bv, hv, -, -⟩ := h
  obtain ⟨cv, dv, hu, -, -⟩ := h'
  generalize decide (p.num < 0) = na at hv
  generalize decide (q.num < 0) = nb at hu
  obtain ⟨W0, hW0⟩ : ∃ W0, W0 = (((w.alloc (.cells #[] 172)).alloc (.cells #[.bool na, av, bv] 122)).alloc (.cells #[.bool nb, cv, dv] 122)).alloc (.cells #[.bool false, .slice none 0 0, .slice none 0 0] 122) := ⟨_, rfl⟩
  have hB0 : Below w.heap.size w W0 := by rw [hW0]; exact ((((Below.refl _ _).alloc (Nat.le_refl _) _).alloc (by simp) _).alloc (by simp; omega) _).alloc (by simp; omega) _
  have hP : Own W0 (w.heap.size + 1) 122 [.bool na, av, bv] := by
    rw [hW0]
    have := Own.make (w.alloc (.cells #[] 172)) 122 [.bool na, av, bv]
    simp only [World.size_alloc] at this
    exact (this.alloc _).alloc _
  have hQ : Own W0 (w.heap.size + 1 + 1) 122 [.bool nb, cv, dv] := by
    rw [hW0]
    have := Own.make ((w.alloc (.cells #[] 172)).alloc (.cells #[.bool na, av, bv] 122)) 122 [.bool nb, cv, dv]
    simp only [World.size_alloc] at this
    exact this.alloc _
  have hR : Own W0 (w.heap.size + 1 + 1 + 1) 122 [.bool false, .slice none 0 0, .slice none 0 0] := by
    rw [hW0]
    have := Own.make (((w.alloc (.cells #[] 172)).alloc (.cells #[.bool na, av, bv] 122)).alloc (.cells #[.bool nb, cv, dv] 122)) 122 [.bool false, .slice none 0 0, .slice none 0 0]
    simp only [World.size_alloc] at this
    exact this
  have HR := Lib.hid hR
  obtain ⟨c0, c1, c2, _, _, _⟩ := hP.three
  obtain ⟨d0, d1, d2, _, _, _⟩ := hQ.three
  have RX := Lib.hid (RO.out W0 (HH.out.below hB0) (HH'.out.below hB0))
  clear hP hQ hR RO HH HH'
  subst hv hu
  go_enter Tryz.func315, Tryz.ntmps315
  go_upto_region 1 with fail
  rw [← hW0]
  clear hW0
  go_wp2_with fail
  refine RX.out.mono ?_
  rintro e w2 ⟨v, rfl, hv, hB2⟩
  clear c0 c1 c2 d0 d1 d2
  obtain ⟨nv, ev, rfl, hn, hd⟩ := hv
  have hR2 := HR.out.below hB2 HR.out.lt
  have hBt := hB0.trans (hB2.mono hB0.size)
  have Hn := Lib.hid (hn.put3 (c' := ev) hR2 (noInt_bool _) (noInt_slice _ _ _) (noInt_slice _ _ _) (noInt_bool (decide ((p - q).num < 0))) hn.noInt)
  have Hd := Lib.hid (hd.put3 (c' := ev) hR2 (noInt_bool _) (noInt_slice _ _ _) (noInt_slice _ _ _) (noInt_bool (decide ((p - q).num < 0))) hn.noInt)
  obtain ⟨e0, e1, e2, k0, k1, k2⟩ := hR2.three
  obtain ⟨A1, k1', c1, rfl, _⟩ := hn.size_
  obtain ⟨A2, k2', c2, rfl, _⟩ := hd.size_
  clear hn hd hR2 hB2 RX HR
  have KR : ∃ ng, Hid (ng = decide ((p - q).num < 0)) := ⟨_, Lib.hid rfl⟩
  obtain ⟨ng, hng⟩ := KR
  rw [← hng.out] at Hn Hd
  rw [← hng.out]
  go_wp2
  exact bodyPost_ret (v := .agg #[.bool ng, .slice A1 k1' c1, .slice A2 k2' c2]) (by simp [results, Tryz.results315, go_sem, e0, e1, e2]) rfl ⟨_, rfl, ⟨_, _, by rw [hng.out], Hn.out, Hd.out⟩, ((hBt.setCell (by simp; omega) _).setCell (by simp; omega) _).setCell (by simp; omega) _⟩

end Go.Proofs.YtneafcdfnhnpnaaGreatDoor
/- Rows of rational numbers in memory. -/
namespace Go.Proofs.YtneafcdfnhnpnaaGreatDoor
open Go.RowKit Go.Lib

/-- the parts of a number in memory: its sign, its numerator, its denominator -/
abbrev El := Bool × Value × Value
def elV (e : El) : Value := .agg #[.bool e.1, e.2.1, e.2.2]
def elC (e : El) : List Value := [.bool e.1, e.2.1, e.2.2]
def ecells : List El → List Value
  | [] => []
  | e :: t => .bool e.1 :: e.2.1 :: e.2.2 :: ecells t
theorem ecells_length (es : List El) : (ecells es).length = es.length * 3 := by
  induction es with
  | nil => rfl
  | cons e t ih => simp only [ecells, List.length_cons, ih]; omega
theorem ecells_at (es : List El) (j : Nat) (e : El) (h : es[j]? = some e) : (ecells es)[j * 3]? = some (.bool e.1) ∧ (ecells es)[j * 3 + 1]? = some e.2.1 ∧ (ecells es)[j * 3 + 2]? = some e.2.2 := by
  induction es generalizing j with
  | nil => cases h
  | cons a t ih =>
    cases j with
    | zero => simp at h; subst h; simp [ecells]
    | succ j =>
      simp at h
      have := ih j h
      rw [show (j + 1) * 3 = j * 3 + 1 + 1 + 1 by omega]
      simpa [ecells] using this
theorem ecells_set (es : List El) (j : Nat) (e : El) (h : j < es.length) : (((ecells es).set (j * 3) (.bool e.1)).set (j * 3 + 1) e.2.1).set (j * 3 + 2) e.2.2 = ecells (es.set j e) := by
  induction es generalizing j with
  | nil => simp at h
  | cons a t ih =>
    cases j with
    | zero => simp [ecells]
    | succ j =>
      simp at h
      rw [show (j + 1) * 3 = j * 3 + 1 + 1 + 1 by omega]
      simp only [ecells, List.set_cons_succ]
      rw [ih j h]
theorem ecells_noInt (es : List El) (h : ∀ e ∈ es, NoInt e.2.1 ∧ NoInt e.2.2) : ∀ c ∈ ecells es, NoInt c := by
  induction es with
  | nil => intro c hc; cases hc
  | cons a t ih =>
    intro c hc
    simp only [ecells, List.mem_cons] at hc
    have ha := h a (by simp)
    rcases hc with rfl | rfl | rfl | hc
    · exact noInt_bool _
    · exact ha.1
    · exact ha.2
    · exact ih (fun e he => h e (by simp [he])) c hc
/-- block b holds the numbers qs, the parts of which are es -/
structure RowQ (w : World) (b : Nat) (es : List El) (qs : List Rat) : Prop where
  own : Own w b 122 (ecells es)
  len : qs.length ≤ es.length
  noi : ∀ e ∈ es, NoInt e.2.1 ∧ NoInt e.2.2
  num : ∀ (i : Nat) (e : El) (q : Rat), es[i]? = some e → qs[i]? = some q → Rt w (elV e) q
section
variable {w w' : World} {b : Nat} {es : List El} {qs : List Rat}
theorem RowQ.noInt (h : RowQ w b es qs) : ∀ c ∈ ecells es, NoInt c := ecells_noInt es h.noi
theorem Rt.elNo {e : El} {q : Rat} (h : Rt w (elV e) q) : NoInt e.2.1 ∧ NoInt e.2.2 := by
  obtain ⟨nv, dv, hv, h1, h2⟩ := h
  have e2 : e.2.1 = nv ∧ e.2.2 = dv := by simp [elV] at hv; exact hv.2
  rw [e2.1, e2.2]
  exact ⟨h1.noInt, h2.noInt⟩
theorem RowQ.below (h : RowQ w b es qs) (hb : Below w.heap.size w w') : RowQ w' b es qs :=
  ⟨h.own.below hb h.own.lt, h.len, h.noi, fun i e q he hq => (h.num i e q he hq).below hb⟩
/-- a block without integers may change: no number changes -/
theorem Nt.stay {g : Nat} {t : TypeId} {cs : List Value} {v : Value} {x : Nat} (h : Nt w v x) (hO : Own w g t cs) (hc : ∀ c ∈ cs, NoInt c) (hb : But g w w') : Nt w' v x := by
  obtain ⟨ws, h1, h2, h3, A, n, c, hv, h4, h5, h6, h7⟩ := h
  refine ⟨ws, h1, h2, h3, A, n, c, hv, h4, h5, h6, fun hn => ?_⟩
  obtain ⟨b, off, hA, hlt, hcell⟩ := h7 hn
  refine ⟨b, off, hA, Nat.lt_of_lt_of_le hlt hb.size, fun j u hu => ?_⟩
  have hj := hcell j u hu
  have hne : b ≠ g := by
    rintro rfl
    rw [hO.cell] at hj
    obtain ⟨y, _, hy⟩ := List.mem_map.1 (List.mem_of_getElem? hu)
    exact hc u (List.mem_of_getElem? hj) _ _ hy.symm
  exact (World.cell?_of_block (a := ⟨b, off + j, none⟩) (hb.block b hlt hne)).trans hj
theorem Rt.stay {g : Nat} {t : TypeId} {cs : List Value} {v : Value} {q : Rat} (h : Rt w v q) (hO : Own w g t cs) (hc : ∀ c ∈ cs, NoInt c) (hb : But g w w') : Rt w' v q := by
  obtain ⟨nv, dv, hv, h1, h2⟩ := h
  exact ⟨nv, dv, hv, h1.stay hO hc hb, h2.stay hO hc hb⟩
theorem RowQ.stay {g : Nat} {t : TypeId} {cs : List Value} (h : RowQ w b es qs) (hO : Own w g t cs) (hc : ∀ c ∈ cs, NoInt c) (hb : But g w w') (hg : b ≠ g) : RowQ w' b es qs :=
  ⟨h.own.but hb hg, h.len, h.noi, fun i e q he hq => (h.num i e q he hq).stay hO hc hb⟩
theorem But.set3 (w : World) (g i : Nat) (a b c : Value) : But g w (((w.setCell ⟨g, i, none⟩ a).setCell ⟨g, i + 1, none⟩ b).setCell ⟨g, i + 2, none⟩ c) :=
  (((But.refl g w).setCell ⟨g, i, none⟩ rfl a).setCell ⟨g, i + 1, none⟩ rfl b).setCell ⟨g, i + 2, none⟩ rfl c
theorem RowQ.put (h : RowQ w b es qs) {j : Nat} {e : El} {q : Rat} (hj : j < qs.length) (hq : Rt w (elV e) q) :
    RowQ (((w.setCell ⟨b, j * 3, none⟩ (.bool e.1)).setCell ⟨b, j * 3 + 1, none⟩ e.2.1).setCell ⟨b, j * 3 + 2, none⟩ e.2.2) b (es.set j e) (qs.set j q) := by
  have hb := But.set3 w b (j * 3) (.bool e.1) e.2.1 e.2.2
  have hn := h.noInt
  have hjl : j < es.length := Nat.lt_of_lt_of_le hj h.len
  refine ⟨?_, by simpa using h.len, fun a ha => ?_, fun i a r hi hr => ?_⟩
  · rw [← ecells_set es j e hjl]
    exact ((h.own.put _ _).put _ _).put _ _
  · rcases List.mem_or_eq_of_mem_set ha with ha | rfl
    · exact h.noi a ha
    · exact hq.elNo
  · by_cases hij : j = i
    · subst hij
      rw [List.getElem?_set_self hjl] at hi
      rw [List.getElem?_set_self hj] at hr
      obtain rfl := Option.some.inj hi
      obtain rfl := Option.some.inj hr
      exact hq.stay h.own hn hb
    · rw [List.getElem?_set_ne hij] at hi hr
      exact (h.num i a r hi hr).stay h.own hn hb
/-- the cells of a number, and that they may be written -/
theorem RowQ.at_ (h : RowQ w b es qs) {j : Nat} (hj : j < qs.length) : ∃ (e : El) (A1 : Option Addr) (n1 c1 : Nat) (A2 : Option Addr) (n2 c2 : Nat), es[j]? = some e ∧ e = (e.1, .slice A1 n1 c1, .slice A2 n2 c2) ∧ Rt w (elV e) (qs[j]?.getD 0) ∧
    w.cell? ⟨b, j * 3, none⟩ = some (.bool e.1) ∧ w.cell? ⟨b, j * 3 + 1, none⟩ = some (.slice A1 n1 c1) ∧ w.cell? ⟨b, j * 3 + 2, none⟩ = some (.slice A2 n2 c2) ∧
    w.frozen? ⟨b, j * 3, none⟩ = false ∧ w.frozen? ⟨b, j * 3 + 1, none⟩ = false ∧ w.frozen? ⟨b, j * 3 + 2, none⟩ = false := by
  have hl : j < es.length := Nat.lt_of_lt_of_le hj h.len
  obtain ⟨e0, he⟩ : ∃ e0, es[j]? = some e0 := ⟨es[j], List.getElem?_eq_getElem hl⟩
  have hr := h.num j _ _ he (List.getElem?_eq_getElem hj)
  obtain ⟨s, A1, n1, c1, A2, n2, c2, hs⟩ := hr.shape
  obtain ⟨s', a', b'⟩ := e0
  simp [elV] at hs
  obtain ⟨rfl, rfl, rfl⟩ := hs
  obtain ⟨h1, h2, h3⟩ := ecells_at es j _ he
  refine ⟨_, A1, n1, c1, A2, n2, c2, he, rfl, ?_, (h.own.cell _).trans h1, (h.own.cell _).trans h2, (h.own.cell _).trans h3, h.own.free _, h.own.free _, h.own.free _⟩
  rw [List.getElem?_eq_getElem hj]; exact hr
end
end Go.Proofs.YtneafcdfnhnpnaaGreatDoor
/- Contract: divide over the rational numbers. -/
namespace Go.Proofs.YtneafcdfnhnpnaaGreatDoor
open Go.RowKit Go.Lib

def mapFromT {T : Type} (f : T → T) (o k : Nat) (L : List T) : List T := L.mapIdx fun j x => if o ≤ j ∧ j < o + k then f x else x
section
variable {T : Type} (f : T → T) (o k : Nat) (L : List T)
theorem mapFromT_length : (mapFromT f o k L).length = L.length := by simp [mapFromT]
theorem mapFromT_zero : mapFromT f o 0 L = L := by
  apply List.ext_getElem?
  intro j
  simp only [mapFromT, List.getElem?_mapIdx, Nat.add_zero]
  cases L[j]? with
  | none => rfl
  | some x => simp only [Option.map_some]; rw [if_neg (by omega)]
theorem mapFromT_at : (mapFromT f o k L)[o + k]? = L[o + k]? := by
  simp only [mapFromT, List.getElem?_mapIdx, Nat.lt_irrefl, and_false, if_false]
  cases L[o + k]? <;> simp
theorem mapFromT_succ (x : T) (hx : L[o + k]? = some x) : (mapFromT f o k L).set (o + k) (f x) = mapFromT f o (k + 1) L := by
  have h := (List.getElem?_eq_some_iff.1 hx).1
  apply List.ext_getElem?
  intro j
  rw [List.getElem?_set]
  simp only [mapFromT, List.getElem?_mapIdx, List.length_mapIdx]
  by_cases hj : o + k = j
  · subst hj; rw [if_pos rfl, if_pos h, hx]; simp
  · rw [if_neg hj]
    rcases Nat.lt_or_ge j L.length with hl | hl
    · rw [List.getElem?_eq_getElem hl]
      simp only [Option.map_some, Option.some.injEq]
      by_cases h2 : o ≤ j ∧ j < o + k
      · rw [if_pos h2, if_pos (by omega)]
      · rw [if_neg h2, if_neg (by omega)]
    · rw [List.getElem?_eq_none hl]; rfl
theorem mapFromT_same (x : T) (hx : L[o + k]? = some x) (hf : f x = x) : mapFromT f o (k + 1) L = mapFromT f o k L := by
  rw [← mapFromT_succ f o k L x hx, hf]
  apply List.ext_getElem?
  intro j
  rw [List.getElem?_set, mapFromT_length]
  by_cases hj : o + k = j
  · subst hj; rw [mapFromT_at, hx]; simp [(List.getElem?_eq_some_iff.1 hx).1]
  · rw [if_neg hj]
end
def ratF : Fd Rat := ⟨0, fun q => decide (q = 0), fun a b => a - b, fun a b => a * b, fun a b => a / b⟩
def divQ (d x : Rat) : Rat := if x = 0 then x else x / d
theorem divQ_row (d : Rat) (o n : Nat) (L : List Rat) (h : o + n = L.length) : mapFromT (divQ d) o n L = divRow ratF d o L := by
  unfold mapFromT divRow
  apply List.ext_getElem?
  intro j
  simp only [List.getElem?_mapIdx]
  rcases Nat.lt_or_ge j L.length with hl | hl
  · rw [List.getElem?_eq_getElem hl]
    simp only [Option.map_some, Option.some.injEq]
    by_cases h2 : o ≤ j
    · rw [if_pos ⟨h2, by omega⟩, if_pos h2]; simp [divQ, ratF]
    · rw [if_neg (by omega), if_neg h2]
  · rw [List.getElem?_eq_none hl]; rfl
theorem ratSign_zero (q : Rat) : (ratSign q == 0) = decide (q = 0) := by
  unfold ratSign
  by_cases h : q = 0
  · subst h; decide
  · have : q.num ≠ 0 := fun e => h (Rat.num_eq_zero.1 e)
    rw [if_neg this, decide_eq_false h]
    split <;> decide
theorem isZeroQ_c (v : Value) (q : Rat) (w : World) (h : Rt w v q) : Calls Tryz.prog 314 #[.agg #[], v] w fun e w' => e = .returned (.bool (decide (q = 0))) ∧ Below w.heap.size w w' :=
  (rtIsZero_c v q w h).mono fun e w' h => ⟨by rw [h.1, ratSign_zero], h.2⟩
theorem qZero_meth (w : World) : (method 444 172 (.agg #[]) "talisman/algebra.isZero").run Tryz.prog w = .ok (314, .agg #[]) w := by kernel_rfl
theorem qOver_meth (w : World) : (method 444 172 (.agg #[]) "talisman/algebra.over").run Tryz.prog w = .ok (317, .agg #[]) w := by kernel_rfl
theorem qTimes_meth (w : World) : (method 444 172 (.agg #[]) "talisman/algebra.times").run Tryz.prog w = .ok (318, .agg #[]) w := by kernel_rfl
theorem qMinus_meth (w : World) : (method 444 172 (.agg #[]) "talisman/algebra.minus").run Tryz.prog w = .ok (315, .agg #[]) w := by kernel_rfl
theorem qOf_meth (w : World) : (method 444 172 (.agg #[]) "talisman/algebra.of").run Tryz.prog w = .ok (316, .agg #[]) w := by kernel_rfl

set_option maxRecDepth 100000 in
set_option maxHeartbeats 4000000 in
theorem divideQ_c (dv : Value) (d : Rat) (w : World) (b o n c : Nat) (es : List El) (L : List Rat) (hO : RowQ w b es L) (hn : o + n = L.length) (hc1 : n ≤ c) (hc2 : c ≤ 9223372036854775807)
    (hd : Rt w dv d) (hd0 : d ≠ 0) (hdf : FitQ d) (hL : ∀ x ∈ L, FitQ x) :
    Calls Tryz.prog 202 #[.iface 172 (.agg #[]), .slice (some ⟨b, o * 3, none⟩) n c, dv] w fun e w' =>
      e = .returned (.tuple #[]) ∧ (∃ es', RowQ w' b es' (mapFromT (divQ d) o n L)) ∧ But b w w' := by
  have hZ := qZero_meth
  have hV := qOver_meth
  have HO := Lib.hid hO
  have HN := Lib.hid hn
  have HL := Lib.hid hL
  have HDF := Lib.hid hdf
  have HD0 := Lib.hid hd0
  obtain ⟨s, A1, n1, c1, A2, n2, c2, hdv⟩ := hd.shape
  have HD := Lib.hid hd
  clear hO hn hL hd hdf hd0
  subst hdv
  go_enter Tryz.func202, Tryz.ntmps202
  go_wp2_with fail
  go_loopg [10] n (fun gh i wr => ∃ k : Nat, i = .int .i64 k ∧ k + gh = n ∧ Hid (∃ es', RowQ wr b es' (mapFromT (divQ d) o k L)) ∧ Hid (But b w wr) ∧ Hid (Own wr w.heap.size 122 [.bool s, .slice A1 n1 c1, .slice A2 n2 c2]) ∧ Hid (Rt wr (.agg #[.bool s, .slice A1 n1 c1, .slice A2 n2 c2]) d))
  case atStart =>
    have hal : Below w.heap.size w (w.alloc (.cells #[.bool s, .slice A1 n1 c1, .slice A2 n2 c2] 122)) := (Below.refl _ _).alloc (Nat.le_refl _) _
    exact ⟨0, rfl, by omega, Lib.hid ⟨es, by rw [mapFromT_zero]; exact HO.out.below hal⟩, Lib.hid (But.of_below hal), Lib.hid (Own.make w _ [.bool s, .slice A1 n1 c1, .slice A2 n2 c2]), Lib.hid (HD.out.below hal)⟩
  case round =>
    obtain ⟨k, rfl, hk, hR, hB, hX, hDv⟩ := hrel
    cases gk with
    | zero =>
      have hin : ¬ ((k : Int) < (n : Int)) := by omega
      have hkn : k = n := by omega
      rw [hkn] at hR
      clear hkn hk
      go_wp2
      go_end0
      exact ⟨rfl, hR.out, hB.out⟩
    | succ gh =>
      have hlt : k < n := by omega
      have hlt' : (k : Int) < (n : Int) := by omega
      obtain ⟨es1, hR1⟩ := hR.out
      obtain ⟨e, B1, m1, k1, B2, m2, k2, he, hee, hrt, y0, y1, y2, z0, z1, z2⟩ := hR1.at_ (j := o + k) (by rw [mapFromT_length]; have := HN.out; omega)
      rw [mapFromT_at] at hrt
      rw [Nat.add_mul] at y0 y1 y2 z0 z1 z2
      obtain ⟨e0, ea, eb⟩ := e
      have hea : ea = .slice B1 m1 k1 ∧ eb = .slice B2 m2 k2 := by simpa using hee
      obtain ⟨rfl, rfl⟩ := hea
      clear hee
      unfold elV at hrt
      dsimp only at hrt y0
      have hol : o + k < L.length := by have := HN.out; omega
      have hx : L[o + k]? = some (L[o + k]?.getD 0) := by rw [List.getElem?_eq_getElem hol]; rfl
      have hfx := HL.out (L[o + k]?.getD 0) (List.mem_of_getElem? hx)
      have Hsame := Lib.hid (mapFromT_same (divQ d) o k L _ hx)
      have Hsucc := Lib.hid (mapFromT_succ (divQ d) o k L _ hx)
      have Hfx := Lib.hid hfx
      have Hk := Lib.hid hk
      have HR1 := Lib.hid hR1
      have hbl := hR1.own.lt
      clear hx hol hfx hk hR1 hR
      generalize L[o + k]?.getD 0 = x at *
      have hal : Below wr.heap.size wr (wr.alloc (.cells #[.bool e0, .slice B1 m1 k1, .slice B2 m2 k2] 122)) := (Below.refl _ _).alloc (Nat.le_refl _) _
      have hXX := Own.make wr 122 [.bool e0, .slice B1 m1 k1, .slice B2 m2 k2]
      have hXl := hX.out.lt
      go_wp2_with fail
      refine (isZeroQ_c _ x _ (hrt.below hal)).mono ?_
      rintro ee w2 ⟨rfl, hB2⟩
      have hB12 : Below wr.heap.size wr w2 := hal.trans (hB2.mono hal.size)
      by_cases h0 : x = 0
      · have HR2 : Hid (∃ es', RowQ w2 b es' (mapFromT (divQ d) o (k + 1) L)) := Lib.hid ⟨es1, by rw [Hsame.out (by unfold divQ; rw [if_pos h0])]; exact HR1.out.below hB12⟩
        have HB2 := Lib.hid (hB.out.below hB12)
        have HX2 := Lib.hid (hX.out.below hB12 hXl)
        have HD2 := Lib.hid (hDv.out.below hB12)
        rw [decide_eq_true h0]
        clear h0 hB12 hB2 hal hXX y0 y1 y2 z0 z1 z2 HR1 hB hX hDv hrt hXl
        go_wp2
        go_roundg gh
        case rel => exact ⟨k + 1, by go_num, by have := Hk.out; omega, HR2, HB2, HX2, HD2⟩
        case measure => omega
      · have Hv : Hid (divQ d x = x / d) := Lib.hid (by unfold divQ; rw [if_neg h0])
        rw [decide_eq_false h0]
        have hX2 := hX.out.below hB12 hXl
        have hXX2 := hXX.below hB2 (by simp)
        obtain ⟨a0, a1, a2, _, _, _⟩ := hX2.three
        obtain ⟨b0, b1, b2, _, _, _⟩ := hXX2.three
        have OV := Lib.hid (rtOver_c (.agg #[.bool e0, .slice B1 m1 k1, .slice B2 m2 k2]) (.agg #[.bool s, .slice A1 n1 c1, .slice A2 n2 c2]) x d w2 (hrt.below hB12) (hDv.out.below hB12) HD0.out Hfx.out.1 Hfx.out.2 HDF.out.1 HDF.out.2)
        have HB12 := Lib.hid hB12
        clear h0 hB12 hB2 hal hXX
        go_wp2_with fail
        refine OV.out.mono ?_
        clear OV
        rintro ee w3 ⟨rv, rfl, hrv, hB3⟩
        have HB13 := Lib.hid (HB12.out.trans (hB3.mono HB12.out.size))
        obtain ⟨s5, A5, n5, c5, A6, n6, c6, rfl⟩ := hrv.shape
        have y0' := (HB13.out.cell (p := ⟨b, o * 3 + k * 3, none⟩) hbl).trans y0
        have y1' := (HB13.out.cell (p := ⟨b, o * 3 + k * 3 + 1, none⟩) hbl).trans y1
        have y2' := (HB13.out.cell (p := ⟨b, o * 3 + k * 3 + 2, none⟩) hbl).trans y2
        have z0' := (HB13.out.frozen (p := ⟨b, o * 3 + k * 3, none⟩) hbl).trans z0
        have z1' := (HB13.out.frozen (p := ⟨b, o * 3 + k * 3 + 1, none⟩) hbl).trans z1
        have z2' := (HB13.out.frozen (p := ⟨b, o * 3 + k * 3 + 2, none⟩) hbl).trans z2
        have hbl3 : b < w3.heap.size := Nat.lt_of_lt_of_le hbl HB13.out.size
        have HP := Lib.hid ((HR1.out.below HB13.out).put (j := o + k) (e := (s5, .slice A5 n5 c5, .slice A6 n6 c6)) (q := x / d) (by rw [mapFromT_length]; have := HN.out; omega) hrv)
        rw [Nat.add_mul, ← Hv.out, Hsucc.out] at HP
        dsimp only at HP
        have HBt := Lib.hid ((hB.out.below HB13.out).trans (But.set3 w3 b (o * 3 + k * 3) (.bool s5) (.slice A5 n5 c5) (.slice A6 n6 c6)))
        have hne : w.heap.size ≠ b := fun e => by have := HO.out.own.lt; omega
        have HXt := Lib.hid ((hX.out.below HB13.out hXl).but (But.set3 w3 b (o * 3 + k * 3) (.bool s5) (.slice A5 n5 c5) (.slice A6 n6 c6)) hne)
        have HDt := Lib.hid ((hDv.out.below HB13.out).stay (HR1.out.below HB13.out).own (HR1.out.below HB13.out).noInt (But.set3 w3 b (o * 3 + k * 3) (.bool s5) (.slice A5 n5 c5) (.slice A6 n6 c6)))
        clear hrv hB3 a0 a1 a2 b0 b1 b2 y0 y1 y2 z0 z1 z2 hX2 hXX2 hrt hX hDv hB HR1 HB12 HB13 hXl hne
        go_wp2
        go_roundg gh
        case rel => exact ⟨k + 1, by go_num, by have := Hk.out; omega, Lib.hid ⟨_, HP.out⟩, HBt, HXt, HDt⟩
        case measure => omega
end Go.Proofs.YtneafcdfnhnpnaaGreatDoor
