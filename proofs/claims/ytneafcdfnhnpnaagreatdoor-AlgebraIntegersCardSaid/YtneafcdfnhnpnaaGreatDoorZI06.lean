/- Contracts of the reference: quotients, common divisors. -/
import Derived.Test.YtneafcdfnhnpnaaGreatDoorZI05
import Derived.Test.YtneafcdfnhnpnaaGreatDoorZI01
namespace Go.Proofs.YtneafcdfnhnpnaaGreatDoor
open Go.RowKit Go.Lib

theorem divDigits_c (v u : Value) (x y : Nat) (w : World) (hv : Dg w v x) (hu : Dg w u y) (h0 : 0 < y) (hx : Big9 x) :
    Calls Tryz.prog 175 #[v, u] w (dvPost x y w) := by
  rcases Nat.lt_or_ge x y with h | h
  · exact divS_c v u x y w hv hu h
  · rcases Nat.lt_or_ge y B9 with h1 | h1
    · exact divO_c v u x y w hv hu h h0 h1 hx
    · exact divL_c v u x y w hv hu h h1 hx
theorem Dg.zero_ {w : World} {v : Value} (h : Dg w v 0) : ∃ A c, v = .slice A 0 c := by
  obtain ⟨p, A, c, rfl, e1, o1, n1, l1, l2, s1⟩ := h.open_
  obtain rfl := (bnorm_pos n1).1 e1
  exact ⟨A, c, rfl⟩
theorem Dg.pos_ {w : World} {v : Value} {x : Nat} (h : Dg w v x) (h0 : 0 < x) : ∃ A n c, v = .slice A n c ∧ (0 : Int) < (n : Int) ∧ n ≤ 140737488355328 := by
  obtain ⟨p, A, c, rfl, e1, o1, n1, l1, l2, s1⟩ := h.open_
  refine ⟨A, p.length, c, rfl, ?_, l2⟩
  rcases Nat.eq_zero_or_pos p.length with h1 | h1
  · have := List.length_eq_zero_iff.1 h1
    subst this
    simp [bval] at e1; omega
  · omega
set_option maxRecDepth 100000 in
set_option maxHeartbeats 2000000 in
theorem common_c (v u : Value) (x y : Nat) (w : World) (hv : Dg w v x) (hu : Dg w u y) (hx : Big9 x) (hy : Big9 y) :
    Calls Tryz.prog 106 #[v, u] w (dgPost (Nat.gcd x y) w) := by
  have HV := Lib.hid hv
  have HU := Lib.hid hu
  have HX := Lib.hid hx
  have HY := Lib.hid hy
  obtain ⟨A, n, c, rfl, _⟩ := hv.size_
  obtain ⟨B, m, d, rfl, _⟩ := hu.size_
  clear hv hu hx hy
  go_enter Tryz.func106, Tryz.ntmps106
  go_wp2_with fail
  go_loopg [0, 1, 5, 6] y (fun g a b _ _ wr => ∃ x' : Nat, Hid (Dg wr a x') ∧ Hid (Dg wr b g) ∧ Hid (Nat.gcd x' g = Nat.gcd x y) ∧ Hid (Big9 x') ∧ Hid (Big9 g) ∧ Hid (Below w.heap.size w wr))
  case atStart => exact ⟨x, HV, HU, Lib.hid rfl, HX, HY, Lib.hid (Below.refl _ _)⟩
  case round =>
    clear HV HU HX HY
    obtain ⟨x', hA, hB, hG, hX, hY, hBl⟩ := hrel
    obtain ⟨A2, n2, c2, rfl, _⟩ := hA.out.size_
    cases gk with
    | zero =>
      obtain ⟨B2, d2, rfl⟩ := hB.out.zero_
      have HD : Hid (Dg wr (.slice A2 n2 c2) (Nat.gcd x y)) := Lib.hid (by rw [← hG.out, Nat.gcd_zero_right]; exact hA.out)
      clear hG
      go_wp2
      go_ret
      exact ⟨_, rfl, HD.out, hBl.out⟩
    | succ g =>
      obtain ⟨B2, m2, d2, rfl, hm2, _⟩ := hB.out.pos_ (Nat.succ_pos g)
      have DV := Lib.hid (divDigits_c _ _ x' (g + 1) wr hA.out hB.out (Nat.succ_pos g) hX.out)
      have HLT : Hid (x' % (g + 1) < g + 1) := Lib.hid (Nat.mod_lt _ (Nat.succ_pos g))
      have HG2 : Hid (Nat.gcd (g + 1) (x' % (g + 1)) = Nat.gcd x y) := Lib.hid (by rw [← hG.out, Nat.gcd_comm x', Nat.gcd_rec (g + 1) x', Nat.gcd_comm])
      go_wp2_with fail
      refine DV.out.mono ?_
      rintro e w2 ⟨q, r, rfl, hq, hr, hB2⟩
      obtain ⟨QA, qn, qc, rfl, _⟩ := hq.size_
      obtain ⟨RA, rn, rc, rfl, _⟩ := hr.size_
      have HR := Lib.hid hr
      have HB2 := Lib.hid (hB.out.below hB2)
      have HBL := Lib.hid (hBl.out.trans (hB2.mono hBl.out.size))
      have HXR : Hid (Big9 (x' % (g + 1))) := Lib.hid (hX.out.le (Nat.mod_le _ _))
      clear hq hr hB2 DV hG hA hB hBl
      generalize x' % (g + 1) = rr at *
      go_wp2
      go_roundg rr
      case rel => exact ⟨g + 1, HB2, HR, HG2, hY, HXR, HBL⟩
      case measure => exact HLT.out
end Go.Proofs.YtneafcdfnhnpnaaGreatDoor
/- Contracts of the reference: the negative integer; the quotient of two integers as a text. -/
namespace Go.Proofs.YtneafcdfnhnpnaaGreatDoor
open Go.RowKit Go.Lib

theorem own_at {w : World} {o : Obj} {t : TypeId} {cs : List Value} : Own ((w.alloc o).alloc (.cells cs.toArray t)) (w.heap.size + 1) t cs := by
  have h := Own.make (w.alloc o) t cs
  simp only [World.size_alloc] at h
  exact h
theorem sg_minus (x : Int) : sg (!decide (x < 0)) x.natAbs = -x := by
  by_cases h : x < 0
  · rw [decide_eq_true h]; unfold sg; rw [if_neg (by decide)]; omega
  · rw [decide_eq_false h]; unfold sg; rw [if_pos (by decide)]; omega
set_option maxRecDepth 100000 in
set_option maxHeartbeats 2000000 in
theorem refMinus_c (v : Value) (x : Int) (w : World) (h : Ri w v x) : Calls Tryz.prog 181 #[v] w (riPost (-x) w) := by
  obtain ⟨dv, ws, rfl, hv, hok, hn, hs⟩ := h
  obtain ⟨A, c, rfl, hc1, hc2⟩ := hs.form
  have hX := sg_minus x
  rw [← hv] at hX
  generalize decide (x < 0) = bx at *
  have HB0 : Hid (Below w.heap.size w ((w.alloc (.cells #[.bool bx, .slice A (ncells ws).length c] 127)).alloc (.cells #[.bool false, .slice none 0 0] 127))) := Lib.hid (((Below.refl _ _).alloc (Nat.le_refl _) _).alloc (by simp) _)
  have HOw : Hid (Own ((w.alloc (.cells #[.bool bx, .slice A (ncells ws).length c] 127)).alloc (.cells #[.bool false, .slice none 0 0] 127)) (w.heap.size + 1) 127 [.bool false, .slice none 0 0]) := Lib.hid own_at
  have SG := Lib.hid (signed_c (!bx) (.slice A (ncells ws).length c) ws _ hok (hs.below HB0.out))
  rw [hX] at SG
  clear hX hs hok hn hv
  generalize (ncells ws).length = n at *
  go_enter Tryz.func181, Tryz.ntmps181
  go_wp2_with fail
  refine SG.out.mono ?_
  rintro e w2 ⟨rv, rfl, hri, hB2⟩
  obtain ⟨RA, rn, rc, rfl, hr1, hr2⟩ := hri.open_
  generalize hbz : decide (-x < 0) = bz at *
  have HO2 := Lib.hid (HOw.out.below hB2 HOw.out.lt)
  obtain ⟨c0, c1, f0, f1⟩ := HO2.out.two
  have HRF := Lib.hid (hri.put2 (a' := .bool bz) (b' := .slice RA rn rc) HO2.out (noInt_bool _) (noInt_slice _ _ _) (noInt_bool _))
  have HBF : Hid (Below w.heap.size w ((w2.setCell ⟨w.heap.size + 1, 0, none⟩ (.bool bz)).setCell ⟨w.heap.size + 1, 1, none⟩ (.slice RA rn rc))) := Lib.hid (((HB0.out.trans (hB2.mono HB0.out.size)).setCell (p := ⟨w.heap.size + 1, 0, none⟩) (Nat.le_succ _) _).setCell (p := ⟨w.heap.size + 1, 1, none⟩) (Nat.le_succ _) _)
  clear hri hB2 hbz
  go_wp2
  obtain ⟨z0, z1, _, _⟩ := (HO2.out.set2 (a' := .bool bz) (b' := .slice RA rn rc)).two
  exact bodyPost_ret (v := .agg #[.bool bz, .slice RA rn rc]) (by simp [results, Tryz.results181, go_sem, z0, z1]) rfl ⟨_, rfl, HRF.out, HBF.out⟩
end Go.Proofs.YtneafcdfnhnpnaaGreatDoor
/- Contracts of the reference: the quotient of two integers as a text. -/
namespace Go.Proofs.YtneafcdfnhnpnaaGreatDoor
open Go.RowKit Go.Lib

theorem big9_digits {x : Nat} (h : Big9 x) : (decDigits x).length ≤ 9000001 := by
  rw [decDigits_length]
  have h2 : B9 ^ lim9 = 10 ^ (9 * lim9) := by rw [Nat.pow_mul]
  have h3 : 10 ^ (9 * lim9) ≤ 10 ^ (9 * lim9 + 1) := Nat.pow_le_pow_right (by decide) (by omega)
  have h4 := nDigits_le (9 * lim9) x (by unfold Big9 at h; rw [h2] at h; omega)
  have := lim9_le
  omega
theorem itext_sg {neg : Bool} {n : Nat} (h : neg = true → 0 < n) : itext (sg neg n) = (if neg then [45] else []) ++ decDigits n := by
  unfold itext
  rw [sg_natAbs]
  cases neg with
  | true =>
    have := h rfl
    rw [if_pos (by unfold sg; rw [if_pos rfl]; omega), if_pos rfl]
  | false => rw [if_neg (by unfold sg; rw [if_neg (by decide)]; omega), if_neg (by decide)]
theorem itext_nat (n : Nat) : itext (sg false n) = decDigits n := by rw [itext_sg (by simp)]; rfl
theorem rat_div_nat (x : Int) (d : Nat) : (x : Rat) / ((d : Int) : Rat) = mkRat x d := by
  rw [← Rat.divInt_eq_div]; exact Rat.divInt_ofNat x d
theorem slice1 {q : Nat} {w : World} {v : Value} (h : Dg w v q) (h0 : 0 < q) (h9 : q ≠ 1) :
    (∃ A n c, v = .slice A n c ∧ ((n : Int) == 1) = false ∧ n ≤ 140737488355328) ∨ (∃ b off c, v = .slice (some ⟨b, off, none⟩) 1 c ∧ b < w.heap.size ∧ w.cell? ⟨b, off, none⟩ = some (.int .i64 (q : Int)) ∧ ((q : Int) == 1) = false) := by
  rcases Nat.lt_or_ge q B9 with hq | hq
  · obtain ⟨b, off, c, rfl, hb, hc⟩ := h.one h0 hq
    exact .inr ⟨b, off, c, rfl, hb, hc, by simpa using (by omega : ¬ (q : Int) = 1)⟩
  · obtain ⟨p, A, c, rfl, e1, o1, n1, l1, l2, s1⟩ := h.open_
    refine .inl ⟨A, p.length, c, rfl, ?_, l2⟩
    have : p.length ≠ 1 := by
      intro hl
      have h1 := bval_lt o1
      rw [hl, Nat.pow_one] at h1
      omega
    simpa using (by omega : ¬ (p.length : Int) = 1)
end Go.Proofs.YtneafcdfnhnpnaaGreatDoor
/- Contracts of the reference: the quotient of two integers, of which the second is positive. -/
namespace Go.Proofs.YtneafcdfnhnpnaaGreatDoor
open Go.RowKit Go.Lib

theorem Own.cell2 {w : World} {g : Nat} {t : TypeId} {a b : Value} (h : Own w g t [a, b]) : w.cell? ⟨g, 0, none⟩ = some a ∧ w.cell? ⟨g, 1, none⟩ = some b := ⟨h.cell 0, h.cell 1⟩
theorem join_text (tx : List UInt8) (d1 : Nat) : Ending.returned (.string (ByteArray.mk tx.toArray ++ ByteArray.mk #[47] ++ ByteArray.mk (decDigits d1).toArray)) = .returned (.string ⟨(tx ++ 47 :: decDigits d1).toArray⟩) := by
  rw [ByteArray.mk_append_mk, ByteArray.mk_append_mk]
  congr 3
  simp
set_option maxRecDepth 100000 in
set_option maxHeartbeats 8000000 in
theorem fractionP_c (u v : Value) (x : Int) (y : Nat) (w : World) (hx : Ri w u x) (hy : Ri w v (y : Int)) (h0 : 0 < y) (bx : Big9 x.natAbs) (by_ : Big9 y) :
    Calls Tryz.prog 117 #[u, v] w (ansText (rtext ((x : Rat) / ((y : Int) : Rat))) w) := by
  obtain ⟨g, n1, d1, q1, q2, q3, q4, q5, q6, q7, q8, q9, q10⟩ := tdiv_parts x y h0
  rw [rat_div_nat, q10]
  have hng : x.natAbs / g = n1 := by
    have h := congrArg Int.natAbs q8
    rw [sg_natAbs, Int.natAbs_tdiv] at h
    have h3 : x.natAbs.div g = n1 := by simpa using h
    exact h3
  obtain ⟨dx, rfl, hdx⟩ := hx.dg
  obtain ⟨dy, rfl, hdy⟩ := hy.dg
  have hyn : decide ((y : Int) < 0) = false := decide_eq_false (by omega)
  rw [hyn]
  rw [Int.natAbs_natCast] at hdy
  have hpos : decide (x < 0) = true → 0 < n1 := fun h => q9 (of_decide_eq_true h)
  have HT := Lib.hid (itext_sg (neg := decide (x < 0)) (n := n1) hpos)
  have BN := big9_digits (bx.le q7)
  have BD := big9_digits (by_.le q5)
  have HG := Lib.hid q1
  have HNG := Lib.hid hng
  have HDG := Lib.hid q4
  have HG0 := Lib.hid q2
  have HD1 := Lib.hid q6
  have HBX := Lib.hid bx
  have HBY := Lib.hid by_
  have H0 := Lib.hid h0
  generalize decide (x < 0) = nx at *
  obtain ⟨A, n, c, rfl, _⟩ := hdx.size_
  obtain ⟨B, m, d, rfl, _⟩ := hdy.size_
  have hO1 : Own ((w.alloc (.cells #[.bool nx, .slice A n c] 127)).alloc (.cells #[.bool false, .slice B m d] 127)) w.heap.size 127 [.bool nx, .slice A n c] := (Own.make w _ [.bool nx, .slice A n c]).alloc _
  have hO2 : Own ((w.alloc (.cells #[.bool nx, .slice A n c] 127)).alloc (.cells #[.bool false, .slice B m d] 127)) (w.heap.size + 1) 127 [.bool false, .slice B m d] := own_at
  have hB0 : Below w.heap.size w ((w.alloc (.cells #[.bool nx, .slice A n c] 127)).alloc (.cells #[.bool false, .slice B m d] 127)) := ((Below.refl _ _).alloc (Nat.le_refl _) _).alloc (by simp) _
  obtain ⟨W0, hW0⟩ : ∃ W0, W0 = (w.alloc (.cells #[.bool nx, .slice A n c] 127)).alloc (.cells #[.bool false, .slice B m d] 127) := ⟨_, rfl⟩
  rw [← hW0] at hO1 hO2 hB0
  have HX0 := Lib.hid (hdx.below hB0)
  have HY0 := Lib.hid (hdy.below hB0)
  have HB0 := Lib.hid hB0
  have HO1 := Lib.hid hO1
  have HO2 := Lib.hid hO2
  obtain ⟨a0, a1⟩ := hO1.cell2
  obtain ⟨b0, b1⟩ := hO2.cell2
  clear hx hy hdx hdy hO1 hO2 hB0 q1 q2 q3 q4 q5 q6 q7 q8 q9 q10 hng hpos h0 bx by_ hyn
  go_enter Tryz.func117, Tryz.ntmps117
  go_upto_region 1 with fail
  rw [← hW0]
  clear hW0
  go_wp2_with fail
  refine (common_c _ _ _ _ W0 HX0.out HY0.out HBX.out HBY.out).mono ?_
  rintro e w1 ⟨gv, rfl, hg, hB1⟩
  rw [HG.out] at hg
  have HG1 := Lib.hid hg
  have HB1 := Lib.hid (HB0.out.trans (hB1.mono HB0.out.size))
  have HX1 := Lib.hid (HX0.out.below hB1)
  have HY1 := Lib.hid (HY0.out.below hB1)
  replace HO1 := Lib.hid (HO1.out.below hB1 HO1.out.lt)
  replace HO2 := Lib.hid (HO2.out.below hB1 HO2.out.lt)
  clear a0 a1 b0 b1
  obtain ⟨a0, a1⟩ := HO1.out.cell2
  obtain ⟨b0, b1⟩ := HO2.out.cell2
  obtain ⟨GA, gn, gc, rfl, _⟩ := hg.size_
  clear hg hB1
  go_wp2_with fail
  refine (divDigits_c _ _ x.natAbs g w1 HX1.out HG1.out HG0.out HBX.out).mono ?_
  rintro e w2 ⟨pv, rv, rfl, hp, hr, hB2⟩
  rw [HNG.out] at hp
  replace HB1 := Lib.hid (HB1.out.trans (hB2.mono HB1.out.size))
  replace HY1 := Lib.hid (HY1.out.below hB2)
  replace HG1 := Lib.hid (HG1.out.below hB2)
  replace HO1 := Lib.hid (HO1.out.below hB2 HO1.out.lt)
  replace HO2 := Lib.hid (HO2.out.below hB2 HO2.out.lt)
  clear a0 a1 b0 b1
  obtain ⟨a0, a1⟩ := HO1.out.cell2
  obtain ⟨b0, b1⟩ := HO2.out.cell2
  have HP := Lib.hid hp
  obtain ⟨PA, pn, pc, rfl, _⟩ := hp.size_
  obtain ⟨RA, rn, rc, rfl, _⟩ := hr.size_
  clear hp hr hB2 HX1
  go_wp2_with fail
  refine (divDigits_c _ _ y g w2 HY1.out HG1.out HG0.out HBY.out).mono ?_
  rintro e w3 ⟨qv, rv, rfl, hq, hr, hB3⟩
  rw [HDG.out] at hq
  replace HB1 := Lib.hid (HB1.out.trans (hB3.mono HB1.out.size))
  replace HP := Lib.hid (HP.out.below hB3)
  replace HO1 := Lib.hid (HO1.out.below hB3 HO1.out.lt)
  replace HO2 := Lib.hid (HO2.out.below hB3 HO2.out.lt)
  clear a0 a1 b0 b1
  obtain ⟨a0, a1⟩ := HO1.out.cell2
  obtain ⟨b0, b1⟩ := HO2.out.cell2
  have HQ := Lib.hid hq
  obtain ⟨QA, qn, qc, rfl, _⟩ := hq.size_
  obtain ⟨SA, sn, sc, rfl, _⟩ := hr.size_
  clear hq hr hB3 HY1 HG1
  obtain ⟨ws, hw1, hw2, hw3, hw4⟩ := HP.out
  have SG := Lib.hid (signed_c nx _ ws w3 hw2 hw4)
  rw [hw1] at SG
  clear hw1 hw2 hw3 hw4 HP
  go_wp2_with fail
  refine SG.out.mono ?_
  rintro e w4 ⟨sv, rfl, hs, hB4⟩
  replace HB1 := Lib.hid (HB1.out.trans (hB4.mono HB1.out.size))
  replace HQ := Lib.hid (HQ.out.below hB4)
  replace HO1 := Lib.hid (HO1.out.below hB4 HO1.out.lt)
  replace HO2 := Lib.hid (HO2.out.below hB4 HO2.out.lt)
  clear a0 a1 b0 b1
  obtain ⟨a0, a1⟩ := HO1.out.cell2
  obtain ⟨b0, b1⟩ := HO2.out.cell2
  have TX := Lib.hid (textR_c sv _ w4 hs)
  obtain ⟨TA, tn, tc, rfl, _, _⟩ := hs.open_
  rw [HT.out] at TX
  clear hs hB4 SG
  go_wp2_with fail
  refine TX.out.mono ?_
  rintro e w5 ⟨rfl, hB5⟩
  replace HB1 := Lib.hid (HB1.out.trans (hB5.mono HB1.out.size))
  replace HQ := Lib.hid (HQ.out.below hB5)
  replace HO1 := Lib.hid (HO1.out.below hB5 HO1.out.lt)
  replace HO2 := Lib.hid (HO2.out.below hB5 HO2.out.lt)
  clear a0 a1 b0 b1
  obtain ⟨a0, a1⟩ := HO1.out.cell2
  obtain ⟨b0, b1⟩ := HO2.out.cell2
  clear hB5 TX
  have hln : ((if nx = true then [45] else []) ++ decDigits n1 : List UInt8).length ≤ 9000002 := by
    rw [List.length_append]; cases nx <;> simp <;> omega
  have HTT : Hid (∀ l, ptext nx n1 d1 = l ↔ ((if nx = true then [45] else []) ++ decDigits n1) ++ (if d1 = 1 then [] else 47 :: decDigits d1) = l) := Lib.hid (fun l => Iff.rfl)
  generalize ((if nx = true then [45] else []) ++ decDigits n1 : List UInt8) = tx at *
  by_cases h1 : d1 = 1
  · have HE : Hid (ptext nx n1 d1 = tx) := Lib.hid ((HTT.out tx).2 (by rw [if_pos h1, List.append_nil]))
    subst h1
    obtain ⟨qb, qo, qc2, hqe, hqb, hqc⟩ := HQ.out.one (by decide) (by decide)
    obtain ⟨rfl, rfl, rfl⟩ : QA = some ⟨qb, qo, none⟩ ∧ qn = 1 ∧ qc = qc2 := by simpa using hqe
    clear HTT hqe HT
    go_wp2
    go_ret
    exact ⟨by rw [HE.out]; rfl, HB1.out⟩
  · have HE : Hid (ptext nx n1 d1 = tx ++ 47 :: decDigits d1) := Lib.hid ((HTT.out _).2 (by rw [if_neg h1]))
    have HQN := Lib.hid (slice1 HQ.out HD1.out h1)
    obtain ⟨ws2, hw1, hw2, hw3, hw4⟩ := HQ.out
    have SG2 := Lib.hid (signed_c false _ ws2 w5 hw2 hw4)
    rw [hw1] at SG2
    clear hw1 hw2 hw3 hw4 HTT HT h1
    have HTE := Lib.hid (itext_nat d1)
    rcases HQN.out with ⟨A9, n9, c9, hqe, hqn, hql⟩ | ⟨qb, qo, qc2, hqe, hqb, hqc, hqv⟩
    · obtain ⟨rfl, rfl, rfl⟩ : QA = A9 ∧ qn = n9 ∧ qc = c9 := by simpa using hqe
      clear HQN hqe
      go_wp2_with fail
      refine SG2.out.mono ?_
      rintro e w6 ⟨sv, rfl, hs, hB6⟩
      have TX := Lib.hid (textR_c sv _ w6 hs)
      rw [HTE.out] at TX
      obtain ⟨TA2, tn2, tc2, rfl, _, _⟩ := hs.open_
      replace HB1 := Lib.hid (HB1.out.trans (hB6.mono HB1.out.size))
      clear hs hB6 SG2
      go_wp2_with fail
      refine TX.out.mono ?_
      rintro e w7 ⟨rfl, hB7⟩
      replace HB1 := Lib.hid (HB1.out.trans (hB7.mono HB1.out.size))
      clear hB7 TX
      go_wp2
      go_ret
      exact ⟨by rw [HE.out]; exact join_text tx d1, HB1.out⟩
    · obtain ⟨rfl, rfl, rfl⟩ : QA = some ⟨qb, qo, none⟩ ∧ qn = 1 ∧ qc = qc2 := by simpa using hqe
      clear HQN hqe
      go_wp2_with fail
      refine SG2.out.mono ?_
      rintro e w6 ⟨sv, rfl, hs, hB6⟩
      have TX := Lib.hid (textR_c sv _ w6 hs)
      rw [HTE.out] at TX
      obtain ⟨TA2, tn2, tc2, rfl, _, _⟩ := hs.open_
      replace HB1 := Lib.hid (HB1.out.trans (hB6.mono HB1.out.size))
      clear hs hB6 SG2
      go_wp2_with fail
      refine TX.out.mono ?_
      rintro e w7 ⟨rfl, hB7⟩
      replace HB1 := Lib.hid (HB1.out.trans (hB7.mono HB1.out.size))
      clear hB7 TX
      go_wp2
      go_ret
      exact ⟨by rw [HE.out]; exact join_text tx d1, HB1.out⟩
end Go.Proofs.YtneafcdfnhnpnaaGreatDoor
/- Contracts of the reference: quotients of machine integers, of which the second is negative. -/
namespace Go.Proofs.YtneafcdfnhnpnaaGreatDoor
open Go.RowKit Go.Lib

set_option maxRecDepth 100000 in
set_option maxHeartbeats 2000000 in
theorem Of_wn (a : Int) (d g n n1 d1 : Nat) (neg : Bool) (w : World) (ha : -4000000000000000000 ≤ a ∧ a ≤ 4000000000000000000) (hd0 : (0 : Int) < d) (hd : (d : Int) ≤ 4000000000000000000) (hmx : Hid (max a (-a) = (n : Int))) (hg : Nat.gcd n d = g) (hg0 : (0 : Int) < g) (hgl : (g : Int) ≤ 4000000000000000000)
    (hq : a.tdiv (g : Int) = sg neg n1) (hn1 : (n1 : Int) ≤ 4000000000000000000) (hp : neg = true → (0 : Int) < n1) (hdq : wrap64 ((d : Int) / (g : Int)) = (d1 : Int)) (hd1 : (d1 : Int) ≤ 4000000000000000000) (hd10 : (0 : Int) < d1) :
    Calls Tryz.prog 35 #[.int .i64 (-a), .int .i64 (-(d : Int))] w (ansText (ptext neg n1 d1) w) := by
  have GC := Lib.hid (fun w => gcdR_c n d w (by have := hmx.out; omega) (by omega))
  rw [hg] at GC
  clear hg
  have DN := Lib.hid (fun w => decimal1_c n1 w (by omega))
  have DD := Lib.hid (fun w => decimal1_c d1 w (by omega))
  have hL1 := dec_len (n := n1) (by omega)
  have hL2 := dec_len (n := d1) (by omega)
  cases neg with
  | false =>
    have hq2 : a.tdiv (g : Int) = (n1 : Int) := hq
    clear hq
    clear hp
    by_cases h1 : (1 : Int) < d1
    · have HX : Hid (ptext false n1 d1 = decDigits n1 ++ [47] ++ decDigits d1) := Lib.hid (by unfold ptext; rw [if_neg (by omega : ¬ d1 = 1)]; simp)
      go_enter Tryz.func35, Tryz.ntmps35
      go_wp2_with fail
      rw [hmx.out]
      refine (GC.out _).mono ?_
      clear GC
      rintro e w1 ⟨rfl, hB1⟩
      go_wp2_with (go_quiet (fail))
      have hB1' := below_drewN hB1 nq
      rw [show max ((n1 : Int)) (-(n1 : Int)) = n1 from by omega]
      refine (DN.out _).mono ?_
      clear DN
      rintro e w2 ⟨rfl, hB2⟩
      go_wp2_with fail
      refine (DD.out _).mono ?_
      clear DD
      rintro e w3 ⟨rfl, hB3⟩
      go_wp2
      go_ret
      refine ⟨?_, hB1'.trans ((hB2.mono hB1'.size).trans (hB3.mono (Nat.le_trans hB1'.size hB2.size)))⟩
      rw [HX.out]
      simp [ByteArray.mk_append_mk]
    · have HX : Hid (ptext false n1 d1 = decDigits n1) := Lib.hid (by unfold ptext; rw [if_pos (by omega : d1 = 1)]; simp)
      go_enter Tryz.func35, Tryz.ntmps35
      go_wp2_with fail
      rw [hmx.out]
      refine (GC.out _).mono ?_
      clear GC
      rintro e w1 ⟨rfl, hB1⟩
      go_wp2_with (go_quiet (fail))
      have hB1' := below_drewN hB1 nq
      rw [show max ((n1 : Int)) (-(n1 : Int)) = n1 from by omega]
      refine (DN.out _).mono ?_
      clear DN
      rintro e w2 ⟨rfl, hB2⟩
      go_wp2
      go_ret
      refine ⟨?_, hB1'.trans (hB2.mono hB1'.size)⟩
      rw [HX.out]
      simp [ByteArray.mk_append_mk]
  | true =>
    have hq2 : a.tdiv (g : Int) = -(n1 : Int) := hq
    clear hq
    have hp2 := hp rfl
    clear hp
    by_cases h1 : (1 : Int) < d1
    · have HX : Hid (ptext true n1 d1 = [45] ++ decDigits n1 ++ [47] ++ decDigits d1) := Lib.hid (by unfold ptext; rw [if_neg (by omega : ¬ d1 = 1)]; simp)
      go_enter Tryz.func35, Tryz.ntmps35
      go_wp2_with fail
      rw [hmx.out]
      refine (GC.out _).mono ?_
      clear GC
      rintro e w1 ⟨rfl, hB1⟩
      go_wp2_with (go_quiet (fail))
      have hB1' := below_drewN hB1 nq
      rw [show max (-(n1 : Int)) ((n1 : Int)) = n1 from by omega]
      refine (DN.out _).mono ?_
      clear DN
      rintro e w2 ⟨rfl, hB2⟩
      go_wp2_with fail
      refine (DD.out _).mono ?_
      clear DD
      rintro e w3 ⟨rfl, hB3⟩
      go_wp2
      go_ret
      refine ⟨?_, hB1'.trans ((hB2.mono hB1'.size).trans (hB3.mono (Nat.le_trans hB1'.size hB2.size)))⟩
      rw [HX.out]
      simp [ByteArray.mk_append_mk]
    · have HX : Hid (ptext true n1 d1 = [45] ++ decDigits n1) := Lib.hid (by unfold ptext; rw [if_pos (by omega : d1 = 1)]; simp)
      go_enter Tryz.func35, Tryz.ntmps35
      go_wp2_with fail
      rw [hmx.out]
      refine (GC.out _).mono ?_
      clear GC
      rintro e w1 ⟨rfl, hB1⟩
      go_wp2_with (go_quiet (fail))
      have hB1' := below_drewN hB1 nq
      rw [show max (-(n1 : Int)) ((n1 : Int)) = n1 from by omega]
      refine (DN.out _).mono ?_
      clear DN
      rintro e w2 ⟨rfl, hB2⟩
      go_wp2
      go_ret
      refine ⟨?_, hB1'.trans (hB2.mono hB1'.size)⟩
      rw [HX.out]
      simp [ByteArray.mk_append_mk]
theorem OfRN_c (a : Int) (d : Nat) (w : World) (ha : -4000000000000000000 ≤ a ∧ a ≤ 4000000000000000000) (hd0 : 0 < d) (hd : (d : Int) ≤ 4000000000000000000) :
    Calls Tryz.prog 35 #[.int .i64 (-a), .int .i64 (-(d : Int))] w (ansText (rtext (mkRat a d)) w) := by
  obtain ⟨g, n1, d1, h1, h2, h3, h4, h5, h6, h7, h8, h9, h10⟩ := tdiv_parts a d hd0
  rw [h10]
  have e : ((d : Int) / (g : Int)) = (d1 : Int) := by rw [← h4]; rfl
  refine Of_wn a d g a.natAbs n1 d1 (decide (a < 0)) w ha (by omega) hd (Lib.hid (by omega)) h1 (by omega) (by omega) h8 (by omega) (fun h => by have := h9 (of_decide_eq_true h); omega) ?_ (by omega) (by omega)
  rw [e]
  exact IntWalk.wrap64_in _ (by omega)
end Go.Proofs.YtneafcdfnhnpnaaGreatDoor
/- Contracts of the reference: the quotient of any two machine integers. -/
namespace Go.Proofs.YtneafcdfnhnpnaaGreatDoor
open Go.RowKit Go.Lib

theorem big9_small {x : Nat} (h : x < 1000000000000000000000000000) : Big9 x := by
  unfold Big9
  have h1 : B9 ^ 3 = 1000000000000000000000000000 := by decide
  have h2 : 3 ≤ lim9 := by unfold lim9; decide
  have h3 : B9 ^ 3 ≤ B9 ^ lim9 := Nat.pow_le_pow_right (by decide) h2
  omega
set_option maxRecDepth 100000 in
set_option maxHeartbeats 4000000 in
theorem OfBigP_c (a : Int) (d : Nat) (w : World) (ha : -9223372036854775808 ≤ a ∧ a ≤ 9223372036854775807) (hd0 : 0 < d) (hd : (d : Int) ≤ 9223372036854775807) (hbig : a < -4000000000000000000 ∨ 4000000000000000000 < a ∨ 4000000000000000000 < (d : Int)) :
    Calls Tryz.prog 35 #[.int .i64 a, .int .i64 (d : Int)] w (ansText (rtext ((a : Rat) / ((d : Int) : Rat))) w) := by
  have W1 := Lib.hid (fun w => whole_c a w ha)
  have W2 := Lib.hid (fun w => whole_c (d : Int) w (by omega))
  have FR := Lib.hid (fun (u v : Value) (w : World) (hu : Ri w u a) (hv : Ri w v (d : Int)) => fractionP_c u v a d w hu hv hd0 (big9_small (by omega)) (big9_small (by omega)))
  generalize rtext ((a : Rat) / ((d : Int) : Rat)) = tx at *
  by_cases h1 : a < -4000000000000000000
  · have z : True := trivial
    go_enter Tryz.func35, Tryz.ntmps35
    go_wp2_with fail
    refine (W1.out _).mono ?_
    rintro e w1 ⟨u, rfl, hu, hB1⟩
    have HU := hu
    obtain ⟨A1, m1, c1, rfl, _, _⟩ := HU.open_
    go_wp2_with fail
    refine (W2.out _).mono ?_
    rintro e w2 ⟨v, rfl, hv, hB2⟩
    have HV := hv
    obtain ⟨A2, m2, c2, rfl, _, _⟩ := HV.open_
    have FF := Lib.hid (FR.out _ _ w2 (hu.below hB2) hv)
    clear hu hv HU HV
    go_wp2_with fail
    refine FF.out.mono ?_
    rintro e w3 ⟨rfl, hB3⟩
    go_wp2
    go_ret
    exact ⟨rfl, hB1.trans ((hB2.mono hB1.size).trans (hB3.mono (Nat.le_trans hB1.size hB2.size)))⟩
  have g1 : decide (a < -4000000000000000000) = false := decide_eq_false h1
  by_cases h2 : 4000000000000000000 < a
  · clear h1
    go_enter Tryz.func35, Tryz.ntmps35
    go_wp2_with fail
    refine (W1.out _).mono ?_
    rintro e w1 ⟨u, rfl, hu, hB1⟩
    have HU := hu
    obtain ⟨A1, m1, c1, rfl, _, _⟩ := HU.open_
    go_wp2_with fail
    refine (W2.out _).mono ?_
    rintro e w2 ⟨v, rfl, hv, hB2⟩
    have HV := hv
    obtain ⟨A2, m2, c2, rfl, _, _⟩ := HV.open_
    have FF := Lib.hid (FR.out _ _ w2 (hu.below hB2) hv)
    clear hu hv HU HV
    go_wp2_with fail
    refine FF.out.mono ?_
    rintro e w3 ⟨rfl, hB3⟩
    go_wp2
    go_ret
    exact ⟨rfl, hB1.trans ((hB2.mono hB1.size).trans (hB3.mono (Nat.le_trans hB1.size hB2.size)))⟩
  have g2 : decide (4000000000000000000 < a) = false := decide_eq_false h2
  have h3 : 4000000000000000000 < (d : Int) := by omega
  have g3 : decide ((d : Int) < -4000000000000000000) = false := decide_eq_false (by omega)
  clear h1 h2
  go_enter Tryz.func35, Tryz.ntmps35
  go_wp2_with fail
  refine (W1.out _).mono ?_
  rintro e w1 ⟨u, rfl, hu, hB1⟩
  have HU := hu
  obtain ⟨A1, m1, c1, rfl, _, _⟩ := HU.open_
  go_wp2_with fail
  refine (W2.out _).mono ?_
  rintro e w2 ⟨v, rfl, hv, hB2⟩
  have HV := hv
  obtain ⟨A2, m2, c2, rfl, _, _⟩ := HV.open_
  have FF := Lib.hid (FR.out _ _ w2 (hu.below hB2) hv)
  clear hu hv HU HV
  go_wp2_with fail
  refine FF.out.mono ?_
  rintro e w3 ⟨rfl, hB3⟩
  go_wp2
  go_ret
  exact ⟨rfl, hB1.trans ((hB2.mono hB1.size).trans (hB3.mono (Nat.le_trans hB1.size hB2.size)))⟩
end Go.Proofs.YtneafcdfnhnpnaaGreatDoor
