/- Contracts of the reference: quotient and remainder of digits, the short ways. -/
import Derived.Test.YtneafcdfnhnpnaaGreatDoorZI03
namespace Go.Proofs.YtneafcdfnhnpnaaGreatDoor
open Go.RowKit Go.Lib

def dvPost (x y : Nat) (w : World) (e : Ending) (w' : World) : Prop := ∃ q r, e = .returned (.tuple #[q, r]) ∧ Dg w' q (x / y) ∧ Dg w' r (x % y) ∧ Below w.heap.size w w'
theorem Dg.nil {w : World} : Dg w (.slice none 0 0) 0 := ⟨[], rfl, bok_nil, rfl, none, 0, rfl, by simp [ncells], by simp [ncells], fun h => by simp [ncells] at h⟩
theorem ord3_nonneg' {x y : Nat} (h : y ≤ x) : ¬ ord3 x y < 0 := by have := ord3_nonneg h; omega
theorem Dg.size_ {w : World} {v : Value} {x : Nat} (h : Dg w v x) : ∃ A n c, v = .slice A n c ∧ n ≤ 140737488355328 := by
  obtain ⟨p, A, c, rfl, _, _, _, _, h2, _⟩ := h.open_
  exact ⟨A, _, c, rfl, h2⟩
set_option maxRecDepth 100000 in
set_option maxHeartbeats 1000000 in
theorem divS_c (v u : Value) (x y : Nat) (w : World) (hv : Dg w v x) (hu : Dg w u y) (hlt : x < y) :
    Calls Tryz.prog 175 #[v, u] w (dvPost x y w) := by
  have CD := Lib.hid (compareDigits_c v u x y w hv hu)
  rw [ord3_neg hlt] at CD
  obtain ⟨A, n, c, rfl, _⟩ := hv.size_
  obtain ⟨B, m, d, rfl, _⟩ := hu.size_
  have HF : Hid (∀ w' : World, Below w.heap.size w w' → dvPost x y w (.returned (.tuple #[.slice none 0 0, .slice A n c])) w') := Lib.hid (fun w' hB => by
    refine ⟨_, _, rfl, ?_, ?_, hB⟩
    · rw [Nat.div_eq_of_lt hlt]; exact Dg.nil
    · rw [Nat.mod_eq_of_lt hlt]; exact hv.below hB)
  clear hv hu hlt
  go_enter Tryz.func175, Tryz.ntmps175
  go_wp2_with fail
  refine CD.out.mono ?_
  rintro e w1 ⟨rfl, hB⟩
  go_wp2
  go_ret2
  exact HF.out _ hB
theorem Dg.one {w : World} {v : Value} {y : Nat} (h : Dg w v y) (h0 : 0 < y) (hy : y < B9) : ∃ b off c, v = .slice (some ⟨b, off, none⟩) 1 c ∧ b < w.heap.size ∧ w.cell? ⟨b, off, none⟩ = some (.int .i64 (y : Int)) := by
  obtain ⟨p, A, c, rfl, e1, o1, n1, l1, l2, s1⟩ := h.open_
  have hl := bnorm_length n1 (n := 1) (by rw [e1, Nat.pow_one]; exact hy)
  have hl2 : p.length = 1 := by
    rcases Nat.eq_zero_or_pos p.length with h2 | h2
    · have := List.length_eq_zero_iff.1 h2
      subst this
      simp [bval] at e1; omega
    · omega
  obtain ⟨z, rfl⟩ := List.length_eq_one_iff.1 hl2
  have hz : z = y := by simpa [bval] using e1
  subst hz
  obtain ⟨b, off, rfl, hb, hc⟩ := s1.at_ (k := 0) (by simp [ncells])
  exact ⟨b, off, c, rfl, hb, by have := hc 0 (by simp [ncells]); simpa [ncells] using this⟩
theorem Dg.lit {w : World} (r : Nat) (hr : r < B9) : Calls Tryz.prog 226 #[.slice (some ⟨w.heap.size, 0, none⟩) 1 1] (w.alloc (.cells #[.int .i64 (r : Int)] 3)) (fun e w' => ∃ v, e = .returned v ∧ Dg (w.alloc (.cells #[.int .i64 (r : Int)] 3)) v r ∧ w.alloc (.cells #[.int .i64 (r : Int)] 3) = w') := by
  have h := trimO_c (w := w.alloc (.cells #[.int .i64 (r : Int)] 3)) (g := w.heap.size) (L := [r]) 1 rfl (Own.make w 3 [.int .i64 (r : Int)]) (bok_single.2 hr) (by decide)
  simpa [bval] using h
set_option maxRecDepth 100000 in
set_option maxHeartbeats 2000000 in
theorem divO_c (v u : Value) (x y : Nat) (w : World) (hv : Dg w v x) (hu : Dg w u y) (hle : y ≤ x) (h0 : 0 < y) (hy : y < B9) (hx : Big9 x) :
    Calls Tryz.prog 175 #[v, u] w (dvPost x y w) := by
  have CD := Lib.hid (compareDigits_c v u x y w hv hu)
  have ho := ord3_nonneg hle
  obtain ⟨A, n, c, rfl, _⟩ := hv.size_
  obtain ⟨b, off, d, rfl, hb, hcell⟩ := hu.one h0 hy
  have HV := Lib.hid hv
  have HX := Lib.hid hx
  have H0 := Lib.hid h0
  have HY := Lib.hid hy
  clear hv hu hx hle h0 hy
  generalize ord3 x y = o at *
  go_enter Tryz.func175, Tryz.ntmps175
  go_wp2_with fail
  refine CD.out.mono ?_
  rintro e w1 ⟨rfl, hB⟩
  have hck := (hB.cell (p := ⟨b, off, none⟩) hb).trans hcell
  go_wp2_with fail
  refine (divDigit_c _ x y w1 (HV.out.below hB) H0.out HY.out HX.out).mono ?_
  rintro e w2 ⟨qv, rfl, hq, hB2⟩
  have HQ := Lib.hid hq
  have DL := Lib.hid (Dg.lit (w := w2) (x % y) (Nat.lt_trans (Nat.mod_lt _ H0.out) HY.out))
  have HBB := Lib.hid ((hB.trans (hB2.mono hB.size)).alloc (hB.trans (hB2.mono hB.size)).size (.cells #[.int .i64 ((x % y : Nat) : Int)] 3))
  obtain ⟨QA, qn, qc, rfl, _⟩ := hq.size_
  clear hq
  generalize hrr : x % y = r at *
  have HRR := Lib.hid hrr
  clear hrr
  go_wp2_with fail
  refine DL.out.mono ?_
  rintro e w3 ⟨rv, rfl, hr, rfl⟩
  have HR := Lib.hid hr
  obtain ⟨RA, rn, rc, rfl, _⟩ := hr.size_
  clear hr
  go_wp2
  go_ret2
  refine ⟨_, _, rfl, HQ.out.below ((Below.refl _ _).alloc (Nat.le_refl _) _), ?_, HBB.out⟩
  rw [HRR.out]; exact HR.out
end Go.Proofs.YtneafcdfnhnpnaaGreatDoor
/- Contracts of the reference: the guess of a digit of a quotient. -/
namespace Go.Proofs.YtneafcdfnhnpnaaGreatDoor
open Go.RowKit Go.Lib

def guessPost (U V : Nat) (w : World) (e : Ending) (w' : World) : Prop := ∃ t : Nat, e = .returned (.int .i64 (t : Int)) ∧ Digit B9 U V t ∧ Below w.heap.size w w'
set_option maxRecDepth 100000 in
set_option maxHeartbeats 4000000 in
theorem guess_c (uv vv : Value) (us vs : List Nat) (j m : Nat) (w : World) (hu : SlW w uv (ncells us)) (hv : SlW w vv (ncells vs)) (ou : bok us) (ov : bok vs) (hl : vs.length = m + 2) (hul : j + m + 2 < us.length)
    (hz : bval (us.drop (j + m + 3)) = 0) (hlt : bval (us.drop j) < B9 * bval vs) (hn : B9 ≤ 2 * vs[m + 1]?.getD 0) (hs : us.length ≤ 3000000) :
    Calls Tryz.prog 227 #[uv, vv, .int .i64 (j : Int)] w (guessPost (bval (us.drop j)) (bval vs) w) := by
  obtain ⟨A, c, rfl, hc1, hc2⟩ := hu.form
  obtain ⟨B, d, rfl, hd1, hd2⟩ := hv.form
  have HK := Lib.hid (kn_of ou ov hl hul hz hlt hn)
  obtain ⟨b1, off1, rfl, hbb1, hcell1⟩ := hu.at_ (k := 0) (by rw [ncells_length]; omega)
  obtain ⟨b2, off2, rfl, hbb2, hcell2⟩ := hv.at_ (k := 0) (by rw [ncells_length]; omega)
  simp only [ncells_length] at hc1 hd1 hcell1 hcell2 ⊢
  have c0 := (hcell1 (j + m + 2) (by omega)).trans (ncells_get us (j + m + 2) hul)
  have c1 := (hcell1 (j + m + 1) (by omega)).trans (ncells_get us (j + m + 1) (by omega))
  have c2 := (hcell1 (j + m) (by omega)).trans (ncells_get us (j + m) (by omega))
  have d1 := (hcell2 (m + 1) (by omega)).trans (ncells_get vs (m + 1) (by omega))
  have d2 := (hcell2 m (by omega)).trans (ncells_get vs m (by omega))
  have u0b := bok_get ou (j + m + 2)
  have u1b := bok_get ou (j + m + 1)
  have u2b := bok_get ou (j + m)
  have v1b := bok_get ov (m + 1)
  have v2b := bok_get ov m
  clear hz hlt hu hv ou ov hcell1 hcell2
  generalize us[j + m + 2]?.getD 0 = u0 at *
  generalize us[j + m + 1]?.getD 0 = u1 at *
  generalize us[j + m]?.getD 0 = u2 at *
  generalize vs[m + 1]?.getD 0 = v1 at *
  generalize vs[m]?.getD 0 = v2 at *
  generalize bval (us.drop j) = U at *
  generalize bval vs = V at *
  generalize us.length = L at *
  generalize vs.length = n at *
  have hv1 : (0 : Int) < (v1 : Int) := by unfold B9 at hn; omega
  have u0I : (u0 : Int) < 1000000000 := by unfold B9 at *; omega
  have u1I : (u1 : Int) < 1000000000 := by unfold B9 at *; omega
  have u2I : (u2 : Int) < 1000000000 := by unfold B9 at *; omega
  have v1I : (v1 : Int) < 1000000000 := by unfold B9 at *; omega
  obtain ⟨top, htop⟩ : ∃ top, u0 * B9 + u1 = top := ⟨_, rfl⟩
  rw [htop] at HK
  have htI : (u0 : Int) * 1000000000 + (u1 : Int) = (top : Int) := by rw [← htop]; unfold B9; omega
  have htb : top < 1000000000000000000 := by rw [← htop]; unfold B9 at *; omega
  have HI0 := Lib.hid HK.out.start
  have HR0 : Hid (top % v1 < v1) := Lib.hid (Nat.mod_lt _ (by omega))
  have HD0 : Hid (top / v1 ≤ top) := Lib.hid (Nat.div_le_self _ _)
  have Q1 : (top : Int) / (v1 : Int) = ((top / v1 : Nat) : Int) := (Int.natCast_ediv _ _).symm
  have Q2 : (top : Int) % (v1 : Int) = ((top % v1 : Nat) : Int) := (Int.natCast_emod _ _).symm
  obtain ⟨N0, hN0⟩ : ∃ N0, N0 = j + m + 2 := ⟨_, rfl⟩
  obtain ⟨N1, hN1⟩ : ∃ N1, N1 = j + m + 1 := ⟨_, rfl⟩
  obtain ⟨N2, hN2⟩ : ∃ N2, N2 = j + m := ⟨_, rfl⟩
  obtain ⟨M1, hM1⟩ : ∃ M1, M1 = m + 1 := ⟨_, rfl⟩
  rw [← hN0] at c0
  rw [← hN1] at c1
  rw [← hN2] at c2
  rw [← hM1] at d1
  have i0 : (j : Int) + (n : Int) = (N0 : Int) := by omega
  have i1 : (N0 : Int) - 1 = (N1 : Int) := by omega
  have i2 : (N0 : Int) - 2 = (N2 : Int) := by omega
  have i3 : (n : Int) - 1 = (M1 : Int) := by omega
  have i4 : (n : Int) - 2 = (m : Int) := by omega
  have l0 : (N0 : Int) < (L : Int) := by omega
  have l1 : (N1 : Int) < (L : Int) := by omega
  have l2 : (N2 : Int) < (L : Int) := by omega
  have l3 : (M1 : Int) < (n : Int) := by omega
  have l4 : (m : Int) < (n : Int) := by omega
  have l5 : (L : Int) ≤ 3000000 := by omega
  have l6 : (n : Int) ≤ 3000000 := by omega
  have l7 : (j : Int) ≤ 3000000 := by omega
  clear hN0 hN1 hN2 hM1 hl hul hs
  have HQ1 := Lib.hid Q1
  have HQ2 := Lib.hid Q2
  have HV2 := Lib.hid v2b
  clear Q1 Q2 htop u0b u1b u2b v1b v2b
  generalize top / v1 = t0 at *
  generalize top % v1 = r0 at *
  go_enter Tryz.func227, Tryz.ntmps227
  go_wp2_with fail
  go_quiet (fail)
  have hB1 := below_drewN (Below.refl w.heap.size w) nq
  go_wp2_with fail
  go_quiet (fail)
  have hB2 := below_drewN hB1 nq
  have ht0 : (t0 : Int) < 1000000000000000000 := by have := HD0.out; omega
  have hr0 : (r0 : Int) < 1000000000 := by have := HR0.out; omega
  have ht0w : wrap64 (t0 : Int) = (t0 : Int) := IntWalk.wrap64_in _ (by omega)
  rw [HQ1.out, HQ2.out]
  go_wp2_with fail
  rw [ht0w]
  clear ht0w
  have HB2 := Lib.hid hB2
  clear hB1 hB2 HQ1 HQ2 HD0 HR0 htb htI
  go_loopg [6, 9, 10] t0 (fun g _ t r wr => ∃ r' : Nat, t = .int .i64 (g : Int) ∧ r = .int .i64 (r' : Int) ∧ (g : Int) < 1000000000000000000 ∧ (r' : Int) < 1000000000 ∧ Hid (KnI top v1 U V g r') ∧ Hid (Below w.heap.size w wr))
  case atStart => exact ⟨r0, rfl, rfl, ht0, hr0, HI0, HB2⟩
  case round =>
    clear HB2 HI0 ht0 hr0
    obtain ⟨r', rfl, rfl, hg9, hr9, hI, hB⟩ := hrel
    have hk2 := (hB.out.cell (p := ⟨b1, off1 + N2, none⟩) hbb1).trans c2
    have he1 := (hB.out.cell (p := ⟨b2, off2 + M1, none⟩) hbb2).trans d1
    have he2 := (hB.out.cell (p := ⟨b2, off2 + m, none⟩) hbb2).trans d2
    by_cases hge : 1000000000 ≤ gk
    · have hgI : (1000000000 : Int) ≤ (gk : Int) := by omega
      obtain ⟨t', ht', hI2⟩ := HK.out.down hI.out (.inl hge)
      have HI2 := Lib.hid hI2
      have HEF := Lib.hid (fun h => HK.out.exit_far (t := t') (by rw [← ht']; exact hI.out) hI2 h)
      clear hI hI2
      subst ht'
      have hgJ : (1000000000 : Int) ≤ (t' : Int) + 1 := by omega
      clear hge hgI
      go_wp2_with fail
      go_quiet (fail)
      have HB3 := Lib.hid (below_drewN hB.out nq)
      by_cases hfar : 1000000000 ≤ r' + v1
      · have hfI : (1000000000 : Int) ≤ (r' : Int) + (v1 : Int) := by omega
        have HD := Lib.hid (HEF.out hfar)
        clear hfar HEF
        go_wp2
        go_ret
        exact ⟨t', by go_num, HD.out, HB3.out⟩
      · have hfI : ¬ (1000000000 : Int) ≤ (r' : Int) + (v1 : Int) := by omega
        clear hfar HEF
        go_wp2
        go_roundg t'
        case rel => exact ⟨r' + v1, by go_num, by go_num, by omega, by omega, HI2, HB3⟩
        case measure => omega
    · obtain ⟨tv, htv⟩ : ∃ tv, gk * v2 = tv := ⟨_, rfl⟩
      have htvb : tv < 1000000000000000000 := by
        have h1 : gk * v2 ≤ 999999999 * 999999999 := Nat.mul_le_mul (by omega) (by have := HV2.out; unfold B9 at this; omega)
        rw [htv] at h1; omega
      by_cases hlt : r' * 1000000000 + u2 < tv
      · have hlI : (r' : Int) * 1000000000 + (u2 : Int) < (tv : Int) := by omega
        have htw : wrap64 (((gk : Nat) : Int) * (v2 : Int)) = (tv : Int) := by rw [← Int.natCast_mul, htv]; exact IntWalk.wrap64_in _ (by omega)
        obtain ⟨t', ht', hI2⟩ := HK.out.down hI.out (.inr (by rw [htv]; exact hlt))
        have HI2 := Lib.hid hI2
        have HEF := Lib.hid (fun h => HK.out.exit_far (t := t') (by rw [← ht']; exact hI.out) hI2 h)
        clear hI hI2 htv hlt
        subst ht'
        have htw2 : wrap64 (((t' : Int) + 1) * (v2 : Int)) = (tv : Int) := htw
        clear htw
        have hgJ : decide ((1000000000 : Int) ≤ (t' : Int) + 1) = false := decide_eq_false (by clear htw2; omega)
        clear hge
        go_wp2_with fail
        go_quiet (fail)
        have HB3 := Lib.hid (below_drewN hB.out nq)
        by_cases hfar : 1000000000 ≤ r' + v1
        · have hfI : (1000000000 : Int) ≤ (r' : Int) + (v1 : Int) := by omega
          have HD := Lib.hid (HEF.out hfar)
          clear hfar HEF
          go_wp2
          go_ret
          exact ⟨t', by go_num, HD.out, HB3.out⟩
        · have hfI : ¬ (1000000000 : Int) ≤ (r' : Int) + (v1 : Int) := by omega
          clear hfar HEF
          go_wp2
          go_roundg t'
          case rel => exact ⟨r' + v1, by go_num, by go_num, by omega, by omega, HI2, HB3⟩
          case measure => omega
      · have hlI : decide ((r' : Int) * 1000000000 + (u2 : Int) < (tv : Int)) = false := decide_eq_false (by omega)
        have HD := Lib.hid (HK.out.exit hI.out (show gk < B9 from by unfold B9; omega) (by rw [htv]; show tv ≤ r' * 1000000000 + u2; omega))
        have htw : wrap64 ((gk : Int) * (v2 : Int)) = (tv : Int) := by rw [← Int.natCast_mul, htv]; exact IntWalk.wrap64_in _ (by omega)
        have hgI : decide ((1000000000 : Int) ≤ (gk : Int)) = false := decide_eq_false (by clear htw hlI; omega)
        clear hge hI htv hlt
        go_wp2_with fail
        go_quiet (fail)
        have HB3 := Lib.hid (below_drewN hB.out nq)
        go_wp2
        go_ret
        exact ⟨gk, rfl, HD.out, HB3.out⟩
end Go.Proofs.YtneafcdfnhnpnaaGreatDoor
/- Contracts of the reference: long division. -/
namespace Go.Proofs.YtneafcdfnhnpnaaGreatDoor
open Go.RowKit Go.Lib

theorem wnorm_one {f : Nat} (h : 0 < f) : wnorm [f] := by
  have := wtrim_concat [] f (by omega)
  simpa [wnorm] using this
theorem Dg.new (w : World) (f : Nat) (h : 0 < f) (hf : f < B9) : Dg (w.alloc (.cells #[.int .i64 (f : Int)] 3)) (.slice (some ⟨w.heap.size, 0, none⟩) 1 1) f :=
  ⟨[f], by simp [bval], bok_single.2 hf, wnorm_one h, ((Own.make w 3 [.int .i64 (f : Int)]).sl 1 rfl (by decide)).wide⟩
theorem ncells_one (ws : List Nat) : ∀ u ∈ ncells ws, u.oneCell' = true := by
  intro u hu
  obtain ⟨x, _, rfl⟩ := List.mem_map.1 hu
  rfl
theorem ncells_news {w : World} {b off : Nat} {ws : List Nat} (h : ∀ j, j < (ncells ws).length → w.cell? ⟨b, off + j, none⟩ = (ncells ws)[j]?) : ∀ (j : Nat) (u : Value), (ncells ws)[j]? = some u → w.cell? ((⟨b, off, none⟩ : Addr).add j) = some u := by
  intro j u hu
  rw [Lib.add_plain, h j (List.getElem?_eq_some_iff.1 hu).1, hu]
theorem trimU_c {w : World} {g K cap n : Nat} {L : List Nat} (hU : Ub w g K cap (ncells L)) (hok : bok L) (hn : n ≤ K) (hs : K ≤ 140737488355328) :
    Calls Tryz.prog 226 #[.slice (some ⟨g, 0, none⟩) n cap] w fun e w' => ∃ v, e = .returned v ∧ Dg w v (bval (L.take n)) ∧ w = w' := by
  have hl := hU.1
  rw [ncells_length] at hl
  have h := (hU.slW hs).take (k := n) (by rw [ncells_length]; omega)
  rw [ncells_take] at h
  have e : (L.take n).length = n := by rw [List.length_take]; omega
  have h2 := trimR_c (some ⟨g, 0, none⟩) cap (L.take n) w (by rw [e]; exact h)
  rw [e] at h2
  exact h2.mono fun e w' ⟨h3, h4, h5⟩ => ⟨_, h3, Dg.of_trim (bok_take hok n) h4, h5⟩
def trimP (z : Nat) (W : World) (e : Ending) (w' : World) : Prop := ∃ v, e = .returned v ∧ Dg W v z ∧ W = w'
/-- what long division knows behind its preparations -/
structure LdK (x y f m M K : Nat) (us vs : List Nat) : Prop where
  ou : bok us
  ov : bok vs
  ul : us.length = K
  vl : vs.length = m + 2
  vv : bval vs = y * f
  uv : bval us = x * f
  mm : M + (m + 2) = K
  lt : bval (us.drop M) < bval vs
  nr : B9 ≤ 2 * vs[m + 1]?.getD 0
  f0 : 0 < f
  f9 : f < B9
  y0 : 0 < y
  ks : K ≤ 1000001
  xb : Big9 x
end Go.Proofs.YtneafcdfnhnpnaaGreatDoor
