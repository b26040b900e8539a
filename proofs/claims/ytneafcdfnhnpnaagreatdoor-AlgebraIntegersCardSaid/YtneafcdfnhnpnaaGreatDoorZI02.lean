/- Contracts of the reference: integers from machine integers. -/
import Derived.Test.YtneafcdfnhnpnaaGreatDoorZI01
import Derived.Test.YtneafcdfnhnpnaaGreatDoorZ16
import Derived.Test.YtneafcdfnhnpnaaGreatDoorZ06
namespace Go.Proofs.YtneafcdfnhnpnaaGreatDoor
open Go.RowKit Go.Lib

theorem SlW.putN {w : World} {dv : Value} {ws : List Nat} {g i : Nat} {t : TypeId} {cs : List Value} (h : SlW w dv (ncells ws)) (hO : Own w g t cs) (hc : ∀ c ∈ cs, NoInt c) (u : Value) : SlW (w.setCell ⟨g, i, none⟩ u) dv (ncells ws) := by
  obtain ⟨A, c, hv, h4, h5, h7⟩ := h
  refine ⟨A, c, hv, h4, h5, fun hn => ?_⟩
  obtain ⟨b, off, hA, hb, hcell⟩ := h7 hn
  refine ⟨b, off, hA, by simpa using hb, fun j hj0 => ?_⟩
  have hj := hcell j hj0
  have hne : b ≠ g := by
    rintro rfl
    rw [hO.cell, List.getElem?_eq_getElem hj0] at hj
    have hm := hc _ (List.mem_of_getElem? hj)
    obtain ⟨y, _, hy⟩ := List.mem_map.1 (List.getElem_mem hj0)
    exact hm _ _ hy.symm
  rw [World.cell?_setCell_other _ _ _ _ (by intro e; injection e with e1; exact hne e1.symm)]
  exact hj
theorem Ri.put2 {w : World} {v : Value} {x : Int} {g : Nat} {t : TypeId} {a b a' b' : Value} (h : Ri w v x) (hO : Own w g t [a, b]) (ha : NoInt a) (hb : NoInt b) (ha' : NoInt a') :
    Ri ((w.setCell ⟨g, 0, none⟩ a').setCell ⟨g, 1, none⟩ b') v x := by
  obtain ⟨dv, ws, h1, h2, h3, h4, h5⟩ := h
  have k1 := h5.putN (i := 0) hO (by simp only [List.mem_cons, List.not_mem_nil, or_false]; rintro c (rfl | rfl) <;> assumption) a'
  have hO1 := hO.put 0 a'
  exact ⟨dv, ws, h1, h2, h3, h4, k1.putN (i := 1) hO1 (by simp only [List.set, List.mem_cons, List.not_mem_nil, or_false]; rintro c (rfl | rfl) <;> assumption) b'⟩
theorem Own.two {w : World} {g : Nat} {t : TypeId} {a b : Value} (h : Own w g t [a, b]) :
    w.cell? ⟨g, 0, none⟩ = some a ∧ w.cell? ⟨g, 1, none⟩ = some b ∧ w.frozen? ⟨g, 0, none⟩ = false ∧ w.frozen? ⟨g, 1, none⟩ = false :=
  ⟨h.cell 0, h.cell 1, h.free 0, h.free 1⟩
theorem Own.set2 {w : World} {g : Nat} {t : TypeId} {a b a' b' : Value} (h : Own w g t [a, b]) : Own ((w.setCell ⟨g, 0, none⟩ a').setCell ⟨g, 1, none⟩ b') g t [a', b'] := (h.put 0 a').put 1 b'
/-- an integer's struct is a bool and a slice -/
theorem Ri.open_ {w : World} {v : Value} {x : Int} (h : Ri w v x) : ∃ A n c, v = .agg #[.bool (decide (x < 0)), .slice A n c] ∧ n ≤ c ∧ n ≤ 140737488355328 := by
  obtain ⟨dv, ws, h1, h2, h3, h4, h5⟩ := h
  obtain ⟨A, c, rfl, hc1, hc2⟩ := h5.form
  exact ⟨A, _, c, h1, hc1, hc2⟩
/-- digits that are split off, and what is left -/
def WInv (N m : Nat) (ws : List Nat) : Prop := bval ws + B9 ^ ws.length * m = N ∧ bok ws
theorem WInv.step {N m : Nat} {ws : List Nat} (h : WInv N m ws) : WInv N (m / 1000000000) (ws ++ [m % 1000000000]) := by
  obtain ⟨h1, h2⟩ := h
  refine ⟨?_, bok_append.2 ⟨h2, bok_single.2 (Nat.mod_lt _ (by decide))⟩⟩
  rw [bval_concat, List.length_append, List.length_singleton, Nat.pow_succ, Nat.mul_assoc, Nat.add_assoc, ← Nat.mul_add, Nat.mod_add_div, h1]
theorem WInv.len {N m : Nat} {ws : List Nat} (h : WInv N m ws) (hm : 0 < m) (hN : N < 1000000000000000000000000000) : ws.length < 3 := by
  rcases Nat.lt_or_ge ws.length 3 with h1 | h1
  · exact h1
  · have h2 : B9 ^ 3 ≤ B9 ^ ws.length := Nat.pow_le_pow_right (by decide) h1
    have h3 : B9 ^ ws.length * 1 ≤ B9 ^ ws.length * m := Nat.mul_le_mul_left _ hm
    have h4 := h.1
    have h5 : B9 ^ 3 = 1000000000000000000000000000 := by decide
    omega
def wrel (N base : Nat) (g : Nat) (v : Value) (w wr : World) : Prop := ∃ ws : List Nat, WInv N g ws ∧ ws.length ≤ 3 ∧ wr.ownsRow (base + 1) 3 1 v ws.length (ncells ws) ∧ Own wr base 127 [.bool false, .slice none 0 0] ∧ Below w.heap.size w wr
set_option maxRecDepth 100000 in
set_option maxHeartbeats 2000000 in
theorem whole_p (N : Nat) (w : World) (hN : N ≤ 9223372036854775807) :
    Calls Tryz.prog 126 #[.int .i64 (N : Int)] w (riPost (sg false N) w) := by
  obtain ⟨i0, hi, hz0, hz1, hz2⟩ := info_parts info_int
  have HN := Lib.hid hN
  have HNL : Hid (N < 1000000000000000000000000000) := Lib.hid (by omega)
  have hNI : (N : Int) ≤ 9223372036854775807 := by omega
  clear hN
  go_enter Tryz.func126, Tryz.ntmps126
  go_wp2_with fail
  go_loopg [0, 3, 5] N (fun g u v _ wr => u = .int .i64 (g : Int) ∧ (g : Int) ≤ (N : Int) ∧ Hid (wrel N w.heap.size g v w wr))
  case atStart => exact ⟨rfl, Int.le_refl _, Lib.hid ⟨[], ⟨by simp [bval], bok_nil⟩, by decide, World.ownsRow_nil _ _ _ _, Own.make _ _ _, (Below.refl _ _).alloc (Nat.le_refl _) _⟩⟩
  case round =>
    obtain ⟨rfl, hgN, hR⟩ := hrel
    obtain ⟨ws, hI, hl, hO, hOw, hB⟩ := hR.out
    clear hR
    obtain ⟨A7, k7, hvf, hv1, hv2⟩ := oForm hO
    have HI := Lib.hid hI
    have HO := Lib.hid hO
    have HOw := Lib.hid hOw
    have HB := Lib.hid hB
    clear hI hO hOw hB
    subst hvf
    by_cases h0 : gk = 0
    · subst h0
      have HV : Hid (bval ws = N) := Lib.hid (by have := HI.out.1; omega)
      have SG := Lib.hid (signed_c false _ ws wr HI.out.2 (oSl HO.out (by omega)))
      rw [HV.out] at SG
      go_wp2_with fail
      refine SG.out.mono ?_
      clear SG
      rintro e w2 ⟨rv, rfl, hri, hB2⟩
      obtain ⟨RA, rn, rc, rfl, hr1, hr2⟩ := hri.open_
      generalize hbz : decide (sg false N < 0) = bz at *
      have HO2 := Lib.hid (HOw.out.below hB2 HOw.out.lt)
      obtain ⟨c0, c1, f0, f1⟩ := HO2.out.two
      have HRF := Lib.hid (hri.put2 (a' := .bool bz) (b' := .slice RA rn rc) HO2.out (noInt_bool _) (noInt_slice _ _ _) (noInt_bool _))
      have HBF : Hid (Below w.heap.size w ((w2.setCell ⟨w.heap.size, 0, none⟩ (.bool bz)).setCell ⟨w.heap.size, 1, none⟩ (.slice RA rn rc))) := Lib.hid (((HB.out.trans (hB2.mono HB.out.size)).setCell (p := ⟨w.heap.size, 0, none⟩) (Nat.le_refl _) _).setCell (p := ⟨w.heap.size, 1, none⟩) (Nat.le_refl _) _)
      clear hri hB2 hbz
      go_wp2
      obtain ⟨z0, z1, _, _⟩ := (HO2.out.set2 (a' := .bool bz) (b' := .slice RA rn rc)).two
      exact bodyPost_ret (v := .agg #[.bool bz, .slice RA rn rc]) (by simp [results, Tryz.results126, go_sem, z0, z1]) rfl ⟨_, rfl, HRF.out, HBF.out⟩
    · have hg0 : (0 : Int) < (gk : Int) := by omega
      have HL := Lib.hid (HI.out.len (by omega) HNL.out)
      have HS := Lib.hid HI.out.step
      have hl3 : ws.length < 3 := HL.out
      have hq : gk / 1000000000 < gk := Nat.div_lt_self (by omega) (by decide)
      have hr9 : gk % 1000000000 < 1000000000 := Nat.mod_lt _ (by decide)
      have hs := HB.out.size
      clear HI
      go_wp2_with (at_builtin; (refine wpList_append_own _ rfl _ _ 50 rfl (w.heap.size + 1) 3 i0 (.int .i64 0) 1 8 Tryz.underlying50 hi hz0 hz1 hz2 rfl (by decide) _ _ _ rfl (HO.out.alloc _) ⟨wr.heap.size, 0, none⟩ 1 1 [.int .i64 ((gk % 1000000000 : Nat) : Int)] rfl rfl (cell_one_new _ _ _) (fun x hx => by simp at hx; subst hx; rfl) (by unfold maxLen; omega) (by omega) (by simp; omega) ?_; intro v' w1 hown' hgrow _))
      have HO' : Hid (w1.ownsRow (w.heap.size + 1) 3 1 v' (ws ++ [(gk % 1000000000)]).length (ncells (ws ++ [(gk % 1000000000)]))) := Lib.hid (by
        rw [ncells_snoc, List.length_append, List.length_singleton]; exact hown')
      have HOw' : Hid (Own w1 w.heap.size 127 [.bool false, .slice none 0 0]) := Lib.hid ((HOw.out.alloc _).grown hgrow (fun e => by have := (HO.out.lt _ e).1; omega))
      have HB' := Lib.hid (Below.grown (HB.out.alloc hs (.cells #[.int .i64 ((gk % 1000000000 : Nat) : Int)] 3)) hgrow (by simp; omega) (fun j hj => by have := (HO.out.lt _ hj).1; omega))
      have HL' : Hid ((ws ++ [(gk % 1000000000)]).length ≤ 3) := Lib.hid (by rw [List.length_append, List.length_singleton]; omega)
      clear hown' hgrow
      go_wp2
      go_roundg (gk / 1000000000)
      case rel => exact ⟨by go_num, by omega, Lib.hid ⟨_, HS.out, HL'.out, HO'.out, HOw'.out, HB'.out⟩⟩
      case measure => exact hq
set_option maxRecDepth 100000 in
set_option maxHeartbeats 2000000 in
theorem whole_n (N : Nat) (w : World) (hN0 : 0 < N) (hN : N ≤ 9223372036854775808) :
    Calls Tryz.prog 126 #[.int .i64 (-(N : Int))] w (riPost (sg true N) w) := by
  obtain ⟨i0, hi, hz0, hz1, hz2⟩ := info_parts info_int
  have HN := Lib.hid hN
  have HNL : Hid (N < 1000000000000000000000000000) := Lib.hid (by omega)
  have hNI : (N : Int) ≤ 9223372036854775808 := by omega
  have hN1 : (0 : Int) < N := by omega
  clear hN0
  clear hN
  go_enter Tryz.func126, Tryz.ntmps126
  go_wp2_with fail
  go_loopg [0, 3, 5] N (fun g u v _ wr => u = .int .i64 (-(g : Int)) ∧ (g : Int) ≤ (N : Int) ∧ Hid (wrel N w.heap.size g v w wr))
  case atStart => exact ⟨rfl, Int.le_refl _, Lib.hid ⟨[], ⟨by simp [bval], bok_nil⟩, by decide, World.ownsRow_nil _ _ _ _, Own.make _ _ _, (Below.refl _ _).alloc (Nat.le_refl _) _⟩⟩
  case round =>
    obtain ⟨rfl, hgN, hR⟩ := hrel
    obtain ⟨ws, hI, hl, hO, hOw, hB⟩ := hR.out
    clear hR
    obtain ⟨A7, k7, hvf, hv1, hv2⟩ := oForm hO
    have HI := Lib.hid hI
    have HO := Lib.hid hO
    have HOw := Lib.hid hOw
    have HB := Lib.hid hB
    clear hI hO hOw hB
    subst hvf
    by_cases h0 : gk = 0
    · subst h0
      have HV : Hid (bval ws = N) := Lib.hid (by have := HI.out.1; omega)
      have SG := Lib.hid (signed_c true _ ws wr HI.out.2 (oSl HO.out (by omega)))
      rw [HV.out] at SG
      go_wp2_with fail
      rw [show decide (0 < N) = true from decide_eq_true (by omega)]
      refine SG.out.mono ?_
      clear SG
      rintro e w2 ⟨rv, rfl, hri, hB2⟩
      obtain ⟨RA, rn, rc, rfl, hr1, hr2⟩ := hri.open_
      generalize hbz : decide (sg true N < 0) = bz at *
      have HO2 := Lib.hid (HOw.out.below hB2 HOw.out.lt)
      obtain ⟨c0, c1, f0, f1⟩ := HO2.out.two
      have HRF := Lib.hid (hri.put2 (a' := .bool bz) (b' := .slice RA rn rc) HO2.out (noInt_bool _) (noInt_slice _ _ _) (noInt_bool _))
      have HBF : Hid (Below w.heap.size w ((w2.setCell ⟨w.heap.size, 0, none⟩ (.bool bz)).setCell ⟨w.heap.size, 1, none⟩ (.slice RA rn rc))) := Lib.hid (((HB.out.trans (hB2.mono HB.out.size)).setCell (p := ⟨w.heap.size, 0, none⟩) (Nat.le_refl _) _).setCell (p := ⟨w.heap.size, 1, none⟩) (Nat.le_refl _) _)
      clear hri hB2 hbz
      go_wp2
      obtain ⟨z0, z1, _, _⟩ := (HO2.out.set2 (a' := .bool bz) (b' := .slice RA rn rc)).two
      exact bodyPost_ret (v := .agg #[.bool bz, .slice RA rn rc]) (by simp [results, Tryz.results126, go_sem, z0, z1]) rfl ⟨_, rfl, HRF.out, HBF.out⟩
    · have hg0 : (0 : Int) < (gk : Int) := by omega
      have HL := Lib.hid (HI.out.len (by omega) HNL.out)
      have HS := Lib.hid HI.out.step
      have hl3 : ws.length < 3 := HL.out
      have hq : gk / 1000000000 < gk := Nat.div_lt_self (by omega) (by decide)
      have hr9 : gk % 1000000000 < 1000000000 := Nat.mod_lt _ (by decide)
      have hs := HB.out.size
      have e1 : (-(gk : Int)).tmod 1000000000 = -((gk % 1000000000 : Nat) : Int) := by rw [Int.neg_tmod]; congr 1
      have e2 : (-(gk : Int)).tdiv 1000000000 = -((gk / 1000000000 : Nat) : Int) := by rw [Int.neg_tdiv]; congr 1
      generalize gk % 1000000000 = r at *
      generalize gk / 1000000000 = q at *
      rcases Nat.eq_zero_or_pos r with hr0 | hr0
      · subst hr0
        have e3 : (-(gk : Int)).tmod 1000000000 = 0 := by rw [e1]; rfl
        clear e1
        clear HI
        go_wp2_with (at_builtin; (refine wpList_append_own _ rfl _ _ 50 rfl (w.heap.size + 1) 3 i0 (.int .i64 0) 1 8 Tryz.underlying50 hi hz0 hz1 hz2 rfl (by decide) _ _ _ rfl (HO.out.alloc _) ⟨wr.heap.size, 0, none⟩ 1 1 [.int .i64 0] rfl rfl (cell_one_new _ _ _) (fun x hx => by simp at hx; subst hx; rfl) (by unfold maxLen; omega) (by omega) (by simp; omega) ?_; intro v' w1 hown' hgrow _))
        have HO' : Hid (w1.ownsRow (w.heap.size + 1) 3 1 v' (ws ++ [0]).length (ncells (ws ++ [0]))) := Lib.hid (by
          rw [ncells_snoc, List.length_append, List.length_singleton]; exact hown')
        have HOw' : Hid (Own w1 w.heap.size 127 [.bool false, .slice none 0 0]) := Lib.hid ((HOw.out.alloc _).grown hgrow (fun e => by have := (HO.out.lt _ e).1; omega))
        have HB' := Lib.hid (Below.grown (HB.out.alloc hs (.cells #[.int .i64 0] 3)) hgrow (by simp; omega) (fun j hj => by have := (HO.out.lt _ hj).1; omega))
        have HL' : Hid ((ws ++ [0]).length ≤ 3) := Lib.hid (by rw [List.length_append, List.length_singleton]; omega)
        clear hown' hgrow
        go_wp2
        go_roundg q
        case rel => exact ⟨by go_num, by omega, Lib.hid ⟨_, HS.out, HL'.out, HO'.out, HOw'.out, HB'.out⟩⟩
        case measure => exact hq
      · have hr1 : (0 : Int) < (r : Int) := by omega
        clear HI
        go_wp2_with (at_builtin; (refine wpList_append_own _ rfl _ _ 50 rfl (w.heap.size + 1) 3 i0 (.int .i64 0) 1 8 Tryz.underlying50 hi hz0 hz1 hz2 rfl (by decide) _ _ _ rfl (HO.out.alloc _) ⟨wr.heap.size, 0, none⟩ 1 1 [.int .i64 (r : Int)] rfl rfl (cell_one_new _ _ _) (fun x hx => by simp at hx; subst hx; rfl) (by unfold maxLen; omega) (by omega) (by simp; omega) ?_; intro v' w1 hown' hgrow _))
        have HO' : Hid (w1.ownsRow (w.heap.size + 1) 3 1 v' (ws ++ [r]).length (ncells (ws ++ [r]))) := Lib.hid (by
          rw [ncells_snoc, List.length_append, List.length_singleton]; exact hown')
        have HOw' : Hid (Own w1 w.heap.size 127 [.bool false, .slice none 0 0]) := Lib.hid ((HOw.out.alloc _).grown hgrow (fun e => by have := (HO.out.lt _ e).1; omega))
        have HB' := Lib.hid (Below.grown (HB.out.alloc hs (.cells #[.int .i64 (r : Int)] 3)) hgrow (by simp; omega) (fun j hj => by have := (HO.out.lt _ hj).1; omega))
        have HL' : Hid ((ws ++ [r]).length ≤ 3) := Lib.hid (by rw [List.length_append, List.length_singleton]; omega)
        clear hown' hgrow
        go_wp2
        go_roundg q
        case rel => exact ⟨by go_num, by omega, Lib.hid ⟨_, HS.out, HL'.out, HO'.out, HOw'.out, HB'.out⟩⟩
        case measure => exact hq
theorem whole_c (x : Int) (w : World) (h : -9223372036854775808 ≤ x ∧ x ≤ 9223372036854775807) :
    Calls Tryz.prog 126 #[.int .i64 x] w (riPost x w) := by
  by_cases hx : x < 0
  · have e : x = -(x.natAbs : Int) := by omega
    have h2 := whole_n x.natAbs w (by omega) (by omega)
    have e2 : sg true x.natAbs = x := by unfold sg; rw [if_pos rfl]; omega
    rw [e2, ← e] at h2; exact h2
  · have e : x = (x.natAbs : Int) := by omega
    have h2 := whole_p x.natAbs w (by omega)
    have e2 : sg false x.natAbs = x := by unfold sg; rw [if_neg (by decide)]; omega
    rw [e2, ← e] at h2; exact h2
end Go.Proofs.YtneafcdfnhnpnaaGreatDoor
/- Contracts of the reference: the texts of its integers. -/
namespace Go.Proofs.YtneafcdfnhnpnaaGreatDoor
open Go.RowKit Go.Lib

/-- an integer's text -/
def itext (x : Int) : List UInt8 := (if x < 0 then [45] else []) ++ decDigits x.natAbs
theorem bval_drop (ws : List Nat) (k : Nat) (hk : k < ws.length) : bval (ws.drop k) = ws[k]?.getD 0 + B9 * bval (ws.drop (k + 1)) := by
  rw [List.drop_eq_getElem_cons hk, List.getElem?_eq_getElem hk]; rfl
theorem bval_split (ws : List Nat) (k : Nat) (hk : k ≤ ws.length) : bval ws = bval (ws.take k) + B9 ^ k * bval (ws.drop k) := by
  conv => lhs; rw [← List.take_append_drop k ws]
  rw [bval_append, List.length_take, Nat.min_eq_left hk]
theorem drop_pos {ws : List Nat} (hn : wnorm ws) (hok : bok ws) {k : Nat} (hk : k < ws.length) : 0 < bval (ws.drop k) := by
  rcases Nat.eq_zero_or_pos (bval (ws.drop k)) with h | h
  · have h1 := bnorm_last hn (by intro e; subst e; simp at hk)
    have h2 := bval_split ws k (by omega)
    rw [h, Nat.mul_zero] at h2
    have h3 := bval_lt (bok_take hok k)
    rw [List.length_take, Nat.min_eq_left (by omega)] at h3
    have h4 : B9 ^ k ≤ B9 ^ (ws.length - 1) := Nat.pow_le_pow_right (by decide) (by omega)
    omega
  · exact h
def TInv (ws : List Nat) (k : Nat) (acc : List UInt8) : Prop := acc = decDigits (bval (ws.drop k))
theorem TInv.step {ws : List Nat} {k : Nat} {acc : List UInt8} (hn : wnorm ws) (hok : bok ws) (hk : k + 1 < ws.length) (h : TInv ws (k + 1) acc) : TInv ws k (acc ++ padk 9 (ws[k]?.getD 0)) := by
  unfold TInv at h ⊢
  have h1 := drop_pos hn hok hk
  have h2 := bok_get hok k
  rw [bval_drop ws k (by omega), Nat.add_comm, Nat.mul_comm, h]
  exact (decDigits_pad 9 _ _ h1 h2).symm
theorem TInv.len {ws : List Nat} {k : Nat} {acc : List UInt8} (hok : bok ws) (h : TInv ws k acc) : acc.length ≤ 9 * ws.length + 1 := by
  unfold TInv at h
  rw [h, decDigits_length]
  refine nDigits_le _ _ ?_
  have h1 := bval_lt (ws := ws.drop k) (fun x hx => hok x (List.mem_of_mem_drop hx))
  have h2 : B9 ^ (ws.drop k).length ≤ B9 ^ ws.length := Nat.pow_le_pow_right (by decide) (by rw [List.length_drop]; omega)
  have h3 : B9 ^ ws.length = 10 ^ (9 * ws.length) := by rw [Nat.pow_mul]
  have h4 : 10 ^ (9 * ws.length) ≤ 10 ^ (9 * ws.length + 1) := Nat.pow_le_pow_right (by decide) (by omega)
  omega
set_option maxRecDepth 100000 in
set_option maxHeartbeats 2000000 in
theorem textR_c (v : Value) (x : Int) (w : World) (h : Ri w v x) :
    Calls Tryz.prog 182 #[v] w (ansText (itext x) w) := by
  obtain ⟨dv, ws, rfl, hv, hok, hn, hs⟩ := h
  obtain ⟨A, c, rfl, hc1, hc2⟩ := hs.form
  rw [ncells_length] at hc1 hc2 hs ⊢
  have hb : Below w.heap.size w (w.alloc (.cells #[.bool (decide (x < 0)), .slice A ws.length c] 127)) := (Below.refl _ _).alloc (Nat.le_refl _) _
  have HB0 := Lib.hid hb
  have HOw : Hid (Own (w.alloc (.cells #[.bool (decide (x < 0)), .slice A ws.length c] 127)) w.heap.size 127 [.bool (decide (x < 0)), .slice A ws.length c]) := Lib.hid (Own.make _ _ _)
  have HN := Lib.hid hn
  have HOK := Lib.hid hok
  have HV := Lib.hid hv
  clear hb hn hok hv
  by_cases h0 : ws = []
  · subst h0
    have hx : x = 0 := by have := HV.out; simp [bval] at this; omega
    have HE : Hid (itext x = [48]) := Lib.hid (by rw [hx]; unfold itext; rw [if_neg (by decide)]; exact decDigits_one (by decide))
    clear hx hs
    generalize decide (x < 0) = bx at *
    go_enter Tryz.func182, Tryz.ntmps182
    go_wp2
    go_ret
    exact ⟨by rw [HE.out]; rfl, HB0.out⟩
  · obtain ⟨m, hm⟩ : ∃ m, ws.length = m + 1 := ⟨ws.length - 1, by have := List.length_pos_iff.2 h0; omega⟩
    clear h0
    obtain ⟨b, off, rfl, hblt, hcell⟩ := hs.at_ (k := m) (by rw [ncells_length]; omega)
    have HC : Hid (∀ j, j < ws.length → w.cell? ⟨b, off + j, none⟩ = some (.int .i64 ((ws[j]?.getD 0 : Nat) : Int))) := Lib.hid (fun j hj => by rw [hcell j (by rw [ncells_length]; omega), ncells_get ws j hj])
    clear hcell hs
    generalize hbx : decide (x < 0) = bx at *
    have HX := Lib.hid hbx
    clear hbx
    have ck := HC.out m (by omega)
    have hmb : (m : Int) ≤ 140737488355328 := by omega
    have HT0 : Hid (TInv ws m (decDigits (ws[m]?.getD 0))) := Lib.hid (by
      unfold TInv
      rw [bval_drop ws m (by omega), List.drop_of_length_le (by omega)]; simp [bval])
    have D1 := Lib.hid (fun w => decimal1_c (ws[m]?.getD 0) w (by have := bok_get HOK.out m; unfold B9 at this; omega))
    have HL1 : Hid ((decDigits (ws[m]?.getD 0)).length ≤ 9 * ws.length + 1) := Lib.hid (HT0.out.len HOK.out)
    generalize ws[m]?.getD 0 = top at *
    clear hc2
    rw [hm] at hc1 HOw HB0 HL1 ⊢
    have HM := Lib.hid hm
    clear hm
    go_enter Tryz.func182, Tryz.ntmps182
    go_wp2_with fail
    refine (D1.out _).mono ?_
    clear D1
    rintro e w1 ⟨rfl, hB1⟩
    have HO1 := Lib.hid (HOw.out.below hB1 HOw.out.lt)
    have HB1 := Lib.hid (HB0.out.trans (hB1.mono HB0.out.size))
    obtain ⟨c0, c1, f0, f1⟩ := HO1.out.two
    clear hB1 ck
    go_wp2_with fail
    go_loopg [3, 4] m (fun g s i wr => ∃ acc : List UInt8, s = .string ⟨acc.toArray⟩ ∧ i = .int .i64 ((g : Int) - 1) ∧ (g : Int) ≤ (m : Int) ∧ Hid (TInv ws g acc) ∧ Hid (Own wr w.heap.size 127 [.bool bx, .slice (some ⟨b, off, none⟩) (m + 1) c]) ∧ Hid (Below w.heap.size w wr))
    case atStart => exact ⟨_, rfl, by go_num, Int.le_refl _, HT0, HO1, HB1⟩
    case round =>
      obtain ⟨acc, rfl, rfl, hgm, hT, hO, hB⟩ := hrel
      clear c0 c1 f0 f1
      obtain ⟨c0, c1, f0, f1⟩ := hO.out.two
      have hal := Lib.hid (hT.out.len HOK.out)
      have hal2 : acc.length ≤ 2266637395197953 := by have h1 := hal.out; have h2 := HM.out; omega
      cases gk with
      | zero =>
        have hin : ¬ ((0 : Int) ≤ ((0 : Nat) : Int) - 1) := by omega
        have HE : Hid (acc = decDigits x.natAbs) := Lib.hid (by have := hT.out; unfold TInv at this; rw [this, List.drop_zero, HV.out])
        clear hT hal
        have HBT := Lib.hid hB.out
        cases bx with
        | true =>
          have HE2 : Hid (itext x = 45 :: acc) := Lib.hid (by unfold itext; rw [if_pos (of_decide_eq_true HX.out), HE.out]; rfl)
          go_wp2
          go_ret
          exact ⟨by rw [HE2.out, ← cons_text]; rfl, HBT.out⟩
        | false =>
          have HE2 : Hid (itext x = acc) := Lib.hid (by unfold itext; rw [if_neg (of_decide_eq_false HX.out), HE.out]; rfl)
          go_wp2
          go_ret
          exact ⟨by rw [HE2.out]; rfl, HBT.out⟩
      | succ gh =>
        have hgm2 : gh < m := by omega
        have ck := (hB.out.cell (p := ⟨b, off + gh, none⟩) hblt).trans (HC.out gh (by have := HM.out; omega))
        have HS := Lib.hid (hT.out.step HN.out HOK.out (by have := HM.out; omega))
        have D9 := Lib.hid (fun w => decimal9_c (ws[gh]?.getD 0) w (bok_get HOK.out gh))
        have HPL : (padk 9 (ws[gh]?.getD 0)).length = 9 := padk_length _ _
        have hin : (0 : Int) ≤ ((gh + 1 : Nat) : Int) - 1 := by omega
        have hbs := hB.out.size
        have hbl : b < wr.heap.size := by omega
        clear hT
        generalize ws[gh]?.getD 0 = dg at *
        go_wp2_with fail
        refine (D9.out _).mono ?_
        rintro e w2 ⟨rfl, hB2⟩
        have HO3 := Lib.hid (hO.out.below hB2 hO.out.lt)
        have HB3 := Lib.hid (hB.out.trans (hB2.mono hbs))
        clear hB2 c0 c1 f0 f1
        go_wp2
        go_roundg gh
        case rel => exact ⟨_, by rw [ByteArray.mk_append_mk], by go_num, by omega, HS, HO3, HB3⟩
        case measure => omega
/-- the reference's text of a machine integer -/
theorem FromInt_c (x : Int) (w : World) (h : -9223372036854775808 ≤ x ∧ x ≤ 9223372036854775807) :
    Calls Tryz.prog 142 #[.int .i64 x] w (ansText (itext x) w) := by
  have WC := Lib.hid (whole_c x w h)
  clear h
  go_enter Tryz.func142, Tryz.ntmps142
  go_wp2_with fail
  refine WC.out.mono ?_
  rintro e w1 ⟨v, rfl, hr, hB⟩
  have HR := Lib.hid (textR_c v x w1 hr)
  obtain ⟨RA, rn, rc, rfl, hr1, hr2⟩ := hr.open_
  clear hr
  go_wp2_with fail
  refine HR.out.mono ?_
  rintro e w2 ⟨rfl, hB2⟩
  go_wp2
  go_ret
  exact ⟨rfl, hB.trans (hB2.mono hB.size)⟩
theorem itext_rat (x : Int) : itext x = rtext (x : Rat) := by
  unfold itext rtext
  rw [if_pos (show (x : Rat).den = 1 from rfl), List.append_nil]; rfl
end Go.Proofs.YtneafcdfnhnpnaaGreatDoor
/- Plain mathematics of numbers as lists of digits to the base 10^9. -/
namespace Go.Proofs.YtneafcdfnhnpnaaGreatDoor
open Go.RowKit Go.Lib

theorem bnorm_length {ws : List Nat} (h : wnorm ws) {n : Nat} (hv : bval ws < B9 ^ n) : ws.length ≤ n := by
  rcases Nat.lt_or_ge n ws.length with hl | hl
  · have hne : ws ≠ [] := by intro e; subst e; simp at hl
    have := bnorm_last h hne
    have h2 : B9 ^ n ≤ B9 ^ (ws.length - 1) := Nat.pow_le_pow_right (by decide) (by omega)
    omega
  · exact hl
theorem bval_lt_of_length {a b : List Nat} (ha : bok a) (hb : wnorm b) (h : a.length < b.length) : bval a < bval b := by
  have h1 := bval_lt ha
  have h2 := bnorm_last hb (by intro e; subst e; simp at h)
  have h3 : B9 ^ a.length ≤ B9 ^ (b.length - 1) := Nat.pow_le_pow_right (by decide) (by omega)
  omega
theorem bval_split3 (ws : List Nat) (k : Nat) (hk : k < ws.length) : bval ws = bval (ws.take k) + B9 ^ k * (ws[k]?.getD 0 + B9 * bval (ws.drop (k + 1))) := by
  have h : ws = ws.take k ++ (ws[k]?.getD 0 :: ws.drop (k + 1)) := by
    rw [List.getElem?_eq_getElem hk]
    simp
  conv => lhs; rw [h]
  rw [bval_append]
  simp only [bval, List.length_take]
  rw [Nat.min_eq_left (by omega)]
theorem bval_lt_at {a b : List Nat} (ha : bok a) (hl : a.length = b.length) (k : Nat) (hk : k < a.length) (hd : a.drop (k + 1) = b.drop (k + 1)) (hlt : a[k]?.getD 0 < b[k]?.getD 0) : bval a < bval b := by
  rw [bval_split3 a k hk, bval_split3 b k (by omega), hd]
  have h1 := bval_lt (bok_take ha k)
  rw [List.length_take, Nat.min_eq_left (by omega)] at h1
  generalize bval (b.drop (k + 1)) = D at *
  generalize a[k]?.getD 0 = x at *
  generalize b[k]?.getD 0 = y at *
  have h2 : B9 ^ k * (x + B9 * D) + B9 ^ k * 1 ≤ B9 ^ k * (y + B9 * D) := by rw [← Nat.mul_add]; exact Nat.mul_le_mul_left _ (by omega)
  omega
theorem bval_inj {a b : List Nat} (ha : bok a) (hb : bok b) (na : wnorm a) (nb : wnorm b) (h : bval a = bval b) : a = b := by
  have hl : a.length = b.length := by
    rcases Nat.lt_trichotomy a.length b.length with h1 | h1 | h1
    · have := bval_lt_of_length ha nb h1; omega
    · exact h1
    · have := bval_lt_of_length hb na h1; omega
  clear na nb
  induction a generalizing b with
  | nil => simp at hl; exact (List.length_eq_zero_iff.1 hl.symm).symm
  | cons x r ih =>
    match b, hl with
    | y :: s, hl =>
      have hx := ha x (by simp)
      have hy := hb y (by simp)
      simp only [bval] at h
      have h1 : x = y := by
        have := congrArg (· % B9) h
        simp only [Nat.add_mul_mod_self_left] at this
        rw [Nat.mod_eq_of_lt hx, Nat.mod_eq_of_lt hy] at this
        exact this
      subst h1
      have h2 : bval r = bval s := by
        have : B9 * bval r = B9 * bval s := by omega
        exact Nat.eq_of_mul_eq_mul_left (by decide) this
      rw [ih (fun z hz => ha z (by simp [hz])) (fun z hz => hb z (by simp [hz])) h2 (by simpa using hl)]
theorem bval_take_succ (ws : List Nat) (k : Nat) : bval (ws.take (k + 1)) = bval (ws.take k) + B9 ^ k * ws[k]?.getD 0 := by
  rcases Nat.lt_or_ge k ws.length with h | h
  · rw [take_succ_nat ws k h, bval_concat, List.length_take, Nat.min_eq_left (by omega)]
  · rw [List.take_of_length_le (by omega), List.take_of_length_le h, List.getElem?_eq_none h]; simp
theorem bval_set_take (L : List Nat) (k x : Nat) (h : k < L.length) : bval ((L.set k x).take (k + 1)) = bval (L.take k) + B9 ^ k * x := by
  rw [bval_take_succ, take_set_le _ _ _ _ (Nat.le_refl _), get_set_same L k x h]
theorem bok_set {L : List Nat} (h : bok L) (k x : Nat) (hx : x < B9) : bok (L.set k x) := by
  intro y hy
  rcases List.mem_or_eq_of_mem_set hy with h1 | h1
  · exact h y h1
  · omega
theorem bok_replicate (n : Nat) : bok (List.replicate n 0) := by
  intro x hx; rw [List.eq_of_mem_replicate hx]; decide
theorem bval_take_le (ws : List Nat) (k : Nat) : bval (ws.take k) ≤ bval ws := by
  conv => rhs; rw [← List.take_append_drop k ws]
  rw [bval_append]; omega
/-- the differences of the first k words are taken; br is what is borrowed -/
def SubB (xs bs L : List Nat) (k br : Nat) : Prop := L.length = xs.length ∧ bok L ∧ br ≤ 1 ∧ bval (xs.take k) + B9 ^ k * br = bval (L.take k) + bval (bs.take k)
theorem SubB.start (xs bs : List Nat) : SubB xs bs (List.replicate xs.length 0) 0 0 := ⟨by simp, bok_replicate _, by omega, by simp [bval]⟩
theorem SubB.step {xs bs L : List Nat} {k br d br' : Nat} (h : SubB xs bs L k br) (hk : k < xs.length) (hd : d < B9) (hb : br' ≤ 1)
    (he : xs[k]?.getD 0 + B9 * br' = d + bs[k]?.getD 0 + br) : SubB xs bs (L.set k d) (k + 1) br' := by
  obtain ⟨h1, h2, h3, h4⟩ := h
  refine ⟨by simp [h1], bok_set h2 k d hd, hb, ?_⟩
  rw [bval_take_succ xs, bval_take_succ bs, bval_set_take L k d (by omega), Nat.pow_succ]
  have e : B9 ^ k * (xs[k]?.getD 0 + B9 * br') = B9 ^ k * (d + bs[k]?.getD 0 + br) := by rw [he]
  simp only [Nat.mul_add, Nat.mul_assoc] at e ⊢
  omega
theorem SubB.last {xs bs L : List Nat} {br : Nat} (h : SubB xs bs L xs.length br) (hl : bs.length ≤ xs.length) (hle : bval bs ≤ bval xs) : bval L = bval xs - bval bs := by
  obtain ⟨h1, h2, h3, h4⟩ := h
  rw [List.take_of_length_le (Nat.le_refl _), List.take_of_length_le (by omega), List.take_of_length_le hl] at h4
  have h5 := bval_lt h2
  rw [h1] at h5
  have : br = 0 := by
    rcases Nat.lt_or_ge br 1 with hb | hb
    · omega
    · have hb1 : br = 1 := by omega
      subst hb1
      omega
  subst this
  omega
/-- the sums of the first k words are taken; c is the carry -/
def AddB (xs bs L : List Nat) (k c : Nat) : Prop := L.length = xs.length + 1 ∧ bok L ∧ c ≤ 1 ∧ bval (xs.take k) + bval (bs.take k) = bval (L.take k) + B9 ^ k * c
theorem AddB.start (xs bs : List Nat) : AddB xs bs (List.replicate (xs.length + 1) 0) 0 0 := ⟨by simp, bok_replicate _, by omega, by simp [bval]⟩
theorem AddB.step {xs bs L : List Nat} {k c d c' : Nat} (h : AddB xs bs L k c) (hk : k < xs.length) (hd : d < B9) (hb : c' ≤ 1)
    (he : xs[k]?.getD 0 + bs[k]?.getD 0 + c = d + B9 * c') : AddB xs bs (L.set k d) (k + 1) c' := by
  obtain ⟨h1, h2, h3, h4⟩ := h
  refine ⟨by simp [h1], bok_set h2 k d hd, hb, ?_⟩
  rw [bval_take_succ xs, bval_take_succ bs, bval_set_take L k d (by omega), Nat.pow_succ]
  have e : B9 ^ k * (xs[k]?.getD 0 + bs[k]?.getD 0 + c) = B9 ^ k * (d + B9 * c') := by rw [he]
  simp only [Nat.mul_add, Nat.mul_assoc] at e ⊢
  omega
theorem AddB.last {xs bs L : List Nat} {c : Nat} (h : AddB xs bs L xs.length c) (hl : bs.length ≤ xs.length) :
    bval (L.set xs.length c) = bval xs + bval bs ∧ bok (L.set xs.length c) ∧ (L.set xs.length c).length = xs.length + 1 := by
  obtain ⟨h1, h2, h3, h4⟩ := h
  rw [List.take_of_length_le (Nat.le_refl _), List.take_of_length_le hl] at h4
  refine ⟨?_, bok_set h2 _ _ (by have : (2 : Nat) ≤ B9 := by decide
                                 omega), by simp [h1]⟩
  have := bval_set_take L xs.length c (by omega)
  rw [List.take_of_length_le (by simp [h1])] at this
  omega
/-- the first k words are multiplied -/
def MulB (xs L : List Nat) (f a k : Nat) : Prop := L.length = xs.length + 1 ∧ bok L ∧ bval (L.take (k + 1)) = bval (xs.take k) * f + a
theorem MulB.start (xs : List Nat) (f a : Nat) (ha : a < B9) : MulB xs ((List.replicate (xs.length + 1) 0).set 0 a) f a 0 := by
  refine ⟨by simp, bok_set (bok_replicate _) _ _ ha, ?_⟩
  rw [bval_set_take _ _ _ (by simp)]; simp [bval]
theorem MulB.step {xs L : List Nat} {f a k d c hi lo : Nat} (h : MulB xs L f a k) (hk : k < xs.length) (hd : d < B9) (hc : hi + c < B9)
    (hp : xs[k]?.getD 0 * f = hi * B9 + lo) (he : L[k]?.getD 0 + lo = d + B9 * c) : MulB xs ((L.set k d).set (k + 1) (hi + c)) f a (k + 1) := by
  obtain ⟨h1, h2, h3⟩ := h
  refine ⟨by simp [h1], bok_set (bok_set h2 k d hd) _ _ hc, ?_⟩
  rw [bval_set_take _ _ _ (by simp; omega), bval_set_take L k d (by omega), bval_take_succ xs, Nat.pow_succ]
  rw [bval_take_succ] at h3
  have e : B9 ^ k * (L[k]?.getD 0 + lo) = B9 ^ k * (d + B9 * c) := by rw [he]
  have e2 : B9 ^ k * (xs[k]?.getD 0 * f) = B9 ^ k * (hi * B9 + lo) := by rw [hp]
  simp only [Nat.mul_add, Nat.add_mul, Nat.mul_assoc] at e e2 h3 ⊢
  rw [Nat.mul_comm hi B9] at e2
  omega
theorem MulB.last {xs L : List Nat} {f a : Nat} (h : MulB xs L f a xs.length) : bval L = bval xs * f + a := by
  obtain ⟨h1, h2, h3⟩ := h
  rw [List.take_of_length_le (by omega), List.take_of_length_le (Nat.le_refl _)] at h3
  exact h3
theorem mul_dig (x f : Nat) (hx : x < B9) (hf : f < B9) : x * f / B9 < B9 ∧ x * f / B9 * B9 + x * f % B9 = x * f ∧ x * f % B9 < B9 ∧ (∀ r < B9, x * f / B9 + (r + x * f % B9) / B9 < B9) := by
  have h1 : x * f ≤ (B9 - 1) * (B9 - 1) := Nat.mul_le_mul (by omega) (by omega)
  refine ⟨?_, ?_, Nat.mod_lt _ (by decide), fun r hr => ?_⟩
  · rw [Nat.div_lt_iff_lt_mul (by decide)]; unfold B9 at *; omega
  · rw [Nat.mul_comm]; exact Nat.div_add_mod _ _
  · have h2 := Nat.div_add_mod (x * f) B9
    unfold B9 at *
    omega
/-- the words from k on are divided; r is the rest -/
def DivB (xs L : List Nat) (b k r : Nat) : Prop := L.length = xs.length ∧ bok L ∧ r < b ∧ bval (xs.drop k) = bval (L.drop k) * b + r
theorem DivB.start (xs : List Nat) (b : Nat) (hb : 0 < b) : DivB xs (List.replicate xs.length 0) b xs.length 0 :=
  ⟨by simp, bok_replicate _, hb, by simp [bval]⟩
theorem DivB.step {xs L : List Nat} {b k r : Nat} (h : DivB xs L b (k + 1) r) (hk : k < xs.length) (hb : 0 < b) (hq : (r * B9 + xs[k]?.getD 0) / b < B9) :
    DivB xs (L.set k ((r * B9 + xs[k]?.getD 0) / b)) b k ((r * B9 + xs[k]?.getD 0) % b) := by
  obtain ⟨h1, h2, h3, h4⟩ := h
  refine ⟨by simp [h1], bok_set h2 _ _ hq, Nat.mod_lt _ hb, ?_⟩
  rw [drop_cons xs k hk, drop_cons (L.set k _) k (by simp; omega), get_set_same _ _ _ (by omega), List.drop_set_of_lt (by omega)]
  simp only [bval, h4]
  have := Nat.div_add_mod (r * B9 + xs[k]?.getD 0) b
  generalize (r * B9 + xs[k]?.getD 0) / b = q at *
  generalize (r * B9 + xs[k]?.getD 0) % b = r' at *
  have e : B9 * (bval (L.drop (k + 1)) * b + r) = B9 * bval (L.drop (k + 1)) * b + r * B9 := by rw [Nat.mul_add, Nat.mul_assoc, Nat.mul_comm B9 r]
  rw [e, Nat.add_mul, Nat.mul_comm q b]
  omega
theorem div_dig {b r x : Nat} (hr : r < b) (hx : x < B9) : (r * B9 + x) / b < B9 := by
  rw [Nat.div_lt_iff_lt_mul (by omega), Nat.mul_comm B9 b]
  have : (r + 1) * B9 ≤ b * B9 := Nat.mul_le_mul_right _ hr
  rw [Nat.add_mul] at this
  omega
theorem DivB.last {xs L : List Nat} {b r : Nat} (h : DivB xs L b 0 r) : bval L = bval xs / b ∧ r = bval xs % b := by
  obtain ⟨h1, h2, h3, h4⟩ := h
  simp only [List.drop_zero] at h4
  rw [h4]
  refine ⟨?_, ?_⟩
  · rw [Nat.mul_comm, Nat.mul_add_div (by omega), Nat.div_eq_of_lt h3]; omega
  · rw [Nat.mul_comm, Nat.mul_add_mod, Nat.mod_eq_of_lt h3]
theorem bval_set (L : List Nat) (j d : Nat) (h : j < L.length) : bval (L.set j d) + B9 ^ j * L[j]?.getD 0 = bval L + B9 ^ j * d := by
  rw [bval_split3 L j h, bval_split3 (L.set j d) j (by simpa using h), take_set_le _ _ _ _ (Nat.le_refl _), get_set_same L j d h, List.drop_set_of_lt (by omega)]
  simp only [Nat.mul_add]; omega
/-- the first k words of bs, times f, are added to the words of L0 from off on; c is the carry -/
def APB (bs L0 L : List Nat) (f off k c : Nat) : Prop := L.length = L0.length ∧ bok L ∧ L.drop (off + bs.length) = L0.drop (off + bs.length) ∧ c < B9 ∧
  bval L + B9 ^ (off + k) * c = bval L0 + B9 ^ off * (bval (bs.take k) * f)
theorem APB.start {bs L0 : List Nat} (f off : Nat) (h : bok L0) : APB bs L0 L0 f off 0 0 := ⟨rfl, h, rfl, by decide, by simp [bval]⟩
theorem APB.step {bs L0 L : List Nat} {f off k c d c' : Nat} (h : APB bs L0 L f off k c) (hk : k < bs.length) (hlen : off + bs.length ≤ L0.length) (hd : d < B9) (hc : c' < B9)
    (he : d + B9 * c' = L[off + k]?.getD 0 + c + bs[k]?.getD 0 * f) : APB bs L0 (L.set (off + k) d) f off (k + 1) c' := by
  obtain ⟨h1, h2, h3, h4, h5⟩ := h
  refine ⟨by simp [h1], bok_set h2 _ _ hd, by rw [List.drop_set_of_lt (by omega)]; exact h3, hc, ?_⟩
  have hs := bval_set L (off + k) d (by omega)
  rw [bval_take_succ bs, show off + (k + 1) = (off + k) + 1 from by omega, Nat.pow_succ]
  have e : B9 ^ (off + k) * (d + B9 * c') = B9 ^ (off + k) * (L[off + k]?.getD 0 + c + bs[k]?.getD 0 * f) := by rw [he]
  have e2 : B9 ^ off * (B9 ^ k * bs[k]?.getD 0 * f) = B9 ^ (off + k) * (bs[k]?.getD 0 * f) := by rw [Nat.pow_add, Nat.mul_assoc, Nat.mul_assoc]
  simp only [Nat.mul_add, Nat.add_mul, e2] at e hs h5 ⊢
  rw [Nat.mul_assoc (B9 ^ (off + k)) B9 c']
  omega
/-- the product of the first k words of xs and bs, with zeros above -/
def TimesB (xs bs L : List Nat) (k : Nat) : Prop := L.length = xs.length + bs.length ∧ bok L ∧ bval L = bval (xs.take k) * bval bs ∧ L.drop (k + bs.length) = List.replicate (xs.length - k) 0
theorem TimesB.start (xs bs : List Nat) : TimesB xs bs (List.replicate (xs.length + bs.length) 0) 0 := by
  refine ⟨by simp, bok_replicate _, ?_, by simp⟩
  simp only [List.take_zero, bval, Nat.zero_mul]
  induction (xs.length + bs.length) with
  | zero => rfl
  | succ n ih => simp [List.replicate_succ, bval, ih]
theorem TimesB.step {xs bs L L' : List Nat} {k c : Nat} (h : TimesB xs bs L k) (hk : k < xs.length) (ha : APB bs L L' (xs[k]?.getD 0) k bs.length c) :
    TimesB xs bs (L'.set (k + bs.length) c) (k + 1) := by
  obtain ⟨h1, h2, h3, h4⟩ := h
  obtain ⟨a1, a2, a3, a4, a5⟩ := ha
  have hs := bval_set L' (k + bs.length) c (by omega)
  have hz : L'[k + bs.length]?.getD 0 = 0 := by
    have : L'.drop (k + bs.length) = List.replicate (xs.length - k) 0 := by rw [a3, h4]
    have e : (L'.drop (k + bs.length))[0]?.getD 0 = L'[k + bs.length]?.getD 0 := by simp
    rw [← e, this]
    rw [List.getElem?_replicate]; split <;> rfl
  rw [hz] at hs
  refine ⟨by simp; omega, bok_set a2 _ _ a4, ?_, ?_⟩
  · rw [bval_take_succ xs]
    rw [List.take_of_length_le (Nat.le_refl _), h3] at a5
    simp only [Nat.add_mul]
    rw [Nat.mul_assoc, Nat.mul_comm (xs[k]?.getD 0) (bval bs)]
    omega
  · rw [show k + 1 + bs.length = k + bs.length + 1 from by omega, List.drop_set_of_lt (by omega), ← List.drop_drop, a3, h4, List.drop_replicate]
    congr 1
theorem TimesB.last {xs bs L : List Nat} (h : TimesB xs bs L xs.length) : bval L = bval xs * bval bs := by
  obtain ⟨h1, h2, h3, h4⟩ := h
  rw [h3, List.take_of_length_le (Nat.le_refl _)]
end Go.Proofs.YtneafcdfnhnpnaaGreatDoor
/- Contracts of the reference: digits compared. -/
namespace Go.Proofs.YtneafcdfnhnpnaaGreatDoor
open Go.RowKit Go.Lib

/-- the slice holds the digits of the number x, without zeros above -/
def Dg (w : World) (v : Value) (x : Nat) : Prop := ∃ ws, bval ws = x ∧ bok ws ∧ wnorm ws ∧ SlW w v (ncells ws)
theorem Dg.below {w w' : World} {v : Value} {x : Nat} (h : Dg w v x) (hb : Below w.heap.size w w') : Dg w' v x := by
  obtain ⟨ws, h1, h2, h3, h4⟩ := h
  exact ⟨ws, h1, h2, h3, h4.below hb⟩
theorem Dg.open_ {w : World} {v : Value} {x : Nat} (h : Dg w v x) : ∃ ws A c, v = .slice A ws.length c ∧ bval ws = x ∧ bok ws ∧ wnorm ws ∧ ws.length ≤ c ∧ ws.length ≤ 140737488355328 ∧ SlW w (.slice A ws.length c) (ncells ws) := by
  obtain ⟨ws, h1, h2, h3, h4⟩ := h
  obtain ⟨A, c, rfl, h5, h6⟩ := h4.form
  rw [ncells_length] at *
  exact ⟨ws, A, c, rfl, h1, h2, h3, h5, h6, h4⟩
@[irreducible] def lim9 : Nat := 1000000
theorem lim9_le : lim9 ≤ 1000000 := by unfold lim9; exact Nat.le_refl _
/-- a number that is short enough for every list of digits -/
def Big9 (x : Nat) : Prop := x < B9 ^ lim9
theorem Big9.le {x y : Nat} (h : Big9 x) (hy : y ≤ x) : Big9 y := Nat.lt_of_le_of_lt hy h
theorem Big9.len {ws : List Nat} {x : Nat} (h : Big9 x) (hn : wnorm ws) (hv : bval ws = x) : ws.length ≤ 1000000 := Nat.le_trans (bnorm_length hn (by rw [hv]; exact h)) lim9_le
theorem Ri.dg {w : World} {v : Value} {x : Int} (h : Ri w v x) : ∃ dv, v = .agg #[.bool (decide (x < 0)), dv] ∧ Dg w dv x.natAbs := by
  obtain ⟨dv, ws, h1, h2, h3, h4, h5⟩ := h
  exact ⟨dv, h1, ws, h2, h3, h4, h5⟩
theorem ord_len {a b : List Nat} (ha : bok a) (hb : wnorm b) (h : a.length < b.length) : ord3 (bval a) (bval b) = -1 := ord3_neg (bval_lt_of_length ha hb h)
theorem ord3_pos {x y : Nat} (h : y < x) : ord3 x y = 1 := by unfold ord3; rw [if_neg (by omega), if_pos h]
theorem ord3_self (x : Nat) : ord3 x x = 0 := by unfold ord3; rw [if_neg (by omega), if_neg (by omega)]
theorem dropN_step {p q : List Nat} {k : Nat} (hp : k < p.length) (hq : k < q.length) (h : p.drop (k + 1) = q.drop (k + 1)) (he : p[k]?.getD 0 = q[k]?.getD 0) : p.drop k = q.drop k := by
  rw [drop_cons p k hp, drop_cons q k hq, h, he]
set_option maxRecDepth 100000 in
set_option maxHeartbeats 2000000 in
theorem compareDigits_c (v u : Value) (x y : Nat) (w : World) (hv : Dg w v x) (hu : Dg w u y) :
    Calls Tryz.prog 185 #[v, u] w fun e w' => e = .returned (.int .i64 (ord3 x y)) ∧ Below w.heap.size w w' := by
  obtain ⟨p, A, c, rfl, e1, o1, n1, l1, l2, s1⟩ := hv.open_
  obtain ⟨q, B, d, rfl, e2, o2, n2, m1, m2, s2⟩ := hu.open_
  obtain ⟨r, hr⟩ : ∃ r, ord3 x y = r := ⟨_, rfl⟩
  rw [hr]
  subst e1 e2
  by_cases hl : p.length < q.length
  · have HR : Hid (r = -1) := Lib.hid (by rw [← hr]; exact ord_len o1 n2 hl)
    have hb : ((p.length : Int) != (q.length : Int)) = true := by simpa using (by omega : ¬ (p.length : Int) = q.length)
    have hlI : (p.length : Int) < (q.length : Int) := by omega
    clear hv hu s1 s2 hr n1 n2 o1 o2
    go_enter Tryz.func185, Tryz.ntmps185
    go_wp2
    go_ret
    exact ⟨by rw [HR.out]; rfl, Below.refl _ _⟩
  by_cases hl2 : q.length < p.length
  · have HR : Hid (r = 1) := Lib.hid (by rw [← hr]; exact ord3_pos (bval_lt_of_length o2 n1 hl2))
    have hb : ((p.length : Int) != (q.length : Int)) = true := by simpa using (by omega : ¬ (p.length : Int) = q.length)
    have hlI : ¬ (p.length : Int) < (q.length : Int) := by omega
    clear hv hu s1 s2 hr n1 n2 o1 o2
    go_enter Tryz.func185, Tryz.ntmps185
    go_wp2
    go_ret
    exact ⟨by rw [HR.out]; rfl, Below.refl _ _⟩
  have hle : p.length = q.length := by omega
  have hb : ((p.length : Int) != (q.length : Int)) = false := by rw [hle]; simp
  have HL := Lib.hid hle
  have HR := Lib.hid hr
  have HO := Lib.hid (And.intro o1 o2)
  have HS1 := Lib.hid s1
  have HS2 := Lib.hid s2
  clear hv hu s1 s2 hr n1 n2 o1 o2 hl hl2 hle
  go_enter Tryz.func185, Tryz.ntmps185
  go_wp2_with fail
  go_loopg [5] p.length (fun g i wr => i = .int .i64 ((g : Int) - 1) ∧ g ≤ p.length ∧ Hid (p.drop g = q.drop g) ∧ Below w.heap.size w wr)
  case atStart => exact ⟨by go_num, Nat.le_refl _, Lib.hid (by rw [List.drop_length, HL.out, List.drop_length]), Below.refl _ _⟩
  case round =>
    obtain ⟨rfl, hg, hD, hB⟩ := hrel
    cases gk with
    | zero =>
      have hin : ¬ ((0 : Int) ≤ ((0 : Nat) : Int) - 1) := by omega
      have HE : Hid (r = 0) := Lib.hid (by rw [← HR.out, show p = q from hD.out, ord3_self])
      clear hD
      go_wp2
      go_ret
      exact ⟨by rw [HE.out]; rfl, hB⟩
    | succ k =>
      have hlt : k < p.length := by omega
      have hlq : k < q.length := by have := HL.out; omega
      obtain ⟨b1, off1, rfl, hbb1, hcell1⟩ := HS1.out.at_ (k := k) (by rw [ncells_length]; omega)
      obtain ⟨b2, off2, rfl, hbb2, hcell2⟩ := HS2.out.at_ (k := k) (by rw [ncells_length]; omega)
      have hck1 := (hB.cell (p := ⟨b1, off1 + k, none⟩) hbb1).trans ((hcell1 k (by rw [ncells_length]; omega)).trans (ncells_get p k hlt))
      have hck2 := (hB.cell (p := ⟨b2, off2 + k, none⟩) hbb2).trans ((hcell2 k (by rw [ncells_length]; omega)).trans (ncells_get q k hlq))
      have HST := Lib.hid (fun he => dropN_step hlt hlq hD.out he)
      have HLT : Hid (p[k]?.getD 0 < q[k]?.getD 0 → r = -1) := Lib.hid (fun h => by rw [← HR.out]; exact ord3_neg (bval_lt_at HO.out.1 HL.out k hlt hD.out h))
      have HGT : Hid (q[k]?.getD 0 < p[k]?.getD 0 → r = 1) := Lib.hid (fun h => by rw [← HR.out]; exact ord3_pos (bval_lt_at HO.out.2 HL.out.symm k hlq hD.out.symm h))
      clear hcell1 hcell2 hD
      generalize p[k]?.getD 0 = s at *
      generalize q[k]?.getD 0 = t at *
      by_cases h1 : s < t
      · have h1I : (s : Int) < (t : Int) := by omega
        have HE := Lib.hid (HLT.out h1)
        clear h1 HLT HGT HST
        go_wp2
        go_quiet (fail)
        have hB' := below_drewN hB nq
        go_wp2
        go_ret
        exact ⟨by rw [HE.out]; rfl, hB'⟩
      · by_cases h2 : t < s
        · have h1I : ¬ (s : Int) < (t : Int) := by omega
          have h2I : (t : Int) < (s : Int) := by omega
          have HE := Lib.hid (HGT.out h2)
          clear h1 h2 HLT HGT HST
          go_wp2
          go_quiet (fail)
          have hB' := below_drewN hB nq
          go_wp2
          go_quiet (fail)
          have hB2 := below_drewN hB' nq
          go_wp2
          go_ret
          exact ⟨by rw [HE.out]; rfl, hB2⟩
        · have h1I : ¬ (s : Int) < (t : Int) := by omega
          have h2I : ¬ (t : Int) < (s : Int) := by omega
          have HE := Lib.hid (HST.out (by omega))
          clear h1 h2 HLT HGT HST
          go_wp2
          go_quiet (fail)
          have hB' := below_drewN hB nq
          go_wp2
          go_quiet (fail)
          have hB2 := below_drewN hB' nq
          go_wp2
          go_roundg k
          case rel => exact ⟨by go_num, by omega, HE, below_drewN hB _⟩
          case measure => omega
end Go.Proofs.YtneafcdfnhnpnaaGreatDoor
