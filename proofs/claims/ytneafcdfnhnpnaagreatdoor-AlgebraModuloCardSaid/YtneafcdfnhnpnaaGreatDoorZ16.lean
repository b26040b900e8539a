/- Contract: conditionsOfRefutation. -/
import Derived.Test.YtneafcdfnhnpnaaGreatDoorZ15
import Derived.Test.YtneafcdfnhnpnaaGreatDoorZ03
import Derived.Test.YtneafcdfnhnpnaaGreatDoorZ07
import Derived.Test.YtneafcdfnhnpnaaGreatDoorZSh
import Derived.Laws.IdiomCopy
import Derived.Lib.LazyBuf
import Derived.Deep.Upon
import Derived.Deep.LoopGhost
import Derived.Test.YtneafcdfnhnpnaaGreatDoorZ09
import Derived.Test.YtneafcdfnhnpnaaGreatDoorZ06
import Derived.Test.YtneafcdfnhnpnaaGreatDoorZ10
import Derived.Test.YtneafcdfnhnpnaaGreatDoorZ11
import Derived.RangeFuncNested
import Derived.RangeFuncBound
import Derived.RangeFuncCalls
import Derived.RangeFuncLeaves
import Derived.Test.YtneafcdfnhnpnaaGreatDoorZ01
import Derived.Laws.AppendOwn
import Derived.Sort.LoopGhostIn
import Derived.Shelf.RegionOpen
import Derived.WalkKit
import Derived.OwnWalkIn
import Derived.TacticsInMore
import Derived.LoopNIn
import Derived.LoopIn
import Derived.Maps.AppendAt
namespace Go.Proofs.YtneafcdfnhnpnaaGreatDoor
open Go.RowKit Go.Lib

/-- a list of rows that a call has made, the rows themselves wherever -/
def EqsQ (w : World) (base : Nat) (v : Value) (B : List RowR) : Prop :=
  w.ownsRow base 167 1 v B.length (B.map fun r => Value.slice (some ⟨r.1, 0, none⟩) r.2.2.length r.2.1) ∧ AllIn w NoU v ∧ ∀ r ∈ B, (∃ es, RowQ w r.1 es r.2.2) ∧ r.2.2.length ≤ r.2.1
theorem EqsQ.below {w w' : World} {base : Nat} {v : Value} {B : List RowR} (h : EqsQ w base v B) (hb : Below w.heap.size w w') : EqsQ w' base v B :=
  ⟨oBelow h.1 hb, cinBelow h.2.1 h.1 hb, fun r hr => ⟨by obtain ⟨es, he⟩ := (h.2.2 r hr).1; exact ⟨es, he.below hb⟩, (h.2.2 r hr).2⟩⟩
theorem EqsQ.keep {w w' : World} {base : Nat} {v : Value} {B : List RowR} (h : EqsQ w base v B) (hK : Keeps w w') (hv : ∀ k, v.ownBlock = some k → w'.heap[k]? = w.heap[k]?) (hk : ∀ r ∈ B, w'.heap[r.1]? = w.heap[r.1]?) : EqsQ w' base v B :=
  ⟨oKeep h.1 (fun k _ e => hv k e), h.2.1.same hv, fun r hr => ⟨by obtain ⟨es, he⟩ := (h.2.2 r hr).1; exact ⟨es, he.keeps hK (hk r hr)⟩, (h.2.2 r hr).2⟩⟩
theorem EqsQ.snoc {w w' : World} {base : Nat} {v v' : Value} {B : List RowR} {r : RowR} (h : EqsQ w base v B) (hg : w.grownBy w' v.ownBlock) (hown : w'.ownsRow base 167 1 v' (B.length + 1) (B.map (fun r => Value.slice (some ⟨r.1, 0, none⟩) r.2.2.length r.2.1) ++ [.slice (some ⟨r.1, 0, none⟩) r.2.2.length r.2.1]))
    (hall : AllIn w' NoU v') (hO : ∃ es, RowQ w r.1 es r.2.2) (hl : r.2.2.length ≤ r.2.1) : EqsQ w' base v' (B ++ [r]) := by
  have hK := Keeps.grown hg h.1 h.2.1
  have hk : ∀ (k : Nat) (es : List El) (q : List Rat), RowQ w k es q → RowQ w' k es q := fun k es q hq => hq.keeps hK (hg.block k hq.own.lt (fun e => own_ne hq.own h.1 (by decide) e.symm))
  refine ⟨by rw [List.map_append, List.length_append]; exact hown, hall, fun x hx => ?_⟩
  rcases List.mem_append.1 hx with hx | hx
  · have := h.2.2 x hx
    obtain ⟨es, he⟩ := this.1
    exact ⟨⟨es, hk _ _ _ he⟩, this.2⟩
  · obtain rfl := List.mem_singleton.1 hx
    obtain ⟨es, he⟩ := hO
    exact ⟨⟨es, hk _ _ _ he⟩, hl⟩
theorem PivQ.snoc {w w' : World} {base : Nat} {v v' : Value} {V : List Rat} {es : List El} (ho : w.ownsRow base 122 3 v V.length (ecells es)) (hl : es.length = V.length) (ha0 : AllIn w NoU v) (hr : ∀ (i : Nat) (e : El) (q : Rat), es[i]? = some e → V[i]? = some q → Rt w (elV e) q)
    {e : El} {x : Rat} (hx : Rt w (elV e) x) (hown : w'.ownsRow base 122 3 v' (V.length + 1) (ecells es ++ elC e)) (hall : AllIn w' NoU v') (hg : w.grownBy w' v.ownBlock) : PivQ w' base v' (V ++ [x]) := by
  have hK := Keeps.grown hg ho ha0
  refine ⟨es ++ [e], by rw [ecells_snoc, List.length_append]; exact hown, by simp [hl], hall, fun i e' q he hq => ?_⟩
  rcases Nat.lt_or_ge i es.length with hi | hi
  · rw [List.getElem?_append_left hi] at he
    rw [List.getElem?_append_left (by omega)] at hq
    exact (hr i e' q he hq).keeps hK
  · rw [List.getElem?_append_right hi] at he
    rw [List.getElem?_append_right (by omega)] at hq
    rw [← hl] at hq
    have h0 : i - es.length = 0 := by
      rcases Nat.eq_zero_or_pos (i - es.length) with h0 | h0
      · exact h0
      · rw [List.getElem?_eq_none (by simp; omega)] at he; cases he
    rw [h0] at he hq
    simp at he hq
    subst he hq
    exact hx.keeps hK
theorem PivQ.grown {w w' : World} {base : Nat} {v : Value} {V : List Rat} {u : Value} {e : TypeId} {s n : Nat} {xs : List Value} {base' : Nat} (h : PivQ w base v V) (hg : w.grownBy w' u.ownBlock) (ho : w.ownsRow base' e s u n xs) (ha : AllIn w NoU u) (hte : 122 ≠ e) : PivQ w' base v V := by
  refine h.keep (Keeps.grown hg ho ha) fun k hk => hg.block k (h.lt k hk).2 ?_
  obtain ⟨es, hp, _⟩ := h
  exact fun e' => own_ne2 hp ho hte k hk e'.symm
theorem EqsQ.grown {w w' : World} {base : Nat} {v : Value} {B : List RowR} {u : Value} {s n : Nat} {xs : List Value} {base' : Nat} (h : EqsQ w base v B) (hg : w.grownBy w' u.ownBlock) (ho : w.ownsRow base' 122 s u n xs) (ha : AllIn w NoU u) (hB : ∀ r ∈ B, u.ownBlock ≠ some r.1) : EqsQ w' base v B := by
  refine h.keep (Keeps.grown hg ho ha) (fun k hk => hg.block k (h.1.lt k hk).2 (fun e' => own_ne2 h.1 ho (by decide) k hk e'.symm)) (fun r hr => ?_)
  obtain ⟨es, he⟩ := (h.2.2 r hr).1
  exact hg.block r.1 he.own.lt (fun e' => hB r hr e'.symm)
/-- a column -/
def colL (M : List (List Rat)) (j : Nat) : List Rat := M.map fun L => L[j]?.getD 0
def condPost (n : Nat) (M : List (List Rat)) (b : List Rat) (w : World) (e : Ending) (w' : World) : Prop :=
  ∃ ev B sv, e = .returned (.tuple #[ev, sv]) ∧ B.map (·.2.2) = (List.range n).map (colL M) ++ [b] ∧ EqsQ w' w.heap.size ev B ∧ PivQ w' w.heap.size sv (List.replicate n 0 ++ [1]) ∧ Below w.heap.size w w'
theorem of0R (w : World) : Calls Tryz.prog 125 #[.int .i64 0] w (ratPost 0 w) := by simpa using rationalOf_c 0 w (by omega) (by omega)
theorem of1R (w : World) : Calls Tryz.prog 125 #[.int .i64 1] w (ratPost 1 w) := by simpa using rationalOf_c 1 w (by omega) (by omega)

set_option maxRecDepth 100000 in
set_option maxHeartbeats 4000000 in
theorem conditions_c (g c n bR cR : Nat) (R : List RowR) (esR : List El) (b : List Rat) (w : World) (hM : MxR w g R n) (hc2 : R.length ≤ 1000000) (hn : n ≤ 999999) (h0 : R = [] → n = 0)
    (hb : RowQ w bR esR b) (hbl : b.length = R.length) (hcR : b.length ≤ cR) :
    Calls Tryz.prog 156 #[.slice (some ⟨g, 0, none⟩) R.length c, .slice (some ⟨bR, 0, none⟩) R.length cR] w (condPost n (valsT R) b w) := by
  have HM := Lib.hid hM
  have HB := Lib.hid hb
  have HBl := Lib.hid hbl
  have HcR := Lib.hid hcR
  have WD : Hid (Calls Tryz.prog 159 #[.slice (some ⟨g, 0, none⟩) R.length c] w fun e w' => e = .returned (.int .i64 (n : Int)) ∧ w = w') := Lib.hid (by
    have h := widthR_c g c n R w hM
    by_cases hR : R = []
    · rw [if_pos hR] at h; rw [h0 hR]; exact h
    · rw [if_neg hR] at h; exact h)
  clear hM hb hbl hcR h0
  obtain ⟨i0, hi0, hz0, hz1, hz2⟩ := info_parts info_slr
  obtain ⟨j0, hj0, hw0, hw1, hw2⟩ := info_parts info_rational
  go_enter Tryz.func156, Tryz.ntmps156
  go_wp2_with (go_at_call 159; refine WD.out.mono ?_; rintro e w' ⟨rfl, rfl⟩)
  clear WD
  go_loopg [4, 5, 12] n (fun gh ev sv jx wr => ∃ (j : Nat) (B : List RowR), jx = .int .i64 j ∧ j + gh = n ∧ B.length = j ∧ Hid (B.map (·.2.2) = (List.range j).map (colL (valsT R))) ∧ Hid (∀ r ∈ B, ∃ cs, Own wr r.1 122 cs ∧ w.heap.size ≤ r.1 ∧ sv.ownBlock ≠ some r.1) ∧ Hid (EqsQ wr w.heap.size ev B) ∧ Hid (PivQ wr w.heap.size sv (List.replicate j 0)) ∧ Hid (Below w.heap.size w wr))
  case atStart => exact ⟨0, [], rfl, by omega, rfl, Lib.hid rfl, Lib.hid (by simp), Lib.hid ⟨World.ownsRow_nil _ _ _ _, AllIn.nil _ _, by simp⟩, Lib.hid ⟨[], World.ownsRow_nil _ _ _ _, rfl, AllIn.nil _ _, fun i e q h => by simp at h⟩, Lib.hid (Below.refl _ _)⟩
  case round =>
    obtain ⟨j, B, rfl, hj, hBl, hBv, hBo, hE, hS, hW⟩ := hrel
    obtain ⟨A4, c4, hev, _, _⟩ := oForm hE.out.1
    obtain ⟨A5, c5, hsv, _, _⟩ := hS.out.form
    rw [List.length_replicate] at hsv
    rw [hBl] at hev
    subst hev hsv
    have hal : Hid (∀ o : Obj, Below wr.heap.size wr (wr.alloc o)) := Lib.hid (fun o => (Below.refl _ _).alloc (Nat.le_refl _) _)
    have hww := hW.out.size
    cases gk with
    | zero =>
      have hin : ¬ ((j : Int) < (n : Int)) := by omega
      have hjn : j = n := by omega
      subst hjn
      have hcb : b.length ≤ cR := HcR.out
      rw [← HBl.out]
      have HB2 := Lib.hid (HB.out.below hW.out)
      have hBR : bR < w.heap.size := HB.out.own.lt
      have hE1 := hE.out.1
      rw [hBl] at hE1
      have HE1 := Lib.hid hE1
      have HBL := Lib.hid hBl
      clear hE1 hBl hj
      go_wp2_with (at_builtin; (refine wpList_append_all _ (o := ⟨some 45, _, _, _, _, _⟩) rfl _ _ 163 rfl w.heap.size 167 i0 (.slice none 0 0) 1 24 Tryz.underlying163 hi0 hz0 hz1 hz2 rfl (by decide) _ _ _ rfl (HE1.out.alloc _) ⟨wr.heap.size, 0, none⟩ 1 1 [.slice (some ⟨bR, 0, none⟩) b.length cR] rfl rfl (cell_one_new _ _ _) (fun x hx => by simp at hx; subst hx; rfl) (by unfold maxLen; omega) (by omega) (by simp; omega) (by decide) NoU (cinBelow hE.out.2.1 HE1.out (hal.out _)) (news_sl _ _ _) zero_sl ?_; intro v7 w7 hown7 hgrow7 hall7))
      have hg7 : (wr.alloc (.cells #[.slice (some ⟨bR, 0, none⟩) b.length cR] 167)).grownBy w7 (Value.slice A4 j c4).ownBlock := hgrow7
      have HE7 : Hid (EqsQ w7 w.heap.size v7 (B ++ [(bR, cR, b)])) := Lib.hid ((hE.out.below (hal.out _)).snoc (r := (bR, cR, b)) hg7 (by rw [HBL.out]; exact hown7) hall7 ⟨esR, HB2.out.below (hal.out _)⟩ hcb)
      have HS7 := Lib.hid ((hS.out.below (hal.out (.cells #[.slice (some ⟨bR, 0, none⟩) b.length cR] 167))).grown hg7 (oBelow HE1.out (hal.out _)) (cinBelow hE.out.2.1 HE1.out (hal.out _)) (by decide))
      have HW7 : Hid (Below w.heap.size w w7) := Lib.hid (Below.grown (hW.out.alloc hww _) hg7 (by simp; omega) (fun k hk => (HE1.out.lt k hk).1))
      have HNE : Hid (∀ r ∈ B ++ [((bR, cR, b) : RowR)], (Value.slice A5 j c5).ownBlock ≠ some r.1) := Lib.hid (fun r hr => by
        rcases List.mem_append.1 hr with hr | hr
        · obtain ⟨_, _, _, h⟩ := hBo.out r hr; exact h
        · obtain rfl := List.mem_singleton.1 hr
          intro e
          have := (hS.out.lt _ e).1
          dsimp only at this
          omega)
      have HVals : Hid ((B ++ [((bR, cR, b) : RowR)]).map (·.2.2) = (List.range j).map (colL (valsT R)) ++ [b]) := Lib.hid (by rw [List.map_append, hBv.out]; rfl)
      clear hown7 hgrow7 hg7 hall7 hE hS hBo hBv hW hal HE1
      generalize B ++ [((bR, cR, b) : RowR)] = B7 at *
      refine (of1R _).mono ?_
      rintro e w8 ⟨ov, rfl, hov, hB8⟩
      obtain ⟨os, O1, on1, oc1, O2, on2, oc2, rfl⟩ := hov.shape
      have HE8 := Lib.hid (HE7.out.below hB8)
      have HW8 := Lib.hid (HW7.out.trans (hB8.mono HW7.out.size))
      have hS8 := HS7.out.below hB8
      obtain ⟨esS, ho8, hl8, ha8, hr8⟩ := hS8
      have ho8' := ho8
      rw [List.length_replicate] at ho8'
      have Ho8 := Lib.hid ho8'
      have Ho8l := Lib.hid ho8
      have Hl8 := Lib.hid hl8
      have Ha8 := Lib.hid ha8
      have Hr8 := Lib.hid hr8
      have Hov := Lib.hid hov
      have hal8 : Hid (∀ o : Obj, Below w8.heap.size w8 (w8.alloc o)) := Lib.hid (fun o => (Below.refl _ _).alloc (Nat.le_refl _) _)
      have hw8 := HW8.out.size
      clear HE7 HS7 HW7 hB8 ho8 ho8' hl8 ha8 hr8 hov
      go_wp2_with (at_builtin; (refine wpList_append_all _ (o := ⟨some 49, _, _, _, _, _⟩) rfl _ _ 167 rfl w.heap.size 122 j0 ratZero 3 56 Tryz.underlying167 hj0 hw0 hw1 hw2 rfl (by decide) _ _ _ rfl (Ho8.out.alloc _) ⟨w8.heap.size, 0, none⟩ 1 1 [.bool os, .slice O1 on1 oc1, .slice O2 on2 oc2] rfl rfl (cell_three_new _ _ _ _ _) (one_el _ _ _ _ _ _ _) (by unfold maxLen; omega) (by omega) (by simp; omega) (by decide) NoU (cinBelow Ha8.out Ho8.out (hal8.out _)) (news_el _ _ _ _ _ _ _) zero_rat ?_; intro v9 w9 hown9 hgrow9 hall9))
      have hg9 : (w8.alloc (.cells #[.bool os, .slice O1 on1 oc1, .slice O2 on2 oc2] 122)).grownBy w9 (Value.slice A5 j c5).ownBlock := hgrow9
      have HS9 : Hid (PivQ w9 w.heap.size v9 (List.replicate j 0 ++ [1])) := Lib.hid (PivQ.snoc (e := (os, .slice O1 on1 oc1, .slice O2 on2 oc2)) (oBelow Ho8l.out (hal8.out _)) Hl8.out (cinBelow Ha8.out Ho8.out (hal8.out _)) (fun i e q h1 h2 => (Hr8.out i e q h1 h2).below (hal8.out _)) (Hov.out.below (hal8.out _)) (by rw [List.length_replicate]; exact hown9) hall9 hg9)
      have HE9 : Hid (EqsQ w9 w.heap.size v7 B7) := Lib.hid ((HE8.out.below (hal8.out _)).grown hg9 (oBelow Ho8.out (hal8.out _)) (cinBelow Ha8.out Ho8.out (hal8.out _)) HNE.out)
      have HW9 : Hid (Below w.heap.size w w9) := Lib.hid (Below.grown (HW8.out.alloc hw8 _) hg9 (by simp; omega) (fun k hk => (Ho8.out.lt k hk).1))
      clear hown9 hgrow9 hg9 hall9
      go_ret2
      exact ⟨v7, B7, v9, rfl, HVals.out, HE9.out, HS9.out, HW9.out⟩
    | succ gh =>
      have hlt : j < n := by omega
      have hlt' : (j : Int) < (n : Int) := by omega
      have hmk := make_rat wr zeroEl R.length hc2
      have HO : Hid (RowQ (wr.alloc (.cells (fillQ zeroEl R.length 0).toArray 122)) wr.heap.size (List.replicate R.length zeroEl) ((colL (valsT R) j).take 0)) := Lib.hid (by
        refine ⟨?_, by simp, fun e he => ?_, fun i e q h1 h2 => by simp at h2⟩
        · have := Own.make wr 122 (fillQ zeroEl R.length 0)
          rw [show fillQ zeroEl R.length 0 = ecells (List.replicate R.length zeroEl) by simp [fillQ]] at this ⊢
          exact this
        · rw [List.eq_of_mem_replicate he]; exact ⟨noInt_slice _ _ _, noInt_slice _ _ _⟩)
      have HCl : Hid ((colL (valsT R) j).length = R.length) := Lib.hid (by unfold colL; rw [List.length_map, vals_len])
      have Hj := Lib.hid hj
      clear hj
      go_wp2_with fail
      clear hmk
      obtain ⟨wb, rfl⟩ : ∃ wb, wb = wr := ⟨_, rfl⟩
      go_loopg [20] R.length (fun gh2 ix wx => ∃ (i : Nat) (es : List El), ix = .int .i64 i ∧ i + gh2 = R.length ∧ Hid (RowQ wx wb.heap.size es ((colL (valsT R) j).take i)) ∧ Hid (es.length = R.length) ∧ Hid (Below wb.heap.size wb wx))
      case atStart => exact ⟨0, _, rfl, by omega, HO, Lib.hid (by simp), Lib.hid ((Below.refl _ _).alloc (Nat.le_refl _) _)⟩
      case round =>
        clear HO
        obtain ⟨i, es, rfl, hi, hO, hEl, hWx⟩ := hrel
        cases gk with
        | succ gh2 =>
          have hil : i < R.length := by omega
          have hil' : (i : Int) < (R.length : Int) := by omega
          obtain ⟨r, hr⟩ : ∃ r, R[i]? = some r := ⟨R[i], List.getElem?_eq_getElem hil⟩
          have hMx := HM.out.below (hW.out.trans (hWx.out.mono hww))
          have cc1 := hMx.cellRow hr
          have hgl := hMx.own.lt
          obtain ⟨⟨esr, hrq⟩, hrl, hrc1, hrc2⟩ := hMx.row _ (List.mem_of_getElem? hr)
          obtain ⟨er, R1, rn1, rc1, R2, rn2, rc2, zz0, her, hrt, d0, d1, d2, zz1, zz2, zz3⟩ := hrq.at_ (j := j) (by rw [hrl]; exact hlt)
          clear zz0 zz1 zz2 zz3
          obtain ⟨er0, era, erb⟩ := er
          have her' : era = .slice R1 rn1 rc1 ∧ erb = .slice R2 rn2 rc2 := by simpa using her
          obtain ⟨rfl, rfl⟩ := her'
          clear her
          unfold elV at hrt
          dsimp only at d0 hrt
          have hrbl := hrq.own.lt
          have hql : ((colL (valsT R) j).take i).length = i := by rw [List.length_take, HCl.out]; omega
          have hies : i < es.length := by rw [hEl.out]; exact hil
          obtain ⟨x0, x1, x2, k0, k1, k2, f0, f1, f2⟩ := hO.out.raw hies
          have hbl := hO.out.own.lt
          have HV : Hid ((colL (valsT R) j).take (i + 1) = (colL (valsT R) j).take i ++ [r.2.2[j]?.getD 0]) := Lib.hid (by
            rw [List.take_add_one]
            unfold colL valsT
            rw [List.getElem?_map, List.getElem?_map, hr]; rfl)
          have HO2 : Hid (RowQ (((wr.setCell ⟨wb.heap.size, i * 3, none⟩ (.bool er0)).setCell ⟨wb.heap.size, i * 3 + 1, none⟩ (.slice R1 rn1 rc1)).setCell ⟨wb.heap.size, i * 3 + 2, none⟩ (.slice R2 rn2 rc2)) wb.heap.size (es.set i (er0, .slice R1 rn1 rc1, .slice R2 rn2 rc2)) ((colL (valsT R) j).take (i + 1))) := Lib.hid (by
            have := hO.out.push (e := (er0, .slice R1 rn1 rc1, .slice R2 rn2 rc2)) (q := r.2.2[j]?.getD 0) (by rw [hql]; exact hies) hrt
            rw [hql, ← HV.out] at this
            exact this)
          have HW2 := Lib.hid (((hWx.out.setCell (p := ⟨wb.heap.size, i * 3, none⟩) (Nat.le_refl _) (.bool er0)).setCell (p := ⟨wb.heap.size, i * 3 + 1, none⟩) (Nat.le_refl _) (.slice R1 rn1 rc1)).setCell (p := ⟨wb.heap.size, i * 3 + 2, none⟩) (Nat.le_refl _) (.slice R2 rn2 rc2))
          have HL2 : Hid ((es.set i (er0, .slice R1 rn1 rc1, .slice R2 rn2 rc2)).length = R.length) := Lib.hid (by rw [List.length_set]; exact hEl.out)
          generalize es.set i (er0, .slice R1 rn1 rc1, .slice R2 rn2 rc2) = es2 at *
          have Hi := Lib.hid hi
          obtain ⟨rb, rc, rl⟩ := r
          unfold rowW at cc1
          dsimp only at cc1 hrl hrc1 hrc2 hrbl d0 d1 d2
          clear hr hMx hrq hrt hO hEl hWx HV hi hql hies hrl
          go_wp2
          go_roundg gh2
          case rel => exact ⟨i + 1, es2, by go_num, by have := Hi.out; omega, HO2, HL2, HW2⟩
          case measure => omega
        | zero =>
          have hin2 : ¬ ((i : Int) < (R.length : Int)) := by omega
          have HO' : Hid (RowQ wr wb.heap.size es (colL (valsT R) j)) := Lib.hid (by
            have := hO.out
            rwa [show i = (colL (valsT R) j).length by rw [HCl.out]; omega, List.take_length] at this)
          have HW1 := Lib.hid (hW.out.trans (hWx.out.mono hww))
          have HE0 := Lib.hid (hE.out.below hWx.out)
          have HS0 := Lib.hid (hS.out.below hWx.out)
          have hE1 := HE0.out.1
          rw [hBl] at hE1
          have HE1 := Lib.hid hE1
          have HBL := Lib.hid hBl
          have hww1 := HW1.out.size
          have halr : Hid (∀ o : Obj, Below wr.heap.size wr (wr.alloc o)) := Lib.hid (fun o => (Below.refl _ _).alloc (Nat.le_refl _) _)
          have HBo : Hid (∀ r ∈ B, w.heap.size ≤ r.1 ∧ r.1 < wb.heap.size ∧ (Value.slice A5 j c5).ownBlock ≠ some r.1) := Lib.hid (fun r hr => by obtain ⟨cs, h1, h2, h3⟩ := hBo.out r hr; exact ⟨h2, h1.lt, h3⟩)
          have HSl : Hid (∀ k, (Value.slice A5 j c5).ownBlock = some k → k < wb.heap.size) := Lib.hid (fun k hk => (hS.out.lt k hk).2)
          have hwbl : wb.heap.size < wr.heap.size := HO'.out.own.lt
          clear hO hEl hi hE hS hWx hE1 hBl hBo hal
          go_wp2_with (at_builtin; (refine wpList_append_all _ (o := ⟨some 36, _, _, _, _, _⟩) rfl _ _ 163 rfl w.heap.size 167 i0 (.slice none 0 0) 1 24 Tryz.underlying163 hi0 hz0 hz1 hz2 rfl (by decide) _ _ _ rfl (HE1.out.alloc _) ⟨wr.heap.size, 0, none⟩ 1 1 [.slice (some ⟨wb.heap.size, 0, none⟩) R.length R.length] rfl rfl (cell_one_new _ _ _) (fun x hx => by simp at hx; subst hx; rfl) (by unfold maxLen; omega) (by omega) (by simp; omega) (by decide) NoU (cinBelow HE0.out.2.1 HE1.out (halr.out _)) (news_sl _ _ _) zero_sl ?_; intro v7 w7 hown7 hgrow7 hall7))
          have hg7 : (wr.alloc (.cells #[.slice (some ⟨wb.heap.size, 0, none⟩) R.length R.length] 167)).grownBy w7 (Value.slice A4 j c4).ownBlock := hgrow7
          have HE7 : Hid (EqsQ w7 w.heap.size v7 (B ++ [(wb.heap.size, R.length, colL (valsT R) j)])) := Lib.hid ((HE0.out.below (halr.out _)).snoc (r := (wb.heap.size, R.length, colL (valsT R) j)) hg7 (by rw [HBL.out]; dsimp only; rw [HCl.out]; exact hown7) hall7 ⟨es, HO'.out.below (halr.out _)⟩ (by dsimp only; rw [HCl.out]; exact Nat.le_refl _))
          have HS7 := Lib.hid ((HS0.out.below (halr.out (.cells #[.slice (some ⟨wb.heap.size, 0, none⟩) R.length R.length] 167))).grown hg7 (oBelow HE1.out (halr.out _)) (cinBelow HE0.out.2.1 HE1.out (halr.out _)) (by decide))
          have HW7 : Hid (Below w.heap.size w w7) := Lib.hid (Below.grown (HW1.out.alloc hww1 _) hg7 (by simp; omega) (fun k hk => (HE1.out.lt k hk).1))
          have HBo7 : Hid (∀ r ∈ B ++ [((wb.heap.size, R.length, colL (valsT R) j) : RowR)], w.heap.size ≤ r.1 ∧ r.1 ≤ wb.heap.size ∧ (Value.slice A5 j c5).ownBlock ≠ some r.1) := Lib.hid (fun r hr => by
            rcases List.mem_append.1 hr with hr | hr
            · have := HBo.out r hr; exact ⟨this.1, Nat.le_of_lt this.2.1, this.2.2⟩
            · obtain rfl := List.mem_singleton.1 hr
              exact ⟨hww, Nat.le_refl _, fun e => by have := HSl.out _ e; dsimp only at this; omega⟩)
          have HBv7 : Hid ((B ++ [((wb.heap.size, R.length, colL (valsT R) j) : RowR)]).map (·.2.2) = (List.range (j + 1)).map (colL (valsT R))) := Lib.hid (by rw [List.map_append, hBv.out, List.range_succ, List.map_append]; rfl)
          have HBl7 : Hid ((B ++ [((wb.heap.size, R.length, colL (valsT R) j) : RowR)]).length = j + 1) := Lib.hid (by rw [List.length_append, HBL.out]; rfl)
          have hw7b : wb.heap.size < w7.heap.size := by have := hg7.size; simp at this; omega
          obtain ⟨A7, c7, hv7, _, _⟩ := oForm hown7
          subst hv7
          clear hown7 hgrow7 hg7 hall7 HE0 HS0 HW1 HE1 HO' HBo hBv hW
          generalize B ++ [((wb.heap.size, R.length, colL (valsT R) j) : RowR)] = B7 at *
          go_wp2_with fail
          refine (of0R _).mono ?_
          rintro e w8 ⟨ov, rfl, hov, hB8⟩
          obtain ⟨os, O1, on1, oc1, O2, on2, oc2, rfl⟩ := hov.shape
          have HE8 := Lib.hid (HE7.out.below hB8)
          have HW8 := Lib.hid (HW7.out.trans (hB8.mono HW7.out.size))
          have hw8b : wb.heap.size < w8.heap.size := Nat.lt_of_lt_of_le hw7b hB8.size
          have hS8 := HS7.out.below hB8
          obtain ⟨esS, ho8, hl8, ha8, hr8⟩ := hS8
          have ho8' := ho8
          rw [List.length_replicate] at ho8'
          have Ho8 := Lib.hid ho8'
          have Ho8l := Lib.hid ho8
          have Hl8 := Lib.hid hl8
          have Ha8 := Lib.hid ha8
          have Hr8 := Lib.hid hr8
          have Hov := Lib.hid hov
          have hal8 : Hid (∀ o : Obj, Below w8.heap.size w8 (w8.alloc o)) := Lib.hid (fun o => (Below.refl _ _).alloc (Nat.le_refl _) _)
          have hw8 := HW8.out.size
          clear HE7 HS7 HW7 hB8 ho8 ho8' hl8 ha8 hr8 hov
          go_wp2_with (at_builtin; (refine wpList_append_all_at _ (o := ⟨some 40, _, _, _, _, _⟩) rfl _ _ 167 rfl w.heap.size 122 j0 ratZero 3 56 Tryz.underlying167 hj0 hw0 hw1 hw2 rfl (by decide) _ _ _ rfl (Ho8.out.alloc _) ⟨w8.heap.size, 0, none⟩ 1 1 [.bool os, .slice O1 on1 oc1, .slice O2 on2 oc2] rfl rfl (cell_three_new _ _ _ _ _) (one_el _ _ _ _ _ _ _) (by unfold maxLen; omega) (by omega) (by simp; omega) (by decide) NoU (cinBelow Ha8.out Ho8.out (hal8.out _)) (news_el _ _ _ _ _ _ _) zero_rat ?_; intro v9 w9 hown9 hgrow9 hall9 hat9))
          have hg9 : (w8.alloc (.cells #[.bool os, .slice O1 on1 oc1, .slice O2 on2 oc2] 122)).grownBy w9 (Value.slice A5 j c5).ownBlock := hgrow9
          have hat9' : v9.ownBlock = (Value.slice A5 j c5).ownBlock ∨ v9.ownBlock = some (w8.heap.size + 1) := hat9.imp id (fun h => h.trans (congrArg some (Array.size_push _)))
          have HS9 : Hid (PivQ w9 w.heap.size v9 (List.replicate (j + 1) 0)) := Lib.hid (by
            rw [List.replicate_succ']
            exact PivQ.snoc (e := (os, .slice O1 on1 oc1, .slice O2 on2 oc2)) (oBelow Ho8l.out (hal8.out _)) Hl8.out (cinBelow Ha8.out Ho8.out (hal8.out _)) (fun i e q h1 h2 => (Hr8.out i e q h1 h2).below (hal8.out _)) (Hov.out.below (hal8.out _)) (by rw [List.length_replicate]; exact hown9) hall9 hg9)
          have HE9 : Hid (EqsQ w9 w.heap.size (Value.slice A7 (j + 1) c7) B7) := Lib.hid ((HE8.out.below (hal8.out _)).grown hg9 (oBelow Ho8.out (hal8.out _)) (cinBelow Ha8.out Ho8.out (hal8.out _)) (fun r hr => (HBo7.out r hr).2.2))
          have HW9 : Hid (Below w.heap.size w w9) := Lib.hid (Below.grown (HW8.out.alloc hw8 _) hg9 (by simp; omega) (fun k hk => (Ho8.out.lt k hk).1))
          have HBo9 : Hid (∀ r ∈ B7, ∃ cs, Own w9 r.1 122 cs ∧ w.heap.size ≤ r.1 ∧ v9.ownBlock ≠ some r.1) := Lib.hid (fun r hr => by
            obtain ⟨es', he⟩ := (HE9.out.2.2 r hr).1
            refine ⟨_, he.own, (HBo7.out r hr).1, fun e => ?_⟩
            have h7 := HBo7.out r hr
            rcases hat9' with h | h
            · exact h7.2.2 (h ▸ e)
            · rw [h] at e
              have : w8.heap.size + 1 = r.1 := Option.some.inj e
              omega)
          clear hown9 hgrow9 hg9 hall9 hat9 hat9' HE8 HW8 Ho8 Ho8l Hl8 Ha8 Hr8 Hov
          go_wp2
          go_roundg gh
          case rel => exact ⟨j + 1, B7, by go_num, by have := Hj.out; omega, HBl7.out, HBv7, HBo9, HE9, HS9, HW9⟩
          case measure => omega
end Go.Proofs.YtneafcdfnhnpnaaGreatDoor
/- Contract: CheckRefute. -/
namespace Go.Proofs.YtneafcdfnhnpnaaGreatDoor
open Go.RowKit Go.Lib
attribute [local go_sem ↓] Go.wp_at_zero Go.wp_at_succ

theorem EqsQ.at_ {w : World} {base n c : Nat} {A : Option Addr} {B : List RowR} (h : EqsQ w base (.slice A n c) B) {j : Nat} {r : RowR} (hr : B[j]? = some r) :
    ∃ g, A = some ⟨g, 0, none⟩ ∧ base ≤ g ∧ g < w.heap.size ∧ w.cell? ⟨g, j, none⟩ = some (.slice (some ⟨r.1, 0, none⟩) r.2.2.length r.2.1) := by
  obtain ⟨hj, hrj⟩ := List.getElem?_eq_some_iff.1 hr
  rcases h.1.2 with ⟨hA, hn⟩ | ⟨g, cap, cur, hA, hb, hg, _, _, _, htake⟩
  · omega
  · injection hA with hA1 hA2 hA3
    subst hA1
    refine ⟨g, rfl, hb, (Array.getElem?_eq_some_iff.1 hg).1, ?_⟩
    rw [cell_of_row w g j cur _ (0, 0) hg]
    have hu : (B.map fun r => Value.slice (some ⟨r.1, 0, none⟩) r.2.2.length r.2.1)[j]? = some (.slice (some ⟨r.1, 0, none⟩) r.2.2.length r.2.1) := by rw [List.getElem?_map, hr]; rfl
    rw [← htake, List.getElem?_take] at hu
    split at hu
    · simpa using hu
    · cases hu
theorem EqsQ.form {w : World} {base : Nat} {v : Value} {B : List RowR} (h : EqsQ w base v B) : ∃ A c, v = .slice A B.length c ∧ B.length ≤ c ∧ c ≤ maxLen := oForm h.1

/-- the equations and their sides that a refutation satisfies -/
def refE (n : Nat) (V : List (List Rat)) (b : List Rat) : List (List Rat) := (List.range n).map (colL V) ++ [b]
def refS (n : Nat) : List Rat := List.replicate n 0 ++ [1]
def refD (n : Nat) (V : List (List Rat)) (b y : List Rat) (j : Nat) : Rat := prodTo ((refE n V b)[j]?.getD []) y V.length - (refS n)[j]?.getD 0
def Refutes (n : Nat) (V : List (List Rat)) (b y : List Rat) : Prop := ∀ j, j < n + 1 → refD n V b y j = 0
def RefOk (n : Nat) (V : List (List Rat)) (b y : List Rat) : Prop := ∀ j, j < n + 1 → ProdOk ((refE n V b)[j]?.getD []) y ∧ FitP (prodTo ((refE n V b)[j]?.getD []) y V.length) ((refS n)[j]?.getD 0)
def refPost (M : List (List Txt)) (b y : List Txt) (w : World) (e : Ending) (w' : World) : Prop :=
  Below w.heap.size w w' ∧ ((eqErr M b = 0 ∧ sideErr y M.length = 0 ∧ ((Refutes (widM M) (M.map rvals) (rvals b) (rvals y) ∧ e = .returned (.int .i64 0)) ∨ (¬ Refutes (widM M) (M.map rvals) (rvals b) (rvals y) ∧ e = .returned (.int .i64 19)))) ∨
    (eqErr M b = 0 ∧ sideErr y M.length ≠ 0 ∧ e = .returned (.int .i64 (sideErr y M.length))) ∨ (eqErr M b ≠ 0 ∧ e = .returned (.int .i64 (eqErr M b))))

theorem refE_len (n : Nat) (V : List (List Rat)) (b : List Rat) : (refE n V b).length = n + 1 := by simp [refE]
theorem refS_len (n : Nat) : (refS n).length = n + 1 := by simp [refS]
theorem refE_row {n : Nat} {V : List (List Rat)} {b : List Rat} (hb : b.length = V.length) : ∀ L ∈ refE n V b, L.length = V.length := by
  intro L hL
  rcases List.mem_append.1 hL with h | h
  · obtain ⟨j, _, rfl⟩ := List.mem_map.1 h
    simp [colL]
  · rw [List.mem_singleton.1 h]; exact hb

set_option maxRecDepth 100000 in
set_option maxHeartbeats 4000000 in
theorem CheckRefute_c (v u t : Value) (M : List (List Txt)) (b y : List Txt) (w : World) (hv : TblT w v M) (hu : SlW w u (scells b)) (ht : SlW w t (scells y)) (hT : ∀ r ∈ M, ∀ l ∈ r, TxtOk l) (hTb : ∀ l ∈ b, TxtOk l) (hTy : ∀ l ∈ y, TxtOk l) (hG : Glob w)
    (hok : eqErr M b = 0 → sideErr y M.length = 0 → RefOk (widM M) (M.map rvals) (rvals b) (rvals y)) :
    Calls Tryz.prog 78 #[v, u, t] w (refPost M b y w) := by
  have RE := Lib.hid (readEquations_c v u M b w hv hu hT hTb hG)
  have RS := Lib.hid (fun (hl : M.length ≤ 1000000) W (hw : Below w.heap.size w W) => readSide_c t y M.length W (ht.below hw) hl hTy (hG.below hw))
  have HOK := Lib.hid hok
  obtain ⟨A, c, rfl, _, _⟩ := hv.form
  obtain ⟨A2, c2, rfl, _, _⟩ := hu.form
  obtain ⟨A3, c3, rfl, _, _⟩ := ht.form
  simp only [scells_length] at RE RS ⊢
  clear hv hu ht hT hTb hTy hG hok
  go_enter Tryz.func78, Tryz.ntmps78
  go_wp2_with fail
  refine RE.out.mono ?_
  clear RE
  rintro e w1 ⟨hB1, ⟨hE, hM, hbl, g, R, gb, eb, rfl, hg, hnew, hmx, hvals, hgb, hO⟩ | ⟨hE, v1, rfl⟩⟩
  · obtain ⟨hm1, hn1⟩ := matErr_ok hM
    have hRl : R.length = M.length := by rw [← vals_len R, hvals]; simp
    have HB1 := Lib.hid hB1
    have HE := Lib.hid hE
    have HM := Lib.hid hM
    have HMX := Lib.hid hmx
    have HO := Lib.hid hO
    have Hvals := Lib.hid hvals
    have hrb : (rvals b).length = M.length := by simp [rvals]; exact hbl
    clear hB1 hE hM hmx hO hvals hnew
    go_wp2_with fail
    refine (RS.out (by omega) _ HB1.out).mono ?_
    clear RS
    rintro e w2 ⟨hB2, ⟨hS, hyl, gy, ey, rfl, hgy, hOy⟩ | ⟨hS, rfl⟩⟩
    · have HROK := Lib.hid (HOK.out HE.out hS)
      have HS := Lib.hid hS
      have hal2 := HB1.out.trans (hB2.mono HB1.out.size)
      have HB2 := Lib.hid hal2
      have HY := Lib.hid hOy
      have hry : (rvals y).length = M.length := by simp [rvals]; exact hyl
      have CD := Lib.hid (conditions_c g M.length (widM M) gb M.length R eb (rvals b) w2 (HMX.out.below hB2) (by omega) (by omega) (fun h => by
        have : M = [] := List.length_eq_zero_iff.1 (by rw [← hRl, h]; rfl)
        rw [this]; rfl) (HO.out.below hB2) (by omega) (by omega))
      rw [hRl, Hvals.out] at CD
      clear hS hB2 hal2 hOy HOK HMX HO Hvals hRl
      go_wp2_with fail
      refine CD.out.mono ?_
      clear CD
      rintro e w3 ⟨ev, B, sv, rfl, hBv, hEq, hSd, hB3⟩
      obtain ⟨A4, c4, rfl, hc4, hc4'⟩ := hEq.form
      obtain ⟨A5, c5, hsv, hc5, hc5'⟩ := hSd.form
      have hBl : B.length = widM M + 1 := by
        have := congrArg List.length hBv
        simpa using this
      have hS5 : (List.replicate (widM M) (0 : Rat) ++ [1]).length = widM M + 1 := by simp
      rw [hS5] at hsv hc5
      subst hsv
      rw [hBl]
      rw [hBl] at hEq
      have HBl := Lib.hid hBl
      have HB3 := Lib.hid (HB2.out.trans (hB3.mono HB2.out.size))
      have HEq := Lib.hid hEq
      have HSd := Lib.hid hSd
      have HBv := Lib.hid hBv
      have HY3 := Lib.hid (HY.out.below hB3)
      have hgyl : gy < w3.heap.size := HY3.out.own.lt
      have hrow : ∀ r ∈ B, r.2.2.length = M.length := by
        intro r hr
        have h1 : r.2.2 ∈ refE (widM M) (M.map rvals) (rvals b) := by unfold refE; rw [← hBv]; exact List.mem_map.2 ⟨r, hr, rfl⟩
        have := refE_row (n := widM M) (V := M.map rvals) (b := rvals b) (by simpa using hrb) _ h1
        simpa using this
      have HRow := Lib.hid hrow
      generalize hwd : widM M = n at *
      have HWD := Lib.hid hwd
      clear hB3 hEq hSd hBv HB2 HY hS5 hrow hBl hwd
      go_wp2
      go_loopg [6, 43] (n + 1) (fun gh rr ix wr => ∃ i : Nat, rr = .int .i64 0 ∧ ix = .int .i64 i ∧ i + gh = n + 1 ∧ Hid (∀ j, j < i → refD n (M.map rvals) (rvals b) (rvals y) j = 0) ∧ Hid (Below w3.heap.size w3 wr))
      case atStart => exact ⟨0, rfl, rfl, by omega, Lib.hid (by omega), Lib.hid (Below.refl _ _)⟩
      case round =>
        obtain ⟨i, rfl, rfl, hi, hZ, hW⟩ := hrel
        cases gk with
        | zero =>
          have hin : ¬ ((i : Int) < ((n + 1 : Nat) : Int)) := by omega
          have HZ : Hid (Refutes n (M.map rvals) (rvals b) (rvals y)) := Lib.hid (fun j hj => hZ.out j (by omega))
          have HWe := Lib.hid (HB3.out.trans (hW.out.mono HB3.out.size))
          clear hZ hW
          go_wp2
          go_ret
          exact ⟨HWe.out, .inl ⟨HE.out, HS.out, .inl ⟨by rw [HWD.out]; exact HZ.out, rfl⟩⟩⟩
        | succ gh =>
          have hlt : i < n + 1 := by omega
          have hlt' : (i : Int) < ((n + 1 : Nat) : Int) := by omega
          obtain ⟨r, hr⟩ : ∃ r, B[i]? = some r := ⟨B[i]'(by rw [HBl.out]; exact hlt), List.getElem?_eq_getElem (by rw [HBl.out]; exact hlt)⟩
          obtain ⟨g4, rfl, _, hg4, hcr⟩ := HEq.out.at_ hr
          have hi5 : i < (List.replicate n (0 : Rat) ++ [1]).length := by simp; omega
          obtain ⟨g5, s5, Z1, zn1, zc1, Z2, zn2, zc2, rfl, _, hg5, hrs, p0, p1, p2⟩ := HSd.out.at_ hi5
          have hrm : r ∈ B := List.mem_of_getElem? hr
          have hrl : r.2.2.length = M.length := HRow.out r hrm
          have hrE : (refE n (M.map rvals) (rvals b))[i]?.getD [] = r.2.2 := by
            have : (refE n (M.map rvals) (rvals b))[i]? = some r.2.2 := by unfold refE; rw [← HBv.out, List.getElem?_map, hr]; rfl
            rw [this]; rfl
          obtain ⟨hpo, hfp⟩ := HROK.out i hlt
          have hDv : refD n (M.map rvals) (rvals b) (rvals y) i = prodTo r.2.2 (rvals y) M.length - (refS n)[i]?.getD 0 := by unfold refD; rw [hrE]; simp
          rw [hrE] at hpo hfp
          simp only [List.length_map] at hfp
          change Rt _ _ ((refS n)[i]?.getD 0) at hrs
          obtain ⟨⟨er, hOr⟩, hcap⟩ := (HEq.out.2.2 r hrm)
          have c0 := (hW.out.cell (p := ⟨g4, i, none⟩) hg4).trans hcr
          have q0 := (hW.out.cell (p := ⟨g5, i * 3, none⟩) hg5).trans p0
          have q1 := (hW.out.cell (p := ⟨g5, i * 3 + 1, none⟩) hg5).trans p1
          have q2 := (hW.out.cell (p := ⟨g5, i * 3 + 2, none⟩) hg5).trans p2
          have hg5r : g5 < wr.heap.size := Nat.lt_of_lt_of_le hg5 hW.out.size
          have PD := Lib.hid (fun (W : World) (hb : Below wr.heap.size wr W) => productQ_c W r.1 gy M.length r.2.1 M.length er ey r.2.2 (rvals y) ((hOr.below hW.out).below hb) ((HY3.out.below hW.out).below hb) hrl.symm (by omega) (by omega) hpo)
          have MI := Lib.hid (fun (W : World) (z : Value) (hb : Below wr.heap.size wr W) (hz : Rt W z (prodTo r.2.2 (rvals y) M.length)) => ratMinus_c z (.agg #[.bool s5, .slice Z1 zn1 zc1, .slice Z2 zn2 zc2]) _ _ W hz ((hrs.below hW.out).below hb) hfp)
          have KS : Hid (∀ z, Below wr.heap.size wr z → z.cell? ⟨g5, i * 3, none⟩ = some (.bool s5) ∧ z.cell? ⟨g5, i * 3 + 1, none⟩ = some (.slice Z1 zn1 zc1) ∧ z.cell? ⟨g5, i * 3 + 2, none⟩ = some (.slice Z2 zn2 zc2) ∧ Below wr.heap.size wr z) := Lib.hid (fun z hb =>
            ⟨(hb.cell (p := ⟨g5, i * 3, none⟩) hg5r).trans q0, (hb.cell (p := ⟨g5, i * 3 + 1, none⟩) hg5r).trans q1, (hb.cell (p := ⟨g5, i * 3 + 2, none⟩) hg5r).trans q2, hb⟩)
          have KT := Lib.hid (fun (x x' : World) (hb : Below x.heap.size x x') (h5 : Below wr.heap.size wr x) => KS.out x' (h5.trans (hb.mono h5.size)))
          rw [← hDv] at MI
          have HWr := Lib.hid (hW.out.trans (Below.refl _ _))
          clear p0 p1 p2 hrs hOr hpo hfp hW hDv hrE hi5 hcr hg4 hg5
          generalize hdd : refD n (M.map rvals) (rvals b) (rvals y) i = dd at *
          have HDD := Lib.hid hdd
          clear hdd
          go_wp2
          go_region_held3 (fun z => z.cell? ⟨g5, i * 3, none⟩ = some (.bool s5) ∧ z.cell? ⟨g5, i * 3 + 1, none⟩ = some (.slice Z1 zn1 zc1) ∧ z.cell? ⟨g5, i * 3 + 2, none⟩ = some (.slice Z2 zn2 zc2) ∧ Below wr.heap.size wr z)
            (first | exact KS.out _ (Below.refl _ _).drew | exact KT.out _ _ (by assumption) (by assumption))
            (first
              | (go_at_call 158; go_split_ands; refine (PD.out _ (by assumption)).mono ?_; rintro e4 w4 ⟨pv, rfl, hpv, hB4⟩)
              | (go_at_call 109; go_split_ands; refine (MI.out _ pv (by assumption) hpv).mono ?_; rintro e5 w5 ⟨mv, rfl, hmv, hB5⟩)
              | (go_at_call 114; go_split_ands; refine (sign_c mv dd _ hmv).mono ?_; rintro e6 w6 ⟨rfl, hB6⟩))
          have hB6' : Below wr.heap.size wr w6 := by go_split_ands; assumption
          have HB6 := Lib.hid (HWr.out.trans (hB6'.mono HWr.out.size))
          clear hpv hB4 hmv hB5 hB6 hB6' PD MI KS KT c0 q0 q1 q2 hcap
          by_cases h0 : dd = 0
          · have hsg : ratSign dd = 0 := by rw [h0]; rfl
            have HZ2 : Hid (∀ j, j < i + 1 → refD n (M.map rvals) (rvals b) (rvals y) j = 0) := Lib.hid (fun j hj => by
              rcases Nat.lt_or_ge j i with h | h
              · exact hZ.out j h
              · have : j = i := by omega
                subst this; rw [HDD.out]; exact h0)
            rw [hsg]
            clear hZ h0 hsg HDD
            go_wp2
            go_roundg gh
            case rel => exact ⟨i + 1, rfl, by go_num, by omega, HZ2, HB6⟩
            case measure => omega
          · have hsg : (ratSign dd != 0) = true := by
              have h1 : dd.num ≠ 0 := fun h => h0 (Rat.num_eq_zero.1 h)
              unfold ratSign
              rw [if_neg h1]
              split <;> rfl
            have HN : Hid (¬ Refutes n (M.map rvals) (rvals b) (rvals y)) := Lib.hid (fun h => h0 (by rw [← HDD.out]; exact h i hlt))
            generalize ratSign dd = sg at *
            clear hZ h0 HDD
            have HBf := Lib.hid (HB3.out.trans (HB6.out.mono HB3.out.size))
            go_wp2
            go_ret
            exact ⟨HBf.out, .inl ⟨HE.out, HS.out, .inr ⟨by rw [HWD.out]; exact HN.out, rfl⟩⟩⟩
    · have HS := Lib.hid hS
      have HB2 := Lib.hid (HB1.out.trans (hB2.mono HB1.out.size))
      have hne : (sideErr y M.length != 0) = true := by simpa using hS
      clear hS hB2 HOK HMX HO Hvals
      generalize hec : sideErr y M.length = ec at *
      have HEC := Lib.hid hec
      clear hec
      go_wp2
      go_ret
      exact ⟨HB2.out, .inr (.inl ⟨HE.out, by rw [HEC.out]; exact HS.out, by rw [HEC.out]; rfl⟩)⟩
  · have HX := Lib.hid hE
    have hne : (eqErr M b != 0) = true := by simpa using hE
    clear HOK hE RS
    generalize hec : eqErr M b = ec at *
    have HEC := Lib.hid hec
    clear hec
    go_wp2
    go_ret
    exact ⟨hB1, .inr (.inr ⟨by rw [HEC.out]; exact HX.out, by rw [HEC.out]; rfl⟩)⟩
end Go.Proofs.YtneafcdfnhnpnaaGreatDoor
/- Contract: the inverse of a permutation. -/
namespace Go.Proofs.YtneafcdfnhnpnaaGreatDoor
open Go.RowKit

/-- the inverse, as far as the first k elements tell it -/
def invFrom (p : List Int) : Nat → List Int
  | 0 => List.replicate p.length 0
  | k + 1 => (invFrom p k).set (p[k]?.getD 0).toNat k
theorem invFrom_length (p : List Int) (k : Nat) : (invFrom p k).length = p.length := by
  induction k with
  | zero => simp [invFrom]
  | succ k ih => simp [invFrom, ih]
def invL (p : List Int) : List Int := invFrom p p.length

set_option maxRecDepth 100000 in
set_option maxHeartbeats 2000000 in
theorem Invert_c (v : Value) (p : List Int) (w : World) (hv : Sl w 1 v (icells p)) :
    Calls Tryz.prog 47 #[v] w (listPost (permErr p) (invL p) w) := by
  obtain ⟨A, c, rfl, hc1, hc2⟩ := hv.form
  simp only [icells_length] at hc1 hv ⊢
  have CP := Lib.hid (fun W h => CheckPerm_c (.slice A p.length c) p W h)
  by_cases he : permErr p = 0
  · have hPp : PermL p ∧ p.length ≤ 256 := by have := he; unfold permErr at this; split at this; omega; split at this; exact ⟨by assumption, by omega⟩; omega
    have He := Lib.hid he
    clear he
    have hmk := fun W => make_ints W p.length (by omega)
    go_enter Tryz.func47, Tryz.ntmps47
    go_wp2_with fail
    refine (CP.out _ hv).mono ?_
    rintro e w1 ⟨rfl, hB1⟩
    have hv1 := hv.below hB1
    have hB0 := hB1.alloc hB1.size (.cells (icells (List.replicate p.length 0)).toArray 3)
    have hO0 := Own.make w1 3 (icells (List.replicate p.length 0))
    have hg : w.heap.size ≤ w1.heap.size := hB1.size
    rw [He.out]
    go_wp2_with fail
    clear hv1 hB1
    go_loopw [6, 7, 18] (fun _ _ i wr => ∃ (k : Nat), i = .int .i64 k ∧ k ≤ p.length ∧ Own wr w1.heap.size 3 (icells (invFrom p k)) ∧ Below w.heap.size w wr) (fun _ _ i _ => p.length - (intOf i).toNat)
    case atStart => exact ⟨0, rfl, by omega, hO0, hB0⟩
    case round =>
      clear hO0 hB0
      obtain ⟨k, rfl, hk, hO, hB⟩ := hrel
      by_cases hlt : k < p.length
      · obtain ⟨b1, off1, rfl, hbb1, hcell1⟩ := hv.at_ (k := k) (by rw [icells_length]; omega)
        have hck1 := (hB.cell (p := ⟨b1, off1 + k, none⟩) hbb1).trans ((hcell1 k (by rw [icells_length]; omega)).trans (icells_at p k hlt))
        have hx := hPp.1.1 (p[k]?.getD 0) (by rw [List.getElem?_eq_getElem hlt]; exact List.getElem_mem hlt)
        have hst := Lib.hid (show invFrom p (k + 1) = (invFrom p k).set (p[k]?.getD 0).toNat k from rfl)
        generalize p[k]?.getD 0 = x at *
        obtain ⟨j, rfl⟩ := Int.eq_ofNat_of_zero_le hx.1
        have hjp : j < p.length := by omega
        have hck2 := (hO.cell j).trans (icells_at (invFrom p k) j (by rw [invFrom_length]; omega))
        have hfr := hO.free j
        have hle := hPp.2
        clear hcell1 hx hv hPp
        go_wp2
        refine ⟨⟨k + 1, by go_num, by omega, ?_, hB.setCell (by simp; omega) _⟩, by simp [intOf]; omega⟩
        rw [hst.out, ← icells_set]; exact hO.put j _
      · have hkk : k = p.length := by omega
        have hsl := Lib.hid (hO.sl p.length (by rw [icells_length, invFrom_length]) (by have := hPp.2; omega))
        rw [hkk] at hsl
        have hle := hPp.2
        clear hPp hkk
        go_wp2
        go_ret2
        refine ⟨?_, hB⟩
        rw [if_pos He.out]
        exact ⟨_, rfl, hsl.out⟩
  · have hb : (permErr p != 0) = true := by simpa using he
    have Hne := Lib.hid he
    clear he
    generalize hE : permErr p = E at *
    have HE := Lib.hid hE
    clear hE
    go_enter Tryz.func47, Tryz.ntmps47
    go_wp2_with fail
    refine (CP.out _ hv).mono ?_
    rintro e w1 ⟨rfl, hB1⟩
    go_wp2
    go_ret2
    refine ⟨by rw [if_neg Hne.out]; rfl, hB1⟩

end Go.Proofs.YtneafcdfnhnpnaaGreatDoor
/- Contract: a number's digits in the bases n, n - 1, .. -/
namespace Go.Proofs.YtneafcdfnhnpnaaGreatDoor
open Go.RowKit

def factRest (x : Nat) : Nat → Nat
  | 0 => x
  | k + 1 => factRest x k / (k + 1)
def factDig (x n : Nat) : Nat → List Int
  | 0 => List.replicate n 0
  | k + 1 => (factDig x n k).set (n - 1 - k) ((factRest x k % (k + 1) : Nat) : Int)
theorem factDig_length (x n k : Nat) : (factDig x n k).length = n := by
  induction k with
  | zero => simp [factDig]
  | succ k ih => simp [factDig, ih]
theorem factRest_le (x k : Nat) : factRest x k ≤ x := by
  induction k with
  | zero => exact Nat.le_refl _
  | succ k ih => exact Nat.le_trans (Nat.div_le_self _ _) ih
theorem Nt.putI {w : World} {v : Value} {x g i : Nat} {t : TypeId} {L : List Int} (h : Nt w v x) (hO : Own w g t (icells L)) (u : Value) : Nt (w.setCell ⟨g, i, none⟩ u) v x := by
  obtain ⟨ws, h1, h2, h3, A, n, c, hv, h4, h5, h6, h7⟩ := h
  refine ⟨ws, h1, h2, h3, A, n, c, hv, h4, h5, h6, fun hn => ?_⟩
  obtain ⟨b, off, hA, hb, hcell⟩ := h7 hn
  refine ⟨b, off, hA, by simpa using hb, fun j u hu => ?_⟩
  have hj := hcell j u hu
  have hne : b ≠ g := by
    rintro rfl
    rw [hO.cell] at hj
    obtain ⟨z, _, hz⟩ := List.mem_map.1 (List.mem_of_getElem? hj)
    obtain ⟨y, _, hy⟩ := List.mem_map.1 (List.mem_of_getElem? hu)
    rw [← hz] at hy
    cases hy
  rw [World.cell?_setCell_other _ _ _ _ (by intro e; injection e with e1; exact hne e1.symm)]
  exact hj
def factPost (x n : Nat) (w : World) (e : Ending) (w' : World) : Prop :=
  ∃ u v, e = .returned (.tuple #[u, v]) ∧ Sl w' 1 u (icells (factDig x n n)) ∧ Nt w' v (factRest x n) ∧ Below w.heap.size w w'

set_option maxRecDepth 100000 in
set_option maxHeartbeats 2000000 in
theorem factorialDigits_c (v : Value) (x n : Nat) (w : World) (h : Nt w v x) (hf : Fits x) (hn : n ≤ 256) :
    Calls Tryz.prog 140 #[v, .int .i64 n] w (factPost x n w) := by
  have hmk := fun W => make_ints W n (by omega)
  have HF := Lib.hid (fun k => Fits.le hf (factRest_le x k))
  have h0 : Nt (w.alloc (.cells (icells (List.replicate n 0)).toArray 3)) v (factRest x 0) := h.below ((Below.refl _ _).alloc (Nat.le_refl _) _)
  have hO0 := Own.make w 3 (icells (List.replicate n 0))
  have hB0 := (Below.refl w.heap.size w).alloc (Nat.le_refl _) (.cells (icells (List.replicate n 0)).toArray 3)
  have H0 := Lib.hid h0
  clear h hf h0
  go_enter Tryz.func140, Tryz.ntmps140
  go_wp2_with fail
  go_loopg [0, 6, 7] n (fun g u i _ wr => ∃ (k : Nat), k + g = n ∧ i = .int .i64 ((n : Int) - 1 - k) ∧ Hid (Nt wr u (factRest x k)) ∧ Own wr w.heap.size 3 (icells (factDig x n k)) ∧ Below w.heap.size w wr)
  case atStart => exact ⟨0, by omega, by go_num, H0, hO0, hB0⟩
  case round =>
    clear hO0 hB0 H0
    obtain ⟨k, hk, rfl, hN, hO, hB⟩ := hrel
    cases gk with
    | zero =>
      have hkn : k = n := by omega
      have hsl := Lib.hid (hO.sl n (by rw [icells_length, factDig_length]) (by omega))
      rw [hkn] at hsl hN
      have hi : ((n : Int) - 1 - (n : Int)) = -1 := by omega
      clear hk hO
      subst hkn
      go_wp2
      go_ret2
      exact ⟨_, _, rfl, hsl.out, hN.out, hB⟩
    | succ g =>
      obtain ⟨i, hi⟩ : ∃ i : Nat, n = i + 1 + k := ⟨n - 1 - k, by omega⟩
      have hi2 : ((n : Int) - 1 - (k : Int)) = i := by omega
      rw [hi2]
      have hin : n - 1 - k = i := by omega
      have hD := Lib.hid (show factDig x n (k + 1) = (factDig x n k).set (n - 1 - k) ((factRest x k % (k + 1) : Nat) : Int) from rfl)
      rw [hin] at hD
      have hsub : (n : Int) - i = (k : Int) + 1 := by omega
      have hck := (hO.cell i).trans (icells_at (factDig x n k) i (by rw [factDig_length]; omega))
      have hfr := hO.free i
      have hmod : factRest x k % (k + 1) < 256 := Nat.lt_of_lt_of_le (Nat.mod_lt _ (by omega)) (by omega)
      have hm2 : factRest x k % (k + 1) < 18446744073709551616 := by omega
      have hil : i < n := by omega
      have hlo : i < 256 := by omega
      have hk2 : k < 256 := by omega
      have hck' : wr.cell? ⟨w.heap.size, i, none⟩ = some (.int .i64 ((factDig x n k)[i]?.getD 0)) := hck
      have DW := dividedByWord_c u0 _ (k + 1) wr hN.out (by omega) (by unfold WB; omega) (HF.out k)
      rw [Int.natCast_succ] at DW
      have DW := Lib.hid DW
      have Hk : Hid (k + (g + 1) = n) := Lib.hid hk
      generalize hz : (factDig x n k)[i]?.getD 0 = z at *
      clear hi hi2 hin hk hck' hz
      generalize hm : factRest x k % (k + 1) = d at *
      clear hm
      go_wp2_with fail
      refine DW.out.mono ?_
      rintro e w2 ⟨u, rfl, hNu, hB2⟩
      have hO2 := hO.below hB2 hO.lt
      have hc2 := (hB2.cell (p := ⟨w.heap.size, i, none⟩) hO.lt).trans hck
      have hf2 := (hB2.frozen (p := ⟨w.heap.size, i, none⟩) hO.lt).trans hfr
      have hB' := hB.trans (hB2.mono hB.size)
      have HN2 : Hid (Nt w2 u (factRest x (k + 1))) := Lib.hid hNu
      clear hO hB hB2 hck hfr hN hNu
      go_wp2
      go_roundg g
      case rel => exact ⟨k + 1, by have := Hk.out; omega, by congr 1; omega, Lib.hid (HN2.out.putI hO2 _), by rw [hD.out, ← icells_set]; exact hO2.put _ _, hB'.setCell (by simp) _⟩
      case measure => omega

end Go.Proofs.YtneafcdfnhnpnaaGreatDoor
/- Contract: elements are picked by their places. -/
namespace Go.Proofs.YtneafcdfnhnpnaaGreatDoor
open Go.RowKit

/-- what is picked, and what is left, when k elements have been picked -/
def pickTo (pl : List Int) : Nat → List Int × List Int
  | 0 => ([], (List.range pl.length).map fun (i : Nat) => (i : Int))
  | k + 1 => ((pickTo pl k).1 ++ [(pickTo pl k).2[(pl[k]?.getD 0).toNat]?.getD 0], (pickTo pl k).2.eraseIdx (pl[k]?.getD 0).toNat)
/-- each place is one among those that are left -/
def PlOk (pl : List Int) : Prop := ∀ k, k < pl.length → 0 ≤ pl[k]?.getD 0 ∧ pl[k]?.getD 0 < ((pl.length - k : Nat) : Int)
theorem pickTo_len {pl : List Int} (h : PlOk pl) (k : Nat) (hk : k ≤ pl.length) : (pickTo pl k).1.length = k ∧ (pickTo pl k).2.length = pl.length - k := by
  induction k with
  | zero => simp [pickTo]
  | succ k ih =>
    have ih := ih (by omega)
    have hp := h k (by omega)
    unfold pickTo
    refine ⟨by simp [ih.1], ?_⟩
    rw [List.length_eraseIdx_of_lt (by rw [ih.2]; omega), ih.2]; omega
def setsL (cs : List Value) : Nat → List Value → List Value
  | _, [] => cs
  | o, v :: r => setsL (cs.set o v) (o + 1) r
theorem Own.puts {g : Nat} {t : TypeId} (vs : List Value) : ∀ {w : World} {cs : List Value} (o : Nat), Own w g t cs → Own (w.setCells g o vs) g t (setsL cs o vs) := by
  induction vs with
  | nil => exact fun o h => h
  | cons v r ih => exact fun o h => ih (o + 1) (h.put o v)
theorem setsL_eq (vs : List Value) : ∀ (cs : List Value) (o : Nat), o + vs.length ≤ cs.length → setsL cs o vs = cs.take o ++ (vs ++ cs.drop (o + vs.length)) := by
  induction vs with
  | nil => intro cs o h; simp [setsL]
  | cons v r ih =>
    intro cs o h
    simp only [List.length_cons] at h ⊢
    unfold setsL
    rw [ih _ _ (by rw [List.length_set]; omega)]
    have := list_seg_step cs o v r (by omega)
    rw [List.append_assoc, List.append_assoc] at this
    exact this
theorem erase_cells (l z : List Int) (a : Nat) (ha : a < l.length) : setsL (icells (l ++ z)) 0 ((((l ++ z).take l.length).take a ++ ((l ++ z).take l.length).drop (a + 1) ++ List.replicate (a + 1 - a) 0).map (Value.int .i64)) = icells (l.eraseIdx a ++ (0 :: z)) := by
  rw [List.take_left, setsL_eq _ _ _ (by simp [icells]; omega), List.take_zero, List.nil_append, List.eraseIdx_eq_take_drop_succ]
  have hl : ((l.take a ++ l.drop (a + 1) ++ List.replicate (a + 1 - a) 0).map (Value.int .i64)).length = l.length := by simp; omega
  rw [hl, Nat.zero_add, show a + 1 - a = 1 by omega]
  have hd : (icells (l ++ z)).drop l.length = icells z := by
    unfold icells
    rw [List.map_append, List.drop_left' (by simp)]
  rw [hd]
  simp [icells]
theorem pickTo_last (pl : List Int) (k : Nat) : (pickTo pl (k + 1)).1 = (pickTo pl k).1 ++ [(pickTo pl k).2[(pl[k]?.getD 0).toNat]?.getD 0] := rfl

def idTo (n k : Nat) : List Int := (List.range k).map (fun (i : Nat) => (i : Int)) ++ List.replicate (n - k) 0
theorem idTo_length (n k : Nat) : (idTo n k).length = k + (n - k) := by simp [idTo]
theorem idTo_zero (n : Nat) : idTo n 0 = List.replicate n 0 := by simp [idTo]
theorem idTo_all (n : Nat) : idTo n n = (List.range n).map fun (i : Nat) => (i : Int) := by simp [idTo]
theorem idTo_set (n k : Nat) (h : k < n) : (idTo n k).set k (k : Int) = idTo n (k + 1) := by
  unfold idTo
  rw [List.set_append_right _ _ (by simp), show n - k = (n - (k + 1)) + 1 by omega, List.replicate_succ, List.length_map, List.length_range, Nat.sub_self, List.set_cons_zero, List.range_succ, List.map_append, List.append_assoc]
  rfl
def pickPost (pl : List Int) (w : World) (e : Ending) (w' : World) : Prop :=
  ∃ g, e = .returned (.slice (some ⟨g, 0, none⟩) pl.length pl.length) ∧ w.heap.size ≤ g ∧ Own w' g 3 (icells (pickTo pl pl.length).1) ∧ Below w.heap.size w w'
set_option maxRecDepth 100000 in
set_option maxHeartbeats 2000000 in
theorem pick_c (v : Value) (pl : List Int) (w : World) (hv : Sl w 1 v (icells pl)) (hp : PlOk pl) (hl : pl.length ≤ 256) :
    Calls Tryz.prog 141 #[v] w (pickPost pl w) := by
  obtain ⟨A, c, rfl, hc1, hc2⟩ := hv.form
  simp only [icells_length] at hc1 hv ⊢
  obtain ⟨n, hn⟩ : ∃ n, n = pl.length := ⟨_, rfl⟩
  have HP := Lib.hid hp
  have hmk := fun W => make_ints W n (by omega)
  have HN := Lib.hid hn
  have HO0 := Lib.hid (Own.make w 3 (icells (List.replicate n 0)))
  rw [← hn] at hc1 hl ⊢
  clear hp hn
  go_enter Tryz.func141, Tryz.ntmps141
  go_wp2_with fail
  go_loopg [13] n (fun gh i wr => ∃ k : Nat, i = .int .i64 k ∧ k + gh = n ∧ Hid (Own wr w.heap.size 3 (icells (idTo n k))) ∧ Hid (Below w.heap.size w wr))
  case atStart => exact ⟨0, rfl, by omega, Lib.hid (by rw [idTo_zero]; exact HO0.out), Lib.hid ((Below.refl _ _).alloc (Nat.le_refl _) _)⟩
  case round =>
    clear HO0
    obtain ⟨k, rfl, hk, hO, hB⟩ := hrel
    cases gk with
    | succ gh =>
      have hlt : k < n := by omega
      have hlt' : (k : Int) < (n : Int) := by omega
      have c2 := (hO.out.cell k).trans (icells_at _ k (by rw [idTo_length]; omega))
      have f2 := hO.out.free k
      have HO2 : Hid (Own (wr.setCell ⟨w.heap.size, k, none⟩ (.int .i64 k)) w.heap.size 3 (icells (idTo n (k + 1)))) := Lib.hid (by rw [← idTo_set n k hlt, ← icells_set]; exact hO.out.put _ _)
      have HB2 := Lib.hid (hB.out.setCell (p := ⟨w.heap.size, k, none⟩) (Nat.le_refl _) (.int .i64 k))
      have Hk := Lib.hid hk
      clear hO hB hk
      generalize (idTo n k)[k]?.getD 0 = y at *
      go_wp2
      go_roundg gh
      case rel => exact ⟨k + 1, by go_num, by have := Hk.out; omega, HO2, HB2⟩
      case measure => omega
    | zero =>
      have hin : ¬ ((k : Int) < (n : Int)) := by omega
      have hs := hB.out.size
      have hgl := hO.out.lt
      have HOL : Hid (Own (wr.alloc (.cells (icells (List.replicate n 0)).toArray 3)) w.heap.size 3 (icells ((pickTo pl 0).2 ++ List.replicate 0 0))) := Lib.hid (by
        have h := hO.out.alloc (.cells (icells (List.replicate n 0)).toArray 3)
        have e : icells (idTo n k) = icells ((pickTo pl 0).2 ++ List.replicate 0 0) := by rw [show k = n by omega, idTo_all, HN.out]; simp [pickTo]
        rw [e] at h
        exact h)
      have HOP : Hid (Own (wr.alloc (.cells (icells (List.replicate n 0)).toArray 3)) wr.heap.size 3 (icells ((pickTo pl 0).1 ++ List.replicate (n - 0) 0))) := Lib.hid (by simpa [pickTo] using Own.make wr 3 (icells (List.replicate n 0)))
      have HB0 := Lib.hid (hB.out.alloc hs (.cells (icells (List.replicate n 0)).toArray 3))
      have hmk2 := hmk wr
      clear hO hB hk hmk
      go_wp2_with fail
      obtain ⟨wb, rfl⟩ : ∃ wb, wb = wr := ⟨_, rfl⟩
      go_loopg [3, 26] n (fun gh lf i wx => ∃ k : Nat, i = .int .i64 k ∧ k + gh = n ∧ lf = .slice (some ⟨w.heap.size, 0, none⟩) (n - k) n ∧ Hid (Own wx w.heap.size 3 (icells ((pickTo pl k).2 ++ List.replicate k 0))) ∧ Hid (Own wx wb.heap.size 3 (icells ((pickTo pl k).1 ++ List.replicate (n - k) 0))) ∧ Hid (Below w.heap.size w wx))
      case atStart => exact ⟨0, rfl, by omega, by simp, HOL, HOP, HB0⟩
      case round =>
        clear HOL HOP HB0 hmk2
        obtain ⟨i, rfl, hi, rfl, hL, hP, hB⟩ := hrel
        cases gk with
        | zero =>
          have hin2 : ¬ ((i : Int) < (n : Int)) := by omega
          have HPf : Hid (Own wr wb.heap.size 3 (icells (pickTo pl pl.length).1)) := Lib.hid (by
            have h := hP.out
            rw [show i = n by omega, Nat.sub_self, HN.out] at h
            simpa using h)
          clear hi
          go_wp2
          go_ret
          exact ⟨_, by rw [HN.out]; rfl, hs, HPf.out, hB.out⟩
        | succ gh =>
          have hlt : i < n := by omega
          have hlt' : (i : Int) < (n : Int) := by omega
          obtain ⟨hl1, hl2⟩ := pickTo_len HP.out i (by rw [← HN.out]; omega)
          rw [← HN.out] at hl2
          have hpi := HP.out i (by rw [← HN.out]; exact hlt)
          rw [← HN.out] at hpi
          obtain ⟨b1, off1, rfl, hbb1, hcell1⟩ := hv.at_ (k := i) (by rw [icells_length, ← HN.out]; exact hlt)
          have c1 := (hB.out.cell (p := ⟨b1, off1 + i, none⟩) hbb1).trans ((hcell1 i (by rw [icells_length, ← HN.out]; exact hlt)).trans (icells_at pl i (by rw [← HN.out]; exact hlt)))
          have HS1 : Hid ((pickTo pl (i + 1)).1 = (pickTo pl i).1 ++ [(pickTo pl i).2[(pl[i]?.getD 0).toNat]?.getD 0]) := Lib.hid rfl
          have HS2 : Hid ((pickTo pl (i + 1)).2 = (pickTo pl i).2.eraseIdx (pl[i]?.getD 0).toNat) := Lib.hid rfl
          generalize pl[i]?.getD 0 = pa at *
          obtain ⟨a, rfl⟩ := Int.eq_ofNat_of_zero_le hpi.1
          have ha : a < n - i := by omega
          rw [Int.toNat_natCast] at HS1 HS2
          generalize hPe : (pickTo pl (i + 1)).1 = P' at *
          generalize hLe : (pickTo pl (i + 1)).2 = L' at *
          have HPe := Lib.hid hPe
          have HLe := Lib.hid hLe
          clear hPe hLe
          generalize (pickTo pl i).1 = P at *
          generalize (pickTo pl i).2 = L at *
          have c2 := (hL.out.cell a).trans (icells_at _ a (by simp; omega))
          rw [List.getElem?_append_left (by omega)] at c2
          have c3 := (hP.out.cell i).trans (icells_at _ i (by simp; omega))
          have f3 := hP.out.free i
          have hbl := hP.out.lt
          generalize (P ++ List.replicate (n - i) 0)[i]?.getD 0 = y at *
          generalize hx : L[a]?.getD 0 = x at *
          have HP2 : Hid (Own (wr.setCell ⟨wb.heap.size, i, none⟩ (.int .i64 x)) wb.heap.size 3 (icells (P' ++ List.replicate (n - (i + 1)) 0))) := Lib.hid (by
            have h := hP.out.put i (.int .i64 x)
            rw [icells_set, List.set_append_right _ _ (by omega), hl1, Nat.sub_self, show n - i = (n - (i + 1)) + 1 by omega, List.replicate_succ, List.set_cons_zero] at h
            rw [HS1.out, List.append_assoc]
            exact h)
          have HL2 := Lib.hid (hL.out.other (p := ⟨wb.heap.size, i, none⟩) (by simp; omega) (.int .i64 x))
          have HB2 := Lib.hid (hB.out.setCell (p := ⟨wb.heap.size, i, none⟩) hs (.int .i64 x))
          have DL := Lib.hid (Tryz.slices_Delete_int_cells w.heap.size 0 (n - i) n a (a + 1) (L ++ List.replicate i 0) (wr.setCell ⟨wb.heap.size, i, none⟩ (.int .i64 x)) (by simp; omega) (by omega) (by omega) (by omega) (by omega) (fun j hj => by
            rw [Nat.zero_add, HL2.out.cell j, icells_at _ j hj]; simp) (fun j hj => by rw [Nat.zero_add]; exact HL2.out.free j))
          rw [show (((a + 1 : Nat)) : Int) = (a : Int) + 1 by omega, show n - i - (a + 1 - a) = n - (i + 1) by omega] at DL
          have Hi := Lib.hid hi
          clear hcell1 hP hL hB hx hi hpi
          go_wp2_with fail
          refine DL.out.mono ?_
          clear DL
          rintro e w4 ⟨rfl, q, rfl⟩
          have HL3 : Hid (Own (((wr.setCell ⟨wb.heap.size, i, none⟩ (.int .i64 x)).drewN q).setCells w.heap.size 0 ((((L ++ List.replicate i 0).take (n - i)).take a ++ ((L ++ List.replicate i 0).take (n - i)).drop (a + 1) ++ List.replicate (a + 1 - a) 0).map (Value.int .i64))) w.heap.size 3 (icells (L' ++ List.replicate (i + 1) 0))) := Lib.hid (by
            have h := (HL2.out.drewN q).puts ((((L ++ List.replicate i 0).take (n - i)).take a ++ ((L ++ List.replicate i 0).take (n - i)).drop (a + 1) ++ List.replicate (a + 1 - a) 0).map (Value.int .i64)) 0
            have e := erase_cells L (List.replicate i 0) a (by omega)
            rw [hl2] at e
            rw [e] at h
            rw [HS2.out, List.replicate_succ]
            exact h)
          have HP3 : Hid (Own (((wr.setCell ⟨wb.heap.size, i, none⟩ (.int .i64 x)).drewN q).setCells w.heap.size 0 ((((L ++ List.replicate i 0).take (n - i)).take a ++ ((L ++ List.replicate i 0).take (n - i)).drop (a + 1) ++ List.replicate (a + 1 - a) 0).map (Value.int .i64))) wb.heap.size 3 (icells (P' ++ List.replicate (n - (i + 1)) 0))) := Lib.hid (by
            have h := HP2.out.drewN q
            exact (World.heap_setCells_other _ _ _ _ h.lt (by omega)).trans h)
          have HB3 := Lib.hid (below_setCells (Nat.le_refl w.heap.size) ((((L ++ List.replicate i 0).take (n - i)).take a ++ ((L ++ List.replicate i 0).take (n - i)).drop (a + 1) ++ List.replicate (a + 1 - a) 0).map (Value.int .i64)) 0 _ (below_drewN HB2.out q))
          clear HL2 HP2 HB2
          generalize (((wr.setCell ⟨wb.heap.size, i, none⟩ (.int .i64 x)).drewN q).setCells w.heap.size 0 ((((L ++ List.replicate i 0).take (n - i)).take a ++ ((L ++ List.replicate i 0).take (n - i)).drop (a + 1) ++ List.replicate (a + 1 - a) 0).map (Value.int .i64))) = w5 at *
          go_wp2
          go_roundg gh
          case rel => exact ⟨i + 1, by go_num, by have := Hi.out; omega, rfl, by rw [HLe.out]; exact HL3, by rw [HPe.out]; exact HP3, HB3⟩
          case measure => omega
end Go.Proofs.YtneafcdfnhnpnaaGreatDoor
/- Contract: the permutation at a place. -/
namespace Go.Proofs.YtneafcdfnhnpnaaGreatDoor
open Go.RowKit Go.Lib

theorem factDig_at (x n k j : Nat) (hk : k ≤ n) (hj : n - k ≤ j) (hjn : j < n) : (factDig x n k)[j]? = some ((factRest x (n - 1 - j) % (n - j) : Nat) : Int) := by
  induction k with
  | zero => omega
  | succ k ih =>
    unfold factDig
    by_cases he : n - 1 - k = j
    · subst he
      rw [List.getElem?_set_self (by rw [factDig_length]; omega)]
      rw [show n - 1 - (n - 1 - k) = k by omega, show n - (n - 1 - k) = k + 1 by omega]
    · rw [List.getElem?_set_ne he]
      exact ih (by omega) (by omega)
theorem factDig_ok (x n : Nat) : PlOk (factDig x n n) := by
  intro k hk
  rw [factDig_length] at hk ⊢
  rw [factDig_at x n n k (Nat.le_refl _) (by omega) hk]
  have := Nat.mod_lt (factRest x (n - 1 - k)) (show 0 < n - k by omega)
  simp only [Option.getD_some]
  omega
def unrCode (n : Int) (l : List UInt8) : Int :=
  if ¬ (0 ≤ n ∧ n ≤ 256) then 3 else if (readRes l).1 ≠ 0 then (readRes l).1
  else if (readRes l).2.num < 0 ∨ (readRes l).2.den ≠ 1 then 3 else if factRest (readRes l).2.num.natAbs n.toNat ≠ 0 then 3 else 0
def unrPost (n : Int) (l : List UInt8) (w : World) (e : Ending) (w' : World) : Prop :=
  Below w.heap.size w w' ∧ ((unrCode n l = 0 ∧ ∃ g, e = .returned (.tuple #[.slice (some ⟨g, 0, none⟩) n.toNat n.toNat, .int .i64 0]) ∧ w.heap.size ≤ g ∧ Own w' g 3 (icells (pickTo (factDig (readRes l).2.num.natAbs n.toNat n.toNat) n.toNat).1)) ∨
    (unrCode n l ≠ 0 ∧ e = .returned (.tuple #[.slice none 0 0, .int .i64 (unrCode n l)])))
set_option maxRecDepth 100000 in
set_option maxHeartbeats 2000000 in
theorem Unrank_c (n : Int) (l : List UInt8) (w : World) (hl : l.length < 4294967281) (hG : Glob w) (hD : OkLen l.length) (hF : Fits (readRes l).2.num.natAbs) :
    Calls Tryz.prog 59 #[.int .i64 n, .string ⟨l.toArray⟩] w (unrPost n l w) := by
  have RD := Lib.hid (read_c l w hl hG hD)
  have HF := Lib.hid hF
  clear hl hG hD hF
  by_cases hn : 0 ≤ n ∧ n ≤ 256
  · obtain ⟨m, rfl⟩ := Int.eq_ofNat_of_zero_le hn.1
    have hm : m ≤ 256 := by omega
    have HW : Hid (inRange (m : Int) 0 256 = 0) := Lib.hid (by unfold inRange; rw [if_pos hn])
    have HC : Hid (unrCode (m : Int) l = if (readRes l).1 ≠ 0 then (readRes l).1 else if (readRes l).2.num < 0 ∨ (readRes l).2.den ≠ 1 then 3 else if factRest (readRes l).2.num.natAbs m ≠ 0 then 3 else 0) := Lib.hid (by
      unfold unrCode; rw [if_neg (by simpa using hn)]; rfl)
    have HT : Hid ((m : Int).toNat = m) := Lib.hid (by simp)
    clear hn
    unfold unrPost
    rw [HT.out]
    generalize hrr : readRes l = rr at *
    obtain ⟨code, q⟩ := rr
    dsimp only at HC HF ⊢
    clear hrr
    go_enter Tryz.func59, Tryz.ntmps59
    go_wp2_with (go_at_call 132; refine (within_c _ _ _ _).mono ?_; rintro e w' ⟨rfl, rfl⟩; rw [HW.out])
    by_cases hc : code = 0
    · have RD2 : Hid (Calls Tryz.prog 102 #[.string ⟨l.toArray⟩] w (okPost q w)) := Lib.hid (RD.out.mono fun e w' h => by unfold readPost at h; rw [if_pos hc] at h; exact h)
      have HC2 : Hid (unrCode (m : Int) l = if q.num < 0 ∨ q.den ≠ 1 then 3 else if factRest q.num.natAbs m ≠ 0 then 3 else 0) := Lib.hid (by rw [HC.out, if_neg (by simpa using hc)])
      clear hc RD HC
      refine RD2.out.mono ?_
      clear RD2
      rintro e w1 ⟨v, rfl, hv, hB1⟩
      obtain ⟨nv, dv, rfl, hnv, hdv⟩ := hv
      obtain ⟨A1, n1, k1, rfl, _⟩ := hnv.size_
      obtain ⟨A2, n2, k2, rfl, _⟩ := hdv.size_
      have Hn := Lib.hid hnv
      have Hd := Lib.hid hdv
      clear hnv hdv
      have hs1 := hB1.size
      by_cases hneg : q.num < 0
      · have HR : Hid (unrCode (m : Int) l = 3) := Lib.hid (by rw [HC2.out, if_pos (.inl hneg)])
        have hde : decide (q.num < 0) = true := by simpa using hneg
        rw [hde]
        clear hneg hde
        go_wp2
        go_ret2
        exact ⟨hB1.alloc hs1 _, .inr ⟨by rw [HR.out]; decide, by rw [HR.out]; rfl⟩⟩
      · have hde : decide (q.num < 0) = false := by simpa using hneg
        have Hneg := Lib.hid hneg
        rw [hde]
        clear hneg hde
        have hal : Below w1.heap.size w1 (w1.alloc (.cells #[.bool false, .slice A1 n1 k1, .slice A2 n2 k2] 122)) := (Below.refl _ _).alloc (Nat.le_refl _) _
        by_cases hden : q.den = 1
        · have Hden := Lib.hid (decide_eq_true hden)
          have HC3 : Hid (unrCode (m : Int) l = if factRest q.num.natAbs m ≠ 0 then 3 else 0) := Lib.hid (by rw [HC2.out, if_neg (by rintro (h | h); exact Hneg.out h; exact h hden)])
          clear hden HC2
          go_wp2_with (go_at_call 139; refine (isOne_c _ _ _ (Hd.out.below hal)).mono ?_; rintro e w' ⟨rfl, rfl⟩; rw [Hden.out])
          refine (factorialDigits_c _ _ m _ (Hn.out.below hal) HF.out hm).mono ?_
          rintro e w2 ⟨u, r, rfl, hu, hr, hB2⟩
          have HB2 := Lib.hid ((hB1.alloc hs1 (.cells #[.bool false, .slice A1 n1 k1, .slice A2 n2 k2] 122)).trans (hB2.mono (by simp; omega)))
          have Hu := Lib.hid hu
          by_cases hrest : factRest q.num.natAbs m = 0
          · have HC4 : Hid (unrCode (m : Int) l = 0) := Lib.hid (by rw [HC3.out, if_neg (by simpa using hrest)])
            rw [hrest] at hr
            obtain ⟨A3, k3, rfl⟩ := Nt.zero_len hr
            have PK := Lib.hid (pick_c u _ w2 hu (factDig_ok _ _) (by rw [factDig_length]; exact hm))
            clear hu hr hB2 hrest HC3
            go_wp2_with fail
            refine PK.out.mono ?_
            clear PK
            rintro e w3 ⟨g, rfl, hg, hO, hB3⟩
            rw [factDig_length] at hO ⊢
            have HO := Lib.hid hO
            have HB3 := Lib.hid (HB2.out.trans (hB3.mono HB2.out.size))
            have HG := Lib.hid (Nat.le_trans HB2.out.size hg)
            clear hO hB3 hg
            go_wp2
            go_ret2
            exact ⟨HB3.out, .inl ⟨HC4.out, g, rfl, HG.out, HO.out⟩⟩
          · have HC4 : Hid (unrCode (m : Int) l = 3) := Lib.hid (by rw [HC3.out, if_pos hrest])
            obtain ⟨A3, n3, k3, rfl, hn3, _⟩ := hr.pos_len hrest
            clear hu hr hB2 hrest HC3
            go_wp2
            go_ret2
            exact ⟨HB2.out, .inr ⟨by rw [HC4.out]; decide, by rw [HC4.out]; rfl⟩⟩
        · have Hden := Lib.hid (decide_eq_false hden)
          have HR : Hid (unrCode (m : Int) l = 3) := Lib.hid (by rw [HC2.out, if_pos (.inr hden)])
          clear hden HC2
          go_wp2_with (go_at_call 139; refine (isOne_c _ _ _ (Hd.out.below hal)).mono ?_; rintro e w' ⟨rfl, rfl⟩; rw [Hden.out])
          go_ret2
          exact ⟨hB1.alloc hs1 _, .inr ⟨by rw [HR.out]; decide, by rw [HR.out]; rfl⟩⟩
    · have RD2 : Hid (Calls Tryz.prog 102 #[.string ⟨l.toArray⟩] w (errPost code w)) := Lib.hid (RD.out.mono fun e w' h => by unfold readPost at h; rw [if_neg hc] at h; exact h)
      have HC2 : Hid (unrCode (m : Int) l = code) := Lib.hid (by rw [HC.out, if_pos hc])
      have hcb : (code != 0) = true := by simpa using hc
      have Hc := Lib.hid hc
      clear hc RD HC
      refine RD2.out.mono ?_
      clear RD2
      rintro e w1 ⟨rfl, hB1⟩
      unfold zeroR
      have hs1 := hB1.size
      go_wp2
      go_ret2
      exact ⟨hB1.alloc hs1 _, .inr ⟨by rw [HC2.out]; exact Hc.out, by rw [HC2.out]; rfl⟩⟩
  · have HC : Hid (unrCode n l = 3) := Lib.hid (by unfold unrCode; rw [if_pos hn])
    have HW : Hid (inRange n 0 256 = 3) := Lib.hid (by unfold inRange; rw [if_neg hn])
    clear hn RD HF
    go_enter Tryz.func59, Tryz.ntmps59
    go_wp2_with (go_at_call 132; refine (within_c _ _ _ _).mono ?_; rintro e w' ⟨rfl, rfl⟩; rw [HW.out])
    go_ret2
    exact ⟨Below.refl _ _, .inr ⟨by rw [HC.out]; decide, by rw [HC.out]; rfl⟩⟩
end Go.Proofs.YtneafcdfnhnpnaaGreatDoor
/- The numbers of the self-check: what the specifications say at its few inputs. -/
namespace Go.Proofs.YtneafcdfnhnpnaaGreatDoor
open Go.RowKit Go.Lib

def fitB (x : Nat) : Bool := decide (x < WB)
theorem fitB_ok {x : Nat} (h : fitB x = true) : Fits x := .small (of_decide_eq_true h)
def fitQB (q : Rat) : Bool := fitB q.num.natAbs && fitB q.den
theorem fitQB_ok {q : Rat} (h : fitQB q = true) : FitQ q := by
  unfold fitQB at h; rw [Bool.and_eq_true] at h; exact ⟨fitB_ok h.1, fitB_ok h.2⟩
def fitPB (p q : Rat) : Bool := fitQB p && fitQB q && fitB (p.num.natAbs * q.den + q.num.natAbs * p.den)
theorem fitPB_ok {p q : Rat} (h : fitPB p q = true) : FitP p q := by
  unfold fitPB at h; rw [Bool.and_eq_true, Bool.and_eq_true] at h; exact ⟨fitQB_ok h.1.1, fitQB_ok h.1.2, fitB_ok h.2⟩
def clrB (o : Nat) (L P : List Rat) : Bool :=
  fitQB (L[o]?.getD 0) && (List.range L.length).all fun j => decide (j < o) || (fitQB (P[j]?.getD 0) && fitPB (L[j]?.getD 0) (L[o]?.getD 0 * P[j]?.getD 0))
theorem clrB_ok {o : Nat} {L P : List Rat} (h : clrB o L P = true) : ClrOk o L P := by
  unfold clrB at h
  rw [Bool.and_eq_true] at h
  refine ⟨fitQB_ok h.1, fun j hj hl => ?_⟩
  have := List.all_eq_true.1 h.2 j (List.mem_range.2 hl)
  rw [Bool.or_eq_true, Bool.and_eq_true] at this
  rcases this with h1 | h1
  · have := of_decide_eq_true h1; omega
  · exact ⟨fitQB_ok h1.1, fitPB_ok h1.2⟩
def stepB (row col : Nat) (S : ElS Rat) : Bool :=
  (rowOf (elSwap row S) S.cols.length).all fitQB &&
  (List.range (elDiv ratF row col S).length).all fun i => decide (i = S.cols.length) || match (elDiv ratF row col S)[i]? with
    | none => true
    | some r => clrB col r.2.2 (rowOf (elDiv ratF row col S) S.cols.length)
theorem stepB_ok {row col : Nat} {S : ElS Rat} (h : stepB row col S = true) : StepOk row col S := by
  unfold stepB at h
  rw [Bool.and_eq_true] at h
  refine ⟨fun x hx => fitQB_ok (List.all_eq_true.1 h.1 x hx), fun i r hi hne => ?_⟩
  have := List.all_eq_true.1 h.2 i (List.mem_range.2 (List.getElem?_eq_some_iff.1 hi).1)
  rw [Bool.or_eq_true, hi] at this
  rcases this with h1 | h1
  · exact absurd (of_decide_eq_true h1) hne
  · exact clrB_ok h1
def elB (n : Nat) : Nat → Nat → ElS Rat → Bool
  | 0, _, _ => true
  | k + 1, fr, S => match pivF ratF S.rows S.cols.length (n - fr) fr with
    | none => true
    | some (row, col) => stepB row col S && elB n k (col + 1) (elStep ratF row col S)
theorem elB_ok {n : Nat} : ∀ (k fr : Nat) (S : ElS Rat), elB n k fr S = true → ElOk n k fr S
  | 0, _, _, _ => trivial
  | k + 1, fr, S, h => by
    unfold ElOk
    unfold elB at h
    split
    · trivial
    · rename_i row col hp
      rw [hp] at h
      simp only [Bool.and_eq_true] at h
      exact ⟨stepB_ok h.1, elB_ok k _ _ h.2⟩
def okB (n : Nat) (M : List (List Rat)) : Bool := elB n M.length 0 ⟨bareR M, [], [], false⟩
theorem okB_ok {n : Nat} {M : List (List Rat)} (h : okB n M = true) : OkM n M := elB_ok _ _ _ h
def finB (S : ElS Rat) : Bool := S.rows.all fun r => r.2.2.all fitQB
theorem finB_ok {S : ElS Rat} (h : finB S = true) : FinOk S := fun r hr x hx => fitQB_ok (List.all_eq_true.1 (List.all_eq_true.1 h r hr) x hx)
def kerB (n : Nat) (M : List (List Rat)) : Bool := okB n (M.map List.reverse) && finB (elimM ratF n (M.map List.reverse))
theorem kerB_ok {n : Nat} {M : List (List Rat)} (h : kerB n M = true) : KerOk n M := by
  unfold kerB at h; rw [Bool.and_eq_true] at h; exact ⟨okB_ok h.1, finB_ok h.2⟩
def solB (n : Nat) (M : List (List Rat)) (b : List Rat) : Bool := okB (n + 1) (joinM M b) && (solL n M b).all fitQB
theorem solB_ok {n : Nat} {M : List (List Rat)} {b : List Rat} (h : solB n M b = true) : SolOk n M b := by
  unfold solB at h; rw [Bool.and_eq_true] at h; exact ⟨okB_ok h.1, fun q hq => fitQB_ok (List.all_eq_true.1 h.2 q hq)⟩
def detB (n : Nat) (M : List (List Rat)) : Bool :=
  okB n M && ((List.range (elimM ratF n M).piv.length).all fun k => fitQB (detFrom (elimM ratF n M) k) && fitQB ((elimM ratF n M).piv[k]?.getD 0)) && fitQB (detM n M)
theorem detB_ok {n : Nat} {M : List (List Rat)} (h : detB n M = true) : DetMOk n M := by
  unfold detB at h
  rw [Bool.and_eq_true, Bool.and_eq_true] at h
  refine ⟨okB_ok h.1.1, fun k hk => ?_, fitQB_ok h.2⟩
  have := List.all_eq_true.1 h.1.2 k (List.mem_range.2 hk)
  rw [Bool.and_eq_true] at this
  exact ⟨fitQB_ok this.1, fitQB_ok this.2⟩
def prodB (L P : List Rat) : Bool := (List.range L.length).all fun k => fitQB (L[k]?.getD 0) && fitQB (P[k]?.getD 0) && fitPB (prodTo L P k) (L[k]?.getD 0 * P[k]?.getD 0)
theorem prodB_ok {L P : List Rat} (h : prodB L P = true) : ProdOk L P := fun k hk => by
  have := List.all_eq_true.1 h k (List.mem_range.2 hk)
  rw [Bool.and_eq_true, Bool.and_eq_true] at this
  exact ⟨fitQB_ok this.1.1, fitQB_ok this.1.2, fitPB_ok this.2⟩
def refB (n : Nat) (V : List (List Rat)) (b y : List Rat) : Bool :=
  (List.range (n + 1)).all fun j => prodB ((refE n V b)[j]?.getD []) y && fitPB (prodTo ((refE n V b)[j]?.getD []) y V.length) ((refS n)[j]?.getD 0)
theorem refB_ok {n : Nat} {V : List (List Rat)} {b y : List Rat} (h : refB n V b y = true) : RefOk n V b y := fun j hj => by
  have := List.all_eq_true.1 h j (List.mem_range.2 hj)
  rw [Bool.and_eq_true] at this
  exact ⟨prodB_ok this.1, fitPB_ok this.2⟩

/- texts -/
def aM1 : List (List Txt) := [[[49], [50], [51]], [[50], [52], [55]]]
def aB1 : List Txt := [[52], [57]]
def aM2 : List (List Txt) := [[[49], [50]], [[51], [52]]]
def aM3 : List (List Txt) := [[[49], [49]], [[50], [50]]]
def aB3 : List Txt := [[49], [51]]
def aY3 : List Txt := [[45, 50], [49]]
theorem aR1 : matErr aM1 = 0 := by decide +kernel
theorem aV1 : aM1.map rvals = [[1, 2, 3], [2, 4, 7]] := by decide +kernel
theorem aR2 : eqErr aM1 aB1 = 0 := by decide +kernel
theorem aV2 : rvals aB1 = [4, 9] := by decide +kernel
theorem aR3 : matErr aM2 = 0 := by decide +kernel
theorem aV3 : aM2.map rvals = [[1, 2], [3, 4]] := by decide +kernel
theorem aR4 : eqErr aM3 aB3 = 0 := by decide +kernel
theorem aR5 : sideErr aY3 2 = 0 := by decide +kernel
theorem aV4 : aM3.map rvals = [[1, 1], [2, 2]] := by decide +kernel
theorem aV5 : rvals aB3 = [1, 3] := by decide +kernel
theorem aV6 : rvals aY3 = [-2, 1] := by decide +kernel
theorem aK1 : kerB 3 [[1, 2, 3], [2, 4, 7]] = true := by decide +kernel
theorem aK2 : kerL 3 [[1, 2, 3], [2, 4, 7]] = [[1, -1/2, 0]] := by decide +kernel
theorem aK3 : AllShort [[1, -1/2, 0]] := by
  intro L hL q hq
  simp only [List.mem_singleton] at hL
  subst hL
  simp only [List.mem_cons, List.not_mem_nil, or_false] at hq
  rcases hq with rfl | rfl | rfl <;> decide +kernel
theorem aS1 : solB 3 [[1, 2, 3], [2, 4, 7]] [4, 9] = true := by decide +kernel
theorem aS2 : solL 3 [[1, 2, 3], [2, 4, 7]] [4, 9] = [1, 0, 1] := by decide +kernel
theorem aS3 : 3 ∉ (solS 3 [[1, 2, 3], [2, 4, 7]] [4, 9]).cols := by decide +kernel
theorem aD1 : detB 2 [[1, 2], [3, 4]] = true := by decide +kernel
theorem aD2 : detM 2 [[1, 2], [3, 4]] = -2 := by decide +kernel
theorem aF1 : refB 2 [[1, 1], [2, 2]] [1, 3] [-2, 1] = true := by decide +kernel
theorem aF2 : Refutes 2 [[1, 1], [2, 2]] [1, 3] [-2, 1] := by
  intro j hj
  rcases j with _ | _ | _ | j
  · decide +kernel
  · decide +kernel
  · decide +kernel
  · omega
end Go.Proofs.YtneafcdfnhnpnaaGreatDoor
/- Contracts: the reference's comparisons of lists and matrices of texts. -/
namespace Go.Proofs.YtneafcdfnhnpnaaGreatDoor
open Go.RowKit Go.Lib

theorem dropT_step' {p q : List Txt} {k : Nat} (hk : k < p.length) (hl : p.length = q.length) (h : (decide (p.drop k = q.drop k)) = decide (p = q)) (he : p[k]?.getD [] = q[k]?.getD []) : decide (p.drop (k + 1) = q.drop (k + 1)) = decide (p = q) := by
  have hq : k < q.length := by omega
  refine dropT_step hk hl h ?_
  rw [List.getElem?_eq_getElem hk, List.getElem?_eq_getElem hq] at he ⊢
  simp only [Option.getD_some] at he
  rw [he]
theorem dropT_diff' {p q : List Txt} {k : Nat} (he : p[k]?.getD [] ≠ q[k]?.getD []) : decide (p = q) = false :=
  dropT_diff (k := k) (fun h => he (by rw [h]))

set_option maxRecDepth 100000 in
set_option maxHeartbeats 2000000 in
theorem refSameRow_c (v u : Value) (p q : List Txt) (w : World) (hv : SlW w v (scells p)) (hu : SlW w u (scells q)) :
    Calls Tryz.prog 101 #[v, u] w fun e w' => e = .returned (.bool (decide (p = q))) ∧ Below w.heap.size w w' := by
  obtain ⟨A, c, rfl, hc1, hc2⟩ := hv.form
  obtain ⟨B, d, rfl, gc1, gc2⟩ := hu.form
  simp only [scells_length] at hc1 hc2 hv gc1 gc2 hu ⊢
  obtain ⟨r, hr⟩ : ∃ r, decide (p = q) = r := ⟨_, rfl⟩
  have HR := Lib.hid hr
  rw [hr]
  by_cases hl : p.length = q.length
  · have hb : ((p.length : Int) != (q.length : Int)) = false := by rw [hl]; simp
    have HL := Lib.hid hl
    clear hr hl
    go_enter Tryz.func101, Tryz.ntmps101
    go_wp2_with fail
    go_loopg [5] p.length (fun g i wr => ∃ (k : Nat), k + g = p.length ∧ i = .int .i64 k ∧ Hid (decide (p.drop k = q.drop k) = decide (p = q)) ∧ Below w.heap.size w wr)
    case atStart => exact ⟨0, by omega, rfl, Lib.hid rfl, Below.refl _ _⟩
    case round =>
      obtain ⟨k, hk, rfl, hD, hB⟩ := hrel
      cases gk with
      | zero =>
        have hin : ¬ ((k : Int) < (p.length : Int)) := by omega
        have HT : Hid (r = true) := Lib.hid (by
          rw [← HR.out, ← hD.out, List.drop_eq_nil_of_le (by omega), List.drop_eq_nil_of_le (by have := HL.out; omega)]; rfl)
        clear hk
        go_wp2
        go_ret
        exact ⟨by rw [HT.out]; rfl, hB⟩
      | succ g =>
        have hlt : k < p.length := by omega
        have hlq : k < q.length := by have := HL.out; omega
        obtain ⟨b1, off1, rfl, hbb1, hcell1⟩ := hv.at_ (k := k) (by rw [scells_length]; omega)
        obtain ⟨b2, off2, rfl, hbb2, hcell2⟩ := hu.at_ (k := k) (by rw [scells_length]; omega)
        have hck1 := (hB.cell (p := ⟨b1, off1 + k, none⟩) hbb1).trans ((hcell1 k (by rw [scells_length]; omega)).trans (scells_at p k hlt))
        have hck2 := (hB.cell (p := ⟨b2, off2 + k, none⟩) hbb2).trans ((hcell2 k (by rw [scells_length]; omega)).trans (scells_at q k hlq))
        have Hstep := Lib.hid (fun he => dropT_step' hlt HL.out hD.out he)
        have Hdiff := Lib.hid (fun he => dropT_diff' (p := p) (q := q) (k := k) he)
        have Hk := Lib.hid hk
        clear hcell1 hcell2 hv hu hk
        generalize p[k]?.getD [] = x at *
        generalize q[k]?.getD [] = y at *
        unfold sv at hck1 hck2
        by_cases he : x = y
        · have Hs := Lib.hid (Hstep.out he)
          have hxy : (x == y) = true := by simpa using he
          clear he
          go_wp2
          go_quiet (fail)
          have hB' := below_drewN hB nq
          go_wp2
          go_roundg g
          case rel => exact ⟨k + 1, by have := Hk.out; omega, by go_num, Hs, hB'⟩
          case measure => omega
        · have Hs := Lib.hid (Hdiff.out he)
          have hxy : (x == y) = false := by simpa using he
          clear he
          have HF : Hid (r = false) := Lib.hid (by rw [← HR.out]; exact Hs.out)
          go_wp2
          go_quiet (fail)
          have hB' := below_drewN hB nq
          go_wp2
          go_ret
          exact ⟨by rw [HF.out]; rfl, hB'⟩
  · have hb : ((p.length : Int) != (q.length : Int)) = true := by simpa using (by omega : ¬ (p.length : Int) = q.length)
    have hne : p ≠ q := by intro h; subst h; exact hl rfl
    have HF : Hid (r = false) := Lib.hid (by rw [← hr]; simpa using hne)
    clear hr hne hl
    go_enter Tryz.func101, Tryz.ntmps101
    go_wp2
    go_ret
    exact ⟨by rw [HF.out]; rfl, Below.refl _ _⟩

set_option maxRecDepth 100000 in
set_option maxHeartbeats 4000000 in
theorem refSameMatrix_c (v u : Value) (P Q : List (List Txt)) (w : World) (hv : TblT w v P) (hu : TblT w u Q) :
    Calls Tryz.prog 99 #[v, u] w fun e w' => e = .returned (.bool (decide (P = Q))) ∧ Below w.heap.size w w' := by
  obtain ⟨vs, hvs, hvl, hvr⟩ := hv
  obtain ⟨us, hus, hul, hur⟩ := hu
  obtain ⟨A, c, rfl, hc1, hc2⟩ := hvs.form
  obtain ⟨B, d, rfl, gc1, gc2⟩ := hus.form
  rw [hvl] at hvs hc1 hc2
  rw [hul] at hus gc1 gc2
  obtain ⟨r, hr⟩ : ∃ r, decide (P = Q) = r := ⟨_, rfl⟩
  have HR := Lib.hid hr
  rw [hr, hvl, hul]
  by_cases hl : P.length = Q.length
  · have hb : ((P.length : Int) != (Q.length : Int)) = false := by rw [hl]; simp
    have HL := Lib.hid hl
    have HVR := Lib.hid hvr
    have HUR := Lib.hid hur
    clear hr hl hvr hur
    go_enter Tryz.func99, Tryz.ntmps99
    go_wp2_with fail
    go_loopg [5] P.length (fun g i wr => ∃ (k : Nat), k + g = P.length ∧ i = .int .i64 k ∧ Hid (decide (P.drop k = Q.drop k) = decide (P = Q)) ∧ Below w.heap.size w wr)
    case atStart => exact ⟨0, by omega, rfl, Lib.hid rfl, Below.refl _ _⟩
    case round =>
      obtain ⟨k, hk, rfl, hD, hB⟩ := hrel
      cases gk with
      | zero =>
        have hin : ¬ ((k : Int) < (P.length : Int)) := by omega
        have HT : Hid (r = true) := Lib.hid (by
          rw [← HR.out, ← hD.out, List.drop_eq_nil_of_le (by omega), List.drop_eq_nil_of_le (by have := HL.out; omega)]; rfl)
        clear hk
        go_wp2
        go_ret
        exact ⟨by rw [HT.out]; rfl, hB⟩
      | succ g =>
        have hlt : k < P.length := by omega
        have hlq : k < Q.length := by have := HL.out; omega
        obtain ⟨v1, hv1, hs1⟩ := HVR.out k _ (List.getElem?_eq_getElem hlt)
        obtain ⟨u1, hu1, ht1⟩ := HUR.out k _ (List.getElem?_eq_getElem hlq)
        obtain ⟨b1, off1, rfl, hbb1, hcell1⟩ := hvs.at_ (k := k) (by rw [hvl]; omega)
        obtain ⟨b2, off2, rfl, hbb2, hcell2⟩ := hus.at_ (k := k) (by rw [hul]; omega)
        have hck1 := (hB.cell (p := ⟨b1, off1 + k, none⟩) hbb1).trans ((hcell1 k (by rw [hvl]; omega)).trans hv1)
        have hck2 := (hB.cell (p := ⟨b2, off2 + k, none⟩) hbb2).trans ((hcell2 k (by rw [hul]; omega)).trans hu1)
        have Hstep := Lib.hid (fun he => dropT_step hlt HL.out hD.out he)
        have Hdiff := Lib.hid (fun he => dropT_diff (p := P) (q := Q) (k := k) he)
        rw [List.getElem?_eq_getElem hlt, List.getElem?_eq_getElem hlq] at Hstep Hdiff
        have Hk := Lib.hid hk
        have hbl1 := Nat.lt_of_lt_of_le hbb1 hB.size
        have hbl2 := Nat.lt_of_lt_of_le hbb2 hB.size
        have SI := Lib.hid (fun (W : World) (hb : Below wr.heap.size wr W) => refSameRow_c v1 u1 P[k] Q[k] W ((hs1.below hB).below hb) ((ht1.below hB).below hb))
        have KS : Hid (∀ z, Below wr.heap.size wr z → z.cell? ⟨b1, off1 + k, none⟩ = some v1 ∧ z.cell? ⟨b2, off2 + k, none⟩ = some u1 ∧ Below wr.heap.size wr z) := Lib.hid (fun z hb =>
          ⟨(hb.cell (p := ⟨b1, off1 + k, none⟩) hbl1).trans hck1, (hb.cell (p := ⟨b2, off2 + k, none⟩) hbl2).trans hck2, hb⟩)
        have KT := Lib.hid (fun (x x' : World) (hb : Below x.heap.size x x') (h5 : Below wr.heap.size wr x) => KS.out x' (h5.trans (hb.mono h5.size)))
        have HB := Lib.hid hB
        clear hcell1 hcell2 hvs hus hk hs1 ht1 hv1 hu1 hB hD
        generalize P[k] = x at *
        generalize Q[k] = y at *
        obtain ⟨bb, hbb⟩ : ∃ bb, decide (x = y) = bb := ⟨_, rfl⟩
        rw [hbb] at SI
        cases bb with
        | true =>
          have Hs := Lib.hid (Hstep.out (by rw [of_decide_eq_true hbb]))
          clear hbb Hstep Hdiff
          go_wp2
          go_region_held3 (fun z => z.cell? ⟨b1, off1 + k, none⟩ = some v1 ∧ z.cell? ⟨b2, off2 + k, none⟩ = some u1 ∧ Below wr.heap.size wr z)
            (first | exact KS.out _ (Below.refl _ _).drew | exact KT.out _ _ (by assumption) (by assumption))
            (first | (go_at_call 101; go_split_ands; refine (SI.out _ (by assumption)).mono ?_; rintro e4 w4 ⟨rfl, hB4⟩))
          have hB' : Below w.heap.size w w4 := by go_split_ands; exact HB.out.trans (by rename_i h; exact h.mono HB.out.size)
          go_wp2
          go_roundg g
          case rel => exact ⟨k + 1, by have := Hk.out; omega, by go_num, Hs, hB'⟩
          case measure => omega
        | false =>
          have Hs := Lib.hid (Hdiff.out (fun h => of_decide_eq_false hbb (Option.some.inj h)))
          clear hbb Hstep Hdiff
          have HF : Hid (r = false) := Lib.hid (by rw [← HR.out]; exact Hs.out)
          go_wp2
          go_region_held3 (fun z => z.cell? ⟨b1, off1 + k, none⟩ = some v1 ∧ z.cell? ⟨b2, off2 + k, none⟩ = some u1 ∧ Below wr.heap.size wr z)
            (first | exact KS.out _ (Below.refl _ _).drew | exact KT.out _ _ (by assumption) (by assumption))
            (first | (go_at_call 101; go_split_ands; refine (SI.out _ (by assumption)).mono ?_; rintro e4 w4 ⟨rfl, hB4⟩))
          have hB' : Below w.heap.size w w4 := by go_split_ands; exact HB.out.trans (by rename_i h; exact h.mono HB.out.size)
          go_wp2
          go_ret
          exact ⟨by rw [HF.out]; rfl, hB'⟩
  · have hb : ((P.length : Int) != (Q.length : Int)) = true := by simpa using (by omega : ¬ (P.length : Int) = Q.length)
    have hne : P ≠ Q := by intro h; subst h; exact hl rfl
    have HF : Hid (r = false) := Lib.hid (by rw [← hr]; simpa using hne)
    clear hr hne hl
    go_enter Tryz.func99, Tryz.ntmps99
    go_wp2
    go_ret
    exact ⟨by rw [HF.out]; rfl, Below.refl _ _⟩
end Go.Proofs.YtneafcdfnhnpnaaGreatDoor
/- A range over a function whose values are slices that the function has made: the law for the caller. -/
namespace Go.Proofs.YtneafcdfnhnpnaaGreatDoor
open Go.RowKit Go.Lib

/-- what an iterator promises that gives xs out, one after another, and makes its first block its own:
    Pr sb x v A: the value v shows x in A; Kp sb A A': what it asks of a round -/
def SeqQ {α : Type} (P : Program) (gf : Nat) (lb : Array Value) (xs : List α) (Pr : Nat → α → Value → World → Prop) (Kp : Nat → World → World → Prop) (W : World) : Prop :=
  ∀ (l : Nat) (J : List α → World → Prop),
    (∀ pre A A', J pre A → But W.heap.size A A' → J pre A') →
    (∀ pre x post v A, xs = pre ++ x :: post → J pre A → W.heap.size < A.heap.size → Pr W.heap.size x v A →
      YieldAt Fence.wide 2 P l #[v] A fun e A' => e = .returned (.bool true) ∧ J (pre ++ [x]) A' ∧ Kp W.heap.size A A') →
    J [] W →
    CallsIn Fence.wide 3 P gf (#[.func (.yield l) #[] #[]] ++ lb) W fun e W' => (∃ v, e = .returned v) ∧ J xs W'

/-- how the body of the loop ends -/
def bodyQ (b : Nat) (R : World → World → Prop) (A : World) : Exit → Act → World → Prop
  | .normal, _, A' => A'.heap[b]? = A.heap[b]? ∧ A'.heap[b + 1]? = A.heap[b + 1]? ∧ R A A'
  | _, _, _ => False

theorem range_own {α : Type} {P : Program} {g : Operand} {ps : Array Tmp} {assign body : Code} {Q : Exit → Act → World → Prop} {a : Act} {w : World} {gf : Nat} {lb : Array Value} {xs : List α} {Pr : Nat → α → Value → World → Prop} {Kp : Nat → World → World → Prop}
    (hg : a.eval g = .func (.func gf) #[] lb) (eg : ∀ args w, (callFunc gf args).run P w = .ok (.enter gf args) w)
    (hseq : ∀ W, Below w.heap.size w W → W.heap.size = w.heap.size + 2 → SeqQ P gf lb xs Pr Kp W) (hps : ps.size = 1)
    (I : List α → World → Prop) (hI : ∀ pre A A', I pre A → But (w.heap.size + 2) A A' → I pre A') (hI2 : ∀ pre A l o, I pre A → l = w.heap.size + 1 → l < A.heap.size → I pre (A.putObj l o))
    (hKt : ∀ A B C, Kp (w.heap.size + 2) A B → Kp (w.heap.size + 2) B C → Kp (w.heap.size + 2) A C) (hKb : ∀ A o, w.heap.size + 1 < A.heap.size → Kp (w.heap.size + 2) A (A.putObj (w.heap.size + 1) o))
    (hPr : ∀ x v A o, w.heap.size + 1 < A.heap.size → Pr (w.heap.size + 2) x v A → Pr (w.heap.size + 2) x v (A.putObj (w.heap.size + 1) o))
    (h0 : ∀ o1 o2, I [] ((w.alloc o1).alloc o2)) (a₁ : Value → Act)
    (hassign : ∀ (l : Nat) (v : Value) (W : World) (K : Act → World → Prop), K (a₁ v) W →
      assign.wpIn (Fence.wide.inRound l) 2 P (Exit.then K fun _ _ _ => False) { tmps := (ps.zip #[v]).foldl (fun t (p, v) => t.setIfInBounds p v) a.tmps, defers := [] } W)
    (hbody : ∀ (l : Nat) pre x post v A, xs = pre ++ x :: post → I pre A → w.heap.size + 2 < A.heap.size → Pr (w.heap.size + 2) x v A →
      body.wpIn (Fence.wide.inRound l) 2 P (bodyQ w.heap.size (fun A A' => I (pre ++ [x]) A' ∧ Kp (w.heap.size + 2) A A') A) (a₁ v) A)
    (hdone : ∀ W, I xs W → W.heap[w.heap.size]? = some (.deferred (some [])) → Q .normal { a with defers := { target := .collected w.heap.size, args := #[] } :: a.defers } W) :
    (Code.rangeFunc g ps assign body).wpIn Fence.wide 4 P Q a w := by
  refine wpIn_rangeFunc fun fn hfn => ?_
  generalize hrec : (fun st pe => ({ state := st, pending := pe, fn, tmps := a.tmps, params := ps, assign, body, defers := w.heap.size } : Loop)) = rec
  have hrec' : ∀ st pe, rec st pe = { state := st, pending := pe, fn, tmps := a.tmps, params := ps, assign, body, defers := w.heap.size } := fun st pe => by rw [← hrec]
  clear hrec
  obtain ⟨W1, hW1⟩ : ∃ W1, W1 = (w.alloc (.deferred (some []))).alloc (.loop (rec .ready none)) := ⟨_, rfl⟩
  have hs1 : W1.heap.size = w.heap.size + 2 := by rw [hW1]; simp
  have hL1 : W1.heap[w.heap.size + 1]? = some (.loop (rec .ready none)) := by
    rw [hW1]; have := World.alloc_heap_new (w.alloc (.deferred (some []))) (.loop (rec .ready none)); rwa [World.size_alloc] at this
  have hD1 : W1.heap[w.heap.size]? = some (.deferred (some [])) := by
    rw [hW1]; exact (Below.heap_alloc _ _ _ (by simp)).trans (World.alloc_heap_new w _)
  have hB1 : Below w.heap.size w W1 := by rw [hW1]; exact ((Below.refl _ w).alloc (Nat.le_refl _) _).alloc (by simp) _
  have hI1 : I [] W1 := by rw [hW1]; exact h0 _ _
  refine ⟨w.heap.size + 1, [{ target := .collected w.heap.size, args := #[] }], W1, { target := .fn (.func gf) lb, args := #[.func (.yield (w.heap.size + 1)) #[] #[]] }, W1, gf,
    #[.func (.yield (w.heap.size + 1)) #[] #[]] ++ lb, W1, ?_, ?_, fun _ _ => trivial, ?_, (fun h => by cases h), ?_⟩
  · rw [hW1, hrec']; exact run_enterLoop_outer _ _ _ _ _
  · simp only [resolve, hg]
    simp [go_sem]
  · simp [invoke, go_sem, eg]
  have hq := hseq W1 hB1 hs1 (w.heap.size + 1) (fun pre A => I pre A ∧ A.heap[w.heap.size + 1]? = some (.loop (rec .ready none)) ∧ A.heap[w.heap.size]? = some (.deferred (some [])))
  rw [hs1] at hq
  refine (hq ?_ ?_ ⟨hI1, hL1, hD1⟩).mono ?_
  · rintro pre A A' ⟨hi, hl, hd⟩ hb
    have h1 := (Array.getElem?_eq_some_iff.1 hl).1
    exact ⟨hI _ _ _ hi hb, (hb.block _ h1 (by omega)).trans hl, (hb.block _ (by omega) (by omega)).trans hd⟩
  · rintro pre x post v A hx ⟨hi, hl, hd⟩ hlt hp
    have h1 := (Array.getElem?_eq_some_iff.1 hl).1
    have hy := run_yield (P := P) (args := #[v]) hl (by rw [hrec']; simp [hps])
    rw [hrec'] at hy
    refine ⟨fn, _, assign, body, hy, roundIn_of_wpIn trivial (hassign _ v A _ ⟨_, run_beginRound hl (by rw [hrec']), ?_⟩)⟩
    obtain ⟨A2, hA2⟩ : ∃ A2, A2 = A.putObj (w.heap.size + 1) (.loop { rec .ready none with state := .busy }) := ⟨_, rfl⟩
    have hl2 : A2.heap[w.heap.size + 1]? = some (.loop { rec .ready none with state := .busy }) := by rw [hA2]; exact World.putObj_heap_same h1
    have hd2 : A2.heap[w.heap.size]? = some (.deferred (some [])) := by rw [hA2]; exact (World.putObj_heap_other (by omega)).trans hd
    have hk2 : Kp (w.heap.size + 2) A A2 := by rw [hA2]; exact hKb _ _ h1
    have hi2 : I pre A2 := by rw [hA2]; exact hI2 _ _ _ _ hi rfl h1
    have hp2 : Pr (w.heap.size + 2) x v A2 := by rw [hA2]; exact hPr _ _ _ _ h1 hp
    have hs2 : A2.heap.size = A.heap.size := by rw [hA2]; simp [World.putObj]
    rw [← hA2]
    refine wpIn_mono (hbody _ pre x post v A2 hx hi2 (by omega) hp2) ?_
    rintro e a3 W3 hq3
    cases e with
    | normal =>
      obtain ⟨q1, q2, hi3, hk3⟩ := hq3
      have hl3 := q2.trans hl2
      have h3 := (Array.getElem?_eq_some_iff.1 hl3).1
      have hr := run_endRound (P := P) none hl3
      refine ⟨_, _, hr, rfl, ⟨hI2 _ _ _ _ hi3 rfl h3, ?_, (World.putObj_heap_other (by omega)).trans (q1.trans hd2)⟩, hKt _ _ _ (hKt _ _ _ hk2 hk3) (hKb _ _ h3)⟩
      rw [World.putObj_heap_same h3, hrec']
      rfl
    | ret => exact hq3.elim
    | exit id => exact hq3.elim
    | goto t => exact hq3.elim
    | panic ch => exact hq3.elim
    | outgrown => exact hq3.elim
  · rintro e W2 ⟨⟨v, rfl⟩, hi, hl, hd⟩
    have h1 := (Array.getElem?_eq_some_iff.1 hl).1
    have he := run_endLoop (P := P) hl (by rw [hrec']; simp)
    rw [hrec'] at he
    exact ⟨none, _, he, hdone _ (hI2 _ _ _ _ hi rfl h1) ((World.putObj_heap_other (by omega)).trans hd)⟩
end Go.Proofs.YtneafcdfnhnpnaaGreatDoor
/- The cycles of a permutation as the program finds them: what is said of them. -/
namespace Go.Proofs.YtneafcdfnhnpnaaGreatDoor
open Go.RowKit Go.Lib

/-- one cycle from i on, and what has been seen behind it -/
def follow (p : List Int) : Nat → List Bool → Nat → List Int × List Bool
  | 0, s, _ => ([], s)
  | f + 1, s, i => if s[i]?.getD true = true then ([], s) else ((i : Int) :: (follow p f (s.set i true) (p[i]?.getD 0).toNat).1, (follow p f (s.set i true) (p[i]?.getD 0).toNat).2)
/-- what the first k starts give -/
def cycTo (p : List Int) : Nat → List (List Int) × List Bool
  | 0 => ([], List.replicate p.length false)
  | k + 1 => if (cycTo p k).2[k]?.getD true = true then cycTo p k else ((cycTo p k).1 ++ [(follow p p.length (cycTo p k).2 k).1], (follow p p.length (cycTo p k).2 k).2)
def cycs (p : List Int) : List (List Int) := (cycTo p p.length).1
/-- how many are not seen yet -/
def unseen (s : List Bool) : Nat := s.countP (· == false)

theorem unseen_le (s : List Bool) : unseen s ≤ s.length := List.countP_le_length
theorem unseen_set : ∀ (s : List Bool) (i : Nat), s[i]? = some false → unseen (s.set i true) + 1 = unseen s
  | [], i, h => by simp at h
  | x :: s, 0, h => by simp at h; subst h; simp [unseen]
  | x :: s, i + 1, h => by
    have := unseen_set s i (by simpa using h)
    unfold unseen at *
    rw [List.set_cons_succ, List.countP_cons, List.countP_cons]; omega
theorem follow_len (p : List Int) : ∀ (f : Nat) (s : List Bool) (i : Nat), (follow p f s i).2.length = s.length
  | 0, s, i => rfl
  | f + 1, s, i => by
    rw [follow]; split
    · rfl
    · simp [follow_len p f]
theorem follow_seen (p : List Int) (f : Nat) (s : List Bool) (i : Nat) (h : s[i]?.getD true = true) : follow p f s i = ([], s) := by
  cases f with
  | zero => rfl
  | succ f => rw [follow, if_pos h]
theorem cycTo_len (p : List Int) : ∀ k, (cycTo p k).2.length = p.length
  | 0 => by simp [cycTo]
  | k + 1 => by
    rw [cycTo]; split
    · exact cycTo_len p k
    · rw [follow_len]; exact cycTo_len p k
theorem cycTo_pre (p : List Int) (k : Nat) : ∀ m, ∃ t, (cycTo p (k + m)).1 = (cycTo p k).1 ++ t
  | 0 => ⟨[], by simp⟩
  | m + 1 => by
    obtain ⟨t, ht⟩ := cycTo_pre p k m
    rw [← Nat.add_assoc, cycTo]
    split
    · exact ⟨t, ht⟩
    · exact ⟨t ++ [(follow p p.length (cycTo p (k + m)).2 (k + m)).1], by rw [ht]; simp⟩
theorem cycs_split (p : List Int) {k : Nat} (hk : k < p.length) (h : (cycTo p k).2[k]?.getD true = false) :
    ∃ post, cycs p = (cycTo p k).1 ++ (follow p p.length (cycTo p k).2 k).1 :: post := by
  obtain ⟨t, ht⟩ := cycTo_pre p (k + 1) (p.length - (k + 1))
  rw [show k + 1 + (p.length - (k + 1)) = p.length by omega] at ht
  unfold cycs
  rw [ht, cycTo, if_neg (by rw [h]; decide)]
  exact ⟨t, by simp⟩
end Go.Proofs.YtneafcdfnhnpnaaGreatDoor
/- Contract: the reference's identity; a first loop that appends. -/
namespace Go.Proofs.YtneafcdfnhnpnaaGreatDoor
open Go.RowKit

def idL (k : Nat) : List Int := (List.range k).map fun (i : Nat) => (i : Int)
theorem idL_succ (k : Nat) : icells (idL (k + 1)) = icells (idL k) ++ [.int .i64 k] := by simp [idL, icells, List.range_succ]

set_option maxRecDepth 100000 in
set_option maxHeartbeats 2000000 in
theorem refIdentity_c (n : Nat) (w : World) (hn : n ≤ 1000) :
    Calls Tryz.prog 94 #[.int .i64 n] w fun e w' => ∃ v, e = .returned v ∧ w'.ownsRow w.heap.size 3 1 v n (icells (idL n)) ∧ Below w.heap.size w w' := by
  obtain ⟨i0, hi, hz0, hz1, hz2⟩ := info_parts info_int
  go_enter Tryz.func94, Tryz.ntmps94
  go_wp2_with fail
  go_loopg [3, 4] n (fun g v i wr => ∃ (k : Nat), k + g = n ∧ i = .int .i64 k ∧ wr.ownsRow w.heap.size 3 1 v k (icells (idL k)) ∧ Below w.heap.size w wr)
  case atStart => exact ⟨0, by omega, rfl, by exact World.ownsRow_nil w w.heap.size 3 1, Below.refl _ _⟩
  case round =>
    obtain ⟨k, hk, rfl, hO, hB⟩ := hrel
    cases gk with
    | zero =>
      have hkn : k = n := by omega
      have hin : ¬ ((k : Int) < (n : Int)) := by omega
      rw [hkn] at hO
      have HO := Lib.hid hO
      clear hkn hO hk
      go_wp2
      go_ret
      exact ⟨_, rfl, HO.out, hB⟩
    | succ g =>
      have hin : ((k : Int) < (n : Int)) := by omega
      have hs := hB.size
      have Hk := Lib.hid hk
      have hkk : k < 1000 := by omega
      have HO := Lib.hid hO
      clear hk hO
      go_wp2_with (at_builtin; (refine wpList_append_own _ rfl _ _ 50 rfl w.heap.size 3 i0 (.int .i64 0) 1 8 Tryz.underlying50 hi hz0 hz1 hz2 rfl (by decide) _ _ _ rfl (HO.out.alloc _) ⟨wr.heap.size, 0, none⟩ 1 1 [.int .i64 k] rfl rfl (cell_one_new _ _ _) (fun x hx => by simp at hx; subst hx; rfl) (by unfold maxLen; omega) (by omega) (by simp; omega) ?_; intro v' w1 hown' hgrow _))
      have hB' := Below.grown (hB.alloc hB.size (.cells #[.int .i64 k] 3)) hgrow (by simp; omega) (fun j hj => by have := (HO.out.lt _ hj).1; omega)
      rw [← idL_succ] at hown'
      have HO' := Lib.hid hown'
      clear hown' hgrow hB
      go_wp2
      go_roundg g
      case rel => exact ⟨k + 1, by have := Hk.out; omega, by go_num, HO'.out, hB'⟩
      case measure => omega

theorem comp_succ (p q : List Int) (k : Nat) (h : k < q.length) : icells (comp p (q.take (k + 1))) = icells (comp p (q.take k)) ++ [.int .i64 (p[(q[k]?.getD 0).toNat]?.getD 0)] := by
  rw [take_succ_int q k h]; simp [comp, icells]
set_option maxRecDepth 100000 in
set_option maxHeartbeats 2000000 in
theorem refCompose_c (v u : Value) (p q : List Int) (w : World) (hv : Sl w 1 v (icells p)) (hu : Sl w 1 u (icells q)) (hq : ∀ x ∈ q, 0 ≤ x ∧ x < (p.length : Int)) (hl : q.length ≤ 1000) :
    Calls Tryz.prog 57 #[v, u] w fun e w' => ∃ v, e = .returned v ∧ w'.ownsRow w.heap.size 3 1 v q.length (icells (comp p q)) ∧ Below w.heap.size w w' := by
  obtain ⟨A, c, rfl, hc1, hc2⟩ := hv.form
  obtain ⟨B, d, rfl, gc1, gc2⟩ := hu.form
  simp only [icells_length] at hc1 hv gc1 hu ⊢
  obtain ⟨i0, hi, hz0, hz1, hz2⟩ := info_parts info_int
  go_enter Tryz.func57, Tryz.ntmps57
  go_wp2_with fail
  go_loopg [5, 6] q.length (fun g v i wr => ∃ (k : Nat), k + g = q.length ∧ i = .int .i64 k ∧ wr.ownsRow w.heap.size 3 1 v k (icells (comp p (q.take k))) ∧ Below w.heap.size w wr)
  case atStart => exact ⟨0, by omega, rfl, by exact World.ownsRow_nil w w.heap.size 3 1, Below.refl _ _⟩
  case round =>
    obtain ⟨k, hk, rfl, hO, hB⟩ := hrel
    cases gk with
    | zero =>
      have hkn : k = q.length := by omega
      have hin : ¬ ((k : Int) < (q.length : Int)) := by omega
      rw [hkn, List.take_of_length_le (Nat.le_refl _)] at hO
      have HO := Lib.hid hO
      clear hkn hO hk
      go_wp2
      go_ret
      exact ⟨_, rfl, HO.out, hB⟩
    | succ g =>
      have hlt : k < q.length := by omega
      have hs := hB.size
      have hkk : k < 1000 := by omega
      have Hk := Lib.hid hk
      have HO := Lib.hid hO
      obtain ⟨b2, off2, rfl, hbb2, hcell2⟩ := hu.at_ (k := k) (by rw [icells_length]; omega)
      have hck2 := (hB.cell (p := ⟨b2, off2 + k, none⟩) hbb2).trans ((hcell2 k (by rw [icells_length]; omega)).trans (icells_at q k hlt))
      have hx := hq (q[k]?.getD 0) (by rw [List.getElem?_eq_getElem hlt]; exact List.getElem_mem hlt)
      have hst := Lib.hid (comp_succ p q k hlt)
      generalize q[k]?.getD 0 = x at *
      obtain ⟨j, rfl⟩ := Int.eq_ofNat_of_zero_le hx.1
      have hjp : j < p.length := by omega
      obtain ⟨b1, off1, rfl, hbb1, hcell1⟩ := hv.at_ (k := j) (by rw [icells_length]; omega)
      have hck1 := (hB.cell (p := ⟨b1, off1 + j, none⟩) hbb1).trans ((hcell1 j (by rw [icells_length]; omega)).trans (icells_at p j hjp))
      have hst2 : Hid (icells (comp p (q.take (k + 1))) = icells (comp p (q.take k)) ++ [.int .i64 (p[j]?.getD 0)]) := Lib.hid (by rw [hst.out]; simp)
      generalize p[j]?.getD 0 = y at *
      clear hk hO hcell1 hcell2 hx hv hu hq hst
      go_wp2_with (at_builtin; (refine wpList_append_own _ rfl _ _ 50 rfl w.heap.size 3 i0 (.int .i64 0) 1 8 Tryz.underlying50 hi hz0 hz1 hz2 rfl (by decide) _ _ _ rfl (HO.out.alloc _) ⟨wr.heap.size, 0, none⟩ 1 1 [.int .i64 y] rfl rfl (cell_one_new _ _ _) (fun x hx => by simp at hx; subst hx; rfl) (by unfold maxLen; omega) (by omega) (by simp; omega) ?_; intro v' w1 hown' hgrow _))
      have hB' := Below.grown (hB.alloc hB.size (.cells #[.int .i64 y] 3)) hgrow (by simp; omega) (fun j hj => by have := (HO.out.lt _ hj).1; omega)
      rw [← hst2.out] at hown'
      have HO' := Lib.hid hown'
      clear hown' hgrow hB
      go_wp2
      go_roundg g
      case rel => exact ⟨k + 1, by have := Hk.out; omega, by go_num, HO'.out, hB'⟩
      case measure => omega

end Go.Proofs.YtneafcdfnhnpnaaGreatDoor
/- Contract: the iterator of cyclesOf. -/
namespace Go.Proofs.YtneafcdfnhnpnaaGreatDoor
open Go.RowKit Go.Lib Go.Shelf
attribute [local go_sem] Oper.semAt_some

/-- the elements of p lie at b0, off -/
def RdP (p : List Int) (A : Option Addr) (b0 off : Nat) (w : World) : Prop := b0 < w.heap.size ∧ ∀ j u, (icells p)[j]? = some u → A = some ⟨b0, off, none⟩ ∧ w.cell? ⟨b0, off + j, none⟩ = some u
/-- a value that shows a cycle, in a block that was made behind the iterator's own -/
def PrC (sb : Nat) (x : List Int) (v : Value) (w : World) : Prop := ∃ base, sb < base ∧ base ≤ w.heap.size ∧ w.ownsRow base 3 1 v x.length (icells x) ∧ x ≠ []
/-- what a round must keep -/
def KpC (Bp b0 sb : Nat) (w w' : World) : Prop := w.heap.size ≤ w'.heap.size ∧ w'.heap[sb]? = w.heap[sb]? ∧ w'.heap[Bp]? = w.heap[Bp]? ∧ w'.heap[b0]? = w.heap[b0]?
theorem KpC.trans {Bp b0 sb : Nat} {a b c : World} (h : KpC Bp b0 sb a b) (k : KpC Bp b0 sb b c) : KpC Bp b0 sb a c :=
  ⟨Nat.le_trans h.1 k.1, k.2.1.trans h.2.1, k.2.2.1.trans h.2.2.1, k.2.2.2.trans h.2.2.2⟩
theorem But.grownQ {g : Nat} {w a b : World} {row : Option Nat} (h : But g w a) (hg : a.grownBy b row) (hr : ∀ k, row = some k → w.heap.size ≤ k) : But g w b :=
  ⟨hg.os.trans h.os, hg.tape.trans h.tape, hg.output.trans h.output, Nat.le_trans h.size hg.size, fun k hk hne => (hg.block k (Nat.lt_of_lt_of_le hk h.size) (fun e => by have := hr k e.symm; omega)).trans (h.block k hk hne)⟩
theorem But.allocQ {g : Nat} {w a : World} (h : But g w a) (o : Obj) : But g w (a.alloc o) :=
  ⟨h.os, h.tape, h.output, by simp; have := h.size; omega, fun k hk hne => (Below.heap_alloc a o k (Nat.lt_of_lt_of_le hk h.size)).trans (h.block k hk hne)⟩
theorem RdP.same {p : List Int} {A : Option Addr} {b0 off : Nat} {w w' : World} (h : RdP p A b0 off w) (hs : w.heap.size ≤ w'.heap.size) (hb : w'.heap[b0]? = w.heap[b0]?) : RdP p A b0 off w' :=
  ⟨Nat.lt_of_lt_of_le h.1 hs, fun j u hu => ⟨(h.2 j u hu).1, (World.cell?_of_block (a := ⟨b0, off + j, none⟩) hb).trans (h.2 j u hu).2⟩⟩

set_option maxRecDepth 100000 in
set_option maxHeartbeats 4000000 in
theorem cycles_in (p : List Int) (A : Option Addr) (c Bp b0 off : Nat) (hp : PermL p) (hl : p.length ≤ 256) (W : World) (hbox : W.cell? ⟨Bp, 0, none⟩ = some (.slice A p.length c)) (hBp : Bp < W.heap.size) (hR : RdP p A b0 off W) :
    SeqQ Tryz.prog 191 #[.pointer (some ⟨Bp, 0, none⟩)] (cycs p) PrC (KpC Bp b0) W := by
  intro l J hJ hY h0
  obtain ⟨i0, hi0, hz0, hz1, hz2⟩ := info_parts info_int
  have HJ := Lib.hid hJ
  have HY := Lib.hid hY
  have HR := Lib.hid hR
  have HP := Lib.hid hp
  have hmk := make_bools W p.length (by omega)
  clear hJ hY hR hp
  refine callsIn_of_wp Tryz.func191 rfl trivial ?_ rfl
  simp only [Tryz.ntmps191, List.size_toArray, List.length_cons, List.length_nil, Nat.reduceAdd, Nat.reduceSub, Array.replicate_succ, Array.replicate_zero, List.push_toArray, List.append_toArray, List.nil_append, List.cons_append]
  gi_wp2
  gi_loopg [12] p.length (fun gh ix wr => ∃ k : Nat, ix = .int .i64 k ∧ k + gh = p.length ∧ Hid (J (cycTo p k).1 wr) ∧ Hid (Own wr W.heap.size 4 (bcells (cycTo p k).2)) ∧ Hid (wr.cell? ⟨Bp, 0, none⟩ = some (.slice A p.length c)) ∧ Hid (RdP p A b0 off wr))
  case atStart =>
    have hB := (Below.refl W.heap.size W).alloc (Nat.le_refl _) (.cells (bcells (List.replicate p.length false)).toArray 4)
    exact ⟨0, rfl, by omega, Lib.hid (HJ.out [] W _ h0 ((But.refl _ _).allocQ _)), Lib.hid (Own.make _ _ _), Lib.hid ((hB.cell (p := ⟨Bp, 0, none⟩) hBp).trans hbox), Lib.hid (HR.out.same hB.size (Below.heap_alloc _ _ _ HR.out.1))⟩
  case round =>
    obtain ⟨k, rfl, hk, hJk, hO, hBx, hRd⟩ := hrel
    generalize wr = wb at *
    have hcl := cycTo_len p k
    clear hmk
    cases gk with
    | zero =>
      have hin : ¬ ((k : Int) < (p.length : Int)) := by omega
      have hkk : k = p.length := by omega
      subst hkk
      clear hcl hO hBx hRd
      gi_wp2
      go_end0
      exact ⟨⟨_, rfl⟩, hJk.out⟩
    | succ gh =>
      have hlt : k < p.length := by omega
      have hlt' : (k : Int) < (p.length : Int) := by omega
      have hck := (hO.out.cell k).trans (bcells_at (cycTo p k).2 k (by omega))
      have hsb := hO.out.lt
      cases hs : (cycTo p k).2[k]?.getD true with
      | true =>
        have hs2 : (cycTo p k).2[k]?.getD false = true := by
          rw [List.getElem?_eq_getElem (by omega)] at hs ⊢; exact hs
        have hstep : cycTo p (k + 1) = cycTo p k := by rw [cycTo, if_pos hs]
        rw [hs2] at hck
        have HT : Hid (cycTo p (k + 1) = cycTo p k) := Lib.hid hstep
        clear hs hs2 hstep hcl
        gi_wp2
        gi_roundg gh
        case rel => exact ⟨k + 1, by go_num, by omega, by rw [HT.out]; exact hJk, by rw [HT.out]; exact hO, hBx, hRd⟩
        case measure => omega
      | false =>
        have hs2 : (cycTo p k).2[k]?.getD false = false := by
          rw [List.getElem?_eq_getElem (by omega)] at hs ⊢; exact hs
        obtain ⟨post, hpost⟩ := cycs_split p hlt hs
        rw [hs2] at hck
        have HS := Lib.hid hs
        clear hs hs2
        have HF : Hid (follow p p.length (cycTo p k).2 k = (follow p p.length (cycTo p k).2 k)) := Lib.hid rfl
        have HSl := Lib.hid hcl
        have hb0 := HR.out.1
        generalize hS0 : (cycTo p k).2 = S0 at *
        gi_wp2
        gi_loopg [5, 6] p.length (fun gh2 cv iv wx => ∃ (C : List Int) (s : List Bool) (i : Nat), iv = .int .i64 i ∧ i < p.length ∧ C.length + gh2 = p.length ∧ Hid (follow p p.length S0 k = (C ++ (follow p gh2 s i).1, (follow p gh2 s i).2)) ∧ Hid (unseen s ≤ gh2) ∧ s.length = p.length ∧ Hid (Own wx W.heap.size 4 (bcells s)) ∧ Hid (wx.ownsRow wb.heap.size 3 1 cv C.length (icells C)) ∧ Hid (But W.heap.size wb wx))
        case atStart => exact ⟨[], S0, k, rfl, hlt, by simp, Lib.hid (by simp), Lib.hid (by have := unseen_le S0; omega), hcl, hO, Lib.hid (World.ownsRow_nil _ _ _ _), Lib.hid (But.refl _ _)⟩
        case round =>
          obtain ⟨C, s, i, rfl, hi, hC, hF, hU, hsl, hOs, hcv, hW⟩ := hrel
          have hci := (hOs.out.cell i).trans (bcells_at s i (by omega))
          have hfr := hOs.out.free i
          have hwsz := hW.out.size
          cases hs : s[i]?.getD true with
          | true =>
            have hs2 : s[i]?.getD false = true := by
              rw [List.getElem?_eq_getElem (by omega)] at hs ⊢; exact hs
            rw [hs2] at hci
            have hfs := hF.out
            rw [follow_seen p gk s i hs, List.append_nil] at hfs
            have hJx := HJ.out _ _ _ hJk.out hW.out
            have hne : C ≠ [] := by
              rintro rfl
              have : (follow p p.length S0 k).1 = [] := by rw [hfs]
              rw [show p.length = gh + k + 1 by omega, follow, if_neg (by rw [HS.out]; decide)] at this
              cases this
            have hC1 : (cycTo p (k + 1)) = ((cycTo p k).1 ++ [C], s) := by rw [cycTo, hS0, if_neg (by rw [HS.out]; decide), hfs]
            obtain ⟨fn, tmps, assign, body, hy, hRd2⟩ := HY.out (cycTo p k).1 C post u5 wr (by rw [hpost, hfs]) hJx (by omega) ⟨wb.heap.size, by omega, hwsz, hcv.out, hne⟩
            have HC1 := Lib.hid hC1
            have HBx2 := Lib.hid (((World.cell?_of_block (a := ⟨Bp, 0, none⟩) (hW.out.block Bp (by omega) (by omega))).trans hBx.out))
            have HRd2 := Lib.hid (hRd.out.same hwsz (hW.out.block b0 (by omega) (by omega)))
            clear hs hs2 hfs hne hC1 hJx hpost hF hU hcv hBx hRd
            gi_wp2
            refine hRd2.mono ?_
            rintro e W3 ⟨rfl, hJ3, hk3⟩
            have HJ3 := Lib.hid hJ3
            have HK3 := Lib.hid hk3
            clear hJ3 hk3 hRd2
            gi_wp2
            gi_roundg gh
            case rel =>
              refine ⟨k + 1, by go_num, by omega, ?_, ?_, ?_, ?_⟩
              · rw [HC1.out]; exact HJ3
              · rw [HC1.out]; exact Lib.hid (HK3.out.2.1.trans hOs.out)
              · exact Lib.hid ((World.cell?_of_block (a := ⟨Bp, 0, none⟩) HK3.out.2.2.1).trans HBx2.out)
              · exact Lib.hid (HRd2.out.same HK3.out.1 HK3.out.2.2.2)
            case measure => omega
          | false =>
            have hs2 : s[i]?.getD false = false := by
              rw [List.getElem?_eq_getElem (by omega)] at hs ⊢; exact hs
            have hs3 : s[i]? = some false := by
              rw [List.getElem?_eq_getElem (by omega)] at hs ⊢; exact congrArg some hs
            rw [hs2] at hci
            cases gk with
            | zero => have := unseen_set s i hs3; have := hU.out; omega
            | succ g2 =>
              have hU2 : Hid (unseen (s.set i true) ≤ g2) := Lib.hid (by have := unseen_set s i hs3; have := hU.out; omega)
              have hpi := HP.out.1 (p[i]?.getD 0) (by rw [List.getElem?_eq_getElem hi]; exact List.getElem_mem hi)
              obtain ⟨hA0, hpc⟩ := HR.out.2 i _ (icells_at p i hi)
              have hF2 := hF.out
              rw [follow, if_neg (by rw [hs]; decide)] at hF2
              obtain ⟨_, hpcb⟩ := hRd.out.2 i _ (icells_at p i hi)
              have hfrom : ∀ w2 : World, But W.heap.size wb w2 → w2.cell? ⟨Bp, 0, none⟩ = some (.slice A p.length c) ∧ w2.cell? ⟨b0, off + i, none⟩ = some (.int .i64 (p[i]?.getD 0)) := fun w2 hb =>
                ⟨(World.cell?_of_block (a := ⟨Bp, 0, none⟩) (hb.block Bp (by omega) (by omega))).trans hBx.out, (World.cell?_of_block (a := ⟨b0, off + i, none⟩) (hb.block b0 (by omega) (by omega))).trans hpcb⟩
              generalize p[i]?.getD 0 = x at *
              obtain ⟨j, rfl⟩ := Int.eq_ofNat_of_zero_le hpi.1
              have hjp : j < p.length := by omega
              have HF2 : Hid (follow p p.length S0 k = ((C ++ [(i : Int)]) ++ (follow p g2 (s.set i true) j).1, (follow p g2 (s.set i true) j).2)) := Lib.hid (by rw [hF2]; simp)
              subst hA0
              have hkc : C.length < 256 := by omega
              have HFR := Lib.hid hfrom
              have HO2 := Lib.hid (show Own (wr.setCell ⟨W.heap.size, i, none⟩ (.bool true)) W.heap.size 4 (bcells (s.set i true)) from by rw [← bcells_set]; exact hOs.out.put i _)
              have HW2 := Lib.hid (hW.out.setCell (p := ⟨W.heap.size, i, none⟩) rfl (.bool true))
              have HC2 := Lib.hid (show (wr.setCell ⟨W.heap.size, i, none⟩ (.bool true)).ownsRow wb.heap.size 3 1 u5 C.length (icells C) from oKeep hcv.out (fun k' _ e => Below.heap_setCell _ _ _ _ (fun e2 => by have := (hcv.out.lt k' e).1; dsimp only at e2; omega)))
              have hnew : ∀ (j' : Nat) (u : Value), [Value.int .i64 (i : Int)][j']? = some u → ((wr.setCell ⟨W.heap.size, i, none⟩ (.bool true)).alloc (.cells #[.int .i64 (i : Int)] 3)).cell? ((⟨wr.heap.size, 0, none⟩ : Addr).add j') = some u := by
                have h := cell_one_new (wr.setCell ⟨W.heap.size, i, none⟩ (.bool true)) (.int .i64 (i : Int)) 3
                have e : (wr.setCell ⟨W.heap.size, i, none⟩ (.bool true)).heap.size = wr.heap.size := by simp
                rw [e] at h
                exact h
              have HN := Lib.hid hnew
              clear hs hs2 hs3 hF hU hF2 hpc hpcb hfrom hpost hcv hOs hW hnew
              gi_wp2_with (gi_at_builtin; (refine wpListIn_append_own _ rfl _ _ 50 rfl wb.heap.size 3 i0 (.int .i64 0) 1 8 Tryz.underlying50 hi0 hz0 hz1 hz2 rfl (by decide) _ _ _ rfl (HC2.out.alloc _) ⟨wr.heap.size, 0, none⟩ 1 1 [.int .i64 i] rfl rfl HN.out (fun x hx => by simp at hx; subst hx; rfl) (by unfold maxLen; omega) (by omega) (by simp; omega) ?_; intro v' w1 hown' hgrow _; have hB1 := ((HW2.out.allocQ (.cells #[.int .i64 (i : Int)] 3))).grownQ hgrow (fun k' e => (HC2.out.lt k' e).1); obtain ⟨hx1, hx2⟩ := HFR.out _ hB1; have HO3 := Lib.hid ((HO2.out.alloc (.cells #[.int .i64 (i : Int)] 3)).grown hgrow (fun e => by have := (HC2.out.lt _ e).1; omega)); have HC3 := Lib.hid hown'; have HB1 := Lib.hid hB1; clear hown' hgrow hB1))
              gi_roundg g2
              case rel =>
                exact ⟨C ++ [(i : Int)], s.set i true, j, rfl, hjp, by simp; omega, HF2, hU2, by simpa using hsl, HO3, Lib.hid (by simpa [icells] using HC3.out), HB1⟩
              case measure => omega
end Go.Proofs.YtneafcdfnhnpnaaGreatDoor
/- Contracts: cyclesOf, Sign. -/
namespace Go.Proofs.YtneafcdfnhnpnaaGreatDoor
open Go.RowKit Go.Lib Go.Shelf
attribute [local go_sem] Oper.semAt_some

theorem cyclesOf_c (A : Option Addr) (n c : Nat) (w : World) : Calls Tryz.prog 136 #[.slice A n c] w fun e w' => e = .returned (.func (.func 191) #[] #[.pointer (some ⟨w.heap.size, 0, none⟩)]) ∧ w' = w.alloc (.cells #[.slice A n c] 50) := by
  go_enter Tryz.func136, Tryz.ntmps136
  go_wp2
  go_ret
  exact ⟨rfl, rfl⟩
/-- the sign that so many cycles give -/
def signL (cs : List (List Int)) : Int := cs.foldl (fun s c => if c.length % 2 = 0 then -s else s) 1
theorem signL_snoc (cs : List (List Int)) (c : List Int) : signL (cs ++ [c]) = if c.length % 2 = 0 then -(signL cs) else signL cs := by simp [signL]
theorem signL_pm (cs : List (List Int)) : signL cs = 1 ∨ signL cs = -1 := by
  have h : ∀ (cs : List (List Int)) (s : Int), (s = 1 ∨ s = -1) → (cs.foldl (fun s c => if c.length % 2 = 0 then -s else s) s = 1 ∨ cs.foldl (fun s c => if c.length % 2 = 0 then -s else s) s = -1) := by
    intro cs
    induction cs with
    | nil => intro s hs; exact hs
    | cons c cs ih => intro s hs; rw [List.foldl_cons]; refine ih _ ?_; split <;> omega
  exact h cs 1 (.inl rfl)
theorem RdP.ofSl {w : World} {p : List Int} {A : Option Addr} {c Bp : Nat} (h : Sl w 1 (.slice A p.length c) (icells p)) (hB : Bp < w.heap.size) : ∃ b0 off, RdP p A b0 off w ∧ (b0 = Bp ∨ p ≠ []) := by
  by_cases hp : p = []
  · exact ⟨Bp, 0, ⟨hB, fun j u hu => by subst hp; simp [icells] at hu⟩, .inl rfl⟩
  · obtain ⟨b, off, hA, hb, hc⟩ := h.at_ (k := 0) (by rw [icells_length]; exact List.length_pos_iff.2 hp)
    refine ⟨b, off, ⟨hb, fun j u hu => ⟨hA, ?_⟩⟩, .inr hp⟩
    obtain ⟨hj, _⟩ := List.getElem?_eq_some_iff.1 hu
    exact (hc j hj).trans hu
theorem cycs_ne {p : List Int} {pre post : List (List Int)} {x : List Int} (h : cycs p = pre ++ x :: post) : p ≠ [] := by
  rintro rfl
  have : cycs [] = [] := rfl
  rw [this] at h
  simp at h
theorem Own.putObjQ {w : World} {g l : Nat} {t : TypeId} {cs : List Value} (h : Own w g t cs) (hl : g ≠ l) (o : Obj) : Own (w.putObj l o) g t cs := (World.putObj_heap_other hl).trans h
theorem Below.putObjQ {B l : Nat} {a w : World} (h : Below B a w) (hl : B ≤ l) (o : Obj) : Below B a (w.putObj l o) :=
  ⟨h.os, h.tape, h.output, by have := h.size; simpa [World.putObj] using this, fun k hk => (World.putObj_heap_other (by omega)).trans (h.block k hk)⟩
theorem KpC.putObjQ (Bp b0 sb l : Nat) (w : World) (o : Obj) (h1 : sb ≠ l) (h2 : Bp ≠ l) (h3 : b0 ≠ l) : KpC Bp b0 sb w (w.putObj l o) :=
  ⟨by simp [World.putObj], World.putObj_heap_other h1, World.putObj_heap_other h2, World.putObj_heap_other h3⟩
theorem PrC.putObjQ {sb l : Nat} {x : List Int} {v : Value} {w : World} (h : PrC sb x v w) (hl : l < sb) (o : Obj) : PrC sb x v (w.putObj l o) := by
  obtain ⟨base, h1, h2, h3, h4⟩ := h
  exact ⟨base, h1, by simpa [World.putObj] using h2, oKeep h3 (fun k _ e => World.putObj_heap_other (by have := (h3.lt k e).1; omega)), h4⟩
def signPost (p : List Int) (w : World) (e : Ending) (w' : World) : Prop :=
  e = .returned (.tuple #[.int .i64 (if permErr p = 0 then signL (cycs p) else 0), .int .i64 (permErr p)]) ∧ Below w.heap.size w w'

set_option maxRecDepth 100000 in
set_option maxHeartbeats 4000000 in
theorem Sign_c (v : Value) (p : List Int) (w : World) (hv : Sl w 1 v (icells p)) : Calls Tryz.prog 50 #[v] w (signPost p w) := by
  obtain ⟨A, c, rfl, hc1, hc2⟩ := hv.form
  simp only [icells_length] at hc1 hv ⊢
  have CP := Lib.hid (fun W h => CheckPerm_c (.slice A p.length c) p W h)
  by_cases he : permErr p = 0
  · have hPp : PermL p ∧ p.length ≤ 256 := by unfold permErr at he; split at he; omega; split at he; exact ⟨by assumption, by omega⟩; omega
    have HV := Lib.hid hv
    have He := Lib.hid he
    obtain ⟨hP, hl⟩ := hPp
    have HP := Lib.hid hP
    clear hv he hP
    refine (callsIn_wide (n := 4)).1 ?_
    refine callsIn_of_wp_marks Tryz.func50 rfl trivial ?_ rfl
    simp only [Tryz.ntmps50, List.size_toArray, List.length_cons, List.length_nil, Nat.reduceAdd, Nat.reduceSub, Array.replicate_succ, Array.replicate_zero, List.push_toArray, List.append_toArray, List.nil_append, List.cons_append]
    gi_wp2_with (first | (refine ⟨trivial, ?_⟩; gi_at_call 45; refine (callsIn_wide.2 (CP.out _ HV.out)).mono ?_; rintro e w1 ⟨rfl, hB1⟩; rw [He.out]) | (refine ⟨trivial, ?_⟩; gi_at_call 136; refine (callsIn_wide.2 (cyclesOf_c _ _ _ _)).mono ?_; rintro e w2 ⟨rfl, rfl⟩))
    have hn1 := hB1.size
    have hal : Below w1.heap.size w1 ((w1.alloc (.cells #[.int .i64 1] 3)).alloc (.cells #[.slice A p.length c] 50)) := ((Below.refl _ w1).alloc (Nat.le_refl _) _).alloc (by simp) _
    have hOs := (Own.make w1 3 [.int .i64 1]).alloc (.cells #[.slice A p.length c] 50)
    have hOb := Own.make (w1.alloc (.cells #[.int .i64 1] 3)) 50 [.slice A p.length c]
    simp only [World.size_alloc] at hOb
    have hsl := (HV.out.below hB1).below hal
    have hBw := hB1.trans (hal.mono hn1)
    have hsz : ((w1.alloc (.cells #[.int .i64 1] 3)).alloc (.cells #[.slice A p.length c] 50)).heap.size = w1.heap.size + 2 := by simp
    obtain ⟨w3, hw3⟩ : ∃ w3, w3 = (w1.alloc (.cells #[.int .i64 1] 3)).alloc (.cells #[.slice A p.length c] 50) := ⟨_, rfl⟩
    rw [← hw3] at hal hOs hOb hsl hsz hBw ⊢
    clear hw3
    obtain ⟨b0, off, hRd, hb0⟩ := RdP.ofSl (Bp := w1.heap.size + 1) hsl (by omega)
    have hb0w : b0 = w1.heap.size + 1 ∨ (p ≠ [] ∧ b0 < w1.heap.size) := by
      rcases hb0 with h | h
      · exact .inl h
      · refine .inr ⟨h, ?_⟩
        obtain ⟨b, o, hA, hb, _⟩ := (HV.out.below hB1).at_ (k := 0) (by rw [icells_length]; exact List.length_pos_iff.2 h)
        have h1 := (hRd.2 0 _ (icells_at p 0 (List.length_pos_iff.2 h))).1
        rw [hA] at h1
        cases h1
        exact hb
    refine range_own (gf := 191) (lb := #[.pointer (some ⟨w1.heap.size + 1, 0, none⟩)]) (xs := cycs p) (Pr := PrC) (Kp := KpC (w1.heap.size + 1) b0) rfl (enters_of Tryz.func191 (by kernel_rfl) rfl)
      (fun W hW hs => cycles_in p A c (w1.heap.size + 1) b0 off HP.out hl W ((hW.cell (p := ⟨w1.heap.size + 1, 0, none⟩) (by simp; omega)).trans (hOb.cell 0)) (by omega) (hRd.same hW.size (hW.block b0 (by rcases hb0w with h | h <;> omega)))) rfl
      (fun pre A => Own A w1.heap.size 3 [.int .i64 (signL pre)] ∧ Below w.heap.size w A)
      (fun pre A A' h hb => ⟨h.1.but hb (by omega), h.2.trans (hb.toBelow (by omega) (Nat.le_trans (by have := h.2.size; omega) (Nat.le_refl _)))⟩)
      (fun pre A l o h hl _ => ⟨h.1.putObjQ (by omega) o, Below.putObjQ h.2 (by omega) o⟩)
      (fun A B C h k => h.trans k) (fun A o hlt => KpC.putObjQ _ _ _ _ A o (by omega) (by omega) (by rcases hb0w with h | h <;> omega))
      (fun x v A o hlt h => h.putObjQ (by omega) o)
      (fun o1 o2 => ⟨(hOs.alloc _).alloc _, (hBw.alloc (by omega) _).alloc (by simp; omega) _⟩)
      (fun v => { tmps := #[.slice A p.length c, undef, .int .i64 0, .int .i64 0, .int .i64 0, .pointer (some ⟨w1.heap.size, 0, none⟩), v, .slice A p.length c, .int .i64 0, .int .i64 0, .bool false, undef, .slice A p.length c, .func (.func 191) #[] #[.pointer (some ⟨w1.heap.size + 1, 0, none⟩)], v, undef, undef, undef, undef, undef, undef, undef], defers := [] })
      ?assign ?body ?done
    case assign =>
      intro l v W K hK
      gi_wp2
      exact hK
    case body =>
      rintro l pre x post v A' hx ⟨hO, hB⟩ hlt ⟨base, hb1, hb2, hrow, hne⟩
      obtain ⟨A2, c2, rfl, _, _⟩ := oForm hrow
      have hpe := cycs_ne hx
      have hb0' : b0 ≠ w1.heap.size := by
        rcases hb0w with h | h
        · omega
        · omega
      have hcl : A'.cell? ⟨w1.heap.size, 0, none⟩ = some (.int .i64 (signL pre)) := hO.cell 0
      have hfr := hO.free 0
      have hst := signL_snoc pre x
      have hpm := signL_pm pre
      have HO := Lib.hid hO
      have HB := Lib.hid hB
      clear hO hB hrow
      generalize signL pre = s at *
      have hs1 : -1 ≤ s ∧ s ≤ 1 := by omega
      clear hpm
      gi_wp2
      · rename_i hev
        have hev' : x.length % 2 = 0 := by simp at hev; omega
        rw [if_pos hev'] at hst
        refine ⟨Below.heap_setCell _ _ _ _ (by simp; omega), Below.heap_setCell _ _ _ _ (by simp; omega), ⟨by rw [hst]; exact HO.out.put 0 _, HB.out.setCell (by simp; omega) _⟩, ?_⟩
        exact ⟨by simp, Below.heap_setCell _ _ _ _ (by simp; omega), Below.heap_setCell _ _ _ _ (by simp), Below.heap_setCell _ _ _ _ hb0'⟩
      · rename_i hev
        have hev' : ¬ x.length % 2 = 0 := by simp at hev; omega
        rw [if_neg hev'] at hst
        exact ⟨rfl, rfl, ⟨by rw [hst]; exact HO.out, HB.out⟩, Nat.le_refl _, rfl, rfl, rfl⟩
    case done =>
      rintro W ⟨hO, hB⟩ hD
      have hcl : W.cell? ⟨w1.heap.size, 0, none⟩ = some (.int .i64 (signL (cycs p))) := hO.cell 0
      have HB := Lib.hid hB
      have HD := Lib.hid hD
      clear hB hD hO
      gi_wp2
      refine ⟨by simp, .inl ⟨_, _, rfl, run_takeDeferred HD.out, ?_⟩⟩
      exact ⟨_, results_tmp2 rfl _ _ _, by rw [if_pos He.out, He.out]; rfl, Below.putObjQ HB.out (by omega) _⟩
  · have hne : (permErr p != 0) = true := by simpa using he
    have He := Lib.hid he
    have HV := Lib.hid hv
    clear he hv
    go_enter Tryz.func50, Tryz.ntmps50
    go_wp2_with fail
    refine (CP.out _ HV.out).mono ?_
    rintro e w1 ⟨rfl, hB1⟩
    have HB1 := Lib.hid hB1
    clear hB1 CP
    generalize hec : permErr p = ec at *
    have HEC := Lib.hid hec
    clear hec
    go_wp2
    go_ret2
    exact ⟨by rw [HEC.out, if_neg He.out]; rfl, HB1.out⟩
end Go.Proofs.YtneafcdfnhnpnaaGreatDoor
