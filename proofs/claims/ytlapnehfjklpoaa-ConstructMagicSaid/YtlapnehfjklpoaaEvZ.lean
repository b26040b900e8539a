/- Closed calls by reckoning: regions that draw their order, once more: one operation, and the whole region. -/
import Derived.Test.YtlapnehfjklpoaaEvY
namespace Go.Proofs.Ytlapnehfjklpoaa
open Go.RowKit

section
variable {P : Program} {rec : Task → Tm → St → Option Res} {all : List Oper} {ms al : List Nat} {G : List (Nat × List Nat)} {N0 N1 : Nat} {tm0 : Tm} {B : Nat} {ρ ρ' : Nat → Place} {w w' w0 w1 : World} {a : Act} {s s' : St} {o : Oper} {F : List GRec} {hs : List Nat} {sn : List (Tr Blk)}
  {h0 : Nat → Option Blk} {WT : List Nat} {ρ0 : Nat → Place} {d : List Deferred} {listed : Array Bool} {p : Nat} {H : Tr Blk}
theorem GInv.step (S : GStat P rec all ms al G N0 N1 F tm0 hs sn h0 WT) (ih : ∀ t tm s r, rec t tm s = some r → Sound P B w0 t tm s r) (hd0 : d = tm0.ds.map (dmk ρ0)) (hds : ∀ x ∈ tm0.ds, x < N0) {rc : Option Nat}
    (I : GInv all ms al N0 N1 F tm0 hs sn B w0 ρ0 h0 WT w1 d listed p ρ H a w) {i : Nat} (hi : i < all.length) (hni : lst listed i = false) (hready : ∀ j, Pr ms i j → lst listed j = true) {K : Act → World → Prop} {Q : Exit → Act → World → Prop}
    (hK : ∀ p' ρ' H' a' w', GInv all ms al N0 N1 F tm0 hs sn B w0 ρ0 h0 WT w1 d (listed.setIfInBounds i true) p' ρ' H' a' w' → K a' w') : wpOpIn (fe rc) 0 P ⟨all⟩ Q i K a w := by
  have hN : N0 ≤ N1 := by have := S.hN; omega
  obtain ⟨r, hr⟩ : ∃ r, F[i]? = some r := ⟨F[i]'(by rw [S.hF]; exact hi), List.getElem?_eq_getElem _⟩
  have D := S.facts i r hr
  have hslot : ∀ t, t ∈ reads all r.o ++ r.o.dst.toList → ∀ (j : Nat) (rj : GRec), F[j]? = some rj → rj.o.dst = some t → j ≠ i → (j < i → lst listed j = true) ∧ (i < j → lst listed j = false) := by
    intro t ht j rj hrj hd hij
    obtain ⟨g1, g2⟩ := slotsOK_at S.hsl D.f1 (S.facts j rj hrj).f1 hd ht hij
    refine ⟨fun h => hready _ (g1 h), fun h => ?_⟩
    cases hb : lst listed j with
    | false => rfl
    | true => have := I.closed j i hb (g2 h); rw [hni] at this; cases this
  have hlex : ∀ t, t ∈ reads all r.o ++ r.o.dst.toList → lexG F tm0 all.length (lst listed) t = lexG F tm0 i (fun _ => true) t := by
    intro t ht
    rw [lexG_none (lst listed) t i all.length (Nat.le_of_lt hi) (fun j rj h1 h2 hrj hd => by
      rcases Nat.eq_or_lt_of_le h1 with h3 | h3
      · rw [← h3]; exact hni
      · exact (hslot t ht j rj hrj hd (by omega)).2 h3)]
    exact lexG_congr _ _ t i fun j rj h1 hrj hd => (hslot t ht j rj hrj hd (by omega)).1 h1
  have T : TRel ρ N1 r.tmI a := by
    refine ⟨by rw [D.f2.1]; exact I.tmp.1, fun t v hv => ?_, by rw [I.dfr, hd0, D.f2.2.1, dmk_map I.same hds], by rw [D.f2.2.1]; exact fun x hx => Nat.lt_of_lt_of_le (hds x hx) hN⟩
    obtain ⟨h1, h2⟩ := D.f2.2.2 t v hv
    obtain ⟨v', h6, h7⟩ := I.tmp.2 t v (by rw [hlex t (List.mem_append.2 (.inl h1))]; exact h2)
    refine ⟨v', h6, ?_⟩
    rcases h7 with h7 | ⟨q, x, h7, _, rfl, rfl⟩
    · exact h7.mono hN fun _ _ => rfl
    · have hq : q < al.length := by
        rcases Nat.lt_or_ge q al.length with z | z
        · exact z
        · rw [List.getElem?_eq_none z] at h7; cases h7
      exact .ptr (N0 + q) 0 (by rw [S.hN]; omega)
  -- who is listed then
  have hL : ∀ k, lst (listed.setIfInBounds i true) k = (if k = i then true else lst listed k) := by
    intro k
    unfold lst
    rw [Array.getD_eq_getD_getElem?, Array.getD_eq_getD_getElem?]
    by_cases hk : k = i
    · rw [if_pos hk, hk, Array.getElem?_setIfInBounds_self_of_lt (by rw [I.sz]; exact hi)]; rfl
    · rw [if_neg hk, Array.getElem?_setIfInBounds_ne (Ne.symm hk)]
  have hclosed : ∀ k j, lst (listed.setIfInBounds i true) k = true → Pr ms k j → lst (listed.setIfInBounds i true) j = true := by
    intro k j hk hp
    rw [hL] at hk ⊢
    by_cases hj : j = i
    · rw [if_pos hj]
    · rw [if_neg hj]
      by_cases hki : k = i
      · rw [hki] at hp; exact hready j hp
      · rw [if_neg hki] at hk; exact I.closed k j hk hp
  have hlexo : ∀ t, r.o.dst ≠ some t → lexG F tm0 all.length (lst (listed.setIfInBounds i true)) t = lexG F tm0 all.length (lst listed) t := by
    intro t ht
    refine lexG_congr _ _ t _ fun j rj h1 hrj hd => ?_
    rw [hL]
    by_cases hj : j = i
    · rw [hj, hr] at hrj; cases hrj; exact absurd hd ht
    · rw [if_neg hj]
  have hlexd : ∀ t, r.o.dst = some t → lexG F tm0 all.length (lst (listed.setIfInBounds i true)) t = some r.v := by
    intro t ht
    rw [lexG_none _ t (i + 1) all.length hi (fun j rj h1 h2 hrj hd => by
      rw [hL, if_neg (by omega)]
      exact (hslot t (List.mem_append.2 (.inr (by rw [ht]; simp))) j rj hrj hd (by omega)).2 h1)]
    rw [lexG_step hr, if_pos ⟨by rw [hL, if_pos rfl], ht⟩]
  have hput : ∀ v', (a.put r.o.dst v').tmps.size = tm0.n ∧ ∀ t, (a.put r.o.dst v').tmps[t]? = if r.o.dst = some t then some v' else a.tmps[t]? := by
    intro v'
    cases hd : r.o.dst with
    | none => exact ⟨I.tmp.1, fun t => by rw [if_neg (by simp)]; rfl⟩
    | some x =>
      have hx := D.f5 x hd
      refine ⟨by show (a.tmps.setIfInBounds x v').size = _; rw [Array.size_setIfInBounds]; exact I.tmp.1, fun t => ?_⟩
      show (a.tmps.setIfInBounds x v')[t]? = _
      by_cases ht : x = t
      · rw [if_pos (by rw [ht]), ← ht, Array.getElem?_setIfInBounds_self_of_lt (by rw [I.tmp.1]; exact hx)]
      · rw [if_neg (by simpa using ht), Array.getElem?_setIfInBounds_ne ht]
  have hdf : ∀ v', (a.put r.o.dst v').defers = d := fun v' => by rw [Act.put_defers]; exact I.dfr
  have hop : (⟨all⟩ : Array Oper)[i]? = some r.o := by rw [← D.f1]; simp
  have hszl : (listed.setIfInBounds i true).size = all.length := by rw [Array.size_setIfInBounds]; exact I.sz
  -- a slot's value under another map of places, and another list
  have hold : ∀ (ρ2 : Nat → Place), (∀ j, j < N0 → ρ2 j = ρ j) → (∀ (q x : Nat), al[q]? = some x → lst listed x = true → ρ2 (N0 + q) = ρ (N0 + q)) → ∀ (v' : Value), ∀ t v, r.o.dst ≠ some t → lexG F tm0 all.length (lst (listed.setIfInBounds i true)) t = some v →
      ∃ u', (a.put r.o.dst v').tmps[t]? = some u' ∧ (VRel ρ2 N0 v u' ∨ ∃ q x, al[q]? = some x ∧ lst (listed.setIfInBounds i true) x = true ∧ v = .pointer (some ⟨N0 + q, 0, none⟩) ∧ u' = .pointer (some ⟨(ρ2 (N0 + q)).b, 0 + (ρ2 (N0 + q)).d, none⟩)) := by
    intro ρ2 e1 e2 v' t v ht hv
    rw [hlexo t ht] at hv
    obtain ⟨u', g1, g2⟩ := I.tmp.2 t v hv
    refine ⟨u', by rw [(hput v').2, if_neg ht]; exact g1, ?_⟩
    rcases g2 with g2 | ⟨q, x, k1, k2, k3, k4⟩
    · exact .inl (g2.mono (Nat.le_refl _) e1)
    · refine .inr ⟨q, x, k1, ?_, k3, by rw [e2 q x k1 k2]; exact k4⟩
      rw [hL]; split
      · rfl
      · exact k2
  unfold wpOpIn
  rw [hop]
  simp only
  by_cases hk1 : r.k = 1
  · -- a new block
    obtain ⟨t, q, ht, hq, hv⟩ := D.al1 hk1
    obtain ⟨hopt, hg⟩ := allocT_op ht
    obtain ⟨H0, hH0, _, hal⟩ := S.hal
    obtain ⟨o2, t2, sA, b, k1, k2, k3, k4, k5, k6⟩ := hal q i hq
    rw [D.f1] at k1
    cases k1
    rw [ht] at k2
    cases k2
    have hql : q < al.length := by
      rcases Nat.lt_or_ge q al.length with z | z
      · exact z
      · rw [List.getElem?_eq_none z] at hq; cases hq
    have hidN : N0 + q < N1 := by rw [S.hN]; omega
    have hw : Region.wanted r.o (yielded ⟨all⟩ a.tmps) = true := by unfold Region.wanted; rw [hg]
    rw [if_pos hw]
    have R0 : Rel B ρ (N0 + q) (Tr.nil : Tr Blk).get w := ⟨I.base, (fun id b h => by cases h), (fun id b h => by cases h), (fun i j bi bj h => by cases h), (fun id b h => by cases h)⟩
    obtain ⟨_, ρ', nx, v', w', e1, e2, e3, R', F'⟩ := evAlloc_ok (P := P) (s := ⟨.nil, N0 + q, []⟩) (a := a) R0 hopt k3
    obtain ⟨_, hsN, hsW⟩ := evAlloc_shape k3
    have hsN : sA.N = N0 + q + 1 := hsN
    have hsW : sA.W = [] := hsW
    rw [hsN] at R' F' e3
    rw [hsW] at F'
    have hbel : Below w.heap.size w w' := F'.allBelow
    refine value_wp (fun c hc => by rw [hopt] at hc; cases hc) e1 e2 ?_
    have hund : Und al N0 listed (N0 + q) := ⟨q, i, hq, rfl, hni⟩
    -- its block as the state has it
    have hHb : H.get (N0 + q) = some b := by
      rw [← k6]
      have := snap_same S (N0 + q) p 0 H0 H hH0 (by rw [Nat.zero_add]; exact I.hH) (fun c x rx _ hc hx hrx hid => by
        have hxl : lst listed x = true := (I.hp c x hx).2 (by omega)
        have Dx := S.facts x rx hrx
        have hk2 : rx.k = 2 := (Dx.f10 c hx).1
        have hnp : ¬ Pr ms x i := fun z => by have := I.closed x i hxl z; rw [hni] at this; cases this
        exact ((Dx.wr hk2).2.2.1 _ hid).2.1 (Dx.xa (by omega) q i hq hnp))
      exact this
    have hUnd : ∀ id, Und al N0 (listed.setIfInBounds i true) id ↔ Und al N0 listed id ∧ id ≠ N0 + q := by
      intro id
      constructor
      · rintro ⟨q2, a2, z1, z2, z3⟩
        rw [hL] at z3
        split at z3
        · cases z3
        · rename_i z4
          refine ⟨⟨q2, a2, z1, z2, z3⟩, fun z5 => z4 ?_⟩
          have : q2 = q := by omega
          rw [this, hq] at z1
          cases z1; rfl
      · rintro ⟨⟨q2, a2, z1, z2, z3⟩, z4⟩
        refine ⟨q2, a2, z1, z2, ?_⟩
        rw [hL, if_neg ?_]
        · exact z3
        · intro z5
          -- each operation stands in the list once
          have h1 := hal q2 a2 z1
          apply z4
          rw [z2]
          have : q2 = q := S.alinj q2 q a2 z1 (by rw [z5]; exact hq)
          rw [this]
    have hsplit : ∀ id b2, hDf (Und al N0 (listed.setIfInBounds i true)) H id = some b2 → (id = N0 + q ∧ b2 = b) ∨ (id ≠ N0 + q ∧ hDf (Und al N0 listed) H id = some b2) := by
      intro id b2 z
      obtain ⟨z1, z2⟩ := hDf_some z
      by_cases hid : id = N0 + q
      · left; rw [hid, hHb] at z2; exact ⟨hid, (Option.some.inj z2).symm⟩
      · right; exact ⟨hid, hDf_of (fun z3 => z1 ((hUnd id).2 ⟨z3, hid⟩)) z2⟩
    have hRb := R'.blk (N0 + q) b k4
    have hnew : w.heap.size ≤ (ρ' (N0 + q)).b := by
      rcases F'.orig (N0 + q) b k4 (Nat.le_refl _) with z | ⟨i0, z, _⟩
      · exact z
      · simp at z
    have hρ : ∀ id, id ≠ N0 + q → (fun j => if j = N0 + q then ρ' (N0 + q) else ρ j) id = ρ id := fun id z => if_neg z
    have hin : ∀ id b2, hDf (Und al N0 listed) H id = some b2 → (ρ id).b < w.heap.size := fun id b2 z => (I.rel hN).in_heap z
    refine hK p (fun j => if j = N0 + q then ρ' (N0 + q) else ρ j) H _ _ ⟨hszl, hclosed, fun c x hx => ?_, I.ple, I.hH, Nat.le_trans I.base hbel.size, fun id b2 z => ?_, fun id b2 z => ?_, fun i2 j2 bi bj z1 z2 z3 => ?_, fun id b2 z => ?_, ⟨(hput v').1, fun t v hlv => ?_⟩, hbel.os.trans I.os, hbel.tape.trans I.tape, hbel.output.trans I.output, Nat.le_trans I.size hbel.size, fun j hj => ?_, fun k hk hno => ?_, I.old, I.unch, fun id b2 z hid => ?_, hdf v', I.bel.trans (hbel.mono I.base)⟩
    · have hxi : x ≠ i := by
        intro z
        rw [z] at hx
        have := (D.f10 c hx).1; omega
      rw [hL, if_neg hxi]; exact I.hp c x hx
    · rcases hsplit id b2 z with ⟨z1, _⟩ | ⟨_, z2⟩
      · rw [z1]; exact hidN
      · exact I.lt id b2 z2
    · rcases hsplit id b2 z with ⟨z1, _⟩ | ⟨z1, z2⟩
      · rw [z1]; simp only [if_true]; exact Nat.le_trans I.base hnew
      · simp only [z1, if_false]; exact I.own id b2 z2
    · rcases hsplit i2 bi z1 with ⟨y1, _⟩ | ⟨y1, y2⟩ <;> rcases hsplit j2 bj z2 with ⟨x1, _⟩ | ⟨x1, x2⟩
      · omega
      · have := hin j2 bj x2
        simp only [y1, x1, if_true, if_false]; omega
      · have := hin i2 bi y2
        simp only [y1, x1, if_true, if_false]; omega
      · simp only [y1, x1, if_false]; exact I.sep i2 j2 bi bj y2 x2 z3
    · rcases hsplit id b2 z with ⟨z1, z2⟩ | ⟨z1, z2⟩
      · rw [z1, z2]
        simp only [if_true]
        refine (hRb.at_level k5).mono (Nat.le_refl _) fun j hj => ?_
        rw [if_neg (by omega)]
        exact (F'.same j (by omega)).symm
      · simp only [z1, if_false]
        have := I.blk id b2 z2
        rw [← hbel.block _ (hin id b2 z2)] at this
        exact this.mono (Nat.le_refl _) fun j hj => if_neg (by omega)
    · by_cases hd : r.o.dst = some t
      · rw [hlexd t hd, hv] at hlv
        cases hlv
        refine ⟨v', by rw [(hput v').2, if_pos hd], .inr ⟨q, i, hq, by rw [hL, if_pos rfl], rfl, ?_⟩⟩
        obtain ⟨_, _, z⟩ := e3.pointer
        simp only [if_true]; exact z
      · refine hold _ (fun j hj => if_neg (by omega)) (fun q2 x2 z1 z2 => if_neg fun z3 => ?_) v' t v hd hlv
        have : q2 = q := by omega
        rw [this, hq] at z1
        cases z1
        rw [hni] at z2; cases z2
    · rw [if_neg (by omega)]; exact I.same j hj
    · rw [hbel.block k (Nat.lt_of_lt_of_le hk I.size)]; exact I.keep k hk hno
    · rcases hsplit id b2 z with ⟨z1, _⟩ | ⟨z1, z2⟩
      · rw [z1]; simp only [if_true]; exact Nat.le_trans I.size hnew
      · simp only [z1, if_false]; exact I.orig id b2 z2 hid
  · -- an operation that is reckoned in what it sees
    obtain ⟨Hq, hHq, hone, hids⟩ := D.ev hk1
    have hnal := D.al0 hk1
    have hpi : r.p ≤ p := by
      rcases Nat.lt_or_ge p r.p with z | z
      · have hl : p < hs.length := by
          have : r.p < sn.length := by
            rcases Nat.lt_or_ge r.p sn.length with y | y
            · exact y
            · rw [List.getElem?_eq_none y] at hHq; cases hHq
          have := S.snl; omega
        have hx := List.getElem?_eq_getElem hl
        have h1 := (D.pref hk1 p _ hx).2 z
        have h2 := (I.hp p _ hx).1 (hready _ h1)
        omega
      · exact z
    have hsame : ∀ id, id ∉ r.X → H.get id = Hq.get id := by
      intro id hid
      refine snap_same S id (p - r.p) r.p Hq H hHq (by rw [show r.p + (p - r.p) = p by omega]; exact I.hH) fun c x rx hc1 hc2 hx hrx hidW => hid ?_
      have hxl : lst listed x = true := (I.hp c x hx).2 (by omega)
      have Dx := S.facts x rx hrx
      obtain ⟨hk2, hpc⟩ := Dx.f10 c hx
      obtain ⟨_, _, _, W', hG, hsub⟩ := Dx.wr hk2
      rw [hpc] at hG
      exact D.xw hk1 c x W' hc1 hG (fun z => by rw [z, hni] at hxl; cases hxl) (fun z => by have := I.closed x i hxl z; rw [hni] at this; cases this) id (hsub id hidW)
    have hview : ∀ id b, (dropH Hq r.X).get id = some b → hDf (Und al N0 listed) H id = some b ∧ id ∉ r.X := by
      intro id b hb
      rw [dropH_get] at hb
      split at hb
      · cases hb
      · rename_i hX
        refine ⟨hDf_of ?_ (by rw [hsame id hX]; exact hb), hX⟩
        rintro ⟨q, x, z1, z2, z3⟩
        refine hX ?_
        rw [z2]
        exact D.xa hk1 q x z1 fun z => by have := hready x z; rw [z3] at this; cases this
    have RI := I.rel hN
    have RV : Rel B ρ N1 (dropH Hq r.X).get w := RI.less fun id b e => (hview id b e).1
    -- what does not write
    have light : r.k = 0 → ∀ (v' : Value) (w' : World), VRel ρ N0 r.v v' → Below w.heap.size w w' → K (a.put r.o.dst v') w' := by
      intro hk v' w' hv hbel
      have hUnd : ∀ id, Und al N0 (listed.setIfInBounds i true) id ↔ Und al N0 listed id := by
        intro id
        constructor
        · rintro ⟨q, x, z1, z2, z3⟩
          rw [hL] at z3
          split at z3
          · cases z3
          · exact ⟨q, x, z1, z2, z3⟩
        · rintro ⟨q, x, z1, z2, z3⟩
          refine ⟨q, x, z1, z2, ?_⟩
          rw [hL, if_neg (fun z => hnal q (by rw [← z]; exact z1))]; exact z3
      have hU : Und al N0 (listed.setIfInBounds i true) = Und al N0 listed := funext fun id => propext (hUnd id)
      refine hK p ρ H _ _ ⟨hszl, hclosed, fun c x hx => ?_, I.ple, I.hH, Nat.le_trans I.base hbel.size, by rw [hU]; exact I.lt, by rw [hU]; exact I.own, by rw [hU]; exact I.sep, ?_, ⟨(hput v').1, fun t v hlv => ?_⟩, hbel.os.trans I.os, hbel.tape.trans I.tape, hbel.output.trans I.output, Nat.le_trans I.size hbel.size, I.same, fun k hk hno => ?_, I.old, I.unch, by rw [hU]; exact I.orig, hdf v', I.bel.trans (hbel.mono I.base)⟩
      · have hxi : x ≠ i := by
          intro z
          rw [z] at hx
          have := (D.f10 c hx).1; omega
        rw [hL, if_neg hxi]; exact I.hp c x hx
      · rw [hU]
        intro id b z
        rw [hbel.block _ (RI.in_heap z)]; exact I.blk id b z
      · by_cases hd : r.o.dst = some t
        · rw [hlexd t hd] at hlv
          cases hlv
          exact ⟨v', by rw [(hput v').2, if_pos hd], .inl hv⟩
        · exact hold ρ (fun _ _ => rfl) (fun _ _ _ _ => rfl) v' t v hd hlv
      · rw [hbel.block k (Nat.lt_of_lt_of_le hk I.size)]; exact I.keep k hk hno
    rcases oneE_ok (all := all) (rc := rc) ih I.bel (s := ⟨dropH Hq r.X, N1, []⟩) RV T hone with ⟨h1, h2, h3⟩ | ⟨h1, h2⟩
    · rw [if_neg (by rw [h1]; exact Bool.false_ne_true)]
      have hk0 : r.k = 0 := by
        rcases D.kk with z | z | z
        · exact z
        · exact absurd z hk1
        · have hx := (D.wr z).1
          obtain ⟨_, ⟨Ha, Hb, q1, q2, q3⟩, _⟩ := D.wr z
          exact absurd (D.wne z) (by rw [h3]; simp)
      refine ⟨fun _ _ => trivial, light hk0 undef w ?_ (Below.refl _ _)⟩
      rw [h2]
      exact .flat 1 _ rfl
    · rw [if_pos h1]
      refine h2 _ _ fun v' ρ' w' _ hv R' F' => ?_
      have hv0 : VRel ρ N0 r.v v' := (hv.at_level 4 hids).mono (Nat.le_refl _) fun j hj => (F'.same j (Nat.lt_of_lt_of_le hj hN)).symm
      have F' : Fr ρ N1 (dropH Hq r.X).get w ρ' r.sO.N r.sO.h.get w' r.sO.W := F'
      rcases D.kk with hk | hk | hk
      · rw [D.rd hk] at F'
        exact light hk v' w' hv0 F'.allBelow
      · exact absurd hk hk1
      · obtain ⟨e1, ⟨Ha, Hb, e2, e3, e4⟩, e5, W', e6, e7⟩ := D.wr hk
        have hpe : p = r.p := by
          rcases Nat.lt_or_ge r.p p with z | z
          · have := (I.hp r.p i e1).2 z; rw [hni] at this; cases this
          · omega
        subst hpe
        rw [hHq] at e2
        cases e2
        have hHH : H = Hq := by have := I.hH; rw [hHq] at this; exact (Option.some.inj this).symm
        subst hHH
        have hrl : r.p < hs.length := by
          rcases Nat.lt_or_ge r.p hs.length with z | z
          · exact z
          · rw [List.getElem?_eq_none z] at e1; cases e1
        have hUnd : ∀ id, Und al N0 (listed.setIfInBounds i true) id ↔ Und al N0 listed id := by
          intro id
          constructor
          · rintro ⟨q, x, z1, z2, z3⟩
            rw [hL] at z3
            split at z3
            · cases z3
            · exact ⟨q, x, z1, z2, z3⟩
          · rintro ⟨q, x, z1, z2, z3⟩
            refine ⟨q, x, z1, z2, ?_⟩
            rw [hL, if_neg (fun z => hnal q (by rw [← z]; exact z1))]; exact z3
        have hU : Und al N0 (listed.setIfInBounds i true) = Und al N0 listed := funext fun id => propext (hUnd id)
        -- a block behind the writing: written, or as it was
        have hsplit : ∀ id b2, hDf (Und al N0 listed) Hb id = some b2 → (id ∈ r.sO.W ∧ r.sO.h.get id = some b2 ∧ ∃ b0, (dropH H r.X).get id = some b0) ∨ (id ∉ r.sO.W ∧ hDf (Und al N0 listed) H id = some b2) := by
          intro id b2 z
          obtain ⟨z1, z2⟩ := hDf_some z
          rw [e4 id] at z2
          split at z2
          · rename_i hid
            exact .inl ⟨hid, z2, F'.old id b2 (e5 id hid).1 z2⟩
          · rename_i hid
            exact .inr ⟨hid, hDf_of z1 z2⟩
        have hρ : ∀ j, j < N1 → ρ' j = ρ j := F'.same
        -- an old block that was not written stays
        have hkeep : ∀ id b2, id ∉ r.sO.W → hDf (Und al N0 listed) H id = some b2 → w'.heap[(ρ id).b]? = w.heap[(ρ id).b]? := by
          intro id b2 hid hb
          refine F'.keep _ (RI.in_heap hb) fun id2 hid2 b3 hb3 => ?_
          exact I.sep id2 id b3 b2 (hview id2 b3 hb3).1 hb fun z => hid (by rw [← z]; exact hid2)
        have hlast : ∀ id, id ∈ r.sO.W → id ∈ WT := fun id hid => S.hWT r.p i W' e6 id (e7 id hid)
        refine hK (r.p + 1) ρ Hb _ _ ⟨hszl, hclosed, fun c x hx => ?_, hrl, e3, Nat.le_trans I.base F'.size, fun id b2 z => ?_, fun id b2 z => ?_, fun i2 j2 bi bj z1 z2 z3 => ?_, fun id b2 z => ?_, ⟨(hput v').1, fun t v hlv => ?_⟩, F'.os.trans I.os, F'.tape.trans I.tape, F'.output.trans I.output, Nat.le_trans I.size F'.size, I.same, fun k hk hno => ?_, fun id b2 hid z => ?_, fun id hid hW => ?_, fun id b2 z hid => ?_, hdf v', I.bel.trans (F'.below RV)⟩
        · rw [hL]
          by_cases hxi : x = i
          · rw [if_pos hxi]
            constructor
            · intro _
              have := (D.f10 c (by rw [← hxi]; exact hx)).2
              omega
            · intro _; rfl
          · rw [if_neg hxi, I.hp c x hx]
            constructor
            · intro z; omega
            · intro z
              rcases Nat.lt_or_ge c r.p with y | y
              · exact y
              · have : c = r.p := by omega
                rw [this, e1] at hx
                cases hx
                exact absurd rfl hxi
        · rw [hU] at z
          rcases hsplit id b2 z with ⟨z1, _⟩ | ⟨_, z1⟩
          · exact (e5 id z1).1
          · exact I.lt id b2 z1
        · rw [hU] at z
          rcases hsplit id b2 z with ⟨z1, z2, b0, z3⟩ | ⟨_, z1⟩
          · exact I.own id b0 (hview id b0 z3).1
          · exact I.own id b2 z1
        · rw [hU] at z1 z2
          have hb : ∀ j bj, hDf (Und al N0 listed) Hb j = some bj → ∃ b0, hDf (Und al N0 listed) H j = some b0 := by
            intro j bj z
            rcases hsplit j bj z with ⟨y1, y2, b0, y3⟩ | ⟨_, y1⟩
            · exact ⟨b0, (hview j b0 y3).1⟩
            · exact ⟨bj, y1⟩
          obtain ⟨b1, y1⟩ := hb i2 bi z1
          obtain ⟨b2, y2⟩ := hb j2 bj z2
          exact I.sep i2 j2 b1 b2 y1 y2 z3
        · rw [hU] at z
          rcases hsplit id b2 z with ⟨z1, z2, b0, z3⟩ | ⟨z0, z1⟩
          · have hidN := (e5 id z1).1
            have := R'.blk id b2 z2
            rw [hρ id hidN] at this
            refine (this.at_level ((e5 id z1).2.2 b2 z2)).mono (Nat.le_refl _) fun j hj => (hρ j (Nat.lt_of_lt_of_le hj hN)).symm
          · rw [hkeep id b2 z0 z1]; exact I.blk id b2 z1
        · by_cases hd : r.o.dst = some t
          · rw [hlexd t hd] at hlv
            cases hlv
            exact ⟨v', by rw [(hput v').2, if_pos hd], .inl hv0⟩
          · exact hold ρ (fun _ _ => rfl) (fun _ _ _ _ => rfl) v' t v hd hlv
        · rw [F'.keep k (Nat.lt_of_lt_of_le hk I.size) fun id hid b2 hb2 => ?_]
          · exact I.keep k hk hno
          · have hv2 := (hview id b2 hb2).1
            rcases Nat.lt_or_ge id N0 with z | z
            · obtain ⟨b0, hb0⟩ := I.old id b2 z (hDf_some hv2).2
              rw [I.same id z]
              exact hno id (hlast id hid) b0 hb0
            · have := I.orig id b2 hv2 z; omega
        · rw [e4 id] at z
          split at z
          · rename_i hidW
            obtain ⟨b0, hb0⟩ := F'.old id b2 (Nat.lt_of_lt_of_le hid hN) z
            exact I.old id b0 hid (hDf_some (hview id b0 hb0).1).2
          · exact I.old id b2 hid z
        · rw [e4 id, if_neg (fun z => hW (hlast id z))]; exact I.unch id hid hW
        · rw [hU] at z
          rcases hsplit id b2 z with ⟨z1, z2, b0, z3⟩ | ⟨_, z1⟩
          · exact I.orig id b0 (hview id b0 z3).1 hid
          · exact I.orig id b2 z1 hid

theorem allocs_inj : ∀ (l : List Oper) (i q q2 x : Nat), (allocs l i)[q]? = some x → (allocs l i)[q2]? = some x → q = q2
  | [], i, q, q2, x, h, _ => by simp [allocs] at h
  | o :: l, i, q, q2, x, h1, h2 => by
    unfold allocs at h1 h2
    cases ht : allocT o with
    | none => rw [ht] at h1 h2; exact allocs_inj l (i + 1) q q2 x h1 h2
    | some t =>
      rw [ht] at h1 h2
      simp only at h1 h2
      cases q with
      | zero =>
        have h1 : i = x := by simpa using h1
        cases q2 with
        | zero => rfl
        | succ q2 =>
          have h2 : (allocs l (i + 1))[q2]? = some x := by simpa using h2
          have := allocs_ge l (i + 1) x (List.mem_of_getElem? h2); omega
      | succ q =>
        have h1 : (allocs l (i + 1))[q]? = some x := by simpa using h1
        cases q2 with
        | zero =>
          have h2 : i = x := by simpa using h2
          have := allocs_ge l (i + 1) x (List.mem_of_getElem? h1); omega
        | succ q2 =>
          have h2 : (allocs l (i + 1))[q2]? = some x := by simpa using h2
          rw [allocs_inj l (i + 1) q q2 x h1 h2]
/-- a region that draws its order -/
theorem regG_wp (hmix : P.follows .mixedOrders = true) (hst : statOK all = true) (ih : ∀ t tm s r, rec t tm s = some r → Sound P B w0 t tm s r) {tm : Tm} {x : Tm × St} (e : regG P rec all tm s = some x)
    {id : Nat} (hB : Below B w0 w) (R : Rel B ρ s.N s.h.get w) (T : TRel ρ s.N tm a) {rc : Option Nat} : (Code.region id ⟨all⟩ true).wpIn (fe rc) 0 P (QC B ρ s w ⟨.normal, x.1, undef, x.2⟩) a w := by
  simp only [statOK, Bool.and_eq_true] at hst
  obtain ⟨hms, hso⟩ := hst
  unfold regG at e
  split at e
  · rename_i H hH
    split at e
    · rename_i g hg
      split at e
      · rename_i out hout
        split at e
        · rename_i hl hhl
          cases e
          generalize hG : guessW g.recs 0 = G at hout ⊢
          obtain ⟨k1, ⟨hs2, k2, k3⟩, ⟨sn2, k4⟩, k5, k6, k9, k7, k8⟩ := gE_facts (tm0 := tm) hms all 0 0 [] [H] tm out hout [] rfl (by simp) (fun k => by simp) ⟨[], rfl, rfl, fun a ha => by simp at ha⟩ rfl rfl (fun t => rfl) (fun q x h => by simp at h) (by simp)
          rw [List.nil_append] at k7 k8
          rw [List.nil_append] at k2
          obtain ⟨a1, a2⟩ := allocH_facts all s.h s.N 0 H hH
          have hsn0 : out.sn[0]? = some H := by rw [k4]; rfl
          have S : GStat P rec all (masks all []) (allocs all 0) G s.N (s.N + (allocs all 0).length) out.recs tm out.hs out.sn s.h.get ((G.map (·.2)).flatten) := by
            refine ⟨hms, hso, k1, fun j r hr => k8 j r (Nat.zero_le _) hr, k5, fun q x hx => ?_, rfl, fun q q2 x => allocs_inj all 0 q q2 x, ⟨H, hsn0, a1, fun q a hq => ?_⟩, fun c x W' hc id hid => ?_⟩
            · rw [k2] at hx
              exact (k3 x (List.mem_of_getElem? hx)).2
            · obtain ⟨o, t, s2, b, _, z2, z3⟩ := a2 q a hq
              exact ⟨o, t, s2, b, z2, z3⟩
            · exact List.mem_flatten.2 ⟨W', List.mem_map.2 ⟨(x, W'), List.mem_of_getElem? hc, rfl⟩, hid⟩
          have hrep : ∀ i, lst (Array.replicate all.length false) i = false := by
            intro i
            unfold lst
            rw [Array.getD_eq_getD_getElem?]
            rcases Nat.lt_or_ge i all.length with q | q
            · rw [Array.getElem?_eq_getElem (by simpa using q)]; simp
            · rw [Array.getElem?_eq_none (by simpa using q)]; rfl
          have hstart : ∀ id b, hDf (Und (allocs all 0) s.N (Array.replicate all.length false)) H id = some b → s.h.get id = some b := by
            intro id b z
            obtain ⟨z1, z2⟩ := hDf_some z
            by_cases hr : id < s.N ∨ s.N + (allocs all 0).length ≤ id
            · rw [← a1 id hr]; exact z2
            · exfalso
              have hq : id - s.N < (allocs all 0).length := by omega
              exact z1 ⟨id - s.N, _, List.getElem?_eq_getElem hq, by omega, hrep _⟩
          have hb0 : Below B w { w with drawn := w.drawn + 1 } := ⟨rfl, rfl, rfl, Nat.le_refl _, fun _ _ => rfl⟩
          have I0 : GInv all (masks all []) (allocs all 0) s.N (s.N + (allocs all 0).length) out.recs tm out.hs out.sn B w0 ρ s.h.get ((G.map (·.2)).flatten) w a.defers (Array.replicate all.length false) 0 ρ H a { w with drawn := w.drawn + 1 } := by
            refine ⟨by simp, fun i j h => (by rw [hrep] at h; cases h), fun q x _ => ⟨fun z => by (rw [hrep] at z; cases z), fun z => absurd z (Nat.not_lt_zero q)⟩, Nat.zero_le _, hsn0, R.base, fun id b z => Nat.lt_of_lt_of_le (R.lt id b (hstart id b z)) (Nat.le_add_right _ _), fun id b z => R.own id b (hstart id b z), fun i j bi bj z1 z2 => R.sep i j bi bj (hstart i bi z1) (hstart j bj z2), fun id b z => R.blk id b (hstart id b z), ⟨T.size, fun t v hl => ?_⟩, rfl, rfl, rfl, Nat.le_refl _, fun _ _ => rfl, fun _ _ _ => rfl, fun id b hid z => ?_, fun id hid _ => a1 id (.inl hid), fun id b z hid => ?_, rfl, hB.trans hb0⟩
            · rw [lexG_none _ t 0 all.length (Nat.zero_le _) (fun j r _ _ _ _ => hrep j)] at hl
              obtain ⟨v', g1, g2⟩ := T.slot t v hl
              exact ⟨v', g1, .inl g2⟩
            · rw [a1 id (.inl hid)] at z; exact ⟨b, z⟩
            · have := R.lt id b (hstart id b z); omega
          refine wpIn_region_any hmix ?_
          refine draw_all hms (I := fun listed a2 w2 => ∃ p ρ' H', GInv all (masks all []) (allocs all 0) s.N (s.N + (allocs all 0).length) out.recs tm out.hs out.sn B w0 ρ s.h.get ((G.map (·.2)).flatten) w a.defers listed p ρ' H' a2 w2) ?_ ?_ ?_ _ _ a _ ⟨0, ρ, H, I0⟩ (by unfold unl; exact Nat.le_trans (List.length_filter_le _ _) (by simp))
          · rintro listed a2 w2 ⟨p, ρ', H', I⟩
            exact ⟨I.sz, I.closed⟩
          · rintro listed a2 w2 i K ⟨p, ρ', H', I⟩ hi hni hready hK
            exact I.step S ih T.dfr T.ds hi hni hready fun p2 ρ2 H2 a3 w3 I2 => hK a3 w3 ⟨p2, ρ2, H2, I2⟩
          · rintro listed a2 w2 ⟨p, ρ', H', I⟩ hall
            have hp : p = out.hs.length := by
              rcases Nat.lt_or_ge p out.hs.length with z | z
              · have hx := List.getElem?_eq_getElem z
                have := (I.hp p _ hx).1 (hall _ (S.hsx p _ hx))
                omega
              · have := I.ple; omega
            subst hp
            have hHl : H' = hl := by have := I.hH; rw [hhl] at this; exact (Option.some.inj this).symm
            subst hHl
            have hN : s.N ≤ s.N + (allocs all 0).length := Nat.le_add_right _ _
            have hund : ∀ id, ¬ Und (allocs all 0) s.N listed id := by
              rintro id ⟨q, x, z1, _, z3⟩
              obtain ⟨_, _, _, hal⟩ := S.hal
              obtain ⟨o, t, s2, b, z4, _⟩ := hal q x z1
              have hx : x < all.length := by
                rcases Nat.lt_or_ge x all.length with y | y
                · exact y
                · rw [List.getElem?_eq_none y] at z4; cases z4
              rw [hall x hx] at z3; cases z3
            have hf : hDf (Und (allocs all 0) s.N listed) H' = H'.get := funext fun id => if_neg (hund id)
            have RI := I.rel hN
            rw [hf] at RI
            have hor := I.orig
            rw [hf] at hor
            refine ⟨rfl, fun j hj => List.mem_append.2 (.inr hj), ρ', ⟨by rw [k6]; exact I.tmp.1, fun t v hv => ?_, by rw [I.dfr, T.dfr, k9, dmk_map I.same T.ds], by rw [k9]; exact fun x hx => Nat.lt_of_lt_of_le (T.ds x hx) hN⟩, RI, ?_⟩
            · have hv : out.tm.t.get t = some v := hv
              rw [k7 t] at hv
              rw [lexG_congr (F := out.recs) (tm0 := tm) (fun _ => true) (lst listed) t all.length (fun j r hj _ _ => (hall j hj).symm)] at hv
              obtain ⟨v', g1, g2⟩ := I.tmp.2 t v hv
              refine ⟨v', g1, ?_⟩
              rcases g2 with g2 | ⟨q, y, z1, _, rfl, rfl⟩
              · exact g2.mono hN fun _ _ => rfl
              · have hq : q < (allocs all 0).length := by
                  rcases Nat.lt_or_ge q (allocs all 0).length with z | z
                  · exact z
                  · rw [List.getElem?_eq_none z] at z1; cases z1
                exact .ptr (s.N + q) 0 (Nat.add_lt_add_left hq _)
            · refine ⟨I.os, I.tape, I.output, I.size, hN, I.same, fun k hk hno => I.keep k hk fun id hid b hb => hno id (List.mem_append.2 (.inl hid)) b hb, fun id b hid hb => I.old id b hid hb, fun id hid hW => I.unch id hid fun z => hW (List.mem_append.2 (.inl z)), fun id b hb hid => .inl (hor id b hb hid)⟩
        · cases e
      · cases e
    · cases e
  · cases e
end
end Go.Proofs.Ytlapnehfjklpoaa
