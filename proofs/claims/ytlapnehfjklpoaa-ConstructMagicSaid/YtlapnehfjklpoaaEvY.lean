/- Closed calls by reckoning: regions that draw their order, once more: the reckoning is right in every order. -/
import Derived.Test.YtlapnehfjklpoaaEvX
namespace Go.Proofs.Ytlapnehfjklpoaa
open Go.RowKit

section
variable {P : Program} {rec : Task → Tm → St → Option Res} {all : List Oper} {ms al : List Nat} {G : List (Nat × List Nat)} {N0 N1 : Nat} {tm0 : Tm} {B : Nat} {ρ ρ' : Nat → Place} {N N' : Nat} {h h' : Nat → Option Blk} {w w' w0 : World} {W : List Nat} {a : Act} {s s' : St} {o : Oper} {F : List GRec} {hs : List Nat} {sn : List (Tr Blk)}
theorem draw_all (hms : msOK all ms = true) {rc : Option Nat} {Q : Exit → Act → World → Prop} {I : Array Bool → Act → World → Prop} (hI : ∀ listed a w, I listed a w → listed.size = all.length ∧ ∀ i j, lst listed i = true → Pr ms i j → lst listed j = true)
    (hstep : ∀ listed a w i (K : Act → World → Prop), I listed a w → i < all.length → lst listed i = false → (∀ j, Pr ms i j → lst listed j = true) → (∀ a' w', I (listed.setIfInBounds i true) a' w' → K a' w') → wpOpIn (fe rc) 0 P ⟨all⟩ Q i K a w)
    (hQ : ∀ listed a w, I listed a w → (∀ i, i < all.length → lst listed i = true) → Q .normal a w) :
    ∀ (fuel : Nat) (listed : Array Bool) (a : Act) (w : World), I listed a w → unl all.length listed ≤ fuel → wpAnyIn (fe rc) 0 P .any ⟨all⟩ Q fuel listed a w := by
  have hget : ∀ (listed : Array Bool) (i : Nat), listed.size = all.length → i < all.length → listed.getD i true = lst listed i := by
    intro listed i h1 h2
    unfold lst
    rw [Array.getD_eq_getD_getElem?, Array.getD_eq_getD_getElem?, Array.getElem?_eq_getElem (by omega)]; rfl
  have hmem : ∀ (listed : Array Bool) (i : Nat), listed.size = all.length → (i ∈ Region.ready .any ⟨all⟩ listed ↔ ∃ o, all[i]? = some o ∧ lst listed i = false ∧ ∀ e ∈ o.after.toList, Region.binds .any e = true → lst listed e.on = true) := by
    intro listed i h1
    unfold Region.ready
    rw [List.mem_filter, List.mem_range]
    constructor
    · rintro ⟨h2, h3⟩
      have h2 : i < all.length := h2
      have ho : (⟨all⟩ : Array Oper)[i]? = some all[i] := by simp [h2]
      rw [hget listed i h1 h2, ho] at h3
      simp only [Bool.and_eq_true, Bool.not_eq_true', Option.map_some, Option.getD_some] at h3
      refine ⟨all[i], List.getElem?_eq_getElem h2, h3.1, fun e he hb => ?_⟩
      have := (Array.all_eq_true_iff_forall_mem.1 h3.2) e (by simpa using he)
      rw [hb] at this
      have this : listed.getD e.on false = true := by simpa using this
      exact this
    · rintro ⟨o, h2, h3, h4⟩
      have hi : i < all.length := by
        rcases Nat.lt_or_ge i all.length with q | q
        · exact q
        · rw [List.getElem?_eq_none q] at h2; cases h2
      refine ⟨hi, ?_⟩
      have ho : (⟨all⟩ : Array Oper)[i]? = some o := by rw [← h2]; simp
      rw [hget listed i h1 hi, ho, h3]
      simp only [Bool.not_false, Bool.true_and, Option.map_some, Option.getD_some]
      rw [Array.all_eq_true_iff_forall_mem]
      intro e he
      cases hb : Region.binds .any e with
      | false => rfl
      | true => have := h4 e (by simpa using he) hb; simpa [lst] using this
  have hall : ∀ (listed : Array Bool), listed.size = all.length → Region.ready .any ⟨all⟩ listed = [] → ∀ i, i < all.length → lst listed i = true := by
    intro listed h1 h2 i
    induction i using Nat.strongRecOn with
    | _ i ihh =>
      intro hi
      cases hl : lst listed i with
      | true => rfl
      | false =>
        have ho := List.getElem?_eq_getElem hi
        have : i ∈ Region.ready .any ⟨all⟩ listed := (hmem listed i h1).2 ⟨_, ho, hl, fun e he hb => by
          have := (msOK_at hms ho).2 e he hb
          exact ihh e.on this (by omega)⟩
        rw [h2] at this
        cases this
  intro fuel
  induction fuel with
  | zero =>
    intro listed a w hIv hu
    have hl : ∀ i, i < all.length → lst listed i = true := by
      intro i hi
      cases hl : lst listed i with
      | true => rfl
      | false =>
        have : i ∈ (List.range all.length).filter fun i => !lst listed i := List.mem_filter.2 ⟨List.mem_range.2 hi, by rw [hl]; rfl⟩
        have h0 : (List.range all.length).filter (fun i => !lst listed i) = [] := List.length_eq_zero_iff.1 (Nat.le_zero.1 hu)
        rw [h0] at this
        cases this
    refine ⟨?_, hQ _ _ _ hIv hl⟩
    refine List.eq_nil_iff_forall_not_mem.2 fun i hi => ?_
    obtain ⟨o, h1, h2, _⟩ := (hmem listed i (hI _ _ _ hIv).1).1 hi
    have : i < all.length := by
      rcases Nat.lt_or_ge i all.length with q | q
      · exact q
      · rw [List.getElem?_eq_none q] at h1; cases h1
    rw [hl i this] at h2
    cases h2
  | succ fuel ihf =>
    intro listed a w hIv hu
    refine ⟨fun hr => hQ _ _ _ hIv (hall listed (hI _ _ _ hIv).1 hr), fun i hi => ?_⟩
    obtain ⟨o, h1, h2, h3⟩ := (hmem listed i (hI _ _ _ hIv).1).1 hi
    have hi : i < all.length := by
      rcases Nat.lt_or_ge i all.length with q | q
      · exact q
      · rw [List.getElem?_eq_none q] at h1; cases h1
    refine hstep _ _ _ i _ hIv hi h2 (fun j hj => ?_) fun a' w' I' => ihf _ a' w' I' ?_
    · obtain ⟨e, he, hb, hj⟩ := ((msOK_at hms h1).1 j).1 hj
      rcases hj with rfl | hj
      · exact h3 e he hb
      · exact (hI _ _ _ hIv).2 _ _ (h3 e he hb) hj
    · have hL : ∀ k, lst (listed.setIfInBounds i true) k = (if k = i then true else lst listed k) := by
        intro k
        unfold lst
        rw [Array.getD_eq_getD_getElem?, Array.getD_eq_getD_getElem?]
        by_cases hk : k = i
        · rw [if_pos hk, hk, Array.getElem?_setIfInBounds_self_of_lt (by rw [(hI _ _ _ hIv).1]; exact hi)]; rfl
        · rw [if_neg hk, Array.getElem?_setIfInBounds_ne (Ne.symm hk)]
      have := filter_less (p := fun k => !lst (listed.setIfInBounds i true) k) (q := fun k => !lst listed k) (l := List.range all.length) (fun k _ hk => by
        rw [hL] at hk
        by_cases hki : k = i
        · rw [if_pos hki] at hk; cases hk
        · rw [if_neg hki] at hk; exact hk) i (List.mem_range.2 hi) (by rw [h2]; rfl) (by rw [hL, if_pos rfl]; rfl)
      unfold unl at hu ⊢
      omega


/-! new blocks -/
theorem evAlloc_shape {s s' : St} {t : TypeId} {v : Value} (e : evAlloc P s t = some (v, s')) : v = .pointer (some ⟨s.N, 0, none⟩) ∧ s'.N = s.N + 1 ∧ s'.W = s.W := by
  simp only [evAlloc, cond_eq_ite] at e
  split at e
  · split at e
    · split at e
      · split at e
        · rename_i s1 h1
          cases e
          unfold newB at h1
          split at h1
          · split at h1
            · cases h1; exact ⟨rfl, rfl, rfl⟩
            · cases h1
          · cases h1
        · cases e
      · cases e
    · cases e
  · cases e
theorem allocs_len : ∀ (l : List Oper) (i j : Nat), (allocs l i).length = (allocs l j).length
  | [], _, _ => rfl
  | o :: l, i, j => by
    unfold allocs
    split
    · simp only [List.length_cons]; rw [allocs_len l (i + 1) (j + 1)]
    · exact allocs_len l (i + 1) (j + 1)
theorem allocH_facts {K : Nat} : ∀ (l : List Oper) (h : Tr Blk) (N i : Nat) (H : Tr Blk), allocH P K l h N = some H →
    (∀ id, id < N ∨ N + (allocs l i).length ≤ id → H.get id = h.get id) ∧
    ∀ q a : Nat, (allocs l i)[q]? = some a → ∃ o t s b, i ≤ a ∧ l[a - i]? = some o ∧ allocT o = some t ∧ evAlloc P ⟨.nil, N + q, []⟩ t = some (.pointer (some ⟨N + q, 0, none⟩), s) ∧ s.h.get (N + q) = some b ∧ blkLt K b = true ∧ H.get (N + q) = some b
  | [], h, N, i, H, e => by cases e; exact ⟨fun _ _ => rfl, fun q a hq => by simp [allocs] at hq⟩
  | o :: l, h, N, i, H, e => by
    simp only [allocH] at e
    cases ht : allocT o with
    | none =>
      rw [ht] at e
      obtain ⟨g1, g2⟩ := allocH_facts l h N (i + 1) H e
      have hal : allocs (o :: l) i = allocs l (i + 1) := by
        show (match allocT o with | some _ => i :: allocs l (i + 1) | none => allocs l (i + 1)) = _
        rw [ht]
      rw [hal]
      refine ⟨g1, fun q a hq => ?_⟩
      obtain ⟨o2, t2, s, b, k1, k2, k3⟩ := g2 q a hq
      exact ⟨o2, t2, s, b, by omega, by rw [show a - i = (a - (i + 1)) + 1 by omega, List.getElem?_cons_succ]; exact k2, k3⟩
    | some t =>
      rw [ht] at e
      have hal : allocs (o :: l) i = i :: allocs l (i + 1) := by
        show (match allocT o with | some _ => i :: allocs l (i + 1) | none => allocs l (i + 1)) = _
        rw [ht]
      rw [hal]
      simp only at e
      split at e
      · rename_i v s he
        split at e
        · rename_i b hb
          rw [cond_eq_ite] at e
          split at e
          · rename_i hlt
            split at e
            · rename_i h2 hh
              obtain ⟨g1, g2⟩ := allocH_facts l h2 (N + 1) (i + 1) H e
              have hput := fun j => Tr.get_put 32 h h2 N j (some b) hh
              have hHN : H.get N = some b := by rw [g1 N (.inl (Nat.lt_succ_self N)), hput, if_pos rfl]
              refine ⟨fun id hid => ?_, fun q a hq => ?_⟩
              · rw [List.length_cons] at hid
                rw [g1 id (by omega), hput, if_neg (by omega)]
              · cases q with
                | zero =>
                  have hq : i = a := by simpa using hq
                  subst hq
                  obtain ⟨e1, e2, e3⟩ := evAlloc_shape he
                  refine ⟨o, t, s, b, Nat.le_refl _, by simp, ht, ?_, hb, hlt, hHN⟩
                  rw [e1] at he; exact he
                | succ q =>
                  obtain ⟨o2, t2, s2, b2, k1, k2, k3, k4, k5, k6, k7⟩ := g2 q a (by simpa using hq)
                  rw [show N + 1 + q = N + (q + 1) by omega] at k4 k5 k7
                  exact ⟨o2, t2, s2, b2, by omega, by rw [show a - i = (a - (i + 1)) + 1 by omega, List.getElem?_cons_succ]; exact k2, k3, k4, k5, k6, k7⟩
            · cases e
          · cases e
        · cases e
      · cases e
theorem allocT_op {t : TypeId} (h : allocT o = some t) : o.op = .alloc t ∧ o.guard = none := by
  unfold allocT at h
  split at h
  · rename_i t2 h1 h2; cases h; exact ⟨h1, h2⟩
  · cases h

/-! slots -/
theorem lexG_congr (S S' : Nat → Bool) (t : Tmp) : ∀ (k : Nat), (∀ j r, j < k → F[j]? = some r → r.o.dst = some t → S j = S' j) → lexG F tm0 k S t = lexG F tm0 k S' t
  | 0, _ => rfl
  | k + 1, h => by
    have ih := lexG_congr S S' t k (fun j r hj => h j r (Nat.lt_succ_of_lt hj))
    show (match F[k]? with | some r => _ | none => _) = (match F[k]? with | some r => _ | none => _)
    cases hr : F[k]? with
    | none => exact ih
    | some r =>
      simp only
      by_cases hd : r.o.dst = some t
      · rw [h k r (Nat.lt_succ_self k) hr hd, ih]
      · rw [if_neg (fun q => hd q.2), if_neg (fun q => hd q.2), ih]
theorem lexG_none (S : Nat → Bool) (t : Tmp) (i : Nat) : ∀ (k : Nat), i ≤ k → (∀ j r, i ≤ j → j < k → F[j]? = some r → r.o.dst = some t → S j = false) → lexG F tm0 k S t = lexG F tm0 i S t := by
  intro k hk
  induction k with
  | zero => intro _; rw [show i = 0 by omega]
  | succ k ih =>
    intro h
    rcases Nat.lt_or_ge i (k + 1) with hlt | hge
    · show (match F[k]? with | some r => _ | none => _) = _
      have ih2 := ih (by omega) (fun j r h1 h2 => h j r h1 (Nat.lt_succ_of_lt h2))
      cases hr : F[k]? with
      | none => exact ih2
      | some r =>
        simp only
        by_cases hd : r.o.dst = some t
        · rw [if_neg (fun q => by have := h k r (by omega) (Nat.lt_succ_self k) hr hd; rw [this] at q; exact absurd q.1 (by simp)), ih2]
        · rw [if_neg (fun q => hd q.2), ih2]
    · rw [show k + 1 = i by omega]

/-- a new block that is not there yet -/
def Und (al : List Nat) (N0 : Nat) (listed : Array Bool) (id : Nat) : Prop := ∃ q a, al[q]? = some a ∧ id = N0 + q ∧ lst listed a = false
open Classical in
noncomputable def hDf (U : Nat → Prop) (H : Tr Blk) : Nat → Option Blk := fun id => if U id then none else H.get id
theorem hDf_some {U : Nat → Prop} {H : Tr Blk} {id : Nat} {b : Blk} (e : hDf U H id = some b) : ¬ U id ∧ H.get id = some b := by
  unfold hDf at e
  split at e
  · cases e
  · rename_i h; exact ⟨h, e⟩
theorem hDf_of {U : Nat → Prop} {H : Tr Blk} {id : Nat} {b : Blk} (h1 : ¬ U id) (h2 : H.get id = some b) : hDf U H id = some b := by
  unfold hDf; rw [if_neg h1]; exact h2

/-- what does not change -/
structure GStat (P : Program) (rec : Task → Tm → St → Option Res) (all : List Oper) (ms al : List Nat) (G : List (Nat × List Nat)) (N0 N1 : Nat) (F : List GRec) (tm0 : Tm) (hs : List Nat) (sn : List (Tr Blk)) (h0 : Nat → Option Blk) (WT : List Nat) : Prop where
  hms : msOK all ms = true
  hsl : slotsOK all ms = true
  hF : F.length = all.length
  facts : ∀ j r, F[j]? = some r → GFact P rec all ms al G N0 N1 F tm0 hs sn j r
  snl : sn.length = hs.length + 1
  hsx : ∀ q x : Nat, hs[q]? = some x → x < all.length
  hN : N1 = N0 + al.length
  alinj : ∀ q q2 x : Nat, al[q]? = some x → al[q2]? = some x → q = q2
  hal : ∃ H, sn[0]? = some H ∧ (∀ id, id < N0 ∨ N1 ≤ id → H.get id = h0 id) ∧ ∀ q a : Nat, al[q]? = some a → ∃ o t s b, all[a]? = some o ∧ allocT o = some t ∧ evAlloc P ⟨.nil, N0 + q, []⟩ t = some (.pointer (some ⟨N0 + q, 0, none⟩), s) ∧ s.h.get (N0 + q) = some b ∧ blkLt N0 b = true ∧ H.get (N0 + q) = some b
  hWT : ∀ (c x : Nat) (W' : List Nat), G[c]? = some (x, W') → ∀ id ∈ W', id ∈ WT

/-- what holds in the middle of the region -/
structure GInv (all : List Oper) (ms al : List Nat) (N0 N1 : Nat) (F : List GRec) (tm0 : Tm) (hs : List Nat) (sn : List (Tr Blk)) (B : Nat) (w0 : World) (ρ0 : Nat → Place) (h0 : Nat → Option Blk) (WT : List Nat) (w1 : World) (d : List Deferred) (listed : Array Bool) (p : Nat) (ρ : Nat → Place) (H : Tr Blk) (a : Act) (w : World) : Prop where
  sz : listed.size = all.length
  closed : ∀ i j, lst listed i = true → Pr ms i j → lst listed j = true
  hp : ∀ (q x : Nat), hs[q]? = some x → (lst listed x = true ↔ q < p)
  ple : p ≤ hs.length
  hH : sn[p]? = some H
  base : B ≤ w.heap.size
  lt : ∀ id b, hDf (Und al N0 listed) H id = some b → id < N1
  own : ∀ id b, hDf (Und al N0 listed) H id = some b → B ≤ (ρ id).b
  sep : ∀ i j bi bj, hDf (Und al N0 listed) H i = some bi → hDf (Und al N0 listed) H j = some bj → i ≠ j → (ρ i).b ≠ (ρ j).b
  blk : ∀ id b, hDf (Und al N0 listed) H id = some b → BlkRel ρ N0 (ρ id) b w.heap[(ρ id).b]?
  tmp : a.tmps.size = tm0.n ∧ ∀ t v, lexG F tm0 all.length (lst listed) t = some v → ∃ v', a.tmps[t]? = some v' ∧ (VRel ρ N0 v v' ∨ ∃ q x, al[q]? = some x ∧ lst listed x = true ∧ v = .pointer (some ⟨N0 + q, 0, none⟩) ∧ v' = .pointer (some ⟨(ρ (N0 + q)).b, 0 + (ρ (N0 + q)).d, none⟩))
  os : w.os = w1.os
  tape : w.tape = w1.tape
  output : w.output = w1.output
  size : w1.heap.size ≤ w.heap.size
  same : ∀ i, i < N0 → ρ i = ρ0 i
  keep : ∀ k, k < w1.heap.size → (∀ id ∈ WT, ∀ b, h0 id = some b → (ρ0 id).b ≠ k) → w.heap[k]? = w1.heap[k]?
  old : ∀ id b, id < N0 → H.get id = some b → ∃ b0, h0 id = some b0
  unch : ∀ id, id < N0 → id ∉ WT → H.get id = h0 id
  orig : ∀ id b, hDf (Und al N0 listed) H id = some b → N0 ≤ id → w1.heap.size ≤ (ρ id).b
  dfr : a.defers = d
  bel : Below B w0 w
variable {h0 : Nat → Option Blk} {WT : List Nat} {ρ0 : Nat → Place} {w1 : World} {d : List Deferred} {listed : Array Bool} {p : Nat} {H : Tr Blk}
theorem GInv.rel (I : GInv all ms al N0 N1 F tm0 hs sn B w0 ρ0 h0 WT w1 d listed p ρ H a w) (hN : N0 ≤ N1) : Rel B ρ N1 (hDf (Und al N0 listed) H) w :=
  ⟨I.base, I.lt, I.own, I.sep, fun id b e => (I.blk id b e).mono hN fun _ _ => rfl⟩
/-- between two states only what was written has changed -/
theorem snap_same (S : GStat P rec all ms al G N0 N1 F tm0 hs sn h0 WT) (id : Nat) : ∀ (k q : Nat) (Hq Hp : Tr Blk), sn[q]? = some Hq → sn[q + k]? = some Hp → (∀ (c x : Nat) (rx : GRec), q ≤ c → c < q + k → hs[c]? = some x → F[x]? = some rx → id ∉ rx.sO.W) → Hp.get id = Hq.get id
  | 0, q, Hq, Hp, h1, h2, _ => by rw [Nat.add_zero, h1] at h2; cases h2; rfl
  | k + 1, q, Hq, Hp, h1, h2, h3 => by
    have hlt : q + (k + 1) < sn.length := by
      rcases Nat.lt_or_ge (q + (k + 1)) sn.length with z | z
      · exact z
      · rw [List.getElem?_eq_none z] at h2; cases h2
    have hc : q + k < hs.length := by have := S.snl; omega
    have hx := List.getElem?_eq_getElem hc
    obtain ⟨rx, hrx, hk, hpq⟩ : ∃ rx, F[hs[q + k]]? = some rx ∧ rx.k = 2 ∧ rx.p = q + k := by
      cases hr : F[hs[q + k]]? with
      | none =>
        -- every writer is one of the operations
        exfalso
        have : all.length ≤ hs[q + k] := by
          rw [← S.hF]
          rcases Nat.lt_or_ge hs[q + k] F.length with z | z
          · rw [List.getElem?_eq_getElem z] at hr; cases hr
          · exact z
        exact Nat.not_le_of_lt (S.hsx (q + k) _ hx) this
      | some rx => exact ⟨rx, rfl, ((S.facts _ rx hr).f10 (q + k) hx).1, ((S.facts _ rx hr).f10 (q + k) hx).2⟩
    have D := S.facts _ rx hrx
    obtain ⟨_, ⟨H1, H2, g1, g2, g3⟩, _⟩ := D.wr hk
    rw [hpq] at g1 g2
    have ih := snap_same S id k q Hq H1 h1 g1 fun c x rx h4 h5 => h3 c x rx h4 (by omega)
    rw [show q + (k + 1) = q + k + 1 by omega, g2] at h2
    cases h2
    rw [g3 id, if_neg (h3 (q + k) _ rx (by omega) (by omega) hx hrx), ih]
end
end Go.Proofs.Ytlapnehfjklpoaa
