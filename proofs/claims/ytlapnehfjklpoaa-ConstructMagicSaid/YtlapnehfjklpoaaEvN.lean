/- Closed calls by reckoning: the reckoning of a region that draws its order is right in every order. -/
import Derived.Test.YtlapnehfjklpoaaEvM
namespace Go.Proofs.Ytlapnehfjklpoaa
open Go.RowKit

section
variable {P : Program} {rec : Task → Tm → St → Option Res} {all : List Oper} {ms : List Nat} {tm0 : Tm} {B : Nat} {ρ ρ' : Nat → Place} {N N' : Nat} {h h' : Nat → Option Blk} {w w' w0 : World} {W : List Nat} {a : Act} {s s' : St} {o : Oper} {F : List DRec} {hs : List Nat} {sn : List St}

theorem Rel.congr (R : Rel B ρ N h w) (hρ : ∀ i, i < N → ρ' i = ρ i) : Rel B ρ' N h w := by
  refine ⟨R.base, R.lt, fun id b hb => by rw [hρ id (R.lt id b hb)]; exact R.own id b hb, fun i j bi bj h1 h2 hij => by rw [hρ i (R.lt i bi h1), hρ j (R.lt j bj h2)]; exact R.sep i j bi bj h1 h2 hij, fun id b hb => ?_⟩
  rw [hρ id (R.lt id b hb)]
  exact (R.blk id b hb).mono (Nat.le_refl _) hρ
/-- nothing that was there was written -/
theorem Fr.allBelow (f : Fr ρ N h w ρ' N' h' w' []) : Below w.heap.size w w' :=
  ⟨f.os, f.tape, f.output, f.size, fun k hk => f.keep k hk fun id hi => by simp at hi⟩

theorem oneE_ok (ih : ∀ t tm s r, rec t tm s = some r → Sound P B w0 t tm s r) {tm : Tm} (hB : Below B w0 w) (R : Rel B ρ s.N s.h.get w) (T : TRel ρ s.N tm a) {rc : Option Nat} {wt : Bool} {v : Value} {sO : St} (e : oneE P rec all tm s o = some (wt, v, sO)) :
    (Region.wanted o (yielded ⟨all⟩ a.tmps) = false ∧ v = undef ∧ sO = s) ∨ (Region.wanted o (yielded ⟨all⟩ a.tmps) = true ∧ ∀ (K : Act → World → Prop) (Q : Exit → Act → World → Prop),
      (∀ v' ρ' w', (∀ i ∈ s.W, i ∈ sO.W) → VRel ρ' sO.N v v' → Rel B ρ' sO.N sO.h.get w' → Fr ρ s.N s.h.get w ρ' sO.N sO.h.get w' sO.W → K (a.put o.dst v') w') → o.wpIn (fe rc) 0 P a w K Q) := by
  simp only [oneE] at e
  split at e
  · rename_i hw
    cases e
    exact .inl ⟨wantedV_ok T hw, rfl, rfl⟩
  · rename_i hw
    refine .inr ⟨wantedV_ok T hw, fun K Q hK => ?_⟩
    split at e
    · rename_i f args hc
      split at e
      · rename_i r hr
        cases e
        exact call_wp (ih _ _ _ _ hr) hB R T hc hK
      · cases e
    · split at e
      · rename_i l args hc
        split at e
        · rename_i r hr
          cases e
          exact yield_wp (ih _ _ _ _ hr) hB R T hc hK
        · cases e
      · split at e
        · rename_i v1 s1 hv
          cases e
          obtain ⟨g0, ρ', nx, v', w', g1, g2, g3, g4, g5⟩ := evOp_ok (P := P) R T hv
          exact value_wp (evOp_noDefer hv) g1 g2 (hK v' ρ' w' g0 g3 g4 g5)
        · cases e
  · cases e

/-! slots -/
theorem lexV_congr (S S' : Nat → Bool) (t : Tmp) : ∀ (k : Nat), (∀ j r, j < k → F[j]? = some r → r.o.dst = some t → S j = S' j) → lexV F tm0 k S t = lexV F tm0 k S' t
  | 0, _ => rfl
  | k + 1, h => by
    have ih := lexV_congr S S' t k (fun j r hj => h j r (Nat.lt_succ_of_lt hj))
    show (match F[k]? with | some r => _ | none => _) = (match F[k]? with | some r => _ | none => _)
    cases hr : F[k]? with
    | none => exact ih
    | some r =>
      simp only
      by_cases hd : r.o.dst = some t
      · rw [h k r (Nat.lt_succ_self k) hr hd, ih]
      · rw [if_neg (fun q => hd q.2), if_neg (fun q => hd q.2), ih]
theorem lexV_none (S : Nat → Bool) (t : Tmp) (i : Nat) : ∀ (k : Nat), i ≤ k → (∀ j r, i ≤ j → j < k → F[j]? = some r → r.o.dst = some t → S j = false) → lexV F tm0 k S t = lexV F tm0 i S t := by
  intro k hk
  induction k with
  | zero => intro _; rw [show i = 0 by omega]
  | succ k ih =>
    intro h
    rcases Nat.lt_or_ge i (k + 1) with hlt | hge
    · show (match F[k]? with | some r => _ | none => _) = _
      have ih2 := ih (by omega) (fun j r h1 h2 => h j r h1 (Nat.lt_succ_of_lt h2))
      cases hr : F[k]? with
      | none => exact ih2
      | some r =>
        simp only
        by_cases hd : r.o.dst = some t
        · rw [if_neg (fun q => by have := h k r (by omega) (Nat.lt_succ_self k) hr hd; rw [this] at q; exact absurd q.1 (by simp)), ih2]
        · rw [if_neg (fun q => hd q.2), ih2]
    · rw [show k + 1 = i by omega]

noncomputable def lst (listed : Array Bool) (k : Nat) : Bool := listed.getD k false

/-- what holds in the middle of the region, whatever the order: p heavy operations are done -/
structure DInv (ms : List Nat) (tm0 : Tm) (B : Nat) (w0 : World) (ρ0 : Nat → Place) (s0 : St) (w1 : World) (d : List Deferred) (F : List DRec) (hs : List Nat) (sn : List St) (n : Nat) (listed : Array Bool) (p : Nat) (ρ : Nat → Place) (a : Act) (w : World) : Prop where
  sz : listed.size = n
  closed : ∀ i j, lst listed i = true → Pr ms i j → lst listed j = true
  hp : ∀ (q x : Nat), hs[q]? = some x → (lst listed x = true ↔ q < p)
  ple : p ≤ hs.length
  rel : ∀ q s, sn[q]? = some s → q ≤ p → (∀ (c x : Nat) (rx : DRec), c < p → hs[c]? = some x → F[x]? = some rx → rx.sO.W ≠ [] → c < q) → Rel B ρ s.N s.h.get w
  tmp : a.tmps.size = tm0.n ∧ ∀ t v l, lexV F tm0 n (lst listed) t = some (v, l) → l ≤ p ∧ ∃ s v', sn[l]? = some s ∧ a.tmps[t]? = some v' ∧ VRel ρ s.N v v'
  fr : ∀ s, sn[p]? = some s → Fr ρ0 s0.N s0.h.get w1 ρ s.N s.h.get w s.W ∧ ∀ i ∈ s0.W, i ∈ s.W
  mono : ∀ (q q' : Nat) (s s' : St), q ≤ q' → q' ≤ p → sn[q]? = some s → sn[q']? = some s' → s.N ≤ s'.N
  dfr : a.defers = d
  bel : Below B w0 w

theorem DInv.step (hsl : slotsOK all ms = true) (ih : ∀ t tm s r, rec t tm s = some r → Sound P B w0 t tm s r) (hF : F.length = all.length) (facts : ∀ j r, F[j]? = some r → DFact P rec all ms F tm0 hs sn j r)
    (hsnl : sn.length = hs.length + 1) {ρ0 : Nat → Place} {s0 : St} {w1 : World} {d : List Deferred} {listed : Array Bool} {p : Nat} (I : DInv ms tm0 B w0 ρ0 s0 w1 d F hs sn all.length listed p ρ a w) {i : Nat} (hsn0 : sn[0]? = some s0) (hd0 : d = tm0.ds.map (dmk ρ0)) (hds : ∀ x ∈ tm0.ds, x < s0.N) {rc : Option Nat} (hi : i < all.length) (hni : lst listed i = false)
    (hready : ∀ j, Pr ms i j → lst listed j = true) {K : Act → World → Prop} {Q : Exit → Act → World → Prop} (hK : ∀ p' ρ' a' w', DInv ms tm0 B w0 ρ0 s0 w1 d F hs sn all.length (listed.setIfInBounds i true) p' ρ' a' w' → K a' w') : wpOpIn (fe rc) 0 P ⟨all⟩ Q i K a w := by
  have hr : ∃ r, F[i]? = some r := ⟨F[i], List.getElem?_eq_getElem (by omega)⟩
  obtain ⟨r, hr⟩ := hr
  have D := facts i r hr
  obtain ⟨s, hs1, ⟨hone, hone2⟩, hlight, hheavy⟩ := D.f3
  have hlt : ∀ q x, hs[q]? = some x → q < hs.length := fun q x hx => by
    rcases Nat.lt_or_ge q hs.length with z | z
    · exact z
    · rw [List.getElem?_eq_none z] at hx; cases hx
  -- the order
  have hpi : r.p ≤ p := by
    rcases Nat.lt_or_ge p r.p with z | z
    · have hl : p < hs.length := by
        have : r.p < sn.length := by
          rcases Nat.lt_or_ge r.p sn.length with y | y
          · exact y
          · rw [List.getElem?_eq_none y] at hs1; cases hs1
        omega
      have hx := List.getElem?_eq_getElem hl
      have h1 := (D.f4 p _ hx).2 z
      have h2 := (I.hp p _ hx).1 (hready _ h1)
      omega
    · exact z
  have hslot : ∀ t, t ∈ reads all r.o ++ r.o.dst.toList → ∀ (j : Nat) (rj : DRec), F[j]? = some rj → rj.o.dst = some t → j ≠ i → (j < i → lst listed j = true) ∧ (i < j → lst listed j = false) := by
    intro t ht j rj hrj hd hij
    obtain ⟨g1, g2⟩ := slotsOK_at hsl D.f1 (facts j rj hrj).f1 hd ht hij
    refine ⟨fun h => hready _ (g1 h), fun h => ?_⟩
    cases hb : lst listed j with
    | false => rfl
    | true => have := I.closed j i hb (g2 h); rw [hni] at this; cases this
  have hlex : ∀ t, t ∈ reads all r.o ++ r.o.dst.toList → lexV F tm0 all.length (lst listed) t = lexV F tm0 i (fun _ => true) t := by
    intro t ht
    rw [lexV_none (lst listed) t i all.length (Nat.le_of_lt hi) (fun j rj h1 h2 hrj hd => by
      rcases Nat.eq_or_lt_of_le h1 with h3 | h3
      · rw [← h3]; exact hni
      · exact (hslot t ht j rj hrj hd (by omega)).2 h3)]
    exact lexV_congr _ _ t i fun j rj h1 hrj hd => (hslot t ht j rj hrj hd (by omega)).1 h1
  have hq0 : r.pu = false → ∀ (c x : Nat) (rx : DRec), c < p → hs[c]? = some x → F[x]? = some rx → rx.sO.W ≠ [] → c < r.p := by
    intro hpu c x rx hc hx hrx hW
    have hxl : lst listed x = true := (I.hp c x hx).2 hc
    rcases Nat.lt_trichotomy x i with h1 | h1 | h1
    · exact D.f9 hpu c x rx hx hrx hW h1
    · rw [h1, hni] at hxl; cases hxl
    · have := I.closed x i hxl ((facts x rx hrx).f8 hW i r h1 hr hpu); rw [hni] at this; cases this
  have hN0 : s0.N ≤ s.N := I.mono 0 r.p s0 s (Nat.zero_le _) hpi hsn0 hs1
  have hsp0 : ∃ sp, sn[p]? = some sp := ⟨sn[p]'(by have := I.ple; omega), List.getElem?_eq_getElem _⟩
  have hbase : B ≤ w.heap.size := by
    obtain ⟨sp, hsp⟩ := hsp0
    exact (I.rel p sp hsp (Nat.le_refl _) (fun c x rx hc _ _ _ => hc)).base
  have hsame : ∀ x, x < s0.N → ρ x = ρ0 x := by
    obtain ⟨sp, hsp⟩ := hsp0
    exact (I.fr sp hsp).1.same
  have T : TRel ρ s.N r.tmI a := by
    refine ⟨by rw [D.f2.1]; exact I.tmp.1, fun t v hv => ?_, by rw [I.dfr, hd0, D.f0, dmk_map hsame hds], by rw [D.f0]; exact fun x hx => Nat.lt_of_lt_of_le (hds x hx) hN0⟩
    obtain ⟨h1, l, h2, h3⟩ := D.f2.2 t v hv
    obtain ⟨h4, sl, v', h5, h6, h7⟩ := I.tmp.2 t v l (by rw [hlex t (List.mem_append.2 (.inl h1))]; exact h2)
    exact ⟨v', h6, h7.mono (I.mono l r.p sl s h3 hpi h5 hs1) (fun _ _ => rfl)⟩
  -- who is listed then
  have hL : ∀ k, lst (listed.setIfInBounds i true) k = (if k = i then true else lst listed k) := by
    intro k
    unfold lst
    rw [Array.getD_eq_getD_getElem?, Array.getD_eq_getD_getElem?]
    by_cases hk : k = i
    · rw [if_pos hk, hk, Array.getElem?_setIfInBounds_self_of_lt (by rw [I.sz]; exact hi)]; rfl
    · rw [if_neg hk, Array.getElem?_setIfInBounds_ne (Ne.symm hk)]
  have hclosed : ∀ k j, lst (listed.setIfInBounds i true) k = true → Pr ms k j → lst (listed.setIfInBounds i true) j = true := by
    intro k j hk hp
    rw [hL] at hk ⊢
    by_cases hj : j = i
    · rw [if_pos hj]
    · rw [if_neg hj]
      by_cases hki : k = i
      · rw [hki] at hp; exact hready j hp
      · rw [if_neg hki] at hk; exact I.closed k j hk hp
  have hlexo : ∀ t, r.o.dst ≠ some t → lexV F tm0 all.length (lst (listed.setIfInBounds i true)) t = lexV F tm0 all.length (lst listed) t := by
    intro t ht
    refine lexV_congr _ _ t _ fun j rj h1 hrj hd => ?_
    rw [hL]
    by_cases hj : j = i
    · rw [hj, hr] at hrj; cases hrj; exact absurd hd ht
    · rw [if_neg hj]
  have hlexd : ∀ t, r.o.dst = some t → lexV F tm0 all.length (lst (listed.setIfInBounds i true)) t = some (r.v, r.lvl) := by
    intro t ht
    rw [lexV_none _ t (i + 1) all.length hi (fun j rj h1 h2 hrj hd => by
      rw [hL, if_neg (by omega)]
      exact (hslot t (List.mem_append.2 (.inr (by rw [ht]; simp))) j rj hrj hd (by omega)).2 h1)]
    rw [lexV_step hr, if_pos ⟨by rw [hL, if_pos rfl], ht⟩]
  -- the slots behind it
  have hput : ∀ v', (a.put r.o.dst v').tmps.size = tm0.n ∧ ∀ t, (a.put r.o.dst v').tmps[t]? = if r.o.dst = some t then some v' else a.tmps[t]? := by
    intro v'
    cases hd : r.o.dst with
    | none => exact ⟨I.tmp.1, fun t => by rw [if_neg (by simp)]; rfl⟩
    | some x =>
      have hx := D.f5 x hd
      refine ⟨by show (a.tmps.setIfInBounds x v').size = _; rw [Array.size_setIfInBounds]; exact I.tmp.1, fun t => ?_⟩
      show (a.tmps.setIfInBounds x v')[t]? = _
      by_cases ht : x = t
      · rw [if_pos (by rw [ht]), ← ht, Array.getElem?_setIfInBounds_self_of_lt (by rw [I.tmp.1]; exact hx)]
      · rw [if_neg (by simpa using ht), Array.getElem?_setIfInBounds_ne ht]
  have hdf : ∀ v', (a.put r.o.dst v').defers = d := fun v' => by rw [Act.put_defers]; exact I.dfr
  have hop : (⟨all⟩ : Array Oper)[i]? = some r.o := by rw [← D.f1]; simp
  -- a light operation
  have light : r.heavy = false → ∀ (v' : Value) (w' : World), VRel ρ s.N r.v v' → Below w.heap.size w w' → K (a.put r.o.dst v') w' := by
    intro hh v' w' hv hb
    have hsome : ∃ sp, sn[p]? = some sp := ⟨sn[p]'(by have := I.ple; omega), List.getElem?_eq_getElem _⟩
    obtain ⟨sp, hsp⟩ := hsome
    have hlv : r.lvl = r.p := by unfold DRec.lvl; rw [hh]; rfl
    refine hK p ρ _ _ ⟨by rw [Array.size_setIfInBounds]; exact I.sz, hclosed, fun q x hx => ?_, I.ple, fun q s' h1 h2 h3 => ((I.rel q s' h1 h2 h3).below hb).1, ⟨(hput v').1, fun t u l hl => ?_⟩, fun s' h1 => ?_, I.mono, hdf v', ?_⟩
    · have hxi : x ≠ i := fun e => D.f6 hh (by rw [← e]; exact List.mem_of_getElem? hx)
      rw [hL, if_neg hxi]; exact I.hp q x hx
    · by_cases hd : r.o.dst = some t
      · rw [hlexd t hd, hlv] at hl
        cases hl
        exact ⟨hpi, s, v', hs1, by rw [(hput v').2, if_pos hd], hv⟩
      · rw [hlexo t hd] at hl
        obtain ⟨g1, sl, v2, g2, g3, g4⟩ := I.tmp.2 t u l hl
        exact ⟨g1, sl, v2, g2, by rw [(hput v').2, if_neg hd]; exact g3, g4⟩
    · obtain ⟨g1, g2⟩ := I.fr s' h1
      have Rp : ∀ id b, s'.h.get id = some b → id < s'.N := by
        -- the blocks of the present state are numbered below its number
        intro id b hb2
        by_cases hall : ∀ (c x : Nat) (rx : DRec), c < p → hs[c]? = some x → F[x]? = some rx → rx.sO.W ≠ [] → c < p
        · exact (I.rel p s' h1 (Nat.le_refl _) hall).lt id b hb2
        · exact absurd (fun c x rx hc _ _ _ => hc) hall
      refine ⟨?_, g2⟩
      have Rr := I.rel p s' h1 (Nat.le_refl _) (fun c x rx hc _ _ _ => hc)
      exact (g1.trans (Rr.below hb).2).weaken (fun q hq => by simpa using hq)
    · exact I.bel.trans (hb.mono hbase)
  unfold wpOpIn
  rw [hop]
  simp only
  cases hpu : r.pu with
  | true =>
    obtain ⟨hh, hone⟩ := hone2 hpu
    have R0 : Rel B ρ s.N (Tr.nil : Tr Blk).get w := ⟨hbase, (fun id b h => by cases h), (fun id b h => by cases h), (fun i j bi bj h => by cases h), (fun id b h => by cases h)⟩
    rcases oneE_ok (w0 := w0) (all := all) (rc := rc) (rec := fun _ _ _ => none) (fun _ _ _ _ h => by cases h) I.bel (s := ⟨.nil, s.N, []⟩) R0 T hone with ⟨h1, h2, h3⟩ | ⟨h1, h2⟩
    · rw [if_neg (by rw [h1]; exact Bool.false_ne_true)]
      refine ⟨fun _ _ => trivial, light hh undef w ?_ (Below.refl _ _)⟩
      rw [h2]
      exact .flat 1 _ rfl
    · rw [if_pos h1]
      refine h2 _ _ fun v' ρ' w' _ hv R' F' => ?_
      have F' : Fr ρ s.N (Tr.nil : Tr Blk).get w ρ' r.sO.N r.sO.h.get w' r.sO.W := F'
      obtain ⟨g1, g2⟩ := hlight hh
      rw [g1] at F'
      refine light hh v' w' ?_ F'.allBelow
      rw [g2] at hv
      exact hv.mono (Nat.le_refl _) fun j hj => (F'.same j hj).symm
  | false =>
  have R := I.rel r.p s hs1 hpi (hq0 hpu)
  have hone := hone hpu
  rcases oneE_ok (all := all) (rc := rc) ih I.bel (s := ⟨s.h, s.N, []⟩) R T hone with ⟨h1, h2, h3⟩ | ⟨h1, h2⟩
  · rw [if_neg (by rw [h1]; exact Bool.false_ne_true)]
    have hh : r.heavy = false := by
      cases hh : r.heavy with
      | false => rfl
      | true =>
        rcases hheavy hh with q | q
        · rw [h3] at q; exact absurd rfl q
        · rw [h3] at q; exact absurd rfl q
    refine ⟨fun _ _ => trivial, light hh undef w ?_ (Below.refl _ _)⟩
    rw [h2]
    exact .flat 1 _ rfl
  · rw [if_pos h1]
    refine h2 _ _ fun v' ρ' w' _ hv R' F' => ?_
    have F' : Fr ρ s.N s.h.get w ρ' r.sO.N r.sO.h.get w' r.sO.W := F'
    cases hh : r.heavy with
    | false =>
      obtain ⟨g1, g2⟩ := hlight hh
      rw [g1] at F'
      refine light hh v' w' ?_ F'.allBelow
      rw [g2] at hv
      exact hv.mono (Nat.le_refl _) fun j hj => (F'.same j hj).symm
    | true =>
      obtain ⟨e1, s1, s2, e2, e3, e4, e5, e6⟩ := D.f7 hh
      rw [hs1] at e2
      cases e2
      have hpe : p = r.p := by
        rcases Nat.lt_or_ge r.p p with z | z
        · have := (I.hp r.p i e1).2 z; rw [hni] at this; cases this
        · omega
      subst hpe
      have hrl := hlt _ _ e1
      have hlv : r.lvl = r.p + 1 := by unfold DRec.lvl; rw [hh]; rfl
      have hsz : ∀ (q : Nat) (sq : St), q ≤ r.p → sn[q]? = some sq → sq.N ≤ s.N := fun q sq hq hsq => I.mono q r.p sq s hq (Nat.le_refl _) hsq hs1
      refine hK (r.p + 1) ρ' _ _ ⟨by rw [Array.size_setIfInBounds]; exact I.sz, hclosed, fun q x hx => ?_, hrl, fun q sq h1 h2 h3 => ?_, ⟨(hput v').1, fun t u l hl => ?_⟩, fun sq h1 => ?_, fun q q' sq sq' h1 h2 h3 h4 => ?_, hdf v', ?_⟩
      · rw [hL]
        by_cases hxi : x = i
        · rw [if_pos hxi]
          constructor
          · intro _
            -- the place of i in the list is p
            have := D.f10 q (by rw [← hxi]; exact hx)
            omega
          · intro _; rfl
        · rw [if_neg hxi, I.hp q x hx]
          constructor
          · intro z; omega
          · intro z
            rcases Nat.lt_or_ge q r.p with y | y
            · exact y
            · have : q = r.p := by omega
              rw [this, e1] at hx
              cases hx
              exact absurd rfl hxi
      · rcases Nat.lt_or_ge q (r.p + 1) with z | z
        · have hW : r.sO.W = [] := by
            cases hWW : r.sO.W with
            | nil => rfl
            | cons y l => have := h3 r.p i r (Nat.lt_succ_self _) e1 hr (by rw [hWW]; simp); omega
          rw [hW] at F'
          have Rq := I.rel q sq h1 (by omega) (fun c x rx hc => h3 c x rx (by omega))
          exact (Rq.below F'.allBelow).1.congr fun j hj => F'.same j (Nat.lt_of_lt_of_le hj (hsz q sq (by omega) h1))
        · have : q = r.p + 1 := by omega
          rw [this, e3] at h1
          cases h1
          rw [e4, e5]
          exact R'
      · by_cases hd : r.o.dst = some t
        · rw [hlexd t hd, hlv] at hl
          cases hl
          exact ⟨Nat.le_refl _, s2, v', e3, by rw [(hput v').2, if_pos hd], by rw [e5]; exact hv⟩
        · rw [hlexo t hd] at hl
          obtain ⟨g1, sl, v2, g2, g3, g4⟩ := I.tmp.2 t u l hl
          exact ⟨by omega, sl, v2, g2, by rw [(hput v').2, if_neg hd]; exact g3, g4.mono (Nat.le_refl _) fun j hj => F'.same j (Nat.lt_of_lt_of_le hj (hsz l sl g1 g2))⟩
      · rw [e3] at h1
        cases h1
        obtain ⟨g1, g2⟩ := I.fr s hs1
        rw [e4, e5, e6]
        exact ⟨(g1.trans F').weaken (fun q hq => by
          rcases List.mem_append.1 hq with z | z
          · exact List.mem_append.2 (.inr z)
          · exact List.mem_append.2 (.inl z)), fun q hq => List.mem_append.2 (.inr (g2 q hq))⟩
      · rcases Nat.lt_or_ge q' (r.p + 1) with z | z
        · exact I.mono q q' sq sq' h1 (by omega) h3 h4
        · have : q' = r.p + 1 := by omega
          rw [this, e3] at h4
          cases h4
          rw [e5]
          rcases Nat.lt_or_ge q (r.p + 1) with y | y
          · exact Nat.le_trans (hsz q sq (by omega) h3) F'.le
          · have : q = r.p + 1 := by omega
            rw [this, e3] at h3
            cases h3
            rw [e5]; exact Nat.le_refl _
      · exact I.bel.trans (F'.below R)

theorem filter_less {p q : Nat → Bool} : ∀ {l : List Nat}, (∀ x ∈ l, p x = true → q x = true) → ∀ y ∈ l, q y = true → p y = false → (l.filter p).length < (l.filter q).length
  | x :: l, h, y, hy, h1, h2 => by
    have hle : (l.filter p).length ≤ (l.filter q).length := by
      have : ∀ (l : List Nat), (∀ x ∈ l, p x = true → q x = true) → (l.filter p).length ≤ (l.filter q).length := by
        intro l
        induction l with
        | nil => intro _; exact Nat.le_refl _
        | cons z l ih =>
          intro h
          have ih := ih fun x hx => h x (List.mem_cons_of_mem _ hx)
          have hz := h z List.mem_cons_self
          rw [List.filter_cons, List.filter_cons]
          cases hp : p z with
          | false =>
            rw [if_neg (by simp)]
            cases hq : q z with
            | false => rw [if_neg (by simp)]; exact ih
            | true => rw [if_pos rfl, List.length_cons]; omega
          | true => rw [hz hp, if_pos rfl, if_pos rfl, List.length_cons, List.length_cons]; omega
      exact this l fun x hx => h x (List.mem_cons_of_mem _ hx)
    have hx := h x List.mem_cons_self
    rw [List.filter_cons, List.filter_cons]
    rcases List.mem_cons.1 hy with rfl | hy
    · rw [h1, h2, if_neg (by simp), if_pos rfl, List.length_cons]; omega
    · have ih := filter_less (fun x hx => h x (List.mem_cons_of_mem _ hx)) y hy h1 h2
      cases hp : p x with
      | false =>
        rw [if_neg (by simp)]
        cases hq : q x with
        | false => rw [if_neg (by simp)]; exact ih
        | true => rw [if_pos rfl, List.length_cons]; omega
      | true => rw [hx hp, if_pos rfl, if_pos rfl, List.length_cons, List.length_cons]; omega
noncomputable def unl (n : Nat) (listed : Array Bool) : Nat := ((List.range n).filter fun i => !lst listed i).length

theorem draw_any (hms : msOK all ms = true) (hsl : slotsOK all ms = true) (ih : ∀ t tm s r, rec t tm s = some r → Sound P B w0 t tm s r) (hF : F.length = all.length) (facts : ∀ j r, F[j]? = some r → DFact P rec all ms F tm0 hs sn j r)
    (hsnl : sn.length = hs.length + 1) {ρ0 : Nat → Place} {s0 : St} {w1 : World} {d : List Deferred} {Q : Exit → Act → World → Prop} (hsn0 : sn[0]? = some s0) (hd0 : d = tm0.ds.map (dmk ρ0)) (hds : ∀ x ∈ tm0.ds, x < s0.N) {rc : Option Nat}
    (hQ : ∀ listed p ρ a w, DInv ms tm0 B w0 ρ0 s0 w1 d F hs sn all.length listed p ρ a w → (∀ i, i < all.length → lst listed i = true) → Q .normal a w) :
    ∀ (fuel : Nat) (listed : Array Bool) (p : Nat) (ρ : Nat → Place) (a : Act) (w : World), DInv ms tm0 B w0 ρ0 s0 w1 d F hs sn all.length listed p ρ a w → unl all.length listed ≤ fuel → wpAnyIn (fe rc) 0 P .any ⟨all⟩ Q fuel listed a w := by
  have hget : ∀ (listed : Array Bool) (i : Nat), listed.size = all.length → i < all.length → listed.getD i true = lst listed i := by
    intro listed i h1 h2
    unfold lst
    rw [Array.getD_eq_getD_getElem?, Array.getD_eq_getD_getElem?, Array.getElem?_eq_getElem (by omega)]; rfl
  have hmem : ∀ (listed : Array Bool) (i : Nat), listed.size = all.length → (i ∈ Region.ready .any ⟨all⟩ listed ↔ ∃ o, all[i]? = some o ∧ lst listed i = false ∧ ∀ e ∈ o.after.toList, Region.binds .any e = true → lst listed e.on = true) := by
    intro listed i h1
    unfold Region.ready
    rw [List.mem_filter, List.mem_range]
    constructor
    · rintro ⟨h2, h3⟩
      have h2 : i < all.length := h2
      have ho : (⟨all⟩ : Array Oper)[i]? = some all[i] := by simp [h2]
      rw [hget listed i h1 h2, ho] at h3
      simp only [Bool.and_eq_true, Bool.not_eq_true', Option.map_some, Option.getD_some] at h3
      refine ⟨all[i], List.getElem?_eq_getElem h2, h3.1, fun e he hb => ?_⟩
      have := (Array.all_eq_true_iff_forall_mem.1 h3.2) e (by simpa using he)
      rw [hb] at this
      have this : listed.getD e.on false = true := by simpa using this
      exact this
    · rintro ⟨o, h2, h3, h4⟩
      have hi : i < all.length := by
        rcases Nat.lt_or_ge i all.length with q | q
        · exact q
        · rw [List.getElem?_eq_none q] at h2; cases h2
      refine ⟨hi, ?_⟩
      have ho : (⟨all⟩ : Array Oper)[i]? = some o := by rw [← h2]; simp
      rw [hget listed i h1 hi, ho, h3]
      simp only [Bool.not_false, Bool.true_and, Option.map_some, Option.getD_some]
      rw [Array.all_eq_true_iff_forall_mem]
      intro e he
      cases hb : Region.binds .any e with
      | false => rfl
      | true => have := h4 e (by simpa using he) hb; simpa [lst] using this
  have hall : ∀ (listed : Array Bool), listed.size = all.length → Region.ready .any ⟨all⟩ listed = [] → ∀ i, i < all.length → lst listed i = true := by
    intro listed h1 h2 i
    induction i using Nat.strongRecOn with
    | _ i ihh =>
      intro hi
      cases hl : lst listed i with
      | true => rfl
      | false =>
        have ho := List.getElem?_eq_getElem hi
        have : i ∈ Region.ready .any ⟨all⟩ listed := (hmem listed i h1).2 ⟨_, ho, hl, fun e he hb => by
          have := (msOK_at hms ho).2 e he hb
          exact ihh e.on this (by omega)⟩
        rw [h2] at this
        cases this
  intro fuel
  induction fuel with
  | zero =>
    intro listed p ρ a w I hu
    have hl : ∀ i, i < all.length → lst listed i = true := by
      intro i hi
      cases hl : lst listed i with
      | true => rfl
      | false =>
        have : i ∈ (List.range all.length).filter fun i => !lst listed i := List.mem_filter.2 ⟨List.mem_range.2 hi, by rw [hl]; rfl⟩
        have h0 : (List.range all.length).filter (fun i => !lst listed i) = [] := List.length_eq_zero_iff.1 (Nat.le_zero.1 hu)
        rw [h0] at this
        cases this
    refine ⟨?_, hQ _ _ _ _ _ I hl⟩
    refine List.eq_nil_iff_forall_not_mem.2 fun i hi => ?_
    obtain ⟨o, h1, h2, _⟩ := (hmem listed i I.sz).1 hi
    have : i < all.length := by
      rcases Nat.lt_or_ge i all.length with q | q
      · exact q
      · rw [List.getElem?_eq_none q] at h1; cases h1
    rw [hl i this] at h2
    cases h2
  | succ fuel ihf =>
    intro listed p ρ a w I hu
    refine ⟨fun hr => hQ _ _ _ _ _ I (hall listed I.sz hr), fun i hi => ?_⟩
    obtain ⟨o, h1, h2, h3⟩ := (hmem listed i I.sz).1 hi
    have hi : i < all.length := by
      rcases Nat.lt_or_ge i all.length with q | q
      · exact q
      · rw [List.getElem?_eq_none q] at h1; cases h1
    refine I.step hsl ih hF facts hsnl hsn0 hd0 hds hi h2 (fun j hj => ?_) fun p' ρ' a' w' I' => ihf _ p' ρ' a' w' I' ?_
    · obtain ⟨e, he, hb, hj⟩ := ((msOK_at hms h1).1 j).1 hj
      rcases hj with rfl | hj
      · exact h3 e he hb
      · exact I.closed _ _ (h3 e he hb) hj
    · have hL : ∀ k, lst (listed.setIfInBounds i true) k = (if k = i then true else lst listed k) := by
        intro k
        unfold lst
        rw [Array.getD_eq_getD_getElem?, Array.getD_eq_getD_getElem?]
        by_cases hk : k = i
        · rw [if_pos hk, hk, Array.getElem?_setIfInBounds_self_of_lt (by rw [I.sz]; exact hi)]; rfl
        · rw [if_neg hk, Array.getElem?_setIfInBounds_ne (Ne.symm hk)]
      have := filter_less (p := fun k => !lst (listed.setIfInBounds i true) k) (q := fun k => !lst listed k) (l := List.range all.length) (fun k _ hk => by
        rw [hL] at hk
        by_cases hki : k = i
        · rw [if_pos hki] at hk; cases hk
        · rw [if_neg hki] at hk; exact hk) i (List.mem_range.2 hi) (by rw [h2]; rfl) (by rw [hL, if_pos rfl]; rfl)
      unfold unl at hu ⊢
      omega

/-- a region that draws its order -/
theorem draw_wp (hmix : P.follows .mixedOrders = true) (hst : statOK all = true) (ih : ∀ t tm s r, rec t tm s = some r → Sound P B w0 t tm s r) {tm : Tm} {out : DOut} (e : drawE P rec all (masks all []) all 0 0 [] [s] 0 .nil tm = some out) {sl : St} (hsl : out.sn[out.hs.length]? = some sl)
    {id : Nat} (hB : Below B w0 w) (R : Rel B ρ s.N s.h.get w) (T : TRel ρ s.N tm a) {rc : Option Nat} : (Code.region id ⟨all⟩ true).wpIn (fe rc) 0 P (QC B ρ s w ⟨.normal, out.tm, undef, sl⟩) a w := by
  simp only [statOK, Bool.and_eq_true] at hst
  obtain ⟨hms, hso⟩ := hst
  obtain ⟨k1, ⟨hs2, k2, k3⟩, ⟨sn2, k4⟩, k5, k6, k9, k7, k8⟩ := drawE_facts (tm0 := tm) hms all 0 0 [] [s] 0 .nil tm out e [] rfl (by simp) (fun k => by simp) rfl rfl (fun t => by
    show tm.t.get t = (match (match tm.t.get t with | some v => some (v, 0) | none => none : Option (Value × Nat)) with | some x => some x.1 | none => none)
    cases tm.t.get t <;> rfl) (fun t v k h => by
    have h : (match tm.t.get t with | some v => some (v, 0) | none => none : Option (Value × Nat)) = some (v, k) := h
    cases hg : tm.t.get t with
    | none => rw [hg] at h; cases h
    | some u => rw [hg] at h; cases h; rfl) (fun q x h => by simp at h) (by simp) (fun q x rx h => by simp at h) (fun j rj h => absurd h (Nat.not_lt_zero j))
  rw [List.nil_append] at k7 k8
  rw [List.nil_append] at k2
  have hsn0 : out.sn[0]? = some s := by rw [k4]; rfl
  have hb0 : Below B w { w with drawn := w.drawn + 1 } := ⟨rfl, rfl, rfl, Nat.le_refl _, fun _ _ => rfl⟩
  have hrep : ∀ i, lst (Array.replicate all.length false) i = false := by
    intro i
    unfold lst
    rw [Array.getD_eq_getD_getElem?]
    rcases Nat.lt_or_ge i all.length with q | q
    · rw [Array.getElem?_eq_getElem (by simpa using q)]; simp
    · rw [Array.getElem?_eq_none (by simpa using q)]; rfl
  have I0 : DInv (masks all []) tm B w0 ρ s w a.defers out.recs out.hs out.sn all.length (Array.replicate all.length false) 0 ρ a { w with drawn := w.drawn + 1 } := by
    refine ⟨by simp, fun i j h => (by rw [hrep] at h; cases h), fun q x _ => ⟨fun z => by (rw [hrep] at z; cases z), fun z => absurd z (Nat.not_lt_zero q)⟩, Nat.zero_le _, fun q s' h1 h2 _ => ?_, ⟨T.size, fun t v l hl => ?_⟩, fun s' h1 => ?_, fun q q' s1 s2 h1 h2 h3 h4 => ?_, rfl, hB.trans hb0⟩
    · have : q = 0 := by omega
      rw [this, hsn0] at h1
      cases h1
      exact R.world rfl
    · rw [lexV_none _ t 0 all.length (Nat.zero_le _) (fun j r _ _ _ _ => hrep j)] at hl
      have hl : (match tm.t.get t with | some v => some (v, 0) | none => none : Option (Value × Nat)) = some (v, l) := hl
      cases hg : tm.t.get t with
      | none => rw [hg] at hl; cases hl
      | some u =>
        rw [hg] at hl
        obtain ⟨rfl, rfl⟩ : u = v ∧ 0 = l := by simpa using hl
        obtain ⟨v', g1, g2⟩ := T.slot t u hg
        exact ⟨Nat.le_refl _, s, v', hsn0, g1, g2⟩
    · rw [hsn0] at h1
      cases h1
      have hf : Fr ρ s.N s.h.get w ρ s.N s.h.get { w with drawn := w.drawn + 1 } [] := Fr.world R.lt rfl rfl rfl rfl
      exact ⟨hf.weaken (fun q hq => by simp at hq), fun _ h => h⟩
    · have e1 : q = 0 := by omega
      have e2 : q' = 0 := by omega
      rw [e1] at h3; rw [e2] at h4
      rw [h3] at h4; cases h4
      exact Nat.le_refl _
  refine wpIn_region_any hmix ?_
  refine draw_any hms hso ih k1 (fun j r hr => k8 j r (Nat.zero_le _) hr) k5 hsn0 T.dfr T.ds (fun listed p ρ' a' w' I hl => ?_) _ _ 0 ρ a _ I0 (by unfold unl; exact Nat.le_trans (List.length_filter_le _ _) (by simp))
  have hp : p = out.hs.length := by
    rcases Nat.lt_or_ge p out.hs.length with z | z
    · have hx := List.getElem?_eq_getElem z
      have hlx := (k3 _ (by rw [← k2]; exact List.getElem_mem z)).2
      have := (I.hp p _ hx).1 (hl _ hlx)
      omega
    · have := I.ple; omega
  subst hp
  obtain ⟨g1, g2⟩ := I.fr sl hsl
  refine ⟨rfl, g2, ρ', ⟨by rw [k6]; exact I.tmp.1, fun t v hv => ?_, by rw [I.dfr, T.dfr, k9, dmk_map g1.same T.ds], by rw [k9]; exact fun x hx => Nat.lt_of_lt_of_le (T.ds x hx) g1.le⟩, I.rel _ sl hsl (Nat.le_refl _) (fun c x rx hc _ _ _ => hc), g1⟩
  have hv : out.tm.t.get t = some v := hv
  rw [k7 t] at hv
  have hc := lexV_congr (F := out.recs) (tm0 := tm) (lst listed) (fun _ => true) t all.length (fun j r hj _ _ => hl j hj)
  cases hx : lexV out.recs tm all.length (fun _ => true) t with
  | none => rw [hx] at hv; cases hv
  | some x =>
    obtain ⟨u, l⟩ := x
    rw [hx] at hv
    cases hv
    obtain ⟨h1, s1, v', h2, h3, h4⟩ := I.tmp.2 t u l (by rw [hc]; exact hx)
    exact ⟨v', h3, h4.mono (I.mono l _ s1 sl h1 (Nat.le_refl _) h2 hsl) (fun _ _ => rfl)⟩
end
end Go.Proofs.Ytlapnehfjklpoaa
