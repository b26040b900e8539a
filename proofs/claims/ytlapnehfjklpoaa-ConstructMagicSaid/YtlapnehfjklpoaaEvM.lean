/- Closed calls by reckoning: what the reckoning of a region that draws leaves behind. -/
import Derived.Test.YtlapnehfjklpoaaEvL
namespace Go.Proofs.Ytlapnehfjklpoaa
open Go.RowKit

noncomputable def DRec.lvl (r : DRec) : Nat := bif r.heavy then r.p + 1 else r.p
/-- the last that was put into a slot, by the operations of S among the first k -/
noncomputable def lexV (F : List DRec) (tm0 : Tm) : Nat → (Nat → Bool) → Tmp → Option (Value × Nat)
  | 0, _, t => (match tm0.t.get t with | some v => some (v, 0) | none => none)
  | k + 1, S, t => (match F[k]? with
    | some r => if S k = true ∧ r.o.dst = some t then some (r.v, r.lvl) else lexV F tm0 k S t
    | none => lexV F tm0 k S t)

structure DFact (P : Program) (rec : Task → Tm → St → Option Res) (all : List Oper) (ms : List Nat) (F : List DRec) (tm0 : Tm) (hs : List Nat) (sn : List St) (i : Nat) (r : DRec) : Prop where
  f1 : all[i]? = some r.o
  f0 : r.tmI.ds = tm0.ds
  f2 : r.tmI.n = tm0.n ∧ ∀ t v, r.tmI.t.get t = some v → t ∈ reads all r.o ∧ ∃ l, lexV F tm0 i (fun _ => true) t = some (v, l) ∧ l ≤ r.p
  f3 : ∃ s, sn[r.p]? = some s ∧ ((r.pu = false → oneE P rec all r.tmI ⟨s.h, s.N, []⟩ r.o = some (r.w, r.v, r.sO)) ∧ (r.pu = true → r.heavy = false ∧ oneE P (fun _ _ _ => none) all r.tmI ⟨.nil, s.N, []⟩ r.o = some (r.w, r.v, r.sO))) ∧ (r.heavy = false → r.sO.W = [] ∧ r.sO.N = s.N) ∧ (r.heavy = true → r.sO.W ≠ [] ∨ r.sO.N ≠ s.N)
  f4 : ∀ (q x : Nat), hs[q]? = some x → (Pr ms i x ↔ q < r.p)
  f5 : ∀ d, r.o.dst = some d → d < tm0.n
  f6 : r.heavy = false → i ∉ hs
  f7 : r.heavy = true → hs[r.p]? = some i ∧ ∃ s s', sn[r.p]? = some s ∧ sn[r.p + 1]? = some s' ∧ s'.h = r.sO.h ∧ s'.N = r.sO.N ∧ s'.W = r.sO.W ++ s.W
  f8 : r.sO.W ≠ [] → ∀ j rj, j < i → F[j]? = some rj → rj.pu = false → Pr ms i j
  f10 : ∀ q : Nat, hs[q]? = some i → r.p = q
  f9 : r.pu = false → ∀ (q x : Nat) (rx : DRec), hs[q]? = some x → F[x]? = some rx → rx.sO.W ≠ [] → x < i → q < r.p

section
variable {P : Program} {rec : Task → Tm → St → Option Res} {all : List Oper} {ms : List Nat} {tm0 : Tm}
theorem Tm.put_ds {tm tm' : Tm} {d : Option Tmp} {v : Value} (e : tm.put d v = some tm') : tm'.ds = tm.ds := by
  cases d with
  | none => cases e; rfl
  | some d =>
    simp only [Tm.put, cond_eq_ite] at e
    split at e
    · split at e
      · cases e; rfl
      · cases e
    · cases e
theorem Tm.put_get {tm tm' : Tm} {d : Option Tmp} {v : Value} (e : tm.put d v = some tm') : tm'.n = tm.n ∧ (∀ t, tm'.t.get t = if d = some t then some v else tm.t.get t) ∧ ∀ x, d = some x → x < tm.n := by
  cases d with
  | none => cases e; exact ⟨rfl, fun t => by rw [if_neg (by simp)], fun x h => by cases h⟩
  | some d =>
    simp only [Tm.put, cond_eq_ite] at e
    split at e
    · rename_i hd
      rw [Nat.blt_eq] at hd
      split at e
      · rename_i t ht
        cases e
        refine ⟨rfl, fun j => ?_, fun x h => by cases h; exact hd⟩
        show t.get j = _
        rw [Tr.get_put 32 _ _ _ _ _ ht]
        by_cases hj : j = d
        · rw [if_pos hj, if_pos (by rw [hj])]
        · rw [if_neg hj, if_neg (by simp; exact fun q => hj q.symm)]
      · cases e
    · cases e
theorem setLv_get {lv lv' : Tr Nat} {d : Option Tmp} {k : Nat} (e : setLv lv d k = some lv') (t : Tmp) : (lv'.get t).getD 0 = if d = some t then k else (lv.get t).getD 0 := by
  cases d with
  | none => cases e; rw [if_neg (by simp)]
  | some d =>
    have hput : Tr.put 32 lv d (some k) = some lv' → (lv'.get t).getD 0 = if some d = some t then k else (lv.get t).getD 0 := by
      intro e
      rw [Tr.get_put 32 _ _ _ _ _ e]
      by_cases hj : t = d
      · rw [if_pos hj, if_pos (by rw [hj])]; rfl
      · rw [if_neg hj, if_neg (by simp; exact fun q => hj q.symm)]
    have e : setLv0 lv d k = some lv' := e
    cases lv with
    | nil =>
      cases k with
      | zero =>
        have e : some (Tr.nil : Tr Nat) = some lv' := e
        cases e
        rw [Tr.get_nil]
        split <;> rfl
      | succ k => exact hput e
    | node v l r => exact hput e
    | only ks t => exact hput e
    | over k2 a t => exact hput e
theorem lvOK_at {lv : Tr Nat} {p : Nat} : ∀ {l : List Tmp}, lvOK lv p l = true → ∀ t ∈ l, (lv.get t).getD 0 ≤ p
  | x :: l, h, t, ht => by
    simp only [lvOK, Bool.and_eq_true] at h
    rcases List.mem_cons.1 ht with rfl | ht
    · have h1 := h.1
      cases hg : lv.get t with
      | none => exact Nat.zero_le _
      | some k => rw [hg] at h1; simpa [Nat.ble_eq] using h1
    · exact lvOK_at h.2 t ht
theorem prefOK_at {m p : Nat} : ∀ {l : List Nat} {q : Nat}, prefOK m p l q = true → ∀ k x, l[k]? = some x → (m.testBit x = true ↔ q + k < p)
  | y :: l, q, h, k, x, hx => by
    simp only [prefOK, Bool.and_eq_true] at h
    cases k with
    | zero =>
      simp at hx
      subst hx
      have h1 := h.1
      rw [beq_iff_eq] at h1
      rw [h1, Nat.blt_eq, Nat.add_zero]
    | succ k =>
      have := prefOK_at h.2 k x (by simpa using hx)
      rw [this]
      omega
  | [], q, _, k, x, hx => by simp at hx
theorem countP_le {m : Nat} : ∀ (l : List Nat), countP m l ≤ l.length
  | [] => Nat.le_refl _
  | x :: l => by
    simp only [countP, List.length_cons]
    cases m.testBit x
    · simp only [cond_false]; have := countP_le (m := m) l; omega
    · simp only [cond_true]; have := countP_le (m := m) l; omega
theorem lexV_step {F : List DRec} {i : Nat} {r : DRec} (hr : F[i]? = some r) (S : Nat → Bool) (t : Tmp) : lexV F tm0 (i + 1) S t = if S i = true ∧ r.o.dst = some t then some (r.v, r.lvl) else lexV F tm0 i S t := by
  show (match F[i]? with | some r => _ | none => _) = _
  rw [hr]

theorem drawE_facts (hms : msOK all ms = true) : ∀ (l : List Oper) (i nm : Nat) (hs : List Nat) (sn : List St) (dq : Nat) (lv : Tr Nat) (tm : Tm) (out : DOut), drawE P rec all ms l i nm hs sn dq lv tm = some out → ∀ (recs0 : List DRec), recs0.length = i → i + l.length = all.length →
    (∀ k : Nat, l[k]? = all[i + k]?) → tm.n = tm0.n → tm.ds = tm0.ds → (∀ t, tm.t.get t = (match lexV (recs0 ++ out.recs) tm0 i (fun _ => true) t with | some x => some x.1 | none => none)) →
    (∀ t v k, lexV (recs0 ++ out.recs) tm0 i (fun _ => true) t = some (v, k) → k = (lv.get t).getD 0) → (∀ (q x : Nat), hs[q]? = some x → x < i) → sn.length = hs.length + 1 →
    (∀ (q x : Nat) (rx : DRec), hs[q]? = some x → (recs0 ++ out.recs)[x]? = some rx → rx.sO.W ≠ [] → q < dq) →
    (∀ (j : Nat) (rj : DRec), j < i → (recs0 ++ out.recs)[j]? = some rj → rj.pu = false → nm.testBit j = true) →
    out.recs.length = l.length ∧ (∃ hs2, out.hs = hs ++ hs2 ∧ ∀ x ∈ hs2, i ≤ x ∧ x < all.length) ∧ (∃ sn2, out.sn = sn ++ sn2) ∧ out.sn.length = out.hs.length + 1 ∧ out.tm.n = tm0.n ∧ out.tm.ds = tm0.ds ∧
    (∀ t, out.tm.t.get t = (match lexV (recs0 ++ out.recs) tm0 all.length (fun _ => true) t with | some x => some x.1 | none => none)) ∧
    ∀ j r, i ≤ j → (recs0 ++ out.recs)[j]? = some r → DFact P rec all ms (recs0 ++ out.recs) tm0 out.hs out.sn j r := by
  intro l
  induction l with
  | nil =>
    intro i nm hs sn dq lv tm out e recs0 h0 hi _ hn hds htm _ _ hsn _ _
    simp only [drawE] at e
    cases e
    have hi : i = all.length := by simpa using hi
    refine ⟨rfl, ⟨[], by simp, fun x hx => by simp at hx⟩, ⟨[], by simp⟩, hsn, hn, hds, by rw [← hi]; exact htm, fun j r hj hr => ?_⟩
    rw [List.append_nil, List.getElem?_eq_none (by omega)] at hr
    cases hr
  | cons o l ih =>
    intro i nm hs sn dq lv tm out e recs0 h0 hi hl hn hds htm hlv hhs hsn hdq hnm
    have hall : all[i]? = some o := by have := hl 0; simpa using this.symm
    simp only [drawE] at e
    generalize hp : countP (ms.getD i 0) hs = p at e
    have hpl : p ≤ hs.length := by rw [← hp]; exact countP_le hs
    split at e
    · rename_i t s ht hsnp
      rw [cond_eq_ite] at e
      split at e
      · rename_i hc
        simp only [Bool.and_eq_true] at hc
        obtain ⟨hpref, hlvp⟩ := hc
        -- what is the same in all cases
        have key : ∀ (w : Bool) (v : Value) (sO : St) (tm' : Tm), tm.put o.dst v = some tm' → ∀ (heavy pu : Bool) (lv' : Tr Nat) (hs' : List Nat) (sn' : List St) (dq' : Nat) (r2 : DOut), drawE P rec all ms l (i + 1) (bif pu then nm else nm ||| 2 ^ i) hs' sn' dq' lv' tm' = some r2 → setLv lv o.dst (bif heavy then p + 1 else p) = some lv' →
                out = ⟨⟨o, ⟨t, tm.n, tm.ds⟩, p, w, v, sO, heavy, pu⟩ :: r2.recs, r2.hs, r2.sn, r2.tm⟩ → (heavy = false → sO.W = [] ∧ sO.N = s.N ∧ hs' = hs ∧ sn' = sn ∧ dq' = dq) →
                (heavy = true → p = hs.length ∧ hs' = hs ++ [i] ∧ sn' = sn ++ [⟨sO.h, sO.N, sO.W ++ s.W⟩] ∧ (sO.W = [] → dq' = dq) ∧ (sO.W ≠ [] → dq' = hs.length + 1)) →
                (sO.W ≠ [] → (ms.getD i 0 &&& nm) = nm) → (heavy = true → sO.W ≠ [] ∨ sO.N ≠ s.N) →
                (pu = false → oneE P rec all ⟨t, tm.n, tm.ds⟩ ⟨s.h, s.N, []⟩ o = some (w, v, sO) ∧ dq ≤ p) → (pu = true → heavy = false ∧ oneE P (fun _ _ _ => none) all ⟨t, tm.n, tm.ds⟩ ⟨.nil, s.N, []⟩ o = some (w, v, sO)) →
                out.recs.length = (o :: l).length ∧ (∃ hs2, out.hs = hs ++ hs2 ∧ ∀ x ∈ hs2, i ≤ x ∧ x < all.length) ∧ (∃ sn2, out.sn = sn ++ sn2) ∧ out.sn.length = out.hs.length + 1 ∧ out.tm.n = tm0.n ∧ out.tm.ds = tm0.ds ∧
                (∀ t, out.tm.t.get t = (match lexV (recs0 ++ out.recs) tm0 all.length (fun _ => true) t with | some x => some x.1 | none => none)) ∧
                ∀ j r, i ≤ j → (recs0 ++ out.recs)[j]? = some r → DFact P rec all ms (recs0 ++ out.recs) tm0 out.hs out.sn j r := by
              intro w v sO tm' htm' heavy pu lv' hs' sn' dq' r2 e2 elv eout hlight hheavy htot hhv hnp hpu
              obtain ⟨g1, g2, g3⟩ := Tm.put_get htm'
              have eF : recs0 ++ out.recs = (recs0 ++ [⟨o, ⟨t, tm.n, tm.ds⟩, p, w, v, sO, heavy, pu⟩]) ++ r2.recs := by rw [eout]; simp
              have eFi : (recs0 ++ out.recs)[i]? = some ⟨o, ⟨t, tm.n, tm.ds⟩, p, w, v, sO, heavy, pu⟩ := by
                rw [eF, List.getElem?_append_left (by simp [h0]), List.getElem?_append_right (by omega), h0]; simp
              have hstep : ∀ t', lexV (recs0 ++ out.recs) tm0 (i + 1) (fun _ => true) t' = if o.dst = some t' then some (v, bif heavy then p + 1 else p) else lexV (recs0 ++ out.recs) tm0 i (fun _ => true) t' := fun t' => by
                rw [lexV_step eFi]
                by_cases hd : o.dst = some t'
                · rw [if_pos ⟨rfl, hd⟩, if_pos hd]; rfl
                · rw [if_neg (fun q => hd q.2), if_neg hd]
              have hhs' : (∃ hs3, hs' = hs ++ hs3 ∧ ∀ x ∈ hs3, x = i) ∧ ∃ sn3, sn' = sn ++ sn3 := by
                cases heavy with
                | false =>
                  obtain ⟨_, _, q1, q2, _⟩ := hlight rfl
                  exact ⟨⟨[], by rw [q1]; simp, fun x hx => by simp at hx⟩, [], by rw [q2]; simp⟩
                | true =>
                  obtain ⟨_, q1, q2, _⟩ := hheavy rfl
                  exact ⟨⟨[i], q1, fun x hx => by simpa using hx⟩, _, q2⟩
              have hlt' : ∀ (q x : Nat), hs'[q]? = some x → x < i + 1 := by
                intro q x hx
                obtain ⟨⟨hs3, q1, q2⟩, _⟩ := hhs'
                rw [q1] at hx
                rcases Nat.lt_or_ge q hs.length with hq | hq
                · rw [List.getElem?_append_left hq] at hx; have := hhs q x hx; omega
                · rw [List.getElem?_append_right hq] at hx
                  have := q2 x (List.mem_of_getElem? hx); omega
              have hdq' : ∀ (q x : Nat) (rx : DRec), hs'[q]? = some x → (recs0 ++ out.recs)[x]? = some rx → rx.sO.W ≠ [] → q < dq' := by
                intro q x rx hx hrx hW
                cases heavy with
                | false =>
                  obtain ⟨_, _, q1, _, q3⟩ := hlight rfl
                  rw [q1] at hx; rw [q3]
                  exact hdq q x rx hx hrx hW
                | true =>
                  obtain ⟨q0, q1, _, q3, q4⟩ := hheavy rfl
                  rw [q1] at hx
                  rcases Nat.lt_or_ge q hs.length with hq | hq
                  · rw [List.getElem?_append_left hq] at hx
                    have := hdq q x rx hx hrx hW
                    by_cases hWi : sO.W = []
                    · rw [q3 hWi]; exact this
                    · rw [q4 hWi]; omega
                  · rw [List.getElem?_append_right hq] at hx
                    have hxi : x = i := by have := List.mem_of_getElem? hx; simpa using this
                    rw [hxi, eFi] at hrx
                    cases hrx
                    rw [q4 hW]
                    have : q - hs.length < 1 := by
                      rcases Nat.lt_or_ge (q - hs.length) 1 with z | z
                      · exact z
                      · rw [List.getElem?_eq_none (by simpa using z)] at hx; cases hx
                    omega
              have hI := ih (i + 1) _ hs' sn' dq' lv' tm' r2 e2 (recs0 ++ [⟨o, ⟨t, tm.n, tm.ds⟩, p, w, v, sO, heavy, pu⟩]) (by simp [h0]) (by simp at hi; omega) (fun k => by
                  have := hl (k + 1)
                  rw [show i + 1 + k = i + (k + 1) by omega, ← this]; simp) (by rw [g1, hn]) (by rw [Tm.put_ds htm', hds]) (fun t' => by
                  rw [← eF, hstep, g2]
                  by_cases hd : o.dst = some t'
                  · rw [if_pos hd, if_pos hd]
                  · rw [if_neg hd, if_neg hd]; exact htm t') (fun t' v' k' hk => by
                  rw [← eF, hstep] at hk
                  rw [setLv_get elv]
                  by_cases hd : o.dst = some t'
                  · rw [if_pos hd] at hk ⊢; cases hk; rfl
                  · rw [if_neg hd] at hk ⊢; exact hlv t' v' k' hk) hlt' (by
                  cases heavy with
                  | false => obtain ⟨_, _, q1, q2, _⟩ := hlight rfl; rw [q1, q2]; exact hsn
                  | true => obtain ⟨_, q1, q2, _⟩ := hheavy rfl; rw [q1, q2]; simp [hsn]) (by rw [← eF]; exact hdq') (by
                  intro j rj hj hrj hpj
                  rw [← eF] at hrj
                  rcases Nat.lt_or_ge j i with z | z
                  · have := hnm j rj z hrj hpj
                    cases pu
                    · simp only [cond_false, Nat.testBit_or, this, Bool.true_or]
                    · exact this
                  · have hji : j = i := by omega
                    rw [hji, eFi] at hrj
                    cases hrj
                    have hpj : pu = false := hpj
                    rw [hpj, hji]
                    simp [Nat.testBit_or])
              rw [← eF] at hI
              obtain ⟨k1, ⟨hs2, k2, k3⟩, ⟨sn2, k4⟩, k5, k6, k9, k7, k8⟩ := hI
              obtain ⟨⟨hs3, q1, q2⟩, sn3, q3⟩ := hhs'
              have ehs : out.hs = hs ++ (hs3 ++ hs2) := by rw [eout]; show r2.hs = _; rw [k2, q1, List.append_assoc]
              have esn : out.sn = sn ++ (sn3 ++ sn2) := by rw [eout]; show r2.sn = _; rw [k4, q3, List.append_assoc]
              have hsnP : out.sn[p]? = some s := by rw [esn, List.getElem?_append_left (by omega)]; exact hsnp
              refine ⟨by rw [eout]; simp [k1], ⟨hs3 ++ hs2, ehs, fun x hx => ?_⟩, ⟨sn3 ++ sn2, esn⟩, by rw [eout]; exact k5, by rw [eout]; exact k6, by rw [eout]; exact k9, by rw [eout] at k7 ⊢; exact k7, fun j r hj hr => ?_⟩
              · rcases List.mem_append.1 hx with hx | hx
                · have := q2 x hx; simp at hi; omega
                · have := k3 x hx; omega
              · rcases Nat.lt_or_ge i j with hlt | hge
                · have := k8 j r hlt hr
                  have e3 : out.hs = r2.hs := by rw [eout]
                  have e4 : out.sn = r2.sn := by rw [eout]
                  rw [e3, e4]; exact this
                · have hji : j = i := by omega
                  subst hji
                  rw [eFi] at hr
                  cases hr
                  refine ⟨hall, hds, ⟨hn, fun t' v' hv => ?_⟩, ⟨s, hsnP, ⟨fun q => (hnp q).1, hpu⟩, fun hh => ?_, hhv⟩, fun q x hx => ?_, fun d hd => by rw [← hn]; exact g3 d hd, fun hh => ?_, fun hh => ?_, fun hW k rk hk hrk hpk => ?_, fun q hx => ?_, fun hp0 q x rx hx hrx hW hxi => ?_⟩
                  · obtain ⟨z1, z2⟩ := restr_get tm _ t ht t' v' hv
                    refine ⟨z1, ?_⟩
                    rw [htm t'] at z2
                    cases hlex : lexV (recs0 ++ out.recs) tm0 j (fun _ => true) t' with
                    | none => rw [hlex] at z2; cases z2
                    | some x =>
                      rw [hlex] at z2
                      obtain ⟨xv, xl⟩ := x
                      cases z2
                      refine ⟨xl, rfl, ?_⟩
                      rw [hlv t' _ xl hlex]
                      exact lvOK_at hlvp t' z1
                  · obtain ⟨z1, z2, _⟩ := hlight hh
                    exact ⟨z1, z2⟩
                  · rw [ehs] at hx
                    rcases Nat.lt_or_ge q hs.length with hq | hq
                    · rw [List.getElem?_append_left hq] at hx
                      have := prefOK_at hpref q x hx
                      rw [Nat.zero_add] at this
                      exact this
                    · rw [List.getElem?_append_right hq] at hx
                      have hxj : j ≤ x := by
                        rcases List.mem_append.1 (List.mem_of_getElem? hx) with z | z
                        · have := q2 x z; omega
                        · have := k3 x z; omega
                      constructor
                      · intro hPr
                        have hjl : j < all.length := by
                          rcases Nat.lt_or_ge j all.length with z | z
                          · exact z
                          · rw [List.getElem?_eq_none z] at hall; cases hall
                        have := Pr_lt hms j x hjl hPr; omega
                      · intro z
                        have z : q < p := z
                        omega
                  · intro hmem
                    rw [ehs] at hmem
                    obtain ⟨_, _, q5, _⟩ := hlight hh
                    have h3 : hs3 = [] := by
                      rw [q1] at q5
                      simpa using q5
                    rcases List.mem_append.1 hmem with z | z
                    · obtain ⟨q, hq⟩ := List.getElem?_of_mem z
                      have := hhs q j hq; omega
                    · rw [h3, List.nil_append] at z
                      have := k3 j z; omega
                  · obtain ⟨z0, z1, z2, _⟩ := hheavy hh
                    refine ⟨?_, s, ⟨sO.h, sO.N, sO.W ++ s.W⟩, hsnP, ?_, rfl, rfl, rfl⟩
                    · rw [eout]; show r2.hs[p]? = some j
                      rw [k2, z1, List.getElem?_append_left (by simp; omega), List.getElem?_append_right (by omega), z0]; simp
                    · rw [eout]; show r2.sn[p + 1]? = _
                      rw [k4, z2, List.getElem?_append_left (by simp; omega), List.getElem?_append_right (by omega)]
                      rw [show p + 1 - sn.length = 0 by omega]; rfl
                  · have h1 := htot hW
                    have h2 := hnm k rk hk hrk hpk
                    unfold Pr
                    rw [← h1, Nat.testBit_and] at h2
                    exact (Bool.and_eq_true _ _ ▸ h2).1
                  · show p = q
                    rw [ehs] at hx
                    rcases Nat.lt_or_ge q hs.length with z | z
                    · rw [List.getElem?_append_left z] at hx; have := hhs q j hx; omega
                    · rw [List.getElem?_append_right z] at hx
                      cases heavy with
                      | false =>
                        obtain ⟨_, _, q5, _⟩ := hlight rfl
                        have h3 : hs3 = [] := by rw [q1] at q5; simpa using q5
                        rw [h3, List.nil_append] at hx
                        have := k3 j (List.mem_of_getElem? hx); omega
                      | true =>
                        obtain ⟨z0, z1, _⟩ := hheavy rfl
                        have h3 : hs3 = [j] := by rw [q1] at z1; simpa using z1
                        rw [h3] at hx
                        rcases Nat.lt_or_ge (q - hs.length) 1 with y | y
                        · omega
                        · rw [List.getElem?_append_right (by simpa using y)] at hx
                          have := k3 j (List.mem_of_getElem? hx); omega
                  · have hq : q < hs.length := by
                      rcases Nat.lt_or_ge q hs.length with z | z
                      · exact z
                      · rw [ehs, List.getElem?_append_right z] at hx
                        rcases List.mem_append.1 (List.mem_of_getElem? hx) with z | z
                        · have := q2 x z; omega
                        · have := k3 x z; omega
                    rw [ehs, List.getElem?_append_left hq] at hx
                    have := hdq q x rx hx hrx hW
                    have h2 := (hnp hp0).2
                    show q < p
                    omega
        split at e
        · rename_i w v sO hli
          split at e
          · rename_i tm' htm'
            split at e
            · rename_i lv' hlv'
              split at e
              · rename_i r2 hr2
                cases e
                unfold lightE at hli
                split at hli
                · rename_i w1 v1 s1 hone
                  split at hli
                  · rename_i hW
                    rw [cond_eq_ite] at hli
                    split at hli
                    · rename_i hN
                      rw [Nat.beq_eq] at hN
                      cases hli
                      exact key w v sO tm' htm' false true lv' hs sn dq r2 hr2 hlv' rfl (fun _ => ⟨hW, hN, rfl, rfl, rfl⟩) (fun q => by cases q) (fun q => absurd hW q) (fun q => by cases q) (fun q => by cases q) (fun _ => ⟨rfl, hone⟩)
                    · cases hli
                  · cases hli
                · cases hli
              · cases e
            · cases e
          · cases e
        · rw [cond_eq_ite] at e
          split at e
          · rename_i hdqp
            rw [Nat.ble_eq] at hdqp
            split at e
            · rename_i w v sO hone
              split at e
              · rename_i tm' htm'
                have key := fun lv' => key w v sO tm' htm' (lv' := lv')
                split at e
                · rename_i hW
                  rw [cond_eq_ite] at e
                  split at e
                  · rename_i hN
                    rw [Nat.beq_eq] at hN
                    split at e
                    · rename_i lv' hlv'
                      split at e
                      · rename_i r2 hr2
                        cases e
                        exact key lv' false false hs sn dq r2 hr2 hlv' rfl (fun _ => ⟨hW, hN, rfl, rfl, rfl⟩) (fun q => by cases q) (fun q => absurd hW q) (fun q => by cases q) (fun _ => ⟨hone, hdqp⟩) (fun q => by cases q)
                      · cases e
                    · cases e
                  · rename_i hN
                    rw [Nat.beq_eq] at hN
                    rw [cond_eq_ite] at e
                    split at e
                    · rename_i hpe
                      rw [Nat.beq_eq] at hpe
                      split at e
                      · rename_i lv' hlv'
                        split at e
                        · rename_i r2 hr2
                          cases e
                          exact key lv' true false _ _ dq r2 hr2 hlv' rfl (fun q => by cases q) (fun _ => ⟨hpe, rfl, by rw [hW]; rfl, fun _ => rfl, fun q => absurd hW q⟩) (fun q => absurd hW q) (fun _ => .inr hN) (fun _ => ⟨hone, hdqp⟩) (fun q => by cases q)
                        · cases e
                      · cases e
                    · cases e
                · rename_i x W hW
                  rw [cond_eq_ite] at e
                  split at e
                  · rename_i hpe
                    simp only [Bool.and_eq_true, Nat.beq_eq] at hpe
                    split at e
                    · rename_i lv' hlv'
                      split at e
                      · rename_i r2 hr2
                        cases e
                        exact key lv' true false _ _ _ r2 hr2 hlv' rfl (fun q => by cases q) (fun _ => ⟨hpe.1, rfl, by rw [hW], ⟨fun (q : sO.W = []) => absurd q (by rw [hW]; simp), fun _ => rfl⟩⟩) (fun _ => hpe.2) (fun _ => .inl (by rw [hW]; simp)) (fun _ => ⟨hone, hdqp⟩) (fun q => by cases q)
                      · cases e
                    · cases e
                  · cases e
              · cases e
            · cases e
          · cases e
      · cases e
    · cases e
end
end Go.Proofs.Ytlapnehfjklpoaa
