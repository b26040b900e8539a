/- Closed calls by reckoning: regions that draw their order, once more: what the reckoning leaves behind. -/
import Derived.Test.YtlapnehfjklpoaaEvW
namespace Go.Proofs.Ytlapnehfjklpoaa
open Go.RowKit

/-- the last that was put into a slot, by the operations of S among the first k -/
noncomputable def lexG (F : List GRec) (tm0 : Tm) : Nat → (Nat → Bool) → Tmp → Option Value
  | 0, _, t => tm0.t.get t
  | k + 1, S, t => (match F[k]? with
    | some r => if S k = true ∧ r.o.dst = some t then some r.v else lexG F tm0 k S t
    | none => lexG F tm0 k S t)

structure GFact (P : Program) (rec : Task → Tm → St → Option Res) (all : List Oper) (ms al : List Nat) (G : List (Nat × List Nat)) (N0 N1 : Nat) (F : List GRec) (tm0 : Tm) (hs : List Nat) (sn : List (Tr Blk)) (i : Nat) (r : GRec) : Prop where
  f1 : all[i]? = some r.o
  f2 : r.tmI.n = tm0.n ∧ r.tmI.ds = tm0.ds ∧ ∀ t v, r.tmI.t.get t = some v → t ∈ reads all r.o ∧ lexG F tm0 i (fun _ => true) t = some v
  f5 : ∀ d, r.o.dst = some d → d < tm0.n
  f10 : ∀ q : Nat, hs[q]? = some i → r.k = 2 ∧ r.p = q
  kk : r.k = 0 ∨ r.k = 1 ∨ r.k = 2
  al1 : r.k = 1 → ∃ t q, allocT r.o = some t ∧ al[q]? = some i ∧ r.v = .pointer (some ⟨N0 + q, 0, none⟩)
  al0 : r.k ≠ 1 → ∀ q : Nat, al[q]? ≠ some i
  ev : r.k ≠ 1 → ∃ H, sn[r.p]? = some H ∧ oneE P rec all r.tmI ⟨dropH H r.X, N1, []⟩ r.o = some (r.w, r.v, r.sO) ∧ idsLt N0 4 r.v = true
  pref : r.k ≠ 1 → ∀ q x : Nat, hs[q]? = some x → (Pr ms i x ↔ q < r.p)
  xa : r.k ≠ 1 → ∀ q a : Nat, al[q]? = some a → ¬ Pr ms i a → N0 + q ∈ r.X
  xw : r.k ≠ 1 → ∀ (q x : Nat) (W : List Nat), r.p ≤ q → G[q]? = some (x, W) → x ≠ i → ¬ Pr ms x i → ∀ id ∈ W, id ∈ r.X
  rd : r.k = 0 → r.sO.W = []
  wne : r.k = 2 → r.sO.W ≠ []
  wr : r.k = 2 → hs[r.p]? = some i ∧ (∃ H H', sn[r.p]? = some H ∧ sn[r.p + 1]? = some H' ∧ ∀ id, H'.get id = if id ∈ r.sO.W then r.sO.h.get id else H.get id) ∧
    (∀ id ∈ r.sO.W, id < N1 ∧ id ∉ r.X ∧ ∀ b, r.sO.h.get id = some b → blkLt N0 b = true) ∧ ∃ W', G[r.p]? = some (i, W') ∧ ∀ id ∈ r.sO.W, id ∈ W'

section
variable {P : Program} {rec : Task → Tm → St → Option Res} {all : List Oper} {ms al : List Nat} {G : List (Nat × List Nat)} {N0 N1 : Nat} {tm0 : Tm}
theorem lexG_step {F : List GRec} {i : Nat} {r : GRec} (hr : F[i]? = some r) (S : Nat → Bool) (t : Tmp) : lexG F tm0 (i + 1) S t = if S i = true ∧ r.o.dst = some t then some r.v else lexG F tm0 i S t := by
  show (match F[i]? with | some r => _ | none => _) = _
  rw [hr]
theorem allocs_ge : ∀ (l : List Oper) (i : Nat), ∀ a ∈ allocs l i, i ≤ a
  | [], i, a, h => by simp [allocs] at h
  | o :: l, i, a, h => by
    unfold allocs at h
    split at h
    · rcases List.mem_cons.1 h with rfl | h
      · exact Nat.le_refl _
      · have := allocs_ge l (i + 1) a h; omega
    · have := allocs_ge l (i + 1) a h; omega
theorem xA_mem {m : Nat} : ∀ (l : List Nat) (k q a : Nat), l[q]? = some a → m.testBit a = false → N0 + (k + q) ∈ xA m N0 l k
  | [], k, q, a, h, _ => by simp at h
  | b :: l, k, 0, a, h, hb => by
    have h : b = a := by simpa using h
    subst h
    unfold xA
    rw [hb]
    exact List.mem_cons_self
  | b :: l, k, q + 1, a, h, hb => by
    have ih := xA_mem (m := m) l (k + 1) q a (by simpa using h) hb
    rw [show k + (q + 1) = k + 1 + q by omega]
    unfold xA
    cases m.testBit b with
    | true => exact ih
    | false => exact List.mem_cons_of_mem _ ih
theorem xW_mem {i : Nat} : ∀ (l : List (Nat × List Nat)) (q x : Nat) (W : List Nat), l[q]? = some (x, W) → x ≠ i → ¬ Pr ms x i → ∀ id ∈ W, id ∈ xW ms i l
  | [], q, x, W, h, _, _ => by simp at h
  | (y, V) :: l, 0, x, W, h, hx, hp => by
    have h : y = x ∧ V = W := by simpa using h
    obtain ⟨rfl, rfl⟩ := h
    intro id hid
    unfold xW
    have h1 : (y.beq i || (ms.getD y 0).testBit i) = false := by
      rw [Bool.or_eq_false_iff]
      refine ⟨?_, ?_⟩
      · cases hb : y.beq i with
        | false => rfl
        | true => exact absurd (Nat.eq_of_beq_eq_true hb) hx
      · cases hb : (ms.getD y 0).testBit i with
        | false => rfl
        | true => exact absurd hb hp
    rw [h1]
    exact List.mem_append.2 (.inl hid)
  | (y, V) :: l, q + 1, x, W, h, hx, hp => by
    intro id hid
    have ih := xW_mem l q x W (by simpa using h) hx hp id hid
    unfold xW
    cases (y.beq i || (ms.getD y 0).testBit i) with
    | true => exact ih
    | false => exact List.mem_append.2 (.inr ih)
theorem wOK_mem {s : St} {X W' : List Nat} : ∀ {W : List Nat}, wOK N0 N1 s X W' W = true → ∀ id ∈ W, id < N1 ∧ id ∈ W' ∧ id ∉ X ∧ ∀ b, s.h.get id = some b → blkLt N0 b = true
  | x :: W, h, id, hid => by
    simp only [wOK, Bool.and_eq_true] at h
    obtain ⟨⟨⟨⟨h1, h2⟩, h5⟩, h3⟩, h4⟩ := h
    rcases List.mem_cons.1 hid with rfl | hid
    · refine ⟨by rwa [Nat.blt_eq] at h1, by simpa using h2, by simpa using h5, fun b hb => ?_⟩
      rw [hb] at h3; exact h3
    · exact wOK_mem h4 id hid

theorem gE_facts (hms : msOK all ms = true) : ∀ (l : List Oper) (i ia : Nat) (hs : List Nat) (sn : List (Tr Blk)) (tm : Tm) (out : GOut), gE P rec all ms al G true N0 N1 l i ia hs sn tm = some out → ∀ (recs0 : List GRec), recs0.length = i → i + l.length = all.length →
    (∀ k : Nat, l[k]? = all[i + k]?) → (∃ al0, al = al0 ++ allocs l i ∧ al0.length = ia ∧ ∀ a ∈ al0, a < i) → tm.n = tm0.n → tm.ds = tm0.ds → (∀ t, tm.t.get t = lexG (recs0 ++ out.recs) tm0 i (fun _ => true) t) → (∀ (q x : Nat), hs[q]? = some x → x < i) → sn.length = hs.length + 1 →
    out.recs.length = l.length ∧ (∃ hs2, out.hs = hs ++ hs2 ∧ ∀ x ∈ hs2, i ≤ x ∧ x < all.length) ∧ (∃ sn2, out.sn = sn ++ sn2) ∧ out.sn.length = out.hs.length + 1 ∧ out.tm.n = tm0.n ∧ out.tm.ds = tm0.ds ∧
    (∀ t, out.tm.t.get t = lexG (recs0 ++ out.recs) tm0 all.length (fun _ => true) t) ∧
    ∀ j r, i ≤ j → (recs0 ++ out.recs)[j]? = some r → GFact P rec all ms al G N0 N1 (recs0 ++ out.recs) tm0 out.hs out.sn j r := by
  intro l
  induction l with
  | nil =>
    intro i ia hs sn tm out e recs0 h0 hi _ _ hn hds htm _ hsn
    simp only [gE] at e
    cases e
    have hi : i = all.length := by simpa using hi
    refine ⟨rfl, ⟨[], by simp, fun x hx => by simp at hx⟩, ⟨[], by simp⟩, hsn, hn, hds, by rw [← hi]; exact htm, fun j r hj hr => ?_⟩
    rw [List.append_nil, List.getElem?_eq_none (by omega)] at hr
    cases hr
  | cons o l ih =>
    intro i ia hs sn tm out e recs0 h0 hi hl hal hn hds htm hhs hsn
    have hall : all[i]? = some o := by have := hl 0; simpa using this.symm
    have hil : i < all.length := by simp at hi; omega
    obtain ⟨al0, hal1, hal2, hal3⟩ := hal
    have key : ∀ (rc : GRec) (tm' : Tm) (hs' : List Nat) (sn' : List (Tr Blk)) (ia' : Nat) (r2 : GOut), rc.o = o → tm.put o.dst rc.v = some tm' → gE P rec all ms al G true N0 N1 l (i + 1) ia' hs' sn' tm' = some r2 → out = ⟨rc :: r2.recs, r2.hs, r2.sn, r2.tm⟩ →
        (∃ al0', al = al0' ++ allocs l (i + 1) ∧ al0'.length = ia' ∧ ∀ a ∈ al0', a < i + 1) → (∃ hs3, hs' = hs ++ hs3 ∧ ∀ x ∈ hs3, x = i) → (∃ sn3, sn' = sn ++ sn3) → sn'.length = hs'.length + 1 →
        (∀ hs2 sn2, out.hs = hs' ++ hs2 → (∀ x ∈ hs2, i + 1 ≤ x ∧ x < all.length) → out.sn = sn' ++ sn2 → GFact P rec all ms al G N0 N1 (recs0 ++ out.recs) tm0 out.hs out.sn i rc) →
        out.recs.length = (o :: l).length ∧ (∃ hs2, out.hs = hs ++ hs2 ∧ ∀ x ∈ hs2, i ≤ x ∧ x < all.length) ∧ (∃ sn2, out.sn = sn ++ sn2) ∧ out.sn.length = out.hs.length + 1 ∧ out.tm.n = tm0.n ∧ out.tm.ds = tm0.ds ∧
        (∀ t, out.tm.t.get t = lexG (recs0 ++ out.recs) tm0 all.length (fun _ => true) t) ∧
        ∀ j r, i ≤ j → (recs0 ++ out.recs)[j]? = some r → GFact P rec all ms al G N0 N1 (recs0 ++ out.recs) tm0 out.hs out.sn j r := by
      intro rc tm' hs' sn' ia' r2 ho htm' e2 eout hal' hhs' hsn' hsn'' hfact
      obtain ⟨g1, g2, g3⟩ := Tm.put_get htm'
      have eF : recs0 ++ out.recs = (recs0 ++ [rc]) ++ r2.recs := by rw [eout]; simp
      have eFi : (recs0 ++ out.recs)[i]? = some rc := by
        rw [eF, List.getElem?_append_left (by simp [h0]), List.getElem?_append_right (by omega), h0]; simp
      have hlt' : ∀ (q x : Nat), hs'[q]? = some x → x < i + 1 := by
        intro q x hx
        obtain ⟨hs3, q1, q2⟩ := hhs'
        rw [q1] at hx
        rcases Nat.lt_or_ge q hs.length with hq | hq
        · rw [List.getElem?_append_left hq] at hx; have := hhs q x hx; omega
        · rw [List.getElem?_append_right hq] at hx
          have := q2 x (List.mem_of_getElem? hx); omega
      have hI := ih (i + 1) ia' hs' sn' tm' r2 e2 (recs0 ++ [rc]) (by simp [h0]) (by simp at hi; omega) (fun k => by
          have := hl (k + 1)
          rw [show i + 1 + k = i + (k + 1) by omega, ← this]; simp) hal' (by rw [g1, hn]) (by rw [Tm.put_ds htm', hds]) (fun t => by
          rw [← eF, lexG_step eFi, ho, g2]
          by_cases hd : o.dst = some t
          · rw [if_pos hd, if_pos ⟨rfl, hd⟩]
          · rw [if_neg hd, if_neg (fun q => hd q.2)]; exact htm t) hlt' hsn''
      rw [← eF] at hI
      obtain ⟨k1, ⟨hs2, k2, k3⟩, ⟨sn2, k4⟩, k5, k6, k9, k7, k8⟩ := hI
      obtain ⟨hs3, q1, q2⟩ := hhs'
      obtain ⟨sn3, q3⟩ := hsn'
      have e3 : out.hs = r2.hs := by rw [eout]
      have e4 : out.sn = r2.sn := by rw [eout]
      refine ⟨by rw [eout]; simp [k1], ⟨hs3 ++ hs2, by rw [e3, k2, q1, List.append_assoc], fun x hx => ?_⟩, ⟨sn3 ++ sn2, by rw [e4, k4, q3, List.append_assoc]⟩, by rw [e3, e4]; exact k5, by rw [eout]; exact k6, by rw [eout]; exact k9, by rw [eout] at k7 ⊢; exact k7, fun j r hj hr => ?_⟩
      · rcases List.mem_append.1 hx with hx | hx
        · have := q2 x hx; omega
        · have := k3 x hx; omega
      · rcases Nat.lt_or_ge i j with hlt | hge
        · have := k8 j r hlt hr
          rw [e3, e4]; exact this
        · have hji : j = i := by omega
          subst hji
          rw [eFi] at hr
          cases hr
          exact hfact hs2 sn2 (by rw [e3, k2]) k3 (by rw [e4, k4])
    have hin : ∀ hs' hs2 : List Nat, out.hs = hs' ++ hs2 → (∀ x ∈ hs2, i + 1 ≤ x ∧ x < all.length) → hs' = hs → ∀ q : Nat, out.hs[q]? ≠ some i := by
      intro hs' hs2 h1 h2 h3 q hq
      rw [h1] at hq
      rcases List.mem_append.1 (List.mem_of_getElem? hq) with z | z
      · rw [h3] at z
        obtain ⟨k, hk⟩ := List.getElem?_of_mem z
        have := hhs k i hk; omega
      · have := h2 i z; omega
    simp only [gE] at e
    split at e
    · rename_i ty hty
      split at e
      · rename_i tm' htm'
        split at e
        · rename_i r2 hr2
          cases e
          have hal4 : allocs (o :: l) i = i :: allocs l (i + 1) := by
            show (match allocT o with | some _ => i :: allocs l (i + 1) | none => allocs l (i + 1)) = _
            rw [hty]
          have hali : al[ia]? = some i := by
            rw [hal1, List.getElem?_append_right (by omega), hal2, hal4]; simp
          refine key ⟨o, ⟨.nil, tm.n, tm.ds⟩, true, .pointer (some ⟨N0 + ia, 0, none⟩), 1, 0, [], ⟨.nil, N0 + ia, []⟩⟩ tm' hs sn (ia + 1) r2 rfl htm' hr2 rfl ⟨al0 ++ [i], ?_, ?_, ?_⟩ ⟨[], by simp, fun x hx => by simp at hx⟩ ⟨[], by simp⟩ hsn fun hs2 sn2 e1 e2 e3 => ?_
          · rw [hal1, hal4, List.append_assoc]; rfl
          · simp [hal2]
          · intro a ha
            rcases List.mem_append.1 ha with z | z
            · have := hal3 a z; omega
            · have : a = i := by simpa using z
              omega
          · refine ⟨hall, ⟨hn, hds, fun t v hv => by cases hv⟩, fun d hd => by rw [← hn]; exact (Tm.put_get htm').2.2 d hd, fun q hq => absurd hq (hin _ hs2 e1 e2 rfl q), .inr (.inl rfl), fun _ => ⟨ty, ia, hty, hali, rfl⟩, fun h => absurd rfl h, fun h => absurd rfl h, fun h => absurd rfl h, fun h => absurd rfl h, fun h => absurd rfl h, fun h => (by cases h), fun h => (by cases h), fun h => (by cases h)⟩
        · cases e
      · cases e
    · rename_i hty
      have hal4 : allocs (o :: l) i = allocs l (i + 1) := by
        show (match allocT o with | some _ => i :: allocs l (i + 1) | none => allocs l (i + 1)) = _
        rw [hty]
      have hna : ∀ q : Nat, al[q]? ≠ some i := by
        intro q hq
        rw [hal1, hal4] at hq
        rcases List.mem_append.1 (List.mem_of_getElem? hq) with z | z
        · have := hal3 i z; omega
        · have := allocs_ge l (i + 1) i z; omega
      have hal' : ∃ al0', al = al0' ++ allocs l (i + 1) ∧ al0'.length = ia ∧ ∀ a ∈ al0', a < i + 1 := ⟨al0, by rw [hal1, hal4], hal2, fun a ha => Nat.lt_succ_of_lt (hal3 a ha)⟩
      generalize hp : countP (ms.getD i 0) hs = p at e
      have hpl : p ≤ hs.length := by rw [← hp]; exact countP_le hs
      generalize hX : xA (ms.getD i 0) N0 al 0 ++ xW ms i (G.drop p) = X at e
      split at e
      · rename_i H hH
        rw [cond_eq_ite] at e
        split at e
        · rename_i hpref
          split at e
          · rename_i w v sO hone
            rw [cond_eq_ite] at e
            split at e
            · rename_i hids
              split at e
              · rename_i tm' htm'
                -- what the two cases share
                have hxa : ∀ q a : Nat, al[q]? = some a → ¬ Pr ms i a → N0 + q ∈ X := by
                  intro q a hq hpr
                  rw [← hX]
                  have := xA_mem (N0 := N0) (m := ms.getD i 0) al 0 q a hq (by
                    cases hb : (ms.getD i 0).testBit a with
                    | false => rfl
                    | true => exact absurd hb hpr)
                  rw [Nat.zero_add] at this
                  exact List.mem_append.2 (.inl this)
                have hxw : ∀ (q x : Nat) (W : List Nat), p ≤ q → G[q]? = some (x, W) → x ≠ i → ¬ Pr ms x i → ∀ id ∈ W, id ∈ X := by
                  intro q x W hq hG hx hpr id hid
                  rw [← hX]
                  refine List.mem_append.2 (.inr (xW_mem (G.drop p) (q - p) x W ?_ hx hpr id hid))
                  rw [List.getElem?_drop, show p + (q - p) = q by omega]; exact hG
                have hpre : ∀ hs2 : List Nat, (∀ x ∈ hs2, i ≤ x) → out.hs = hs ++ hs2 → ∀ q x : Nat, out.hs[q]? = some x → (Pr ms i x ↔ q < p) := by
                  intro hs2 h2 h1 q x hx
                  rw [h1] at hx
                  rcases Nat.lt_or_ge q hs.length with hq | hq
                  · rw [List.getElem?_append_left hq] at hx
                    have := prefOK_at hpref q x hx
                    rw [Nat.zero_add] at this
                    exact this
                  · rw [List.getElem?_append_right hq] at hx
                    have hxj : i ≤ x := h2 x (List.mem_of_getElem? hx)
                    constructor
                    · intro hPr
                      have := Pr_lt hms i x hil hPr; omega
                    · intro z; omega
                have htmI : ∀ t v, (Tr.only (reads all o) tm.t).get t = some v → t ∈ reads all o ∧ lexG (recs0 ++ out.recs) tm0 i (fun _ => true) t = some v := by
                  intro t v hv
                  obtain ⟨z1, z2⟩ := Tr.get_only hv
                  exact ⟨z1, by rw [← htm t]; exact z2⟩
                split at e
                · rename_i hW
                  split at e
                  · rename_i r2 hr2
                    cases e
                    refine key ⟨o, ⟨.only (reads all o) tm.t, tm.n, tm.ds⟩, w, v, 0, p, X, sO⟩ tm' hs sn ia r2 rfl htm' hr2 rfl hal' ⟨[], by simp, fun x hx => by simp at hx⟩ ⟨[], by simp⟩ hsn fun hs2 sn2 e1 e2 e3 => ?_
                    exact ⟨hall, ⟨hn, hds, htmI⟩, fun d hd => by rw [← hn]; exact (Tm.put_get htm').2.2 d hd, fun q hq => absurd hq (hin _ hs2 e1 e2 rfl q), .inl rfl, fun h => (by cases h), fun _ => hna,
                      fun _ => ⟨H, (by
                        have e3 : r2.sn = sn ++ sn2 := e3
                        show r2.sn[p]? = some H
                        rw [e3, List.getElem?_append_left (by omega)]; exact hH), hone, hids⟩, fun _ => hpre hs2 (fun x hx => Nat.le_of_succ_le (e2 x hx).1) e1, fun _ => hxa, fun _ => hxw, fun _ => hW, fun h => (by cases h), fun h => (by cases h)⟩
                  · cases e
                · rename_i y W hW
                  cases hc : (p.beq hs.length && gChk true N0 N1 G p i sO X (y :: W)) with
                  | false => rw [hc] at e; cases e
                  | true =>
                    rw [hc] at e
                    simp only [cond_true] at e
                    simp only [gChk, Bool.not_true, Bool.false_or, Bool.and_eq_true, Nat.beq_eq] at hc
                    obtain ⟨hpe, hG⟩ := hc
                    split at e
                    · rename_i r2 hr2
                      cases e
                      cases hGp : G[p]? with
                      | none => rw [hGp] at hG; cases hG
                      | some xW =>
                        obtain ⟨x, W'⟩ := xW
                        rw [hGp] at hG
                        simp only [Bool.and_eq_true, Nat.beq_eq] at hG
                        obtain ⟨hxi, hwok⟩ := hG
                        subst hxi
                        refine key ⟨o, ⟨.only (reads all o) tm.t, tm.n, tm.ds⟩, w, v, 2, p, X, sO⟩ tm' (hs ++ [x]) (sn ++ [layH H sO.h (y :: W)]) ia r2 rfl htm' hr2 rfl hal' ⟨[x], rfl, fun z hz => by simpa using hz⟩ ⟨_, rfl⟩ (by simp [hsn]) fun hs2 sn2 e1 e2 e3 => ?_
                        have hsp : r2.sn[p]? = some H := by
                          have e3 : r2.sn = _ := e3
                          rw [e3, List.getElem?_append_left (by simp; omega), List.getElem?_append_left (by omega)]; exact hH
                        refine ⟨hall, ⟨hn, hds, htmI⟩, fun d hd => by rw [← hn]; exact (Tm.put_get htm').2.2 d hd, fun q hq => ⟨rfl, ?_⟩, .inr (.inr rfl), fun h => (by cases h), fun _ => hna,
                          fun _ => ⟨H, hsp, hone, hids⟩, fun _ => hpre (x :: hs2) (fun z hz => ?_) (by
                            have e1 : r2.hs = hs ++ [x] ++ hs2 := e1
                            show r2.hs = _
                            rw [e1, List.append_assoc]; rfl), fun _ => hxa, fun _ => hxw, fun h => (by cases h), fun _ => (by show sO.W ≠ []; rw [hW]; simp), fun _ => ⟨?_, ⟨H, layH H sO.h (y :: W), hsp, ?_, fun id => ?_⟩, fun id hid => ?_, ⟨W', hGp, fun id hid => ?_⟩⟩⟩
                        · have e1 : r2.hs = hs ++ [x] ++ hs2 := e1
                          have hq : r2.hs[q]? = some x := hq
                          rw [e1] at hq
                          show p = q
                          rcases Nat.lt_or_ge q (hs ++ [x]).length with z | z
                          · rw [List.getElem?_append_left z] at hq
                            rcases Nat.lt_or_ge q hs.length with z2 | z2
                            · rw [List.getElem?_append_left z2] at hq
                              have := hhs q x hq; omega
                            · simp at z; omega
                          · rw [List.getElem?_append_right z] at hq
                            have := e2 x (List.mem_of_getElem? hq); omega
                        · rcases List.mem_cons.1 hz with rfl | hz
                          · exact Nat.le_refl _
                          · have := (e2 z hz).1; omega
                        · have e1 : r2.hs = hs ++ [x] ++ hs2 := e1
                          show r2.hs[p]? = some x
                          rw [e1, List.getElem?_append_left (by simp; omega), List.getElem?_append_right (by omega), hpe]; simp
                        · have e3 : r2.sn = _ := e3
                          show r2.sn[p + 1]? = _
                          rw [e3, List.getElem?_append_left (by simp; omega), List.getElem?_append_right (by omega), show p + 1 - sn.length = 0 by omega]; rfl
                        · show (layH H sO.h (y :: W)).get id = if id ∈ sO.W then sO.h.get id else H.get id
                          rw [layH_get, hW]
                        · have hid : id ∈ sO.W := hid
                          rw [hW] at hid
                          exact ⟨(wOK_mem hwok id hid).1, (wOK_mem hwok id hid).2.2.1, (wOK_mem hwok id hid).2.2.2⟩
                        · have hid : id ∈ sO.W := hid
                          rw [hW] at hid
                          exact (wOK_mem hwok id hid).2.1
                    · cases e
              · cases e
            · cases e
          · cases e
        · cases e
      · cases e
end
end Go.Proofs.Ytlapnehfjklpoaa
