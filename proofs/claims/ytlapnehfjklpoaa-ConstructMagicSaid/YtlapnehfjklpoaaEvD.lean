/- Closed calls by reckoning: parts of values, operands, what an operation yields. -/
import Derived.Test.YtlapnehfjklpoaaEvC
import Derived.Laws.Tables
namespace Go.Proofs.Ytlapnehfjklpoaa
open Go.RowKit

/-- the state of the reckoning: blocks, the next block's number, what was written or given up -/
structure St where
  h : Tr Blk
  N : Nat
  W : List Nat
/-- a function's slots -/
structure Tm where
  t : Tr Value
  n : Nat
  ds : List Nat

noncomputable def ARel (ρ : Nat → Place) (N : Nat) (a a' : Array Value) : Prop := a.size = a'.size ∧ ∀ (i : Nat) (v v' : Value), a[i]? = some v → a'[i]? = some v' → VRel ρ N v v'
/-- a mark among the deferred calls -/
noncomputable def dmk (ρ : Nat → Place) (d : Nat) : Deferred := { target := .collected (ρ d).b, args := #[] }
structure TRel (ρ : Nat → Place) (N : Nat) (tm : Tm) (a : Act) : Prop where
  size : a.tmps.size = tm.n
  slot : ∀ t v, tm.t.get t = some v → ∃ v', a.tmps[t]? = some v' ∧ VRel ρ N v v'
  dfr : a.defers = tm.ds.map (dmk ρ)
  ds : ∀ d ∈ tm.ds, d < N
theorem dmk_map {ρ ρ' : Nat → Place} {N : Nat} (hρ : ∀ i, i < N → ρ' i = ρ i) {l : List Nat} (h : ∀ d ∈ l, d < N) : l.map (dmk ρ') = l.map (dmk ρ) :=
  List.map_congr_left fun d hd => by unfold dmk; rw [hρ d (h d hd)]
theorem Act.put_defers (a : Act) (d : Option Tmp) (v : Value) : (a.put d v).defers = a.defers := by cases d <;> rfl

section
variable {P : Program} {B : Nat} {ρ ρ' : Nat → Place} {N N' : Nat} {h h' : Nat → Option Blk} {w w' : World} {W W' : List Nat} {tm : Tm} {a : Act} {s s' : St}
theorem ARel.rels {a a' : Array Value} (h : ARel ρ N a a') : VRels ρ N a.toList a'.toList := .ofArr h.1 h.2
theorem ARel.of {a a' : Array Value} (h : VRels ρ N a.toList a'.toList) : ARel ρ N a a' := h.arr
theorem TRel.mono (hN : N ≤ N') (hρ : ∀ i, i < N → ρ' i = ρ i) (h : TRel ρ N tm a) : TRel ρ' N' tm a :=
  ⟨h.size, fun t v e => by obtain ⟨v', e1, r⟩ := h.slot t v e; exact ⟨v', e1, r.mono hN hρ⟩, by rw [h.dfr, dmk_map hρ h.ds], fun d hd => Nat.lt_of_lt_of_le (h.ds d hd) hN⟩
/-- a slot is written -/
noncomputable def Tm.put (tm : Tm) (dst : Option Tmp) (v : Value) : Option Tm :=
  match dst with
  | none => some tm
  | some d => bif d.blt tm.n then (match Tr.put 32 tm.t d (some v) with | some t => some { tm with t := t } | none => none) else none
theorem TRel.put {v v' : Value} (h : TRel ρ N tm a) (hv : VRel ρ N v v') {dst : Option Tmp} {tm' : Tm} (e : tm.put dst v = some tm') : TRel ρ N tm' (a.put dst v') := by
  cases dst with
  | none => cases e; exact h
  | some d =>
    simp only [Tm.put, cond_eq_ite] at e
    split at e
    · rename_i hd
      rw [Nat.blt_eq] at hd
      split at e
      · rename_i t ht
        cases e
        refine ⟨by show (a.tmps.setIfInBounds d v').size = _; rw [Array.size_setIfInBounds]; exact h.size, fun j x hx => ?_, h.dfr, h.ds⟩
        have hx : t.get j = some x := hx
        rw [Tr.get_put 32 _ _ _ _ _ ht] at hx
        show ∃ v'', (a.tmps.setIfInBounds d v')[j]? = some v'' ∧ _
        by_cases hj : j = d
        · rw [if_pos hj] at hx; cases hx
          refine ⟨v', ?_, hv⟩
          rw [hj, Array.getElem?_setIfInBounds_self_of_lt (by rw [h.size]; exact hd)]
        · rw [if_neg hj] at hx
          obtain ⟨y, e1, r⟩ := h.slot j x hx
          exact ⟨y, by rw [Array.getElem?_setIfInBounds_ne (Ne.symm hj)]; exact e1, r⟩
      · cases e
    · cases e
/-- a slot's value is forgotten -/
noncomputable def Tm.drop (tm : Tm) (dst : Option Tmp) : Option Tm :=
  match dst with
  | none => some tm
  | some d => (match Tr.put 32 tm.t d none with | some t => some { tm with t := t } | none => none)
theorem TRel.drop (h : TRel ρ N tm a) {dst : Option Tmp} {tm' : Tm} (e : tm.drop dst = some tm') (v' : Value) : TRel ρ N tm' (a.put dst v') := by
  cases dst with
  | none => cases e; exact h
  | some d =>
    simp only [Tm.drop] at e
    split at e
    · rename_i t ht
      cases e
      refine ⟨by show (a.tmps.setIfInBounds d v').size = _; rw [Array.size_setIfInBounds]; exact h.size, fun j x hx => ?_, h.dfr, h.ds⟩
      have hx : t.get j = some x := hx
      rw [Tr.get_put 32 _ _ _ _ _ ht] at hx
      show ∃ v'', (a.tmps.setIfInBounds d v')[j]? = some v'' ∧ _
      by_cases hj : j = d
      · rw [if_pos hj] at hx; cases hx
      · rw [if_neg hj] at hx
        obtain ⟨y, e1, r⟩ := h.slot j x hx
        exact ⟨y, by rw [Array.getElem?_setIfInBounds_ne (Ne.symm hj)]; exact e1, r⟩
    · cases e

noncomputable def opnd (tm : Tm) : Operand → Option Value
  | .tmp t => tm.t.get t
  | .const v => bif pureV 3 v then some v else none
  | .func f => some (.func (.func f) #[] #[])
  | .global _ => none
theorem TRel.opnd (h : TRel ρ N tm a) {x : Operand} {v : Value} (e : opnd tm x = some v) : VRel ρ N v (a.eval x) := by
  cases x with
  | tmp t =>
    obtain ⟨v', e1, r⟩ := h.slot t v e
    have : a.eval (.tmp t) = v' := by show a.tmps.getD t undef = v'; rw [Array.getD_eq_getD_getElem?, e1]; rfl
    rw [this]; exact r
  | const c =>
    simp only [Go.Proofs.Ytlapnehfjklpoaa.opnd, cond_eq_ite] at e
    split at e
    · rename_i hp; cases e; exact .flat 3 _ hp
    · cases e
  | func f => cases e; exact .flat 0 _ rfl
  | global g => cases e
noncomputable def opnds (tm : Tm) : List Operand → Option (List Value)
  | [] => some []
  | x :: l => match opnd tm x with
    | some v => (match opnds tm l with | some r => some (v :: r) | none => none)
    | none => none
theorem TRel.opnds (h : TRel ρ N tm a) : ∀ {l : List Operand} {r : List Value}, opnds tm l = some r → VRels ρ N r (l.map a.eval)
  | [], r, e => by cases e; trivial
  | x :: l, r, e => by
    simp only [Go.Proofs.Ytlapnehfjklpoaa.opnds] at e
    split at e
    · rename_i v hv
      split at e
      · rename_i r' hr
        cases e
        exact ⟨h.opnd hv, TRel.opnds h hr⟩
      · cases e
    · cases e

/-- what an operation yields -/
noncomputable def Yl (P : Program) (B : Nat) (ρ : Nat → Place) (s : St) (w : World) (m : Sem Next) (v : Value) (s' : St) : Prop :=
  (∀ i ∈ s.W, i ∈ s'.W) ∧ ∃ ρ' nx v' w', m.run P w = .ok nx w' ∧ (nx = .value v' ∨ (nx = .skip ∧ v' = undef)) ∧ VRel ρ' s'.N v v' ∧ Rel B ρ' s'.N s'.h.get w' ∧ Fr ρ s.N s.h.get w ρ' s'.N s'.h.get w' s'.W
theorem Yl.same (R : Rel B ρ s.N s.h.get w) {m : Sem Next} {v v' : Value} (hm : m.run P w = .ok (.value v') w) (hv : VRel ρ s.N v v') : Yl P B ρ s w m v s :=
  ⟨fun _ h => h, ρ, _, v', w, hm, .inl rfl, hv, R, (Fr.refl ρ s.N s.h.get w R.lt).weaken (fun i hi => by simp at hi)⟩
theorem Yl.flat (R : Rel B ρ s.N s.h.get w) {m : Sem Next} {v : Value} (hm : m.run P w = .ok (.value v) w) {d : Nat} (hv : pureV d v = true) : Yl P B ρ s w m v s := .same R hm (.flat d v hv)

/-- a block of cells -/
noncomputable def cget (s : St) (id : Nat) : Option Blk := match s.h.get id with
  | some b => (match b.k with | .cells => some b | _ => none)
  | none => none
theorem cget_ok {id : Nat} {b : Blk} (e : cget s id = some b) : s.h.get id = some b ∧ b.k = .cells := by
  unfold cget at e
  split at e
  · rename_i b' hb
    split at e
    · rename_i hk; cases e; exact ⟨hb, hk⟩
    · cases e
  · cases e
/-- an operand with no address in it -/
noncomputable def flatO (tm : Tm) (x : Operand) : Option Value := match opnd tm x with | some v => bif pureV 3 v then some v else none | none => none
theorem TRel.flatO (h : TRel ρ N tm a) {x : Operand} {v : Value} (e : flatO tm x = some v) : a.eval x = v ∧ pureV 3 v = true := by
  simp only [Go.Proofs.Ytlapnehfjklpoaa.flatO, cond_eq_ite] at e
  split at e
  · rename_i v' hv
    split at e
    · rename_i hp
      cases e
      exact ⟨(h.opnd hv).flat_eq 3 hp, hp⟩
    · cases e
  · cases e
noncomputable def flatOs (tm : Tm) : List Operand → Option (List Value)
  | [] => some []
  | x :: l => match flatO tm x with
    | some v => (match flatOs tm l with | some r => some (v :: r) | none => none)
    | none => none
theorem TRel.flatOs (h : TRel ρ N tm a) : ∀ {l : List Operand} {r : List Value}, flatOs tm l = some r → l.map a.eval = r
  | [], r, e => by cases e; rfl
  | x :: l, r, e => by
    simp only [Go.Proofs.Ytlapnehfjklpoaa.flatOs] at e
    split at e
    · rename_i v hv
      split at e
      · rename_i r' hr
        cases e
        rw [List.map_cons, (h.flatO hv).1, TRel.flatOs h hr]
      · cases e
    · cases e
/-- a result with no address in it -/
noncomputable def pureR (x : Option Value) : Option Value := match x with | some v => bif pureV 3 v then some v else none | none => none
theorem pureR_eq {x : Option Value} {v : Value} (e : pureR x = some v) : x = some v ∧ pureV 3 v = true := by
  cases x with
  | none => cases e
  | some y =>
    simp only [pureR, cond_eq_ite] at e
    split at e
    · rename_i hp; cases e; exact ⟨rfl, hp⟩
    · cases e
theorem run_v {m : Sem Value} {v : Value} {w w' : World} (hm : m.run P w = .ok v w') : (do pure (Next.value (← m)) : Sem Next).run P w = .ok (.value v) w' := by
  rw [Sem.run_bind, hm]; rfl
theorem run_u {m : Sem Unit} {w w' : World} (hm : m.run P w = .ok () w') : (do m; pure Next.skip : Sem Next).run P w = .ok .skip w' := by
  rw [Sem.run_bind, hm]; rfl

/-! types -/
noncomputable def isAgg? (P : Program) (t : TypeId) : Option Bool :=
  match P.underlying t with
  | some (.struct _) => some true
  | some (.array _ _) => some true
  | some _ => some false
  | none => none
noncomputable def size? (P : Program) (t : TypeId) : Option Nat := match P.info? t with | some i => some i.size | none => none
theorem run_isAgg {t : TypeId} {b : Bool} (e : isAgg? P t = some b) (w : World) : (isAgg t).run P w = .ok b w := by
  unfold isAgg? at e
  cases hu : P.underlying t with
  | none => rw [hu] at e; cases e
  | some d =>
    unfold isAgg
    rw [Sem.run_bind, run_underlying hu w]
    rw [hu] at e
    cases d <;> (cases e; rfl)
theorem run_sizeOf {t : TypeId} {n : Nat} (e : size? P t = some n) (w : World) : (sizeOf t).run P w = .ok n w := by
  unfold size? at e
  cases hi : P.info? t with
  | none => rw [hi] at e; cases e
  | some i => rw [hi] at e; cases e; simp [sizeOf, typeInfo, hi]

/-- a part of a value -/
noncomputable def vpart (P : Program) (t : TypeId) (cs : Array Value) (off : Nat) : Option Value :=
  match isAgg? P t with
  | some true => (match size? P t with | some n => some (.agg (cs.extract off (off + n))) | none => none)
  | some false => cs[off]?
  | none => none
theorem vpart_run {t : TypeId} {cs cs' : Array Value} {off : Nat} {v : Value} (hr : ARel ρ N cs cs') (e : vpart P t cs off = some v) (w : World) : ∃ v', (part t cs' off).run P w = .ok v' w ∧ VRel ρ N v v' := by
  unfold vpart at e
  unfold part
  split at e
  · rename_i ha
    split at e
    · rename_i n hn
      cases e
      refine ⟨.agg (cs'.extract off (off + n)), by simp [run_isAgg ha w, run_sizeOf hn w], .agg _ _ ?_ fun i v v' e1 e2 => ?_⟩
      · rw [Array.size_extract, Array.size_extract, hr.1]
      · rw [Array.getElem?_extract] at e1 e2
        split at e1
        · split at e2
          · exact hr.2 _ v v' e1 e2
          · cases e2
        · cases e1
    · cases e
  · rename_i ha
    have hlt : off < cs'.size := by
      rw [← hr.1]
      rcases Nat.lt_or_ge off cs.size with q | q
      · exact q
      · rw [Array.getElem?_eq_none q] at e; cases e
    refine ⟨cs'[off], by simp [run_isAgg ha w, Array.getElem?_eq_getElem hlt], hr.2 _ _ _ e (Array.getElem?_eq_getElem hlt)⟩
  · cases e

/-! parts put together -/
noncomputable def PRel (ρ : Nat → Place) (N : Nat) : List (Nat × Value) → List (Nat × Value) → Prop
  | [], [] => True
  | (i, v) :: l, (i', v') :: l' => i = i' ∧ VRel ρ N v v' ∧ PRel ρ N l l'
  | _, _ => False
theorem setAll_rel (off : Nat) : ∀ (l l' : List Value) (k : Nat) (c c' : Array Value), VRels ρ N l l' → ARel ρ N c c' →
    ARel ρ N ((l.zipIdx k).foldl (fun cs (x : Value × Nat) => cs.setIfInBounds (off + x.2) x.1) c) ((l'.zipIdx k).foldl (fun cs (x : Value × Nat) => cs.setIfInBounds (off + x.2) x.1) c')
  | [], [], k, c, c', _, hc => hc
  | v :: l, v' :: l', k, c, c', hv, hc => by
    simp only [List.zipIdx_cons, List.foldl_cons]
    refine setAll_rel off l l' (k + 1) _ _ hv.2 ⟨by rw [Array.size_setIfInBounds, Array.size_setIfInBounds]; exact hc.1, fun i x x' e1 e2 => ?_⟩
    by_cases hi : i = off + k
    · have h1 : i < c.size := by
        rcases Nat.lt_or_ge i c.size with q | q
        · exact q
        · rw [Array.getElem?_eq_none (by rw [Array.size_setIfInBounds]; exact q)] at e1; cases e1
      rw [hi, Array.getElem?_setIfInBounds_self_of_lt (by rw [← hi]; exact h1)] at e1
      rw [hi, Array.getElem?_setIfInBounds_self_of_lt (by rw [← hc.1, ← hi]; exact h1)] at e2
      cases e1; cases e2; exact hv.1
    · rw [Array.getElem?_setIfInBounds_ne (Ne.symm hi)] at e1 e2
      exact hc.2 i x x' e1 e2
  | [], _ :: _, _, _, _, h, _ => h.elim
  | _ :: _, [], _, _, _, h, _ => h.elim
theorem fill_rel (place : Nat → Option (Nat × Nat)) : ∀ (l l' : List (Nat × Value)) (c c' : Array Value), PRel ρ N l l' → ARel ρ N c c' → ∀ {r : Array Value}, Instr.fill place c l = some r →
    ∃ r', Instr.fill place c' l' = some r' ∧ ARel ρ N r r'
  | [], [], c, c', _, hc, r, e => by cases e; exact ⟨c', rfl, hc⟩
  | (i, v) :: l, (i', v') :: l', c, c', hp, hc, r, e => by
    obtain ⟨rfl, hv, hp⟩ := hp
    simp only [Instr.fill] at e ⊢
    split at e
    · cases e
    · rename_i off size hpl
      have hvc := hv.cells
      have hsz : v'.cells.size = v.cells.size := by simpa using hvc.length.symm
      simp only [hsz, ← hc.1]
      split at e
      · cases e
      · rename_i hc2
        rw [if_neg hc2]
        refine fill_rel place l l' _ _ hp ?_ e
        have := setAll_rel off _ _ 0 c c' hvc hc
        simp only [← Array.foldl_toList, Array.toList_zipIdx]
        exact this
  | [], _ :: _, _, _, h, _, _, _ => h.elim
  | _ :: _, [], _, _, h, _, _, _ => h.elim
theorem ARel.pure {c : Array Value} {d : Nat} (h : c.toList.all (pureV d) = true) : ARel ρ N c c :=
  ⟨rfl, fun i v v' e1 e2 => by
    rw [e1] at e2; cases e2
    exact .flat d v (List.all_eq_true.1 h v (by rw [← Array.getElem?_toList] at e1; exact List.mem_of_getElem? e1))⟩
end
end Go.Proofs.Ytlapnehfjklpoaa
