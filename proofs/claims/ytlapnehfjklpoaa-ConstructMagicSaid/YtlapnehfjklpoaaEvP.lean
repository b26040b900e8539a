/- Closed calls by reckoning: loops over functions. -/
import Derived.Test.YtlapnehfjklpoaaEvN
namespace Go.Proofs.Ytlapnehfjklpoaa
open Go.RowKit

noncomputable def getL (s : St) (l : Nat) : Option LoopV := match s.h.get l with | some b => (match b.k with | .loop r => some r | _ => none) | none => none
/-- a loop's record turns -/
noncomputable def setL (s : St) (l : Nat) (r : LoopV) (st : LoopState) (pend : Option Code) : Option St :=
  match Tr.put 32 s.h l (some (kBlk (.loop { r with st := st, pend := pend }))) with | some h => some ⟨h, s.N, l :: s.W⟩ | none => none
noncomputable def takeE (s : St) : List Nat → Option St
  | [] => some s
  | d :: l => (match s.h.get d with
    | some b => (match b.k with
      | .dfr => (match Tr.put 32 s.h d none with | some h => takeE ⟨h, s.N, d :: s.W⟩ l | none => none)
      | _ => none)
    | none => none)
/-- a loop over a function begins: its record's number, the frame's slots and marks -/
noncomputable def enterE (s : St) (tm : Tm) (ro : Option Nat) (ps : List Tmp) (assign body : Code) : Option (Nat × Tm × St) :=
  match ro with
  | none => (match addB s .dfr with
    | some s1 => (match addB s1 (.loop ⟨tm.t, tm.n, ps, assign, body, .ready, none, s.N⟩) with
      | some s2 => some (s1.N, ⟨tm.t, tm.n, s.N :: tm.ds⟩, s2)
      | none => none)
    | none => none)
  | some l0 => (match getL s l0 with
    | some r0 => (match addB s (.loop ⟨tm.t, tm.n, ps, assign, body, .ready, none, r0.dl⟩) with
      | some s2 => some (s.N, tm, s2)
      | none => none)
    | none => none)
noncomputable def setPs (n : Nat) : Tr Value → List Tmp → List Value → Option (Tr Value)
  | t, [], [] => some t
  | t, p :: ps, v :: vs => bif p.blt n then (match Tr.put 32 t p (some v) with | some t' => setPs n t' ps vs | none => none) else none
  | _, _, _ => none

section
variable {P : Program} {O : FuncId → List Value → Option Value} {B : Nat} {ρ ρ' ρ'' : Nat → Place} {N N' : Nat} {h h' : Nat → Option Blk} {w w' w'' w0 : World} {tm tm' : Tm} {a : Act} {s s' s'' : St} {o : Oper} {ro : Option Nat}

theorem getL_ok {l : Nat} {r : LoopV} (e : getL s l = some r) : ∃ b, s.h.get l = some b ∧ b.k = .loop r := by
  unfold getL at e
  split at e
  · rename_i b hb
    split at e
    · rename_i r' hk; cases e; exact ⟨b, hb, hk⟩
    · cases e
  · cases e
theorem getL_rel (R : Rel B ρ s.N s.h.get w) {l : Nat} {r : LoopV} (e : getL s l = some r) : l < s.N ∧ r.dl < s.N ∧ ∃ tmps fn, w.heap[(ρ l).b]? = some (.loop ⟨r.st, r.pend, fn, tmps, ⟨r.ps⟩, r.assign, r.body, (ρ r.dl).b⟩) ∧ tmps.size = r.n ∧
    ∀ t v, r.tm.get t = some v → ∃ v', tmps[t]? = some v' ∧ VRel ρ s.N v v' := by
  obtain ⟨b, hb, hk⟩ := getL_ok e
  have := R.blk l b hb
  unfold BlkRel at this
  rw [hk] at this
  obtain ⟨h0, tmps, fn, h1, h2, h3⟩ := this
  exact ⟨R.lt l b hb, h0, tmps, fn, h1, h2, h3⟩
theorem run_getLoop {k : Nat} {r : Loop} (e : w.heap[k]? = some (.loop r)) : (Instr.getLoop k).run P w = .ok r w := by
  unfold Instr.getLoop
  rw [Sem.run_bind]
  have : (getObj k).run P w = .ok (.loop r) w := by simp [getObj, Sem.run, e]
  rw [this]; rfl
theorem setL_ok (R : Rel B ρ s.N s.h.get w) {l : Nat} {r : LoopV} (e : getL s l = some r) {st : LoopState} {pend : Option Code} (e2 : setL s l r st pend = some s') :
    ∃ tmps fn, w.heap[(ρ l).b]? = some (.loop ⟨r.st, r.pend, fn, tmps, ⟨r.ps⟩, r.assign, r.body, (ρ r.dl).b⟩) ∧ s'.N = s.N ∧ (∀ i ∈ s.W, i ∈ s'.W) ∧
      (setObj (ρ l).b (.loop ⟨st, pend, fn, tmps, ⟨r.ps⟩, r.assign, r.body, (ρ r.dl).b⟩)).run P w = .ok () { w with heap := w.heap.setIfInBounds (ρ l).b (.loop ⟨st, pend, fn, tmps, ⟨r.ps⟩, r.assign, r.body, (ρ r.dl).b⟩) } ∧
      Rel B ρ s'.N s'.h.get { w with heap := w.heap.setIfInBounds (ρ l).b (.loop ⟨st, pend, fn, tmps, ⟨r.ps⟩, r.assign, r.body, (ρ r.dl).b⟩) } ∧
      Fr ρ s.N s.h.get w ρ s'.N s'.h.get { w with heap := w.heap.setIfInBounds (ρ l).b (.loop ⟨st, pend, fn, tmps, ⟨r.ps⟩, r.assign, r.body, (ρ r.dl).b⟩) } s'.W := by
  obtain ⟨b, hb, hk⟩ := getL_ok e
  obtain ⟨_, h0, tmps, fn, h1, h2, h3⟩ := getL_rel R e
  unfold setL at e2
  split at e2
  · rename_i h hh
    cases e2
    have hu := tr_upd hh
    obtain ⟨R', F'⟩ := R.turn (b' := kBlk (.loop { r with st := st, pend := pend })) hb (o := .loop ⟨st, pend, fn, tmps, ⟨r.ps⟩, r.assign, r.body, (ρ r.dl).b⟩) (by
      show BlkRel _ _ _ _ _
      unfold BlkRel kBlk
      exact ⟨h0, tmps, fn, rfl, h2, h3⟩) (w' := { w with heap := w.heap.setIfInBounds (ρ l).b (.loop ⟨st, pend, fn, tmps, ⟨r.ps⟩, r.assign, r.body, (ρ r.dl).b⟩) }) rfl rfl rfl rfl
    rw [← hu] at R' F'
    refine ⟨tmps, fn, h1, rfl, fun i hi => List.mem_cons_of_mem _ hi, run_setObj h1 (fun _ _ _ => by simp), R', F'.weaken (fun i hi => by rw [List.mem_singleton.1 hi]; exact List.mem_cons_self)⟩
  · cases e2
theorem beginRound_ok (R : Rel B ρ s.N s.h.get w) {l : Nat} {r : LoopV} (e : getL s l = some r) (hst : r.st = .ready) (e2 : setL s l r .busy r.pend = some s') :
    s'.N = s.N ∧ (∀ i ∈ s.W, i ∈ s'.W) ∧ ∃ w', (Instr.beginRound (ρ l).b).run P w = .ok () w' ∧ Rel B ρ s'.N s'.h.get w' ∧ Fr ρ s.N s.h.get w ρ s'.N s'.h.get w' s'.W := by
  obtain ⟨tmps, fn, h1, h2, h3, h4, h5, h6⟩ := setL_ok (P := P) R e e2
  refine ⟨h2, h3, _, ?_, h5, h6⟩
  unfold Instr.beginRound
  rw [Sem.run_bind, run_getLoop h1, Result.andThen_ok, Sem.run_bind]
  simp only
  rw [h4, Result.andThen_ok, hst]
  rfl
theorem endRound_ok (R : Rel B ρ s.N s.h.get w) {l : Nat} {r : LoopV} (e : getL s l = some r) {jump : Option Code} (e2 : setL s l r (if jump.isNone then .ready else .done) jump = some s') :
    s'.N = s.N ∧ (∀ i ∈ s.W, i ∈ s'.W) ∧ ∃ w', (Instr.endRound (ρ l).b jump).run P w = .ok (.bool jump.isNone) w' ∧ Rel B ρ s'.N s'.h.get w' ∧ Fr ρ s.N s.h.get w ρ s'.N s'.h.get w' s'.W := by
  obtain ⟨tmps, fn, h1, h2, h3, h4, h5, h6⟩ := setL_ok (P := P) R e e2
  refine ⟨h2, h3, _, ?_, h5, h6⟩
  unfold Instr.endRound
  rw [Sem.run_bind, run_getLoop h1, Result.andThen_ok, Sem.run_bind]
  simp only
  rw [h4]
  rfl
theorem endLoop_ok (R : Rel B ρ s.N s.h.get w) {l : Nat} {r : LoopV} (e : getL s l = some r) (hst : r.st ≠ .busy) (e2 : setL s l r .exhausted r.pend = some s') :
    s'.N = s.N ∧ (∀ i ∈ s.W, i ∈ s'.W) ∧ ∃ w', (Instr.endLoop (ρ l).b).run P w = .ok r.pend w' ∧ Rel B ρ s'.N s'.h.get w' ∧ Fr ρ s.N s.h.get w ρ s'.N s'.h.get w' s'.W := by
  obtain ⟨tmps, fn, h1, h2, h3, h4, h5, h6⟩ := setL_ok (P := P) R e e2
  refine ⟨h2, h3, _, ?_, h5, h6⟩
  unfold Instr.endLoop
  rw [Sem.run_bind, run_getLoop h1, Result.andThen_ok]
  have hb : (r.st == LoopState.busy) = false := by
    cases hh : r.st <;> first | rfl | exact absurd hh hst
  simp only [hb, Bool.false_eq_true, if_false]
  rw [Sem.run_bind, h4]
  rfl

/-- an object that nothing speaks of any more -/
theorem Rel.off (R : Rel B ρ N h w) {id : Nat} {b : Blk} (hb : h id = some b) {o : Obj} (hw : w'.heap = w.heap.setIfInBounds (ρ id).b o) (h1 : w'.os = w.os) (h2 : w'.tape = w.tape) (h3 : w'.output = w.output) :
    Rel B ρ N (upd h id none) w' ∧ Fr ρ N h w ρ N (upd h id none) w' [id] := by
  have hne : ∀ k, k ≠ (ρ id).b → w'.heap[k]? = w.heap[k]? := fun k hk => by rw [hw, Array.getElem?_setIfInBounds_ne (Ne.symm hk)]
  have hsz : w'.heap.size = w.heap.size := by rw [hw, Array.size_setIfInBounds]
  have hs : ∀ j b, upd h id none j = some b → h j = some b ∧ j ≠ id := fun j b e => by
    by_cases hj : j = id
    · rw [hj, upd_at] at e; cases e
    · rw [upd_ne _ _ hj] at e; exact ⟨e, hj⟩
  refine ⟨⟨by rw [hsz]; exact R.base, fun j b1 e => R.lt j b1 (hs j b1 e).1, fun j b1 e => R.own j b1 (hs j b1 e).1, fun j k bj bk e1 e2 hjk => R.sep j k bj bk (hs _ _ e1).1 (hs _ _ e2).1 hjk, fun j b1 e => ?_⟩, h1, h2, h3, by rw [hsz]; exact Nat.le_refl _, Nat.le_refl _, fun _ _ => rfl, fun k _ hq => hne k (fun e => hq id (List.mem_singleton.2 rfl) b hb e.symm), fun j b1 _ e => ⟨b1, (hs j b1 e).1⟩, fun j _ hj => upd_ne _ _ (fun e => hj (List.mem_singleton.2 e)), fun j b1 e hN => absurd (R.lt j b1 (hs j b1 e).1) (by omega)⟩
  obtain ⟨e1, e2⟩ := hs j b1 e
  rw [hne _ (R.sep j id b1 b e1 hb e2)]
  exact R.blk j b1 e1
/-- the marks of a function that is left -/
theorem take_ok {fn : Func} {tmps : Array Value} {Q : Ending → World → Prop} : ∀ (ds : List Nat) (s s2 : St) (w : World), Rel B ρ s.N s.h.get w → takeE s ds = some s2 →
    (∀ w2, s2.N = s.N → (∀ i ∈ s.W, i ∈ s2.W) → Rel B ρ s2.N s2.h.get w2 → Fr ρ s.N s.h.get w ρ s2.N s2.h.get w2 s2.W → ∃ v, (results fn tmps).run P w2 = .ok v w2 ∧ Q (.returned v) w2) →
    LeavesInM Fence.wide 0 P fn tmps Q (ds.map (dmk ρ)) .returning w
  | [], s, s2, w, R, e, hq => by
    cases e
    exact hq w rfl (fun _ h => h) R ((Fr.refl ρ s.N s.h.get w R.lt).weaken (fun i hi => by simp at hi))
  | d :: ds, s, s2, w, R, e, hq => by
    simp only [takeE] at e
    split at e
    · rename_i b hb
      split at e
      · rename_i hk
        split at e
        · rename_i h hh
          have hblk := R.blk d b hb
          unfold BlkRel at hblk
          rw [hk] at hblk
          have hblk : w.heap[(ρ d).b]? = some (.deferred (some [])) := hblk
          have hu := tr_upd hh
          obtain ⟨R', F'⟩ := R.off hb (o := .deferred none) (w' := { w with heap := w.heap.setIfInBounds (ρ d).b (.deferred none) }) rfl rfl rfl rfl
          rw [← hu] at R' F'
          refine ⟨by simp, .inl ⟨(ρ d).b, _, rfl, ?_, take_ok ds ⟨h, s.N, d :: s.W⟩ s2 _ R' e fun w2 g1 g2 g3 g4 => hq w2 g1 (fun i hi => g2 i (List.mem_cons_of_mem _ hi)) g3 ?_⟩⟩
          · unfold Instr.takeDeferred
            rw [Sem.run_bind]
            have e1 : (getObj (ρ d).b).run P w = .ok (.deferred (some [])) w := by simp [getObj, Sem.run, hblk]
            rw [e1, Result.andThen_ok]
            simp only
            rw [Sem.run_bind, run_setObj hblk (fun _ _ _ => by simp)]
            rfl
          · exact (F'.trans g4).weaken fun i hi => by
              rcases List.mem_append.1 hi with z | z
              · exact g2 i (by rw [List.mem_singleton.1 z]; exact List.mem_cons_self)
              · exact z
        · cases e
      · cases e
    · cases e
theorem enterE_ok (R : Rel B ρ s.N s.h.get w) (T : TRel ρ s.N tm a) {ps : List Tmp} {assign body : Code} {l : Nat} (e : enterE s tm ro ps assign body = some (l, tm', s')) (fn : FuncId) :
    s'.W = s.W ∧ s.N ≤ l ∧ l < s'.N ∧ ∃ ρ' mark w', (Instr.enterLoop fn a.tmps ⟨ps⟩ assign body (ro.map fun l => (ρ l).b)).run P w = .ok ((ρ' l).b, mark) w' ∧ TRel ρ' s'.N tm' { a with defers := mark ++ a.defers } ∧ Rel B ρ' s'.N s'.h.get w' ∧ Fr ρ s.N s.h.get w ρ' s'.N s'.h.get w' s'.W := by
  unfold enterE at e
  split at e
  · split at e
    · rename_i s1 h1
      split at e
      · rename_i s2 h2
        cases e
        obtain ⟨n1, g1, ρ1, b1, R1, F1⟩ := addB_ok R h1 (o := .deferred (some [])) (fun ρ' _ _ => by unfold BlkRel kBlk; exact rfl)
        have T1 := T.mono F1.le F1.same
        obtain ⟨n2, g2, ρ2, b2, R2, F2⟩ := addB_ok R1 h2 (o := .loop { state := .ready, pending := none, fn, tmps := a.tmps, params := ⟨ps⟩, assign, body, defers := w.heap.size }) (fun ρ' _ e2 => by
          unfold BlkRel kBlk
          refine ⟨by show s.N < s1.N + 1; omega, a.tmps, fn, ?_, T.size, fun t v hv => ?_⟩
          · rw [e2 s.N (by omega), b1]
          · obtain ⟨v', q1, q2⟩ := T1.slot t v hv
            exact ⟨v', q1, q2.mono (Nat.le_succ _) e2⟩)
        refine ⟨by rw [g2, g1], by omega, by omega, ρ2, [{ target := .collected w.heap.size, args := #[] }], _, ?_, ?_, R2, ?_⟩
        · show (Instr.enterLoop fn a.tmps ⟨ps⟩ assign body none).run P w = _
          unfold Instr.enterLoop
          simp only [Sem.run_bind, run_newObj, Result.andThen_ok, Sem.run_pure]
          rw [b2]
        · have T2 := T1.mono F2.le F2.same
          refine ⟨T2.size, T2.slot, ?_, fun d hd => ?_⟩
          · show [_] ++ a.defers = _
            rw [List.map_cons, ← T2.dfr]
            unfold dmk
            rw [F2.same s.N (by omega), b1]; rfl
          · rcases List.mem_cons.1 hd with rfl | hd
            · omega
            · exact T2.ds d hd
        · have := F1.trans F2
          exact this.weaken fun i hi => by
            rcases List.mem_append.1 hi with z | z
            · rw [g2]; exact z
            · exact z
      · cases e
    · cases e
  · rename_i l0
    split at e
    · rename_i r0 h0
      split at e
      · rename_i s2 h2
        cases e
        obtain ⟨q0, q1, tmps0, fn0, q2, _, _⟩ := getL_rel R h0
        obtain ⟨n2, g2, ρ2, b2, R2, F2⟩ := addB_ok R h2 (o := .loop { state := .ready, pending := none, fn, tmps := a.tmps, params := ⟨ps⟩, assign, body, defers := (ρ r0.dl).b }) (fun ρ' _ e2 => by
          unfold BlkRel kBlk
          refine ⟨by show r0.dl < s.N + 1; omega, a.tmps, fn, ?_, T.size, fun t v hv => ?_⟩
          · rw [e2 r0.dl q1]
          · obtain ⟨v', q1, q2⟩ := T.slot t v hv
            exact ⟨v', q1, q2.mono (Nat.le_succ _) e2⟩)
        refine ⟨g2, Nat.le_refl _, by omega, ρ2, [], _, ?_, T.mono F2.le F2.same, R2, F2⟩
        show (Instr.enterLoop fn a.tmps ⟨ps⟩ assign body (some (ρ l0).b)).run P w = _
        unfold Instr.enterLoop
        simp only [Sem.run_bind, run_getLoop q2, run_newObj, Result.andThen_ok, Sem.run_pure]
        rw [b2]
      · cases e
    · cases e
/-- a round's slots -/
theorem setPs_ok : ∀ (ps : List Tmp) (vs vs' : List Value) (t t' : Tr Value) (tmps : Array Value) {n : Nat}, setPs n t ps vs = some t' → VRels ρ N vs vs' → tmps.size = n → (∀ j v, t.get j = some v → ∃ v', tmps[j]? = some v' ∧ VRel ρ N v v') →
    ps.length = vs'.length ∧ ((ps.zip vs').foldl (fun tmps (x : Tmp × Value) => tmps.setIfInBounds x.1 x.2) tmps).size = n ∧ ∀ j v, t'.get j = some v → ∃ v', ((ps.zip vs').foldl (fun tmps (x : Tmp × Value) => tmps.setIfInBounds x.1 x.2) tmps)[j]? = some v' ∧ VRel ρ N v v'
  | [], [], vs', t, t', tmps, n, e, hv, hs, ht => by
    cases e
    cases vs' with
    | nil => exact ⟨rfl, hs, ht⟩
    | cons _ _ => exact hv.elim
  | p :: ps, v :: vs, vs', t, t', tmps, n, e, hv, hs, ht => by
    simp only [setPs, cond_eq_ite] at e
    split at e
    · rename_i hp
      rw [Nat.blt_eq] at hp
      split at e
      · rename_i t1 h1
        cases vs' with
        | nil => exact hv.elim
        | cons v' vs' =>
          have ih := setPs_ok ps vs vs' t1 t' (tmps.setIfInBounds p v') e hv.2 (by rw [Array.size_setIfInBounds]; exact hs) (fun j x hx => by
            rw [Tr.get_put 32 _ _ _ _ _ h1] at hx
            by_cases hj : j = p
            · rw [if_pos hj] at hx; cases hx
              exact ⟨v', by rw [hj, Array.getElem?_setIfInBounds_self_of_lt (by omega)], hv.1⟩
            · rw [if_neg hj] at hx
              obtain ⟨y, e1, r⟩ := ht j x hx
              exact ⟨y, by rw [Array.getElem?_setIfInBounds_ne (Ne.symm hj)]; exact e1, r⟩)
          exact ⟨by rw [List.length_cons, List.length_cons, ih.1], ih.2⟩
      · cases e
    · cases e
  | [], _ :: _, _, _, _, _, _, e, _, _, _ => by cases e
  | _ :: _, [], _, _, _, _, _, e, _, _, _ => by cases e
end
end Go.Proofs.Ytlapnehfjklpoaa
