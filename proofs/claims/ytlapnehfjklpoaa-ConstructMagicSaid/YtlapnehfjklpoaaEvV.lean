/- Closed calls by reckoning: maps whose keys and values have no addresses in them. -/
import Derived.Test.YtlapnehfjklpoaaEvQ
namespace Go.Proofs.Ytlapnehfjklpoaa
open Go.RowKit

noncomputable def evMakeMap (P : Program) (tm : Tm) (s : St) (t : TypeId) (r : Option Operand) : Option (Value × St) :=
  match r with
  | none => (match addB s (.mp #[] 0) with | some s' => some (.map (some s.N), s') | none => none)
  | some x => (match P.underlying t, flatO tm x with
    | some (.map _ _), some (.int _ _) => (match addB s (.mp #[] 0) with | some s' => some (.map (some s.N), s') | none => none)
    | _, _ => none)
noncomputable def setM (s : St) (id : Nat) (es : Array MapEntry) (clock : Nat) : Option St := match Tr.put 32 s.h id (some (kBlk (.mp es clock))) with | some h => some ⟨h, s.N, id :: s.W⟩ | none => none
noncomputable def evMapPut (P : Program) (s : St) (t : TypeId) (m k x : Value) : Option St :=
  match P.underlying t, m with
  | some (.map kt _), .map (some id) => (match s.h.get id with
    | some b => (match b.k with
      | .mp es clock => (match srun P (Instr.checkKey false 10000 kt k), srun P (Instr.findKey kt k es.toList) with
        | some _, some (some (i, _)) => (match srun P (Instr.keyThatStays (((es[i]?).map (·.key)).getD k) k) with
          | some k' => setM s id (es.modify i fun e => { e with key := k', val := x }) clock
          | none => none)
        | some _, some none => setM s id (es.push { key := k, val := x, born := clock }) (clock + 1)
        | _, _ => none)
      | _ => none)
    | none => none)
  | _, _ => none
noncomputable def esOf (s : St) (m : Value) : Option (Array MapEntry) :=
  match m with
  | .map none => some #[]
  | .map (some id) => (match s.h.get id with | some b => (match b.k with | .mp es _ => some es | _ => none) | none => none)
  | _ => none
noncomputable def evLookup (P : Program) (s : St) (t : TypeId) (m k : Value) (ok : Bool) : Option Value :=
  match P.underlying t, esOf s m with
  | some (.map kt et), some es => (match srun P (Instr.checkKey es.isEmpty 10000 kt k), srun P (Instr.findKey kt k es.toList) with
    | some _, some (some (_, v)) => bif pureV 3 v then some (bif ok then .tuple #[v, .bool true] else v) else none
    | some _, some none => (match zeroV P et with | some z => some (bif ok then .tuple #[z, .bool false] else z) | none => none)
    | _, _ => none)
  | _, _ => none

section
variable {P : Program} {B : Nat} {ρ ρ' : Nat → Place} {N N' : Nat} {w w' : World} {tm : Tm} {a : Act} {s s' : St} {o : Oper}
theorem VRel.map_inv {id : Nat} {v : Value} (h : VRel ρ N (.map (some id)) v) : v = .map (some (ρ id).b) := by
  cases h with
  | flat d _ h => cases d <;> cases h
  | mp _ h => rfl
theorem VRel.map_nil {v : Value} (h : VRel ρ N (.map none) v) : v = .map none := h.flat_eq 0 rfl
theorem evMakeMap_ok (R : Rel B ρ s.N s.h.get w) (T : TRel ρ s.N tm a) {t : TypeId} {r : Option Operand} (ho : o.op = .makeMap t r) {v : Value} (e : evMakeMap P tm s t r = some (v, s')) : Yl P B ρ s w (execOp a.eval o) v s' := by
  have fin : (∃ s1, addB s (.mp #[] 0) = some s1 ∧ v = .map (some s.N) ∧ s1 = s') → (∀ w', (Instr.makeMap t (r.map a.eval)).run P w' = (do pure (Value.map (some (← newObj (.map #[] 0)))) : Sem Value).run P w') → Yl P B ρ s w (execOp a.eval o) v s' := by
    rintro ⟨s1, h1, rfl, rfl⟩ hrun
    obtain ⟨n1, g1, ρ1, b1, R1, F1⟩ := addB_ok R h1 (o := .map #[] 0) (fun ρ' _ _ => by unfold BlkRel kBlk; rfl)
    refine ⟨fun j hj => by rw [g1]; exact hj, ρ1, .value (.map (some w.heap.size)), .map (some w.heap.size), _, ?_, .inl rfl, ?_, R1, F1⟩
    · unfold execOp
      simp only [ho]
      rw [Sem.run_bind, hrun]
      rfl
    · have := VRel.mp (ρ := ρ1) (N := s1.N) s.N (by omega)
      rw [b1] at this
      exact this
  unfold evMakeMap at e
  split at e
  · split at e
    · rename_i s1 h1
      cases e
      exact fin ⟨_, h1, rfl, rfl⟩ fun w' => rfl
    · cases e
  · rename_i x
    split at e
    · rename_i hu hx
      split at e
      · rename_i s1 h1
        cases e
        refine fin ⟨_, h1, rfl, rfl⟩ fun w' => ?_
        have hx2 := (T.flatO hx).1
        show (Instr.makeMap t (some (a.eval x))).run P w' = _
        rw [hx2]
        unfold Instr.makeMap
        simp only [Sem.run_bind, run_underlying hu, Result.andThen_ok]
        rfl
      · cases e
    · cases e
theorem setM_ok (R : Rel B ρ s.N s.h.get w) {id : Nat} {b : Blk} (hb : s.h.get id = some b) {es : Array MapEntry} {clock : Nat} (e : setM s id es clock = some s') :
    (∀ i ∈ s.W, i ∈ s'.W) ∧ Rel B ρ s'.N s'.h.get { w with heap := w.heap.setIfInBounds (ρ id).b (.map es clock) } ∧ Fr ρ s.N s.h.get w ρ s'.N s'.h.get { w with heap := w.heap.setIfInBounds (ρ id).b (.map es clock) } s'.W := by
  unfold setM at e
  split at e
  · rename_i h2 hh
    cases e
    have hu2 := tr_upd hh
    obtain ⟨R', F'⟩ := R.turn (b' := kBlk (.mp es clock)) hb (o := .map es clock) (by unfold BlkRel kBlk; rfl)
      (w' := { w with heap := w.heap.setIfInBounds (ρ id).b (.map es clock) }) rfl rfl rfl rfl
    rw [← hu2] at R' F'
    exact ⟨fun j hj => List.mem_cons_of_mem _ hj, R', F'.weaken (fun i hi => by rw [List.mem_singleton.1 hi]; exact List.mem_cons_self)⟩
  · cases e
theorem run_mapObj (R : Rel B ρ s.N s.h.get w) {id : Nat} {b : Blk} {es : Array MapEntry} {clock : Nat} (hb : s.h.get id = some b) (hk : b.k = .mp es clock) : w.heap[(ρ id).b]? = some (.map es clock) := by
  have hbl := R.blk id b hb
  unfold BlkRel at hbl
  rw [hk] at hbl
  exact hbl
theorem evMapPut_ok (R : Rel B ρ s.N s.h.get w) (T : TRel ρ s.N tm a) {t : TypeId} {m k x : Operand} (ho : o.op = .mapUpdate t m k x ∨ o.op = .insert t m k x) {u vk vx : Value} (hm : opnd tm m = some u) (hk : flatO tm k = some vk) (hx : flatO tm x = some vx) (e : evMapPut P s t u vk vx = some s') : Yl P B ρ s w (execOp a.eval o) undef s' := by
  have hrun : ∀ w', (Instr.mapUpdate t (a.eval m) (a.eval k) (a.eval x)).run P w = .ok () w' → (execOp a.eval o).run P w = .ok .skip w' := by
    intro w' h
    unfold execOp
    rcases ho with ho | ho <;> (simp only [ho]; exact run_u h)
  have e1 := (T.flatO hk).1
  have e2 := (T.flatO hx).1
  unfold evMapPut at e
  split at e
  · rename_i kt et id hu
    have e0 := (T.opnd hm).map_inv
    split at e
    · rename_i b hb
      split at e
      · rename_i es clock hkd
        have hobj := run_mapObj R hb hkd
        have hget : (getObj (ρ id).b).run P w = .ok (.map es clock) w := by simp [getObj, Sem.run, hobj]
        split at e
        · rename_i i old hc hf
          split at e
          · rename_i k' hks
            obtain ⟨g0, R', F'⟩ := setM_ok R hb e
            refine ⟨g0, ρ, .skip, undef, _, hrun _ ?_, .inr ⟨rfl, rfl⟩, .flat 1 _ rfl, R', F'⟩
            unfold Instr.mapUpdate
            rw [e0, e1, e2, Sem.run_bind, run_underlying hu, Result.andThen_ok]
            simp only
            rw [Sem.run_bind, hget, Result.andThen_ok]
            simp only
            rw [Sem.run_bind, srun_run hc, Result.andThen_ok, Sem.run_bind, srun_run hf, Result.andThen_ok]
            simp only
            rw [Sem.run_bind, srun_run hks, Result.andThen_ok]
            exact run_setObj hobj (fun _ _ _ => by simp)
          · cases e
        · rename_i hc hf
          obtain ⟨g0, R', F'⟩ := setM_ok R hb e
          refine ⟨g0, ρ, .skip, undef, _, hrun _ ?_, .inr ⟨rfl, rfl⟩, .flat 1 _ rfl, R', F'⟩
          unfold Instr.mapUpdate
          rw [e0, e1, e2, Sem.run_bind, run_underlying hu, Result.andThen_ok]
          simp only
          rw [Sem.run_bind, hget, Result.andThen_ok]
          simp only
          rw [Sem.run_bind, srun_run hc, Result.andThen_ok, Sem.run_bind, srun_run hf, Result.andThen_ok]
          simp only
          exact run_setObj hobj (fun _ _ _ => by simp)
        · cases e
      · cases e
    · cases e
  · cases e
theorem esOf_ok (R : Rel B ρ s.N s.h.get w) {m m' : Value} (hm : VRel ρ s.N m m') {es : Array MapEntry} (e : esOf s m = some es) : (m' = .map none ∧ es = #[]) ∨ ∃ r clock, m' = .map (some r) ∧ (getObj r).run P w = .ok (.map es clock) w := by
  unfold esOf at e
  split at e
  · cases e; exact .inl ⟨hm.map_nil, rfl⟩
  · split at e
    · rename_i b hb
      split at e
      · rename_i clock hk
        cases e
        have hobj := run_mapObj R hb hk
        exact .inr ⟨_, clock, hm.map_inv, by simp [getObj, Sem.run, hobj]⟩
      · cases e
    · cases e
  · cases e
theorem lookup_run {t kt et : TypeId} (hu : P.underlying t = some (.map kt et)) {m k : Value} {es : Array MapEntry} (hm : (m = .map none ∧ es = #[]) ∨ ∃ r clock, m = .map (some r) ∧ (getObj r).run P w = .ok (.map es clock) w) {x : Unit} (hc : (Instr.checkKey es.isEmpty 10000 kt k).run P w = .ok x w)
    {f : Option (Nat × Value)} (hf : (Instr.findKey kt k es.toList).run P w = .ok f w) {p : Value × Bool} (hp : (match f with | some (_, v) => pure (v, true) | none => (do pure (← zeroValue et, false)) : Sem (Value × Bool)).run P w = .ok p w) (ok : Bool) :
    (Instr.lookup t m k ok).run P w = .ok (if ok then .tuple #[p.1, .bool p.2] else p.1) w := by
  unfold Instr.lookup
  rw [Sem.run_bind, run_underlying hu, Result.andThen_ok]
  simp only
  rcases hm with ⟨rfl, rfl⟩ | ⟨r, clock, rfl, hg⟩
  · simp only
    rw [Sem.run_bind, Sem.run_pure, Result.andThen_ok, Sem.run_bind, hc, Result.andThen_ok, Sem.run_bind, hf, Result.andThen_ok]
    cases f with
    | none =>
      simp only at hp ⊢
      rw [Sem.run_bind] at hp ⊢
      cases hz : (zeroValue et).run P w <;> rw [hz] at hp <;> first | (cases hp; done) | (simp only [Result.andThen_ok, Sem.run_pure, Sem.run_bind] at hp ⊢; cases hp; rfl)
    | some q =>
      simp only [Sem.run_pure] at hp ⊢
      cases hp
      rfl
  · simp only
    rw [Sem.run_bind, hg, Result.andThen_ok]
    simp only
    rw [Sem.run_bind, Sem.run_pure, Result.andThen_ok, Sem.run_bind, hc, Result.andThen_ok, Sem.run_bind, hf, Result.andThen_ok]
    cases f with
    | none =>
      simp only at hp ⊢
      rw [Sem.run_bind] at hp ⊢
      cases hz : (zeroValue et).run P w <;> rw [hz] at hp <;> first | (cases hp; done) | (simp only [Result.andThen_ok, Sem.run_pure, Sem.run_bind] at hp ⊢; cases hp; rfl)
    | some q =>
      simp only [Sem.run_pure] at hp ⊢
      cases hp
      rfl
theorem evLookup_ok (R : Rel B ρ s.N s.h.get w) (T : TRel ρ s.N tm a) {t : TypeId} {m k : Operand} {ok : Bool} (ho : o.op = .lookup t m k ok) {u vk v : Value} (hm : opnd tm m = some u) (hk : flatO tm k = some vk) (e : evLookup P s t u vk ok = some v) : Yl P B ρ s w (execOp a.eval o) v s := by
  have e1 := (T.flatO hk).1
  unfold evLookup at e
  split at e
  · rename_i kt et es hu hes
    have fin : ∀ (v1 : Value) (b : Bool), pureV 3 v1 = true → (Instr.lookup t (a.eval m) (a.eval k) ok).run P w = .ok (if ok then .tuple #[v1, .bool b] else v1) w → v = (bif ok then .tuple #[v1, .bool b] else v1) → Yl P B ρ s w (execOp a.eval o) v s := by
      intro v1 b hp hr hv
      subst hv
      cases ok with
      | true =>
        refine Yl.flat R ?_ (d := 4) ?_
        · unfold execOp; simp only [ho]; exact run_v hr
        · show (#[v1, .bool b] : Array Value).toList.all (pureV 3) = true
          simp [hp, pureV]
      | false =>
        refine Yl.flat R ?_ hp
        unfold execOp; simp only [ho]; exact run_v hr
    have hm2 := esOf_ok (P := P) R (T.opnd hm) hes
    split at e
    · rename_i v1 hc hf
      rw [cond_eq_ite] at e
      split at e
      · rename_i hp
        cases e
        refine fin v1 true hp ?_ rfl
        rw [e1]
        exact lookup_run (p := (v1, true)) hu hm2 (srun_run hc w) (srun_run hf w) rfl ok
      · cases e
    · rename_i hc hf
      split at e
      · rename_i z hz
        cases e
        unfold zeroV at hz
        split at hz
        · rename_i i hi
          split at hz
          · rename_i z0 hz0
            rw [cond_eq_ite] at hz
            split at hz
            · rename_i hp
              cases hz
              refine fin z false hp ?_ rfl
              have hzr : (zeroValue et).run P w = .ok z w := by simp [zeroValue, typeInfo, hi, hz0]
              rw [e1]
              exact lookup_run (p := (z, false)) hu hm2 (srun_run hc w) (srun_run hf w) (by
                simp only
                rw [Sem.run_bind, hzr]; rfl) ok
            · cases hz
          · cases hz
        · cases hz
      · cases e
    · cases e
  · cases e
end
end Go.Proofs.Ytlapnehfjklpoaa
