/- Closed calls by reckoning: code, piece by piece. -/
import Derived.Test.YtlapnehfjklpoaaEvJ
namespace Go.Proofs.Ytlapnehfjklpoaa
open Go.RowKit

section
variable {P : Program} {O : FuncId → List Value → Option Value} {B : Nat} {ρ ρ' ρ'' : Nat → Place} {N N' : Nat} {w w' w'' w0 : World} {tm tm' : Tm} {a : Act} {s s' s'' : St} {o : Oper} {ro : Option Nat}

theorem QC.here (R : Rel B ρ s.N s.h.get w) (T : TRel ρ s.N tm a) (x : Ex) (v : Value) : QC B ρ s w ⟨x, tm, v, s⟩ x.of a w :=
  ⟨rfl, fun _ h => h, ρ, T, R, (Fr.refl ρ s.N s.h.get w R.lt).weaken (fun i hi => by simp at hi)⟩
theorem QC.comp {r : Res} {e : Exit} {a' : Act} (hW : ∀ i ∈ s.W, i ∈ s'.W) (F : Fr ρ s.N s.h.get w ρ' s'.N s'.h.get w' s'.W) (h : QC B ρ' s' w' r e a' w'') : QC B ρ s w r e a' w'' := by
  obtain ⟨h1, h6, ρ2, h3, h4, h5⟩ := h
  exact ⟨h1, fun i hi => h6 i (hW i hi), ρ2, h3, h4, F.comp h5 h6⟩

/-- one operation at the head of a list -/
theorem stepR_scope {b : Frame} {k : List Item} {cs : List Frame} {c : Code} : step P (lone (b.atR a (.code (.scope c) :: k)) cs w) = .next (lone (b.atR a (.code c :: .inScope c :: k)) cs w) := step_lone_go (by simp [stepG, stepG.exec, Frame.atR])
theorem stepR_inScope {b : Frame} {k : List Item} {cs : List Frame} {c : Code} : step P (lone (b.atR a (.inScope c :: k)) cs w) = .next (lone (b.atR a k) cs w) := step_lone_go (by simp [stepG, stepG.exec, Frame.atR])
/-- a scope through which the run goes without a jump -/
theorem wpIn_scope {F : Fence} {n : Nat} {c : Code} {Q : Exit → Act → World → Prop} (hg : ∀ l a w, ¬ Q (.goto l) a w) (h : c.wpIn F n P Q a w) : (Code.scope c).wpIn F n P Q a w := by
  intro b k cs hro hb hr
  have h0 : (lone (b.atR a (.code (.scope c) :: k)) cs w).fenced P F := fenced_calm hb hr rfl
  obtain ⟨e, a₁, w₁, hq, harr⟩ := h b (.inScope c :: k) cs hro hb hr
  cases e with
  | normal => exact ⟨.normal, a₁, w₁, hq, .head h0 stepR_scope (StepsIn.trans harr (.one (fenced_calm hb hr rfl) stepR_inScope))⟩
  | goto l => exact absurd hq (hg l _ _)
  | exit id =>
    have hx : exitTo id (.inScope c :: k) = exitTo id k := by simp [exitTo]
    exact ⟨.exit id, a₁, w₁, hq, fun k' hk => .head h0 stepR_scope (harr.1 k' (by rw [hx]; exact hk)),
      fun hr' hk => let ⟨k₁, h1, h2⟩ := harr.2 hr' (by rw [hx]; exact hk); ⟨k₁, h1, .head h0 stepR_scope h2⟩⟩
  | ret => exact ⟨_, a₁, w₁, hq, .of_steps (.one h0 stepR_scope) harr⟩
  | panic ch => exact ⟨_, a₁, w₁, hq, .of_steps (.one h0 stepR_scope) harr⟩
  | outgrown => exact ⟨_, a₁, w₁, hq, .of_steps (.one h0 stepR_scope) harr⟩
theorem ops_step {F : Fence} {all l : List Oper} {Q : Exit → Act → World → Prop} (hw : Region.wanted o (yielded ⟨all⟩ a.tmps) = true) (h : o.wpIn F 0 P a w (wpListIn F 0 P ⟨all⟩ Q l) Q) : wpListIn F 0 P ⟨all⟩ Q (o :: l) a w := by
  show (if Region.wanted o (yielded ⟨all⟩ a.tmps) then _ else _)
  rw [if_pos hw]
  exact h
theorem ops_skip {all l : List Oper} {Q : Exit → Act → World → Prop} (hw : Region.wanted o (yielded ⟨all⟩ a.tmps) = false) (h : wpListIn (fe ro) 0 P ⟨all⟩ Q l (a.put o.dst undef) w) : wpListIn (fe ro) 0 P ⟨all⟩ Q (o :: l) a w := by
  show (if Region.wanted o (yielded ⟨all⟩ a.tmps) then _ else _)
  rw [if_neg (by rw [hw]; exact Bool.false_ne_true)]
  exact ⟨fun _ _ => trivial, h⟩
theorem sem_eq (h : ∀ c, o.op ≠ .defer c) (f : Operand → Value) : o.semAt ro f = execOp f o := by
  cases ro with
  | none => rfl
  | some l => exact Oper.semAt_some l f o h
theorem value_wp {v : Value} {nx : Next} {w' : World} {K : Act → World → Prop} {Q : Exit → Act → World → Prop} (hd : ∀ c, o.op ≠ .defer c) (hr : (execOp a.eval o).run P w = .ok nx w') (hn : nx = .value v ∨ (nx = .skip ∧ v = undef)) (h : K (a.put o.dst v) w') : o.wpIn (fe ro) 0 P a w K Q := by
  refine ⟨fun _ _ => trivial, ?_⟩
  rw [sem_eq hd, hr]
  rcases hn with rfl | ⟨rfl, rfl⟩
  · exact h
  · exact h
theorem evOp_noDefer {v : Value} (e : evOp P tm s o = some (v, s')) : ∀ c, o.op ≠ .defer c := by
  intro c hc
  unfold evOp at e
  rw [hc] at e
  cases e
theorem calleeV_noDefer {x : FuncId × List Value} (e : calleeV P tm o = some x) : ∀ c, o.op ≠ .defer c := by
  intro c hc
  unfold calleeV at e
  rw [hc] at e
  cases e
theorem yieldV_noDefer {x : Nat × List Value} (e : yieldV tm o = some x) : ∀ c, o.op ≠ .defer c := by
  intro c hc
  unfold yieldV at e
  rw [hc] at e
  cases e

theorem pure_rels : ∀ {l l' : List Value}, VRels ρ N l l' → l.all (pureV 3) = true → l' = l
  | [], [], _, _ => rfl
  | v :: l, v' :: l', h, hp => by
    simp only [List.all_cons, Bool.and_eq_true] at hp
    rw [h.1.flat_eq 3 hp.1, pure_rels h.2 hp.2]
  | [], _ :: _, h, _ => h.elim
  | _ :: _, [], h, _ => h.elim
theorem call_wp {f : FuncId} {args : List Value} {r : Res} {K : Act → World → Prop} {Q : Exit → Act → World → Prop} (hs : Sound P B w0 (.call f args) tm s r) (hB : Below B w0 w) (R : Rel B ρ s.N s.h.get w) (T : TRel ρ s.N tm a) (hc : calleeV P tm o = some (f, args))
    (h : ∀ v' ρ' w', (∀ i ∈ s.W, i ∈ r.s.W) → VRel ρ' r.s.N r.v v' → Rel B ρ' r.s.N r.s.h.get w' → Fr ρ s.N s.h.get w ρ' r.s.N r.s.h.get w' r.s.W → K (a.put o.dst v') w') : o.wpIn (fe ro) 0 P a w K Q := by
  rcases hs with ⟨⟨fn, c, h1, h2, h3⟩, h4⟩ | ⟨⟨h1, h2, h3⟩, h4⟩
  · obtain ⟨args', hr, hrun⟩ := calleeV_ok (P := P) T hc h1 h2 h3 w
    refine ⟨fun _ _ => trivial, ?_⟩
    rw [sem_eq (calleeV_noDefer hc), hrun, Oper.uponIn_enter]
    refine ⟨fe_depth ro, fe_calls ((h4 ρ args' w hB R hr).mono ?_)⟩
    rintro e w' ⟨v', ρ', rfl, g0, g1, g2, g3⟩
    exact h v' ρ' w' g0 g1 g2 g3
  · obtain ⟨args', hr, hrun⟩ := calleeV_run (P := P) T hc w
    refine ⟨fun _ _ => trivial, ?_⟩
    rw [sem_eq (calleeV_noDefer hc), hrun, pure_rels hr h1, h3]
    have h5 := R.below (Below.refl _ _)
    exact h r.v ρ w (by rw [h4]; exact fun _ h => h) (.flat 3 _ h2) (by rw [h4]; exact h5.1) (by rw [h4]; exact h5.2.weaken (by simp))
theorem yieldV_ok (T : TRel ρ N tm a) {l : Nat} {args : List Value} (e : yieldV tm o = some (l, args)) {nx : List Value → Next} (hy : ∀ args', VRels ρ N args args' → (Instr.yield (ρ l).b args'.toArray).run P w = .ok (nx args') w) :
    ∃ args', VRels ρ N args args' ∧ (execOp a.eval o).run P w = .ok (nx args') w := by
  unfold yieldV at e
  split at e
  · rename_i f as ts ho
    split at e
    · rename_i l' x y hfv
      split at e
      · rename_i vs hvs
        cases e
        obtain ⟨_, _, _, e1⟩ := (T.opnd hfv).yield_inv
        refine ⟨as.map a.eval, T.opnds hvs, ?_⟩
        unfold execOp
        simp only [ho]
        have hr : resolve a.eval ⟨.value f, ⟨as⟩, ts⟩ o.type = pure { target := .fn (.yield (ρ l).b) #[], args := (as.map a.eval).toArray } := by
          unfold resolve
          simp only [e1, Deferred.ofValue, List.map_toArray, Array.empty_append]
        rw [hr, Sem.run_bind, Sem.run_pure, Result.andThen_ok]
        exact hy _ (T.opnds hvs)
      · cases e
    · cases e
  · cases e
theorem yield_wp {l : Nat} {args : List Value} {r : Res} {K : Act → World → Prop} {Q : Exit → Act → World → Prop} (hs : Sound P B w0 (.yield l args) tm s r) (hB : Below B w0 w) (R : Rel B ρ s.N s.h.get w) (T : TRel ρ s.N tm a) (hc : yieldV tm o = some (l, args))
    (h : ∀ v' ρ' w', (∀ i ∈ s.W, i ∈ r.s.W) → VRel ρ' r.s.N r.v v' → Rel B ρ' r.s.N r.s.h.get w' → Fr ρ s.N s.h.get w ρ' r.s.N r.s.h.get w' r.s.W → K (a.put o.dst v') w') : o.wpIn (fe ro) 0 P a w K Q := by
  have hop : ∃ args', VRels ρ s.N args args' ∧ (execOp a.eval o).run P w = (Instr.yield (ρ l).b args'.toArray).run P w := by
    unfold yieldV at hc
    split at hc
    · rename_i f as ts ho
      split at hc
      · rename_i l' x y hfv
        split at hc
        · rename_i vs hvs
          cases hc
          obtain ⟨_, _, _, e1⟩ := (T.opnd hfv).yield_inv
          refine ⟨as.map a.eval, T.opnds hvs, ?_⟩
          unfold execOp
          simp only [ho]
          have hr : resolve a.eval ⟨.value f, ⟨as⟩, ts⟩ o.type = pure { target := .fn (.yield (ρ l).b) #[], args := (as.map a.eval).toArray } := by
            unfold resolve
            simp only [e1, Deferred.ofValue, List.map_toArray, Array.empty_append]
          rw [hr, Sem.run_bind, Sem.run_pure, Result.andThen_ok]
          rfl
        · cases hc
      · cases hc
    · cases hc
  obtain ⟨args', hr, hrun⟩ := hop
  obtain ⟨f, tmps, assign, body, h1, h2⟩ := hs ρ args' w hB R hr
  refine ⟨fun _ _ => trivial, ?_⟩
  rw [sem_eq (yieldV_noDefer hc), hrun, h1, Oper.uponIn_round]
  refine ⟨fe_depth ro, (show RoundIn (fe ro) 0 P (ρ l).b f tmps assign body w _ from h2).mono ?_⟩
  rintro e w' ⟨v', ρ', rfl, g0, g1, g2, g3⟩
  exact h v' ρ' w' g0 g1 g2 g3

theorem wp_loopW {c : Code} {Q : Exit → Act → World → Prop} (h : LoopW (fe ro) P c Q a w) : (Code.loop c).wpIn (fe ro) 0 P Q a w := by
  intro b k cs hro hb hr
  obtain ⟨e, a', w', q, harr⟩ := h b k cs hro hb hr
  exact ⟨e, a', w', q, .of_steps (.one (fenced_calm hb hr rfl) stepR_loop) harr⟩
/-- a round of a loop, and what follows -/
theorem loopW_more {c : Code} {Q Q' : Exit → Act → World → Prop} (h : c.wpIn (fe ro) 0 P Q' a w) (hq : ∀ e a' w', Q' e a' w' → (e = .normal → LoopW (fe ro) P c Q a' w') ∧ (e ≠ .normal → Q e a' w')) : LoopW (fe ro) P c Q a w := by
  intro b k cs hro hb hr
  obtain ⟨e, a1, w1, q, harr⟩ := h b (.inLoop c :: k) cs hro hb hr
  obtain ⟨q1, q2⟩ := hq e a1 w1 q
  cases e with
  | normal =>
    obtain ⟨e2, a2, w2, hq2, harr2⟩ := q1 rfl b k cs hro hb hr
    exact ⟨e2, a2, w2, hq2, .of_steps (StepsIn.trans harr (.one (fenced_calm hb hr rfl) stepR_inLoop)) harr2⟩
  | exit id => exact ⟨_, a1, w1, q2 (by simp), .pass (x := .inLoop c) rfl (fun _ _ => .inl (by simp)) harr⟩
  | goto l => exact ⟨_, a1, w1, q2 (by simp), .pass (x := .inLoop c) rfl (fun _ _ => .inl (by simp)) harr⟩
  | ret => exact ⟨_, a1, w1, q2 (by simp), .pass (x := .inLoop c) rfl (fun _ _ => .inl (by simp)) harr⟩
  | panic ch => exact ⟨_, a1, w1, q2 (by simp), .pass (x := .inLoop c) rfl (fun _ _ => .inl (by simp)) harr⟩
  | outgrown => exact ⟨_, a1, w1, q2 (by simp), .pass (x := .inLoop c) rfl (fun _ _ => .inl (by simp)) harr⟩
end
end Go.Proofs.Ytlapnehfjklpoaa
