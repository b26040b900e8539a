/- Closed calls by reckoning: the whole. -/
import Derived.Test.YtlapnehfjklpoaaEvP
namespace Go.Proofs.Ytlapnehfjklpoaa
open Go.RowKit

noncomputable def stepE (P : Program) (O : FuncId → List Value → Option Value) (rec : Task → Tm → St → Option Res) : Task → Tm → St → Option Res
  | .code ro c, tm, s => (match c with
    | .skip => some ⟨.normal, tm, undef, s⟩
    | .label _ => some ⟨.normal, tm, undef, s⟩
    | .region _ ops false => rec (.ops ro ops.toList ops.toList) tm s
    | .region _ ops true => bif statOK ops.toList then (match drawE P rec ops.toList (masks ops.toList []) ops.toList 0 0 [] [s] 0 .nil tm with
      | some out => (match out.sn[out.hs.length]? with | some s' => some ⟨.normal, out.tm, undef, s'⟩ | none => none)
      | none => none) else none
    | .seq x y => (match rec (.code ro x) tm s with
      | some r => (match r.x with | .normal => rec (.code ro y) r.tm r.s | _ => some r)
      | none => none)
    | .cond c x y => (match opnd tm c with
      | some (.bool true) => rec (.code ro x) tm s
      | some (.bool false) => rec (.code ro y) tm s
      | _ => none)
    | .block id body => (match rec (.code ro body) tm s with
      | some r => (match r.x with | .exit i => (bif i.beq id then some ⟨.normal, r.tm, r.v, r.s⟩ else some r) | _ => some r)
      | none => none)
    | .loop body => rec (.loop ro body) tm s
    | .scope body => rec (.code ro body) tm s
    | .exit id => some ⟨.exit id, tm, undef, s⟩
    | .ret => some ⟨.ret, tm, undef, s⟩
    | .rangeFunc g ⟨ps⟩ assign body => (match opnd tm g with
      | some (.func (.func gf) first cap) => (match enterE s tm ro ps assign body with
        | some (l, tm', s1) => (match rec (.call gf (first.toList ++ [Value.func (Fn.yield l) #[] #[]] ++ cap.toList)) tm' s1 with
          | some r1 => (match getL r1.s l with
            | some r => (match r.st with
              | .busy => none
              | _ => (match setL r1.s l r .exhausted r.pend with
                | some s2 => (match r.pend with
                  | none => some ⟨.normal, tm', undef, s2⟩
                  | some .ret => some ⟨.ret, tm', undef, s2⟩
                  | some (.exit id) => some ⟨.exit id, tm', undef, s2⟩
                  | _ => none)
                | none => none))
            | none => none)
          | none => none)
        | none => none)
      | _ => none)
    | _ => none)
  | .loop ro body, tm, s => (match rec (.code ro body) tm s with
    | some r => (match r.x with | .normal => rec (.loop ro body) r.tm r.s | _ => some r)
    | none => none)
  | .ops _ _ [], tm, s => some ⟨.normal, tm, undef, s⟩
  | .ops ro all (o :: l), tm, s => (match wantedV all tm o with
    | some false => (match tm.put o.dst undef with | some tm' => rec (.ops ro all l) tm' s | none => none)
    | some true => (match calleeV P tm o with
      | some (f, args) => (match rec (.call f args) tm s with
        | some r => (match tm.put o.dst r.v with | some tm' => rec (.ops ro all l) tm' r.s | none => none)
        | none => none)
      | none => (match yieldV tm o with
        | some (k, args) => (match rec (.yield k args) tm s with
          | some r => (match tm.put o.dst r.v with | some tm' => rec (.ops ro all l) tm' r.s | none => none)
          | none => none)
        | none => (match evOp P tm s o with
          | some (v, s') => (match tm.put o.dst v with | some tm' => rec (.ops ro all l) tm' s' | none => none)
          | none => none)))
    | none => none)
  | .call f args, tm, s => (match O f args with
    | some v => some ⟨.normal, tm, v, s⟩
    | none => (match P.funcs[f]? with
      | some fn => bif fn.name == "runtime.NumGoroutine" then none else (match fn.body with
        | some c => (match trOf .nil 0 args with
          | some t => (match rec (.code none c) ⟨t, args.length + (fn.ntmps - args.length), []⟩ ⟨s.h, s.N, []⟩ with
            | some r => (match r.x with
              | .exit _ => none
              | _ => (match takeE r.s r.tm.ds with
                | some s2 => (match evRes P s2 r.tm fn.results.toList with | some vs => some ⟨.normal, tm, tupleOf vs, ⟨s2.h, s2.N, s2.W.filter (·.blt s.N) ++ s.W⟩⟩ | none => none)
                | none => none))
            | none => none)
          | none => none)
        | none => (match extV fn args with | some v => some ⟨.normal, tm, v, s⟩ | none => none))
      | none => none))
  | .yield l args, tm, s => (match getL s l with
    | some r => (match r.st with
      | .ready => (match setPs r.n r.tm r.ps args with
        | some t => (match rec (.code (some l) r.assign) ⟨t, r.n, []⟩ s with
          | some r1 => (match r1.x with
            | .normal => (match getL r1.s l with
              | some q => (match q.st with
                | .ready => (match setL r1.s l q .busy q.pend with
                  | some s2 => (match rec (.code (some l) r.body) r1.tm s2 with
                    | some r2 => (match getL r2.s l with
                      | some q2 => (match r2.x with
                        | .normal => (match setL r2.s l q2 .ready none with | some s3 => some ⟨.normal, tm, .bool true, s3⟩ | none => none)
                        | .ret => (match setL r2.s l q2 .done (some .ret) with | some s3 => some ⟨.normal, tm, .bool false, s3⟩ | none => none)
                        | .exit id => (match setL r2.s l q2 .done (some (.exit id)) with | some s3 => some ⟨.normal, tm, .bool false, s3⟩ | none => none))
                      | none => none)
                    | none => none)
                  | none => none)
                | _ => none)
              | none => none)
            | _ => none)
          | none => none)
        | none => none)
      | _ => none)
    | none => none)
noncomputable def ev (P : Program) (O : FuncId → List Value → Option Value) (n : Nat) : Task → Tm → St → Option Res := Nat.rec (fun _ _ _ => none) (fun _ ih => stepE P O ih) n

section
variable {P : Program} {O : FuncId → List Value → Option Value} {B : Nat} {ρ ρ' ρ'' : Nat → Place} {N N' : Nat} {w w' w'' w0 : World} {tm tm' : Tm} {a : Act} {s s' s'' : St} {o : Oper}
/-- what a call wrote of its own does not matter behind it -/
theorem Fr.prune {h h' : Nat → Option Blk} {W : List Nat} (hlt : ∀ id b, h id = some b → id < N) (f : Fr ρ N h w ρ' N' h' w' W) : Fr ρ N h w ρ' N' h' w' (W.filter (·.blt N)) :=
  { f with
    keep := fun k hk hq => f.keep k hk fun id hi b hb => hq id (List.mem_filter.2 ⟨hi, by rw [Nat.blt_eq]; exact hlt id b hb⟩) b hb
    unch := fun id hi hn => f.unch id hi fun hw => hn (List.mem_filter.2 ⟨hw, by rw [Nat.blt_eq]; exact hi⟩)
    orig := fun id b e hN => (f.orig id b e hN).imp (fun x => x) fun ⟨i, hi, b0, hb0, r⟩ => ⟨i, List.mem_filter.2 ⟨hi, by rw [Nat.blt_eq]; exact hlt i b0 hb0⟩, b0, hb0, r⟩ }
theorem ro_le {ro : Option Nat} (h : ∀ l, ro = some l → l < N) (hN : N ≤ N') : ∀ l, ro = some l → l < N' := fun l e => Nat.lt_of_lt_of_le (h l e) hN

/-- a loop over a function -/
theorem rangeFunc_ok {rec : Task → Tm → St → Option Res} (ih : ∀ t tm s r, rec t tm s = some r → Sound P B w0 t tm s r) {ro : Option Nat} {g : Operand} {ps : List Tmp} {assign body : Code} {gf : FuncId} {first cap : Array Value} {l : Nat} {s1 s2 : St} {r1 : Res} {r : LoopV} {x : Ex}
    (hg : opnd tm g = some (.func (.func gf) first cap)) (he : enterE s tm ro ps assign body = some (l, tm', s1)) (hr1 : rec (.call gf (first.toList ++ [Value.func (Fn.yield l) #[] #[]] ++ cap.toList)) tm' s1 = some r1) (hl : getL r1.s l = some r) (hst : r.st ≠ .busy)
    (hs2 : setL r1.s l r .exhausted r.pend = some s2) (hx : (r.pend = none ∧ x = .normal) ∨ (r.pend = some .ret ∧ x = .ret) ∨ ∃ id, r.pend = some (.exit id) ∧ x = .exit id)
    (hB : Below B w0 w) (R : Rel B ρ s.N s.h.get w) (T : TRel ρ s.N tm a) : (Code.rangeFunc g ⟨ps⟩ assign body).wpIn (fen ρ ro) 0 P (QC B ρ s w ⟨x, tm', undef, s2⟩) a w := by
  have hs : (Enters P gf ∧ ∀ ρ (args' : List Value) w, Below B w0 w → Rel B ρ s1.N s1.h.get w → VRels ρ s1.N (first.toList ++ [Value.func (Fn.yield l) #[] #[]] ++ cap.toList) args' → Calls P gf args'.toArray w (QV B ρ s1 w r1)) := by
    rcases ih _ _ _ _ hr1 with h | ⟨⟨h, _⟩, _⟩
    · exact h
    · rw [List.all_append, List.all_append] at h
      simp [pureV] at h
  obtain ⟨⟨fnc, c, hf1, hf2, hf3⟩, hcall⟩ := hs
  obtain ⟨first', cap', e1, h1, h2, h3, h4⟩ := (T.opnd hg).func_inv
  refine wpIn_rangeFunc fun fn _ => ?_
  obtain ⟨g0, gl1, gl2, ρ1, mark, w1, hrun, T1, R1, F1⟩ := enterE_ok (P := P) R T he fn
  have hargs : VRels ρ1 s1.N (first.toList ++ [Value.func (Fn.yield l) #[] #[]] ++ cap.toList) (first'.toList ++ [Value.func (Fn.yield (ρ1 l).b) #[] #[]] ++ cap'.toList) :=
    (((VRels.ofArr h1 h3).mono F1.le F1.same).append (show VRels ρ1 s1.N [Value.func (Fn.yield l) #[] #[]] [Value.func (Fn.yield (ρ1 l).b) #[] #[]] from ⟨.yld l gl2, trivial⟩)).append ((VRels.ofArr h2 h4).mono F1.le F1.same)
  have hC := hcall ρ1 _ w1 (hB.trans (F1.below R)) R1 hargs
  have hres : resolve a.eval (rangeCall g (ρ1 l).b) 0 = pure { target := .fn (.func gf) cap', args := first' ++ #[Value.func (Fn.yield (ρ1 l).b) #[] #[]] } := by
    unfold resolve rangeCall
    simp only [e1, Deferred.ofValue, List.map_toArray, List.map_cons, List.map_nil]
    rfl
  have hinv : (invoke (.fn (.func gf) cap') (first' ++ #[Value.func (Fn.yield (ρ1 l).b) #[] #[]])).run P w1 = .ok (.enter gf (first'.toList ++ [Value.func (Fn.yield (ρ1 l).b) #[] #[]] ++ cap'.toList).toArray) w1 := by
    have e2 : (first'.toList ++ [Value.func (.yield (ρ1 l).b) #[] #[]] ++ cap'.toList).toArray = first' ++ #[Value.func (Fn.yield (ρ1 l).b) #[] #[]] ++ cap' := by
      apply Array.ext'; simp
    rw [e2]
    simp [invoke, callFunc, hf1, hf3]
    simpa using hf2
  refine ⟨(ρ1 l).b, mark, w1, _, w1, gf, _, w1, hrun, by rw [hres]; rfl, fun _ _ => trivial, hinv, fe_depth _, fe_calls (hC.mono ?_)⟩
  rintro e w3 ⟨v', ρ3, rfl, q0, q1, R3, F3⟩
  have F13 := F1.comp F3 q0
  obtain ⟨n2, W2, w4, hend, R4, F4⟩ := endLoop_ok (P := P) R3 hl hst hs2
  rw [F3.same l gl2] at hend
  have F14 := F13.comp F4 W2
  have T4 : TRel ρ3 s2.N tm' { a with defers := mark ++ a.defers } := by rw [n2]; exact T1.mono F3.le F3.same
  have hfin : ∀ (x : Ex), QC B ρ s w ⟨x, tm', undef, s2⟩ x.of { a with defers := mark ++ a.defers } w4 := fun x =>
    ⟨rfl, fun i hi => W2 i (q0 i (by rw [g0]; exact hi)), ρ3, T4, R4, F14⟩
  refine ⟨r.pend, w4, hend, ?_⟩
  rcases hx with ⟨hp, rfl⟩ | ⟨hp, rfl⟩ | ⟨id, hp, rfl⟩
  · rw [hp]; exact hfin .normal
  · rw [hp]; exact wpIn_ret (hfin .ret)
  · rw [hp]; exact wpIn_exit (hfin (.exit id))

/-- a round of a loop over a function -/
theorem yield_ok {rec : Task → Tm → St → Option Res} (ih : ∀ t tm s r, rec t tm s = some r → Sound P B w0 t tm s r) {l : Nat} {args : List Value} {r q q2 : LoopV} {t : Tr Value} {r1 r2 : Res} {s2 s3 : St} {jump : Option Code}
    (hl : getL s l = some r) (_hst : r.st = .ready) (ht : setPs r.n r.tm r.ps args = some t) (hr1 : rec (.code (some l) r.assign) ⟨t, r.n, []⟩ s = some r1) (hx1 : r1.x = .normal) (hq : getL r1.s l = some q) (hqst : q.st = .ready)
    (hs2 : setL r1.s l q .busy q.pend = some s2) (hr2 : rec (.code (some l) r.body) r1.tm s2 = some r2) (hq2 : getL r2.s l = some q2) (hj : (r2.x = .normal ∧ jump = none) ∨ (r2.x = .ret ∧ jump = some .ret) ∨ ∃ id, r2.x = .exit id ∧ jump = some (.exit id))
    (hs3 : setL r2.s l q2 (if jump.isNone then .ready else .done) jump = some s3) : Sound P B w0 (.yield l args) tm s ⟨.normal, tm, .bool jump.isNone, s3⟩ := by
  intro ρ args' w hB R hr
  obtain ⟨hlN, _, tmps, fn, h1, h2, h3⟩ := getL_rel R hl
  obtain ⟨p1, p2, p3⟩ := setPs_ok r.ps args args' r.tm t tmps ht hr h2 h3
  have T0 : TRel ρ s.N ⟨t, r.n, []⟩ { tmps := (r.ps.zip args').foldl (fun tmps (x : Tmp × Value) => tmps.setIfInBounds x.1 x.2) tmps, defers := [] } := ⟨p2, p3, rfl, fun d hd => by simp at hd⟩
  refine ⟨fn, (r.ps.zip args').foldl (fun tmps (x : Tmp × Value) => tmps.setIfInBounds x.1 x.2) tmps, r.assign, r.body, ?_, ?_⟩
  · unfold Instr.yield
    rw [Sem.run_bind, run_getLoop h1, Result.andThen_ok]
    have e0 : ¬ (args'.toArray.size ≠ (⟨r.ps⟩ : Array Tmp).size) := by
      have : (⟨r.ps⟩ : Array Tmp).size = r.ps.length := rfl
      rw [this, p1]; simp
    have e1 : (((⟨r.ps⟩ : Array Tmp).zip args'.toArray).foldl (fun tmps (x : Tmp × Value) => tmps.setIfInBounds x.1 x.2) tmps) = (r.ps.zip args').foldl (fun tmps (x : Tmp × Value) => tmps.setIfInBounds x.1 x.2) tmps := by
      rw [← Array.foldl_toList, Array.toList_zip]
    simp only [if_neg e0]
    show (pure _ : Sem Next).run P w = _
    rw [Sem.run_pure]
    exact congrArg (fun z => Result.ok (Next.round (ρ l).b fn z r.assign r.body) w) e1
  · refine roundIn_of_wpIn (F := Fence.wide) trivial (wpIn_mono (Q' := _) (ih _ _ _ _ hr1 ρ _ w hB R T0 (fun l' e => by cases e; exact hlN)) fun e1 a1 w1 hq1 => ?_)
    obtain ⟨x1, W1, ρ1, T1, R1, F1⟩ := hq1
    rw [hx1] at x1
    subst x1
    obtain ⟨n2, W2, w2, hbr, R2, F2⟩ := beginRound_ok (P := P) R1 hq hqst hs2
    rw [F1.same l hlN] at hbr
    refine ⟨w2, hbr, ?_⟩
    have F12 := F1.comp F2 W2
    have T2 : TRel ρ1 s2.N r1.tm a1 := by rw [n2]; exact T1
    have hl2 : ∀ l', (some l : Option Nat) = some l' → l' < s2.N := fun l' e => by cases e; exact Nat.lt_of_lt_of_le hlN F12.le
    have hb := ih _ _ _ _ hr2 ρ1 a1 w2 (hB.trans (F12.below R)) R2 T2 hl2
    have hfen : fen ρ1 (some l) = Fence.wide.inRound (ρ l).b := by unfold fen; simp only [Option.map_some]; rw [F12.same l hlN]; rfl
    rw [hfen] at hb
    refine wpIn_mono hb fun e2 a2 w3 hq3 => ?_
    obtain ⟨x2, W3, ρ2, T3, R3, F3⟩ := hq3
    have F13 := F12.comp F3 W3
    obtain ⟨n4, W4, w4, hend, R4, F4⟩ := endRound_ok (P := P) R3 hq2 hs3
    rw [F13.same l hlN] at hend
    have hv : QV B ρ s w ⟨.normal, tm, .bool jump.isNone, s3⟩ (.returned (.bool jump.isNone)) w4 :=
      ⟨_, ρ2, rfl, fun i hi => W4 i (W3 i (W2 i (W1 i hi))), .flat 0 _ rfl, R4, F13.comp F4 W4⟩
    rcases hj with ⟨hx, rfl⟩ | ⟨hx, rfl⟩ | ⟨id, hx, rfl⟩
    · rw [hx] at x2; subst x2; exact ⟨_, w4, hend, hv⟩
    · rw [hx] at x2; subst x2; exact ⟨_, w4, hend, hv⟩
    · rw [hx] at x2; subst x2; exact ⟨_, w4, hend, hv⟩

/-- a step of the reckoning that is right where what it goes on to is -/
theorem step_ok (hmix : P.follows .mixedOrders = true) (hO : Orac P B w0 O) {rec : Task → Tm → St → Option Res} (ih : ∀ t tm s r, rec t tm s = some r → Sound P B w0 t tm s r) : ∀ t tm s r, stepE P O rec t tm s = some r → Sound P B w0 t tm s r := by
  intro t tm s r e
  cases t with
  | code ro c =>
    simp only [stepE] at e
    split at e
    · cases e
      exact (fun ρ a w _ R T _ => wpIn_skip (QC.here R T .normal undef))
    · cases e
      exact (fun ρ a w _ R T _ => wpIn_label (QC.here R T .normal undef))
    · rename_i id ops
      obtain ⟨hx, h2⟩ := ih _ _ _ _ e
      exact fun ρ a w hB R T hro => wpIn_region_list (h2 ρ a w _ hB R T hro fun a' w' hq => by
        obtain ⟨_, q⟩ := hq
        exact ⟨by rw [hx]; rfl, q⟩)
    · rename_i id ops
      rw [cond_eq_ite] at e
      split at e
      · rename_i hst
        split at e
        · rename_i out hout
          split at e
          · rename_i sl hsl
            cases e
            exact fun ρ a w hB R T _ => draw_wp hmix hst ih hout hsl hB R T
          · cases e
        · cases e
      · cases e
    · rename_i x y
      split at e
      · rename_i r1 hr1
        have h2 := ih _ _ _ _ hr1
        split at e
        · rename_i hx
          have h4 := ih _ _ _ _ e
          refine fun ρ a w hB R T hro => wpIn_seq (wpIn_mono (h2 ρ a w hB R T hro) fun e' a' w' hq => ?_)
          obtain ⟨q1, q6, ρ1, q3, q4, q5⟩ := hq
          rw [hx] at q1
          subst q1
          show y.wpIn _ 0 P _ a' w'
          have h5 := h4 ρ1 a' w' (hB.trans (q5.below R)) q4 q3 (ro_le hro q5.le)
          rw [fen_eq q5.same hro] at h5
          exact wpIn_mono h5 fun e2 a2 w2 hq2 => hq2.comp q6 q5
        · rename_i hx
          cases e
          refine fun ρ a w hB R T hro => wpIn_seq (wpIn_mono (h2 ρ a w hB R T hro) fun e' a' w' hq => ?_)
          have q1 := hq.1
          cases hxx : r.x with
          | normal => exact absurd hxx hx
          | exit id => rw [hxx] at q1; subst q1; exact hq
          | ret => rw [hxx] at q1; subst q1; exact hq
      · cases e
    · rename_i c x y
      split at e
      · rename_i hc
        have h2 := ih _ _ _ _ e
        exact fun ρ a w hB R T hro => wpIn_cond_true (T.opnd hc).bool (h2 ρ a w hB R T hro)
      · rename_i hc
        have h2 := ih _ _ _ _ e
        exact fun ρ a w hB R T hro => wpIn_cond_false (T.opnd hc).bool (h2 ρ a w hB R T hro)
      · cases e
    · rename_i id body
      split at e
      · rename_i r1 hr1
        have h2 := ih _ _ _ _ hr1
        split at e
        · rename_i i hx
          rw [cond_eq_ite] at e
          split at e
          · rename_i hi
            rw [Nat.beq_eq] at hi
            cases e
            refine fun ρ a w hB R T hro => wpIn_block (wpIn_mono (h2 ρ a w hB R T hro) fun e' a' w' hq => ?_)
            obtain ⟨q1, q⟩ := hq
            rw [hx] at q1
            subst q1
            show (if i = id then _ else _)
            rw [if_pos hi]
            exact ⟨rfl, q⟩
          · rename_i hi
            rw [Nat.beq_eq] at hi
            cases e
            refine fun ρ a w hB R T hro => wpIn_block (wpIn_mono (h2 ρ a w hB R T hro) fun e' a' w' hq => ?_)
            have q1 := hq.1
            rw [hx] at q1
            subst q1
            show (if i = id then _ else _)
            rw [if_neg hi]
            exact hq
        · rename_i hx
          cases e
          refine fun ρ a w hB R T hro => wpIn_block (wpIn_mono (h2 ρ a w hB R T hro) fun e' a' w' hq => ?_)
          have q1 := hq.1
          cases hxx : r.x with
          | normal => rw [hxx] at q1; subst q1; exact hq
          | exit i => exact absurd hxx (hx i)
          | ret => rw [hxx] at q1; subst q1; exact hq
      · cases e
    · rename_i body
      have h2 := ih _ _ _ _ e
      exact fun ρ a w hB R T hro => wp_loopW (h2 ρ a w hB R T hro)
    · rename_i body
      have h2 := ih _ _ _ _ e
      exact fun ρ a w hB R T hro => wpIn_scope (fun l a' w' hq => by
        have q1 := hq.1
        cases hxx : r.x <;> rw [hxx] at q1 <;> cases q1) (h2 ρ a w hB R T hro)
    · rename_i id
      cases e
      exact (fun ρ a w _ R T _ => wpIn_exit (QC.here R T (.exit id) undef))
    · cases e
      exact (fun ρ a w _ R T _ => wpIn_ret (QC.here R T .ret undef))
    · rename_i g ps assign body
      split at e
      · rename_i gf first cap hg
        split at e
        · rename_i l tm' s1 he
          split at e
          · rename_i r1 hr1
            split at e
            · rename_i q hl
              split at e
              · cases e
              · rename_i hst
                split at e
                · rename_i s2 hs2
                  split at e
                  · rename_i hp
                    cases e
                    exact fun ρ a w hB R T _ => rangeFunc_ok ih hg he hr1 hl hst hs2 (.inl ⟨hp, rfl⟩) hB R T
                  · rename_i hp
                    cases e
                    exact fun ρ a w hB R T _ => rangeFunc_ok ih hg he hr1 hl hst hs2 (.inr (.inl ⟨hp, rfl⟩)) hB R T
                  · rename_i id hp
                    cases e
                    exact fun ρ a w hB R T _ => rangeFunc_ok ih hg he hr1 hl hst hs2 (.inr (.inr ⟨id, hp, rfl⟩)) hB R T
                  · cases e
                · cases e
            · cases e
          · cases e
        · cases e
      · cases e
    · cases e
  | loop ro body =>
    simp only [stepE] at e
    split at e
    · rename_i r1 hr1
      have h2 := ih _ _ _ _ hr1
      split at e
      · rename_i hx
        have h4 := ih _ _ _ _ e
        refine fun ρ a w hB R T hro => loopW_more (h2 ρ a w hB R T hro) fun e' a' w' hq => ?_
        obtain ⟨q1, q6, ρ1, q3, q4, q5⟩ := hq
        rw [hx] at q1
        subst q1
        refine ⟨fun _ => ?_, fun k => absurd rfl k⟩
        intro b k cs g1 g2 g3
        have h5 := h4 ρ1 a' w' (hB.trans (q5.below R)) q4 q3 (ro_le hro q5.le)
        rw [fen_eq q5.same hro] at h5
        obtain ⟨e2, a2, w2, hq2, harr⟩ := h5 b k cs g1 g2 g3
        exact ⟨e2, a2, w2, hq2.comp q6 q5, harr⟩
      · rename_i hx
        cases e
        refine fun ρ a w hB R T hro => loopW_more (h2 ρ a w hB R T hro) fun e' a' w' hq => ⟨fun k => ?_, fun _ => hq⟩
        have q1 := hq.1
        rw [k] at q1
        cases hxx : r.x with
        | normal => exact absurd hxx hx
        | exit id => rw [hxx] at q1; cases q1
        | ret => rw [hxx] at q1; cases q1
    · cases e
  | ops ro all l =>
    cases l with
    | nil =>
      simp only [stepE] at e
      cases e
      exact ⟨rfl, fun ρ a w Q _ R T _ h => h a w (QC.here R T .normal undef)⟩
    | cons o l =>
      simp only [stepE] at e
      split at e
      · rename_i hw
        split at e
        · rename_i tm' hp
          obtain ⟨hx, h2⟩ := ih _ _ _ _ e
          exact ⟨hx, fun ρ a w Q hB R T hro h => ops_skip (wantedV_ok T hw) (h2 ρ (a.put o.dst undef) w Q hB R (T.put (.flat 1 _ rfl) hp) hro h)⟩
        · cases e
      · rename_i hw
        -- what follows an operation that has yielded a value
        have next : ∀ (v : Value) (s1 : St) (tm' : Tm), tm.put o.dst v = some tm' → rec (.ops ro all l) tm' s1 = some r → r.x = .normal ∧ ∀ ρ a w (Q : Exit → Act → World → Prop), Below B w0 w → Rel B ρ s.N s.h.get w → TRel ρ s.N tm a → (∀ l, ro = some l → l < s.N) →
            (∀ a' w', QC B ρ s w r .normal a' w' → Q .normal a' w') → ∀ v' ρ' w', (∀ i ∈ s.W, i ∈ s1.W) → VRel ρ' s1.N v v' → Rel B ρ' s1.N s1.h.get w' → Fr ρ s.N s.h.get w ρ' s1.N s1.h.get w' s1.W → wpListIn (fen ρ ro) 0 P ⟨all⟩ Q l (a.put o.dst v') w' := by
          intro v s1 tm' hp hrec
          obtain ⟨hx, h2⟩ := ih _ _ _ _ hrec
          refine ⟨hx, fun ρ a w Q hB R T hro h v' ρ' w' g0 g1 g2 g3 => ?_⟩
          have h5 := h2 ρ' (a.put o.dst v') w' Q (hB.trans (g3.below R)) g2 ((T.mono g3.le g3.same).put g1 hp) (ro_le hro g3.le) fun a' w2 hq => h a' w2 (hq.comp g0 g3)
          rw [fen_eq g3.same hro] at h5
          exact h5
        split at e
        · rename_i f args hc
          split at e
          · rename_i r1 hr1
            have hs := ih _ _ _ _ hr1
            split at e
            · rename_i tm' hp
              obtain ⟨hx, hn⟩ := next _ _ _ hp e
              exact ⟨hx, fun ρ a w Q hB R T hro h => ops_step (wantedV_ok T hw) (call_wp hs hB R T hc (hn ρ a w Q hB R T hro h))⟩
            · cases e
          · cases e
        · split at e
          · rename_i k args hc
            split at e
            · rename_i r1 hr1
              have hs := ih _ _ _ _ hr1
              split at e
              · rename_i tm' hp
                obtain ⟨hx, hn⟩ := next _ _ _ hp e
                exact ⟨hx, fun ρ a w Q hB R T hro h => ops_step (wantedV_ok T hw) (yield_wp hs hB R T hc (hn ρ a w Q hB R T hro h))⟩
              · cases e
            · cases e
          · split at e
            · rename_i v s1 hv
              split at e
              · rename_i tm' hp
                obtain ⟨hx, hn⟩ := next _ _ _ hp e
                refine ⟨hx, fun ρ a w Q hB R T hro h => ops_step (wantedV_ok T hw) ?_⟩
                obtain ⟨g0, ρ', nx, v', w', g1, g2, g3, g4, g5⟩ := evOp_ok (P := P) R T hv
                exact value_wp (evOp_noDefer hv) g1 g2 (hn ρ a w Q hB R T hro h v' ρ' w' g0 g3 g4 g5)
              · cases e
            · cases e
      · cases e
  | yield l args =>
    simp only [stepE] at e
    split at e
    · rename_i q0 hl
      split at e
      · rename_i hst
        split at e
        · rename_i t ht
          split at e
          · rename_i r1 hr1
            split at e
            · rename_i hx1
              split at e
              · rename_i q hq
                split at e
                · rename_i hqst
                  split at e
                  · rename_i s2 hs2
                    split at e
                    · rename_i r2 hr2
                      split at e
                      · rename_i q2 hq2
                        split at e
                        · rename_i hx2
                          split at e
                          · rename_i s3 hs3
                            cases e
                            exact yield_ok (jump := none) ih hl hst ht hr1 hx1 hq hqst hs2 hr2 hq2 (.inl ⟨hx2, rfl⟩) hs3
                          · cases e
                        · rename_i hx2
                          split at e
                          · rename_i s3 hs3
                            cases e
                            exact yield_ok (jump := some .ret) ih hl hst ht hr1 hx1 hq hqst hs2 hr2 hq2 (.inr (.inl ⟨hx2, rfl⟩)) hs3
                          · cases e
                        · rename_i id hx2
                          split at e
                          · rename_i s3 hs3
                            cases e
                            exact yield_ok (jump := some (.exit id)) ih hl hst ht hr1 hx1 hq hqst hs2 hr2 hq2 (.inr (.inr ⟨id, hx2, rfl⟩)) hs3
                          · cases e
                      · cases e
                    · cases e
                  · cases e
                · cases e
              · cases e
            · cases e
          · cases e
        · cases e
      · cases e
    · cases e
  | call f args =>
    simp only [stepE] at e
    split at e
    · rename_i v hv
      cases e
      obtain ⟨h1, h2, h3, h4⟩ := hO f args v hv
      refine .inl ⟨h1, fun ρ args' w hB R hr => ?_⟩
      rw [pure_rels hr h2]
      refine (h4 w hB).mono ?_
      rintro e w' ⟨rfl, hb⟩
      obtain ⟨R', F'⟩ := R.below hb
      exact ⟨v, ρ, rfl, fun _ h => h, .flat 3 v h3, R', F'.weaken (fun i hi => by simp at hi)⟩
    · split at e
      · rename_i fn hf
        rw [cond_eq_ite] at e
        split at e
        · cases e
        · rename_i hn
          split at e
          · rename_i c hb
            split at e
            · rename_i t ht
              split at e
              · rename_i r1 hr1
                have h2 := ih _ _ _ _ hr1
                split at e
                · cases e
                · rename_i hx
                  split at e
                  · rename_i s2 hs2
                    split at e
                    · rename_i vs hvs
                      cases e
                      refine .inl ⟨⟨fn, c, hf, by simpa using hn, hb⟩, fun ρ args' w hB R hr => ?_⟩
                      have T0 : TRel ρ s.N ⟨t, args.length + (fn.ntmps - args.length), []⟩ { tmps := args'.toArray ++ Array.replicate (fn.ntmps - args'.toArray.size) undef, defers := [] } := by
                        refine ⟨by simp [hr.length], fun j v hv => ?_, rfl, fun d hd => by simp at hd⟩
                        have hv := trOf_nil ht hv
                        obtain ⟨v', e1, r⟩ := hr.get hv
                        have hlt : j < args'.length := by
                          rcases Nat.lt_or_ge j args'.length with q | q
                          · exact q
                          · rw [List.getElem?_eq_none q] at e1; cases e1
                        exact ⟨v', by rw [Array.getElem?_append_left (by simpa using hlt)]; simpa using e1, r⟩
                      refine (callsIn_wide (n := 0)).1 (callsIn_of_wp_marks hf hb trivial (wpIn_mono (h2 ρ _ w hB R T0 (fun l h => by cases h)) fun e' a' w' hq => ?_))
                      obtain ⟨q1, q6, ρ1, q3, q4, q5⟩ := hq
                      have hfin : LeavesInM Fence.wide 0 P fn a'.tmps (QV B ρ s w ⟨.normal, tm, tupleOf vs, ⟨s2.h, s2.N, s2.W.filter (·.blt s.N) ++ s.W⟩⟩) a'.defers .returning w' := by
                        rw [q3.dfr]
                        refine take_ok r1.tm.ds r1.s s2 w' q4 hs2 fun w2 g1 g2 g3 g4 => ?_
                        have T2 : TRel ρ1 s2.N r1.tm a' := by rw [g1]; exact q3
                        obtain ⟨v', g5, g6⟩ := results_ok (P := P) g3 T2 hvs
                        have q7 := (Fr.prune R.lt (q5.comp g4 g2)).weaken (W' := s2.W.filter (·.blt s.N) ++ s.W) (fun i hi => List.mem_append.2 (.inl hi))
                        exact ⟨v', g6, v', ρ1, rfl, fun i hi => List.mem_append.2 (.inr hi), g5, g3, q7⟩
                      cases hxx : r1.x with
                      | normal => rw [hxx] at q1; subst q1; exact hfin
                      | ret => rw [hxx] at q1; subst q1; exact hfin
                      | exit i => exact absurd hxx (hx i)
                    · cases e
                  · cases e
              · cases e
            · cases e
          · split at e
            · rename_i v hv
              cases e
              exact .inr ⟨extV_ok hf hv, rfl⟩
            · cases e
      · cases e
theorem ev_ok (hmix : P.follows .mixedOrders = true) (hO : Orac P B w0 O) (n : Nat) : ∀ t tm s r, ev P O n t tm s = some r → Sound P B w0 t tm s r := by
  induction n with
  | zero => intro t tm s r e; cases e
  | succ n ih => exact fun t tm s r e => step_ok hmix hO ih t tm s r e

/-- A CALL THAT IS RECKONED: it comes to what the reckoning says, in every world that has what was asked of it -/
theorem ev_calls (hmix : P.follows .mixedOrders = true) {f : FuncId} {args : List Value} {n : Nat} {v : Value} {w : World} (hO : Orac P w.heap.size w O) (hb : (P.funcs[f]?.bind (·.body)).isSome = true) (hp : args.all (pureV 3) = true) (hv : pureV 3 v = true)
    (e : (match ev P O n (.call f args) ⟨.nil, 0, []⟩ ⟨.nil, 0, []⟩ with | some r => some r.v | none => none) = some v) : Calls P f args.toArray w fun e w' => e = .returned v ∧ Below w.heap.size w w' := by
  split at e
  · rename_i r hr
    cases e
    have hs : (Enters P f ∧ ∀ ρ (args' : List Value) w2, Below w.heap.size w w2 → Rel w.heap.size ρ 0 (Tr.nil : Tr Blk).get w2 → VRels ρ 0 args args' → Calls P f args'.toArray w2 (QV w.heap.size ρ ⟨.nil, 0, []⟩ w2 r)) := by
      rcases ev_ok (w0 := w) hmix hO n _ _ _ _ hr with h | ⟨⟨_, _, h⟩, _⟩
      · exact h
      · have h := h w
        unfold callFunc at h
        cases hf : P.funcs[f]? with
        | none => rw [hf] at hb; cases hb
        | some fn =>
          cases hc : fn.body with
          | none => rw [hf] at hb; simp [hc] at hb
          | some c =>
            by_cases hn : fn.name = "runtime.NumGoroutine" <;> simp [program, Sem.run, hf, hn, hc] at h
    obtain ⟨_, h⟩ := hs
    have R0 : Rel w.heap.size (fun _ => ⟨0, 0, 0, 0, false⟩) 0 (Tr.nil : Tr Blk).get w := by
      refine ⟨Nat.le_refl _, ?_, ?_, ?_, ?_⟩
      · intro id b h; cases h
      · intro id b h; cases h
      · intro i j bi bj h; cases h
      · intro id b h; cases h
    have hr0 : ∀ (l : List Value), l.all (pureV 3) = true → VRels (fun _ => ⟨0, 0, 0, 0, false⟩) 0 l l := by
      intro l
      induction l with
      | nil => intro _; trivial
      | cons x l ih =>
        intro h
        simp only [List.all_cons, Bool.and_eq_true] at h
        exact ⟨.flat 3 x h.1, ih h.2⟩
    refine (h _ args w (Below.refl _ _) R0 (hr0 args hp)).mono ?_
    rintro e w' ⟨v', ρ', rfl, _, g1, g2, g3⟩
    rw [g1.flat_eq 3 hv]
    exact ⟨rfl, g3.below R0⟩
  · cases e
end
end Go.Proofs.Ytlapnehfjklpoaa
