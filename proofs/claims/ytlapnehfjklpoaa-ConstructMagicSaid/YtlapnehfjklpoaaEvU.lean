/- Closed calls by reckoning: the quick form of code and calls, and that it is right. -/
import Derived.Test.YtlapnehfjklpoaaEvGg
namespace Go.Proofs.Ytlapnehfjklpoaa
open Go.RowKit

abbrev OraT := FuncId → List Value → Option Value
noncomputable def regD (P : Program) (rec : RecT) (l : List Oper) (tm : Tm) (s : St) : Option Res :=
  @Bool.rec (fun _ => Option Res) none (@Bool.rec (fun _ => Option Res) (@Option.rec (Tm × St) (fun _ => Option Res) (regF P rec l tm s) (fun p => @Prod.rec Tm St (fun _ => Option Res) (fun tm' s' => some ⟨.normal, tm', undef, s'⟩) p) (drawF P rec l (masks l []) l 0 0 [] [s] 0 .nil tm)) (regF P rec l tm s) (manyA l)) (statOK l)
abbrev CT := Option Nat → Tm → St → Option Res
noncomputable def cReg (P : Program) (rec : RecT) (_ : Nat) (ops : Array Oper) (draw : Bool) : CT := fun _ tm s => @Bool.rec (fun _ => Option Res) (opsF P rec ops.toList ops.toList tm s) (regD P rec ops.toList tm s) draw
noncomputable def cSeq (_ _ : Code) (ia ib : CT) : CT := fun ro tm s => @Option.rec Res (fun _ => Option Res) none (fun r => @Res.rec (fun _ => Option Res) (fun x tm' v s' => @Ex.rec (fun _ => Option Res) (ib ro tm' s') (fun i => some ⟨.exit i, tm', v, s'⟩) (some ⟨.ret, tm', v, s'⟩) x) r) (ia ro tm s)
noncomputable def cCond (c : Operand) (_ _ : Code) (ia ib : CT) : CT := fun ro tm s => @Option.rec Value (fun _ => Option Res) none (fun u => onBl none (fun b => @Bool.rec (fun _ => Option Res) (ib ro tm s) (ia ro tm s) b) u) (opndF tm c)
noncomputable def cBlock (id : Nat) (_ : Code) (ib : CT) : CT := fun ro tm s => @Option.rec Res (fun _ => Option Res) none (fun r => @Res.rec (fun _ => Option Res) (fun x tm' v s' => @Ex.rec (fun _ => Option Res) (some ⟨.normal, tm', v, s'⟩) (fun i => @Bool.rec (fun _ => Option Res) (some ⟨.exit i, tm', v, s'⟩) (some ⟨.normal, tm', v, s'⟩) (Nat.beq i id)) (some ⟨.ret, tm', v, s'⟩) x) r) (ib ro tm s)
noncomputable def cLoop (rec : RecT) (body : Code) (_ : CT) : CT := fun ro tm s => rec (.loop ro body) tm s
noncomputable def cRange (P : Program) (O : OraT) (rec : RecT) (f : Operand) (ps : Array Tmp) (assign body : Code) (_ _ : CT) : CT := fun ro tm s => stepE P O rec (.code ro (.rangeFunc f ps assign body)) tm s
def cEnd (x : Ex) : CT := fun _ tm s => some ⟨x, tm, undef, s⟩
def cNone : CT := fun _ _ _ => none
noncomputable def codeF (P : Program) (O : OraT) (rec : RecT) (c : Code) : CT :=
  @Code.rec (fun _ => CT) (cEnd .normal) (cReg P rec) cSeq cCond cBlock (cLoop rec) (cRange P O rec) (fun id => cEnd (.exit id)) (fun _ ib => ib) (fun _ => cEnd .normal) (fun _ => cNone) (cEnd .ret) (fun _ => cNone) c
noncomputable def finF (P : Program) (tm : Tm) (s : St) (rs : List ResultVar) (r : Res) : Option Res :=
  @Option.rec St (fun _ => Option Res) none (fun s2 => @Option.rec (List Value) (fun _ => Option Res) none (fun vs => @St.rec (fun _ => Option Res) (fun h2 N2 W2 => @St.rec (fun _ => Option Res) (fun _ sN sW => some ⟨.normal, tm, tupleOf vs, ⟨h2, N2, W2.filter (·.blt sN) ++ sW⟩⟩) s) s2) (evRes P s2 r.tm rs)) (takeE r.s r.tm.ds)
noncomputable def callF (P : Program) (O : OraT) (rec : RecT) (f : FuncId) (args : List Value) (tm : Tm) (s : St) : Option Res :=
  @Option.rec Value (fun _ => Option Res) (@Option.rec (Code × Nat × List ResultVar) (fun _ => Option Res) (stepE P O rec (.call f args) tm s) (fun p => @Option.rec (Tr Value) (fun _ => Option Res) none (fun t => @Option.rec Res (fun _ => Option Res) none (fun r => @Ex.rec (fun _ => Option Res) (finF P tm s p.2.2 r) (fun _ => none) (finF P tm s p.2.2 r) r.x) (@St.rec (fun _ => Option Res) (fun sh sN _ => rec (.code none p.1) ⟨t, Nat.add args.length (Nat.sub p.2.1 args.length), []⟩ ⟨sh, sN, []⟩) s)) (trF args .nil 0)) (fnOf P f)) (fun v => some ⟨.normal, tm, v, s⟩) (O f args)
noncomputable def loopF (P : Program) (O : OraT) (rec : RecT) (ro : Option Nat) (c : Code) (tm : Tm) (s : St) : Option Res :=
  @Option.rec Res (fun _ => Option Res) none (fun r => @Res.rec (fun _ => Option Res) (fun x tm' v s' => @Ex.rec (fun _ => Option Res) (rec (.loop ro c) tm' s') (fun i => some ⟨.exit i, tm', v, s'⟩) (some ⟨.ret, tm', v, s'⟩) x) r) (codeF P O rec c ro tm s)
noncomputable def yieldF (rc : Code → CT) (l : Nat) (args : List Value) (tm : Tm) (s : St) : Option Res := (match getL s l with
    | some r => (match r.st with
      | .ready => (match setPs r.n r.tm r.ps args with
        | some t => (match rc r.assign (some l) ⟨t, r.n, []⟩ s with
          | some r1 => (match r1.x with
            | .normal => (match getL r1.s l with
              | some q => (match q.st with
                | .ready => (match setL r1.s l q .busy q.pend with
                  | some s2 => (match rc r.body (some l) r1.tm s2 with
                    | some r2 => (match getL r2.s l with
                      | some q2 => (match r2.x with
                        | .normal => (match setL r2.s l q2 .ready none with | some s3 => some ⟨.normal, tm, .bool true, s3⟩ | none => none)
                        | .ret => (match setL r2.s l q2 .done (some .ret) with | some s3 => some ⟨.normal, tm, .bool false, s3⟩ | none => none)
                        | .exit id => (match setL r2.s l q2 .done (some (.exit id)) with | some s3 => some ⟨.normal, tm, .bool false, s3⟩ | none => none))
                      | none => none)
                    | none => none)
                  | none => none)
                | _ => none)
              | none => none)
            | _ => none)
          | none => none)
        | none => none)
      | _ => none)
    | none => none)
noncomputable def stepF (P : Program) (O : OraT) (rec : RecT) (t : Task) : Tm → St → Option Res :=
  @Task.rec (fun _ => Tm → St → Option Res) (fun ro c => codeF P O rec c ro) (loopF P O rec) (fun _ all l => opsF P rec all l) (callF P O rec) (yieldF (codeF P O rec)) t
noncomputable def evF (P : Program) (O : OraT) (n : Nat) : RecT := @Nat.rec (fun _ => RecT) (fun _ _ _ => none) (fun _ ih => stepF P O ih) n

section
variable {P : Program} {O : OraT} {B : Nat} {w0 : World} {rec : RecT}
theorem callF_eq (f : FuncId) (args : List Value) (tm : Tm) (s : St) : callF P O rec f args tm s = stepE P O rec (.call f args) tm s := by
  obtain ⟨sh, sN, sW⟩ := s
  unfold callF
  cases ho : O f args with
  | some v => simp only [stepE, ho]
  | none =>
    simp only
    cases hf : fnOf P f with
    | none => rfl
    | some p =>
      simp only [stepE, ho]
      unfold fnOf at hf
      cases hfn : P.funcs[f]? with
      | none => rw [hfn] at hf; cases hf
      | some fn =>
        rw [hfn] at hf
        simp only at hf ⊢
        cases hn : (fn.name == "runtime.NumGoroutine") with
        | true => rw [hn] at hf; cases hf
        | false =>
          rw [hn] at hf
          simp only [cond_false] at hf ⊢
          cases hb : fn.body with
          | none => rw [hb] at hf; cases hf
          | some c =>
            rw [hb] at hf
            cases hf
            simp only
            rw [trF_eq]
            cases trOf .nil 0 args with
            | none => rfl
            | some t =>
              simp only
              show @Option.rec Res (fun _ => Option Res) none _ (rec (.code none c) ⟨t, args.length + (fn.ntmps - args.length), []⟩ ⟨sh, sN, []⟩) = _
              cases rec (.code none c) ⟨t, args.length + (fn.ntmps - args.length), []⟩ ⟨sh, sN, []⟩ with
              | none => rfl
              | some r =>
                have hfin : finF P tm ⟨sh, sN, sW⟩ fn.results.toList r = (match takeE r.s r.tm.ds with
                  | some s2 => (match evRes P s2 r.tm fn.results.toList with | some vs => some ⟨.normal, tm, tupleOf vs, ⟨s2.h, s2.N, s2.W.filter (·.blt sN) ++ sW⟩⟩ | none => none)
                  | none => none) := by
                  unfold finF
                  cases takeE r.s r.tm.ds with
                  | none => rfl
                  | some s2 => simp only; cases evRes P s2 r.tm fn.results.toList <;> rfl
                obtain ⟨x, tm2, v, s2⟩ := r
                cases x with
                | normal => exact hfin
                | ret => exact hfin
                | exit i => rfl

/-- what is known of the parts -/
noncomputable def subR (P : Program) (rec : RecT) (f : Code → CT) : RecT := fun t tm s => match t with
  | .code ro c => f c ro tm s
  | .ops _ all l => opsF P rec all l tm s
  | t => rec t tm s
open Classical in
noncomputable def opsR (P : Program) (rec : RecT) (all l : List Oper) : RecT := fun t tm s => match t with
  | .ops _ all' l' => if all' = all ∧ l' = l then opsF P rec all l tm s else none
  | t => rec t tm s
theorem ops_ok (hmix : P.follows .mixedOrders = true) (hO : Orac P B w0 O) (ih : ∀ t tm s r, rec t tm s = some r → Sound P B w0 t tm s r) (all : List Oper) : ∀ (l : List Oper) (ro : Option Nat) (tm : Tm) (s : St) (r : Res), opsF P rec all l tm s = some r → Sound P B w0 (.ops ro all l) tm s r
  | [], ro, tm, s, r, e => step_ok hmix hO ih (.ops ro all []) tm s r e
  | o :: l, ro, tm, s, r, e => by
    have hl := ops_ok hmix hO ih all l
    have hR : ∀ t tm s r, opsR P rec all l t tm s = some r → Sound P B w0 t tm s r := by
      intro t tm s r e
      cases t with
      | ops ro2 all2 l2 =>
        unfold opsR at e
        simp only at e
        split at e
        · rename_i h; obtain ⟨rfl, rfl⟩ := h; exact hl ro2 tm s r e
        · cases e
      | code ro2 c => exact ih _ _ _ _ e
      | loop ro2 c => exact ih _ _ _ _ e
      | call f args => exact ih _ _ _ _ e
      | yield k args => exact ih _ _ _ _ e
    refine step_ok hmix hO hR (.ops ro all (o :: l)) tm s r ?_
    have hself : ∀ tm s, opsR P rec all l (.ops ro all l) tm s = opsF P rec all l tm s := fun tm s => if_pos ⟨rfl, rfl⟩
    rw [← e]
    show _ = @Option.rec (Value × St) (fun _ => Option Res) none (fun p => @Option.rec Tm (fun _ => Option Res) none (fun tm' => opsF P rec all l tm' p.2) (putF tm o.dst p.1)) (valW P rec all tm s o)
    rw [valW_eq]
    simp only [stepE, oneE, hself]
    cases wantedV all tm o with
    | none => rfl
    | some b =>
      cases b with
      | false => simp only [snd3, putF_eq]; cases tm.put o.dst undef <;> rfl
      | true =>
        simp only
        cases calleeV P tm o with
        | some fa =>
          simp only
          show (match rec (.call fa.1 fa.2) tm s with | some r => _ | none => none) = _
          cases rec (.call fa.1 fa.2) tm s with
          | none => rfl
          | some r1 => simp only [snd3, putF_eq]; cases tm.put o.dst r1.v <;> rfl
        | none =>
          simp only
          cases yieldV tm o with
          | some la =>
            simp only
            show (match rec (.yield la.1 la.2) tm s with | some r => _ | none => none) = _
            cases rec (.yield la.1 la.2) tm s with
            | none => rfl
            | some r1 => simp only [snd3, putF_eq]; cases tm.put o.dst r1.v <;> rfl
          | none =>
            simp only
            cases evOp P tm s o with
            | none => rfl
            | some x => simp only [snd3, putF_eq]; cases tm.put o.dst x.1 <;> rfl
open Classical in
noncomputable def two (a b : Code) (fa fb : CT) : Code → CT := fun c => if c = a then fa else if c = b then fb else cNone
theorem two_a (a b : Code) (fa fb : CT) : two a b fa fb a = fa := if_pos rfl
theorem two_b (a b : Code) (f : Code → CT) : two a b (f a) (f b) b = f b := by
  unfold two
  split
  · rename_i h; rw [h]
  · exact if_pos rfl
theorem sub_ok (hmix : P.follows .mixedOrders = true) (hO : Orac P B w0 O) (ih : ∀ t tm s r, rec t tm s = some r → Sound P B w0 t tm s r) {f : Code → CT} (hf : ∀ c ro tm s r, f c ro tm s = some r → Sound P B w0 (.code ro c) tm s r) : ∀ t tm s r, subR P rec f t tm s = some r → Sound P B w0 t tm s r := by
  intro t tm s r e
  cases t with
  | ops ro all l => exact ops_ok hmix hO ih all l ro tm s r e
  | code ro c => exact hf c ro tm s r e
  | loop ro c => exact ih _ _ _ _ e
  | call f args => exact ih _ _ _ _ e
  | yield k args => exact ih _ _ _ _ e
theorem two_ok {a b : Code} {fa fb : CT} (ha : ∀ ro tm s r, fa ro tm s = some r → Sound P B w0 (.code ro a) tm s r) (hb : ∀ ro tm s r, fb ro tm s = some r → Sound P B w0 (.code ro b) tm s r) : ∀ c ro tm s r, two a b fa fb c ro tm s = some r → Sound P B w0 (.code ro c) tm s r := by
  intro c ro tm s r e
  unfold two at e
  split at e
  · rename_i h; subst h; exact ha ro tm s r e
  · split at e
    · rename_i h; subst h; exact hb ro tm s r e
    · cases e
theorem code_ok (hmix : P.follows .mixedOrders = true) (hO : Orac P B w0 O) (ih : ∀ t tm s r, rec t tm s = some r → Sound P B w0 t tm s r) (c : Code) : ∀ (ro : Option Nat) (tm : Tm) (s : St) (r : Res), codeF P O rec c ro tm s = some r → Sound P B w0 (.code ro c) tm s r := by
  induction c with
  | skip => exact fun ro tm s r e => step_ok hmix hO ih _ tm s r e
  | label l => exact fun ro tm s r e => step_ok hmix hO ih _ tm s r e
  | exit id => exact fun ro tm s r e => step_ok hmix hO ih _ tm s r e
  | ret => exact fun ro tm s r e => step_ok hmix hO ih _ tm s r e
  | goto l => intro ro tm s r e; cases e
  | refuse l => intro ro tm s r e; cases e
  | loop body _ => exact fun ro tm s r e => step_ok hmix hO ih _ tm s r e
  | rangeFunc f ps assign body _ _ => exact fun ro tm s r e => step_ok hmix hO ih _ tm s r e
  | scope body hb =>
    intro ro tm s r e
    refine step_ok hmix hO (sub_ok hmix hO ih (two_ok hb hb)) (.code ro (.scope body)) tm s r ?_
    show two body body _ _ body ro tm s = _
    rw [two_a]; exact e
  | region id ops draw =>
    intro ro tm s r e
    cases draw with
    | false => exact step_ok hmix hO (sub_ok hmix hO ih (f := fun _ => cNone) (fun _ _ _ _ _ e => by cases e)) (.code ro (.region id ops false)) tm s r e
    | true =>
      have e : regD P rec ops.toList tm s = some r := e
      unfold regD at e
      cases hst : statOK ops.toList with
      | false => rw [hst] at e; cases e
      | true =>
        rw [hst] at e
        simp only at e
        have long : regF P rec ops.toList tm s = some r → Sound P B w0 (.code ro (.region id ops true)) tm s r := by
          intro e
          rw [regF_eq] at e
          split at e
          · rename_i p hp
            cases e
            exact fun ρ a w hB R T _ => regG_wp hmix hst ih hp hB R T
          · cases e
        cases hm : manyA ops.toList with
        | true => rw [hm] at e; exact long e
        | false =>
          rw [hm] at e
          simp only at e
          rw [drawF_eq] at e
          cases hD : outD (drawE P rec ops.toList (masks ops.toList []) ops.toList 0 0 [] [s] 0 .nil tm) with
          | some p =>
            rw [hD] at e
            refine step_ok hmix hO ih (.code ro (.region id ops true)) tm s r ?_
            show (bif statOK ops.toList then _ else none) = _
            rw [hst]
            simp only [cond_true]
            rw [← e]
            cases hE : drawE P rec ops.toList (masks ops.toList []) ops.toList 0 0 [] [s] 0 .nil tm with
            | none => rw [hE] at hD; cases hD
            | some out =>
              rw [hE] at hD
              simp only [outD] at hD
              simp only
              cases hs : out.sn[out.hs.length]? with
              | none => rw [hs] at hD; cases hD
              | some s' => rw [hs] at hD; cases hD; rfl
          | none =>
            rw [hD] at e
            exact long e
  | seq a b ha hb =>
    intro ro tm s r e
    refine step_ok hmix hO (sub_ok hmix hO ih (two_ok ha hb)) (.code ro (.seq a b)) tm s r ?_
    have e : cSeq a b (codeF P O rec a) (codeF P O rec b) ro tm s = some r := e
    rw [← e]
    simp only [stepE]
    show (match two a b (codeF P O rec a) (codeF P O rec b) a ro tm s with | some r => (match r.x with | .normal => two a b (codeF P O rec a) (codeF P O rec b) b ro r.tm r.s | _ => some r) | none => none) = _
    rw [two_a, two_b a b (codeF P O rec)]
    unfold cSeq
    cases codeF P O rec a ro tm s with
    | none => rfl
    | some r1 =>
      obtain ⟨x, tm2, v, s2⟩ := r1
      cases x <;> rfl
  | cond c a b ha hb =>
    intro ro tm s r e
    refine step_ok hmix hO (sub_ok hmix hO ih (two_ok ha hb)) (.code ro (.cond c a b)) tm s r ?_
    have e : @Option.rec Value (fun _ => Option Res) none (fun u => onBl none (fun q => @Bool.rec (fun _ => Option Res) (codeF P O rec b ro tm s) (codeF P O rec a ro tm s) q) u) (opndF tm c) = some r := e
    rw [← e, opndF_eq]
    simp only [stepE]
    cases opnd tm c with
    | none => rfl
    | some u =>
      show _ = onBl _ _ u
      rw [onBl_out]
      cases u <;> try rfl
      rename_i q
      cases q with
      | true => show two a b (codeF P O rec a) (codeF P O rec b) a ro tm s = codeF P O rec a ro tm s; rw [two_a]
      | false => show two a b (codeF P O rec a) (codeF P O rec b) b ro tm s = codeF P O rec b ro tm s; rw [two_b a b (codeF P O rec)]
  | block id body hb =>
    intro ro tm s r e
    refine step_ok hmix hO (sub_ok hmix hO ih (two_ok hb hb)) (.code ro (.block id body)) tm s r ?_
    have e : cBlock id body (codeF P O rec body) ro tm s = some r := e
    rw [← e]
    simp only [stepE]
    show (match two body body (codeF P O rec body) (codeF P O rec body) body ro tm s with | some r => (match r.x with | .exit i => (bif i.beq id then some (Res.mk .normal r.tm r.v r.s) else some r) | _ => some r) | none => none) = _
    rw [two_a]
    unfold cBlock
    cases codeF P O rec body ro tm s with
    | none => rfl
    | some r1 =>
      obtain ⟨x, tm2, v, s2⟩ := r1
      cases x <;> try rfl
      rename_i i
      simp only
      cases i.beq id <;> rfl
theorem stepF_ok (hmix : P.follows .mixedOrders = true) (hO : Orac P B w0 O) (ih : ∀ t tm s r, rec t tm s = some r → Sound P B w0 t tm s r) : ∀ t tm s r, stepF P O rec t tm s = some r → Sound P B w0 t tm s r := by
  intro t tm s r e
  have hC := code_ok hmix hO ih
  cases t with
  | code ro c => exact hC c ro tm s r e
  | ops ro all l => exact ops_ok hmix hO ih all l ro tm s r e
  | call f args =>
    have e : callF P O rec f args tm s = some r := e
    rw [callF_eq] at e
    exact step_ok hmix hO ih _ tm s r e
  | loop ro c =>
    refine step_ok hmix hO (sub_ok hmix hO ih hC) (.loop ro c) tm s r ?_
    have e : @Option.rec Res (fun _ => Option Res) none (fun r => @Res.rec (fun _ => Option Res) (fun x tm' v s' => @Ex.rec (fun _ => Option Res) (rec (.loop ro c) tm' s') (fun i => some ⟨.exit i, tm', v, s'⟩) (some ⟨.ret, tm', v, s'⟩) x) r) (codeF P O rec c ro tm s) = some r := e
    rw [← e]
    show (match codeF P O rec c ro tm s with | some r => (match r.x with | .normal => rec (.loop ro c) r.tm r.s | _ => some r) | none => none) = _
    cases codeF P O rec c ro tm s with
    | none => rfl
    | some r1 =>
      obtain ⟨x, tm2, v, s2⟩ := r1
      cases x <;> rfl
  | yield l args => exact step_ok hmix hO (sub_ok hmix hO ih hC) (.yield l args) tm s r e
theorem evF_ok (hmix : P.follows .mixedOrders = true) (hO : Orac P B w0 O) (n : Nat) : ∀ t tm s r, evF P O n t tm s = some r → Sound P B w0 t tm s r := by
  induction n with
  | zero => intro t tm s r e; cases e
  | succ n ih => exact fun t tm s r e => stepF_ok hmix hO ih t tm s r e
/-- A CALL THAT IS RECKONED: it comes to what the reckoning says, in every world that has what was asked of it -/
theorem evF_calls (hmix : P.follows .mixedOrders = true) {f : FuncId} {args : List Value} {n : Nat} {v : Value} {w : World} (hO : Orac P w.heap.size w O) (hb : (P.funcs[f]?.bind (·.body)).isSome = true) (hp : args.all (pureV 3) = true) (hv : pureV 3 v = true)
    (e : (match evF P O n (.call f args) ⟨.nil, 0, []⟩ ⟨.nil, 0, []⟩ with | some r => some r.v | none => none) = some v) : Calls P f args.toArray w fun e w' => e = .returned v ∧ Below w.heap.size w w' := by
  split at e
  · rename_i r hr
    cases e
    have hs : (Enters P f ∧ ∀ ρ (args' : List Value) w2, Below w.heap.size w w2 → Rel w.heap.size ρ 0 (Tr.nil : Tr Blk).get w2 → VRels ρ 0 args args' → Calls P f args'.toArray w2 (QV w.heap.size ρ ⟨.nil, 0, []⟩ w2 r)) := by
      rcases evF_ok (w0 := w) hmix hO n _ _ _ _ hr with h | ⟨⟨_, _, h⟩, _⟩
      · exact h
      · have h := h w
        unfold callFunc at h
        cases hf : P.funcs[f]? with
        | none => rw [hf] at hb; cases hb
        | some fn =>
          cases hc : fn.body with
          | none => rw [hf] at hb; simp [hc] at hb
          | some c =>
            by_cases hn : fn.name = "runtime.NumGoroutine" <;> simp [program, Sem.run, hf, hn, hc] at h
    obtain ⟨_, h⟩ := hs
    have R0 : Rel w.heap.size (fun _ => ⟨0, 0, 0, 0, false⟩) 0 (Tr.nil : Tr Blk).get w := by
      refine ⟨Nat.le_refl _, ?_, ?_, ?_, ?_⟩
      · intro id b h; cases h
      · intro id b h; cases h
      · intro i j bi bj h; cases h
      · intro id b h; cases h
    have hr0 : ∀ (l : List Value), l.all (pureV 3) = true → VRels (fun _ => ⟨0, 0, 0, 0, false⟩) 0 l l := by
      intro l
      induction l with
      | nil => intro _; trivial
      | cons x l ih =>
        intro h
        simp only [List.all_cons, Bool.and_eq_true] at h
        exact ⟨.flat 3 x h.1, ih h.2⟩
    refine (h _ args w (Below.refl _ _) R0 (hr0 args hp)).mono ?_
    rintro e w' ⟨v', ρ', rfl, _, g1, g2, g3⟩
    rw [g1.flat_eq 3 hv]
    exact ⟨rfl, g3.below R0⟩
  · cases e
end
end Go.Proofs.Ytlapnehfjklpoaa
