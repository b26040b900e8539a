/- Closed calls by reckoning: code, calls, and that the reckoning is right (regions in their one order). -/
import Derived.Test.YtlapnehfjklpoaaEvI
import Derived.RangeFuncLeaves
import Derived.TacticsIn
import Derived.OrdersIn
import Derived.Laws.Externs
namespace Go.Proofs.Ytlapnehfjklpoaa
open Go.RowKit

inductive Ex where
  | normal
  | exit (id : Nat)
  | ret
noncomputable def Ex.of : Ex → Exit
  | .normal => .normal
  | .exit id => .exit id
  | .ret => .ret
inductive Task where
  | code (ro : Option Nat) (c : Code)
  | loop (ro : Option Nat) (c : Code)
  | ops (ro : Option Nat) (all l : List Oper)
  | call (f : FuncId) (args : List Value)
  | yield (l : Nat) (args : List Value)
structure Res where
  x : Ex
  tm : Tm
  v : Value
  s : St

/-- is the operation wanted? -/
noncomputable def wantedV (all : List Oper) (tm : Tm) (o : Oper) : Option Bool :=
  match o.guard with
  | none => some true
  | some (j, want) => (match all[j]? with
    | some oj => (match oj.dst with
      | some d => (match tm.t.get d with
        | some (.bool b) => some (b == want)
        | some (.tuple _) => some false
        | _ => none)
      | none => none)
    | none => none)
/-- the function that an operation calls, and its arguments -/
noncomputable def calleeV (P : Program) (tm : Tm) (o : Oper) : Option (FuncId × List Value) :=
  match o.op with
  | .call ⟨.value f, ⟨args⟩, _⟩ => (match opnd tm f with
    | some (.func (.func g) first cap) => (match opnds tm args with | some vs => some (g, first.toList ++ vs ++ cap.toList) | none => none)
    | some (.func (.method name) ⟨[.iface t x]⟩ ⟨[]⟩) => bif pureV 3 x then (match srun P (method (P.types.size + Made.depth) t x name) with
      | some (g, x') => bif pureV 3 x' then (match opnds tm args with | some vs => some (g, x' :: vs) | none => none) else none
      | none => none) else none
    | _ => none)
  | .call ⟨.invoke r name, ⟨args⟩, _⟩ => (match opnd tm r with
    | some (.iface t x) => bif pureV 3 x then (match srun P (method (P.types.size + Made.depth) t x name) with
      | some (g, x') => bif pureV 3 x' then (match opnds tm args with | some vs => some (g, x' :: vs) | none => none) else none
      | none => none) else none
    | _ => none)
  | _ => none
/-- the loop that an operation yields to, and what it yields -/
noncomputable def yieldV (tm : Tm) (o : Oper) : Option (Nat × List Value) :=
  match o.op with
  | .call ⟨.value f, ⟨args⟩, _⟩ => (match opnd tm f with
    | some (.func (.yield l) _ _) => (match opnds tm args with | some vs => some (l, vs) | none => none)
    | _ => none)
  | _ => none
/-- the functions without a body that are reckoned -/
noncomputable def extV (fn : Func) (args : List Value) : Option Value :=
  match fn.body with
  | some _ => none
  | none => bif (Extern.allNextRows.lookup fn.origin).isNone then (match args with
    | [.int .u64 (.ofNat x), .int .u64 (.ofNat y), .int .u64 (.ofNat c)] => bif c.blt 2 then
        (bif fn.name == "math/bits.Add64" then some (.tuple #[.int .u64 (.ofNat ((x + y + c) % 18446744073709551616)), .int .u64 (.ofNat ((x + y + c) / 18446744073709551616))])
        else bif fn.name == "math/bits.Sub64" then some (.tuple #[.int .u64 (.ofNat ((x + 18446744073709551616 - y - c) % 18446744073709551616)), .int .u64 (.ofNat (if x < y + c then 1 else 0))])
        else none) else none
    | [.string b, .int .u8 c] => bif fn.name == "internal/bytealg.IndexByteString" then some (.int .i64 (match (List.range b.size).find? fun i => b[i]! == c.toNat.toUInt8 with | some i => (i : Int) | none => -1)) else none
    | _ => none) else none
/-- a function without a body that answers with a plain value -/
noncomputable def Plain (P : Program) (f : FuncId) (args : List Value) (v : Value) : Prop := args.all (pureV 3) = true ∧ pureV 3 v = true ∧ ∀ w, (callFunc f args.toArray).run P w = .ok (.value v) w
theorem ext_find {fn : Func} {n : String} {e : Array Value → Sem Value} (h : fn.name = n) (h1 : Extern.allGenericRows.lookup n = none) (h2 : Extern.allTypedRows.lookup n = none) (h3 : Extern.allRows.lookup n = some e) : Extern.find fn = some e := by
  unfold Extern.find
  simp only [h, h1, h2, h3]
  rfl
theorem ext_next {fn : Func} {n : String} (h : fn.name = n) (h1 : Extern.allNextRows.lookup n = none) (h2 : (Extern.allNextRows.lookup fn.origin).isNone = true) : Extern.findNext fn = none := by
  unfold Extern.findNext
  simp only [h, h1, Option.isNone_iff_eq_none.1 h2]
  rfl
/-- the model's row for the borrow -/
noncomputable def subRow : Array Value → Sem Value := (Extern.MathBitsCarry.rows.map (·.2)).getD 1 (fun _ => pure undef)
theorem run_subRow {P : Program} (x y c : Nat) (hc : c < 2) (w : World) : (subRow #[.int .u64 (.ofNat x), .int .u64 (.ofNat y), .int .u64 (.ofNat c)]).run P w =
    .ok (.tuple #[.int .u64 (.ofNat ((x + 18446744073709551616 - y - c) % 18446744073709551616)), .int .u64 (.ofNat (if x < y + c then 1 else 0))]) w := by
  have : c = 0 ∨ c = 1 := by omega
  rcases this with rfl | rfl <;> rfl
theorem extV_ok {P : Program} {f : FuncId} {fn : Func} {args : List Value} {v : Value} (hf : P.funcs[f]? = some fn) (e : extV fn args = some v) : Plain P f args v := by
  unfold extV at e
  split at e
  · cases e
  · rename_i hb
    rw [cond_eq_ite] at e
    split at e
    · rename_i ho
      split at e
      · rename_i x y c
        rw [cond_eq_ite] at e
        split at e
        · rename_i hc
          rw [Nat.blt_eq] at hc
          rw [cond_eq_ite] at e
          split at e
          · rename_i hn
            have hn := eq_of_beq hn
            cases e
            refine ⟨rfl, rfl, fun w => ?_⟩
            show (callFunc f #[.int .u64 (x : Int), .int .u64 (y : Int), .int .u64 (c : Int)]).run P w = _
            rw [run_callFunc_extern hf (by rw [hn]; kernel_rfl) (by rw [hb]; rfl) (ext_next hn (by kernel_rfl) ho) (ext_find (e := add64Entry) hn (by kernel_rfl) (by kernel_rfl) (by kernel_rfl)), run_add64 x y c (by omega) (by omega) (by omega) (by omega)]
            simp only [Result.andThen]
            congr 5 <;> omega
          · rw [cond_eq_ite] at e
            split at e
            · rename_i hn
              have hn := eq_of_beq hn
              cases e
              refine ⟨rfl, rfl, fun w => ?_⟩
              show (callFunc f #[.int .u64 (x : Int), .int .u64 (y : Int), .int .u64 (c : Int)]).run P w = _
              rw [run_callFunc_extern hf (by rw [hn]; kernel_rfl) (by rw [hb]; rfl) (ext_next hn (by kernel_rfl) ho) (ext_find (e := subRow) hn (by kernel_rfl) (by kernel_rfl) (by kernel_rfl))]
              show ((subRow #[.int .u64 (.ofNat x), .int .u64 (.ofNat y), .int .u64 (.ofNat c)]).run P w).andThen _ = _
              rw [run_subRow x y c hc]
              rfl
            · cases e
        · cases e
      · rename_i b c
        rw [cond_eq_ite] at e
        split at e
        · rename_i hn
          have hn := eq_of_beq hn
          cases e
          refine ⟨rfl, rfl, fun w => ?_⟩
          rw [run_callFunc_extern hf (by rw [hn]; kernel_rfl) (by rw [hb]; rfl) (ext_next hn (by kernel_rfl) ho) (ext_find (e := Extern.BytealgIndexByte.indexByte) hn (by kernel_rfl) (by kernel_rfl) (by kernel_rfl))]
          show ((Extern.BytealgIndexByte.indexByte #[.string b, .int .u8 c]).run P w).andThen _ = _
          have h1 : (Extern.BytealgIndexByte.indexByte #[.string b, .int .u8 c]).run P w = .ok (.int .i64 (match (List.range b.size).find? fun i => b[i]! == c.toNat.toUInt8 with | some i => (i : Int) | none => -1)) w := by
            show ((do let b ← Extern.Bytes.bytesOf (.string b); let c ← Extern.Bytes.asByte (.int .u8 c); match (List.range b.size).find? fun i => b[i]! == c with | some i => pure (goInt i) | none => pure (goInt (-1)) : Sem Value)).run P w = _
            simp only [Extern.Bytes.bytesOf, Extern.Bytes.asByte, Sem.run_bind, Sem.run_pure, Result.andThen_ok]
            cases (List.range b.size).find? fun i => b[i]! == c.toNat.toUInt8 <;> rfl
          rw [h1]
          rfl
        · cases e
      · cases e
    · cases e
noncomputable def evRes (P : Program) (s : St) (tm : Tm) : List ResultVar → Option (List Value)
  | [] => some []
  | .tmp t :: l => (match tm.t.get t with
    | some v => (match evRes P s tm l with | some r => some (v :: r) | none => none)
    | none => none)
  | .cell a t :: l => (match tm.t.get a with
    | some u => (match evLoad P s t u with
      | some v => (match evRes P s tm l with | some r => some (v :: r) | none => none)
      | none => none)
    | none => none)
noncomputable def tupleOf (l : List Value) : Value := match l with | [v] => v | _ => .tuple ⟨l⟩

section
variable {P : Program} {B : Nat} {ρ ρ' ρ'' : Nat → Place} {N N' : Nat} {h h' : Nat → Option Blk} {w w' w'' w0 : World} {W W' : List Nat} {tm tm' : Tm} {a : Act} {s s' s'' : St} {o : Oper}
theorem Fr.comp (f : Fr ρ s.N s.h.get w ρ' s'.N s'.h.get w' s'.W) (g : Fr ρ' s'.N s'.h.get w' ρ'' s''.N s''.h.get w'' s''.W) (hW : ∀ i ∈ s'.W, i ∈ s''.W) : Fr ρ s.N s.h.get w ρ'' s''.N s''.h.get w'' s''.W :=
  (f.trans g).weaken fun i hi => (List.mem_append.1 hi).elim (hW i) id
/-- below the reckoning's own blocks all is as it was -/
theorem Fr.below (R : Rel B ρ N h w) (f : Fr ρ N h w ρ' N' h' w' W) : Below B w w' :=
  ⟨f.os, f.tape, f.output, f.size, fun k hk => f.keep k (Nat.lt_of_lt_of_le hk R.base) fun id _ b hb e => by have := R.own id b hb; omega⟩
/-- a step that leaves all that was as it was -/
theorem Rel.below (R : Rel B ρ N h w) (hB : Below w.heap.size w w') : Rel B ρ N h w' ∧ Fr ρ N h w ρ N h w' [] := by
  refine ⟨⟨Nat.le_trans R.base hB.size, R.lt, R.own, R.sep, fun id b hb => ?_⟩, hB.os, hB.tape, hB.output, hB.size, Nat.le_refl _, fun _ _ => rfl, fun k hk _ => hB.block k hk, fun _ b' _ e => ⟨b', e⟩, fun _ _ _ => rfl, fun id b e hN => absurd (R.lt id b e) (by omega)⟩
  rw [hB.block _ (R.in_heap hb)]
  exact R.blk id b hb

/-- the frames of which a walk speaks: of a round of a loop, or of none -/
noncomputable def fe (ro : Option Nat) : Fence := { Fence.wide with round := ro }
noncomputable def fen (ρ : Nat → Place) (ro : Option Nat) : Fence := fe (ro.map fun l => (ρ l).b)
theorem fe_fn (ro : Option Nat) (f : FuncId) : (fe ro).fn f := trivial
theorem fe_room (ro : Option Nat) (n : Nat) : (fe ro).room n := fun _ h => by cases h
theorem fe_depth (ro : Option Nat) : (fe ro).depth.isSome = true → 1 ≤ 0 := fun h => by cases h
theorem fe_calls {ro : Option Nat} {n : Nat} {f : FuncId} {args : Array Value} {R : Ending → World → Prop} (h : Calls P f args w R) : CallsIn (fe ro) n P f args w R := (callsIn_wide (n := n)).2 h
theorem fen_eq (hρ : ∀ i, i < N → ρ' i = ρ i) {ro : Option Nat} (h : ∀ l, ro = some l → l < N) : fen ρ' ro = fen ρ ro := by
  cases ro with
  | none => rfl
  | some l => unfold fen; simp only [Option.map_some]; rw [hρ l (h l rfl)]
/-- what is known behind a piece of code -/
noncomputable def QC (B : Nat) (ρ : Nat → Place) (s : St) (w : World) (r : Res) (e : Exit) (a' : Act) (w' : World) : Prop :=
  e = r.x.of ∧ (∀ i ∈ s.W, i ∈ r.s.W) ∧ ∃ ρ', TRel ρ' r.s.N r.tm a' ∧ Rel B ρ' r.s.N r.s.h.get w' ∧ Fr ρ s.N s.h.get w ρ' r.s.N r.s.h.get w' r.s.W
noncomputable def Enters (P : Program) (f : FuncId) : Prop := ∃ fn c, P.funcs[f]? = some fn ∧ (fn.name == "runtime.NumGoroutine") = false ∧ fn.body = some c
/-- a loop, from the beginning of a round -/
noncomputable def LoopW (F : Fence) (P : Program) (c : Code) (Q : Exit → Act → World → Prop) (a : Act) (w : World) : Prop :=
  ∀ (b : Frame) (k : List Item) (cs : List Frame), b.roundOf = F.round → F.fn b.fn → F.room (cs.length + 1 + 0) →
    ∃ e a' w', Q e a' w' ∧ ArrivesIn (Machine.fenced P F) P (lone (b.atR a (.code c :: .inLoop c :: k)) cs w) b k cs e a' w'
/-- what is known behind a call -/
noncomputable def QV (B : Nat) (ρ : Nat → Place) (s : St) (w : World) (r : Res) (e : Ending) (w' : World) : Prop :=
  ∃ v' ρ', e = .returned v' ∧ (∀ i ∈ s.W, i ∈ r.s.W) ∧ VRel ρ' r.s.N r.v v' ∧ Rel B ρ' r.s.N r.s.h.get w' ∧ Fr ρ s.N s.h.get w ρ' r.s.N r.s.h.get w' r.s.W
noncomputable def Sound (P : Program) (B : Nat) (w0 : World) : Task → Tm → St → Res → Prop
  | .code ro c, tm, s, r => ∀ ρ a w, Below B w0 w → Rel B ρ s.N s.h.get w → TRel ρ s.N tm a → (∀ l, ro = some l → l < s.N) → c.wpIn (fen ρ ro) 0 P (QC B ρ s w r) a w
  | .loop ro c, tm, s, r => ∀ ρ a w, Below B w0 w → Rel B ρ s.N s.h.get w → TRel ρ s.N tm a → (∀ l, ro = some l → l < s.N) → LoopW (fen ρ ro) P c (QC B ρ s w r) a w
  | .ops ro all l, tm, s, r => r.x = .normal ∧ ∀ ρ a w (Q : Exit → Act → World → Prop), Below B w0 w → Rel B ρ s.N s.h.get w → TRel ρ s.N tm a → (∀ l, ro = some l → l < s.N) →
      (∀ a' w', QC B ρ s w r .normal a' w' → Q .normal a' w') → wpListIn (fen ρ ro) 0 P ⟨all⟩ Q l a w
  | .call f args, _, s, r => (Enters P f ∧ ∀ ρ (args' : List Value) w, Below B w0 w → Rel B ρ s.N s.h.get w → VRels ρ s.N args args' → Calls P f args'.toArray w (QV B ρ s w r)) ∨ (Plain P f args r.v ∧ r.s = s)
  | .yield l args, _, s, r => ∀ ρ (args' : List Value) w, Below B w0 w → Rel B ρ s.N s.h.get w → VRels ρ s.N args args' →
      ∃ f tmps assign body, (Instr.yield (ρ l).b args'.toArray).run P w = .ok (.round (ρ l).b f tmps assign body) w ∧ RoundIn Fence.wide 0 P (ρ l).b f tmps assign body w (QV B ρ s w r)
/-- what is known of the functions that are not gone into -/
noncomputable def Orac (P : Program) (B : Nat) (w0 : World) (O : FuncId → List Value → Option Value) : Prop :=
  ∀ f args v, O f args = some v → Enters P f ∧ args.all (pureV 3) = true ∧ pureV 3 v = true ∧ ∀ w, Below B w0 w → Calls P f args.toArray w fun e w' => e = .returned v ∧ Below w.heap.size w w'

theorem wantedV_ok {all : List Oper} (T : TRel ρ N tm a) {b : Bool} (e : wantedV all tm o = some b) : Region.wanted o (yielded ⟨all⟩ a.tmps) = b := by
  unfold wantedV at e
  unfold Region.wanted
  split at e
  · rename_i hg; rw [hg]; cases e; rfl
  · rename_i j want hg
    rw [hg]
    split at e
    · rename_i oj hj
      have hj2 : (⟨all⟩ : Array Oper)[j]? = some oj := by rw [← hj]; simp
      split at e
      · rename_i d hd
        split at e
        · rename_i x hx
          obtain ⟨v', e1, r⟩ := T.slot d _ hx
          have := r.bool
          subst this
          cases e
          simp [yielded, hj2, hd, e1]
        · rename_i x hx
          obtain ⟨v', e1, r⟩ := T.slot d _ hx
          obtain ⟨x', rfl, _⟩ := r.tuple_inv
          cases e
          simp [yielded, hj2, hd, e1]
        · cases e
      · cases e
    · cases e
theorem calleeV_run (T : TRel ρ N tm a) {g : FuncId} {args : List Value} (e : calleeV P tm o = some (g, args)) (w : World) :
    ∃ args', VRels ρ N args args' ∧ (execOp a.eval o).run P w = (callFunc g args'.toArray).run P w := by
  unfold calleeV at e
  split at e
  · rename_i f as ts ho
    split at e
    · rename_i g' first cap hfv
      split at e
      · rename_i vs hvs
        cases e
        obtain ⟨first', cap', e1, h1, h2, h3, h4⟩ := (T.opnd hfv).func_inv
        refine ⟨first'.toList ++ as.map a.eval ++ cap'.toList, ((VRels.ofArr h1 h3).append (T.opnds hvs)).append (VRels.ofArr h2 h4), ?_⟩
        unfold execOp
        simp only [ho]
        have hr : resolve a.eval ⟨.value f, ⟨as⟩, ts⟩ o.type = pure { target := .fn (.func g) cap', args := first' ++ (as.map a.eval).toArray } := by
          unfold resolve
          simp only [e1, Deferred.ofValue, List.map_toArray]
        rw [hr, Sem.run_bind, Sem.run_pure, Result.andThen_ok]
        have e2 : (first'.toList ++ as.map a.eval ++ cap'.toList).toArray = first' ++ (as.map a.eval).toArray ++ cap' := by
          apply Array.ext'; simp
        rw [e2]
        rfl
      · cases e
    · rename_i name t x hrv
      rw [cond_eq_ite] at e
      split at e
      · rename_i hp
        split at e
        · rename_i g' x' hm
          rw [cond_eq_ite] at e
          split at e
          · rename_i hp2
            split at e
            · rename_i vs hvs
              cases e
              obtain ⟨y0, e1, h0⟩ := VRel.meth_inv (T.opnd hrv)
              obtain ⟨y, rfl, h1⟩ := h0.iface_inv
              have e2 := h1.flat_eq 3 hp
              rw [e2] at e1
              refine ⟨x' :: as.map a.eval, ⟨.flat 3 _ hp2, T.opnds hvs⟩, ?_⟩
              unfold execOp
              simp only [ho]
              have hr : resolve a.eval ⟨.value f, ⟨as⟩, ts⟩ o.type = pure { target := .fn (.method name) #[], args := (.iface t x :: as.map a.eval).toArray } := by
                unfold resolve
                simp only [e1, Deferred.ofValue, List.map_toArray]
                simp
              rw [hr, Sem.run_bind, Sem.run_pure, Result.andThen_ok]
              have h2 := srun_run hm w
              have h3 : ((.iface t x :: as.map a.eval).toArray : Array Value).extract 1 (as.length + 1) = (as.map a.eval).toArray := by
                have : (as.map a.eval).take as.length = as.map a.eval := List.take_of_length_le (by simp)
                simp [this]
              simp only [invoke, callMethod]
              simp [run_program, h2, h3]
            · cases e
          · cases e
        · cases e
      · cases e
    · cases e
  · rename_i r name as ts ho
    split at e
    · rename_i t x hrv
      rw [cond_eq_ite] at e
      split at e
      · rename_i hp
        split at e
        · rename_i g' x' hm
          rw [cond_eq_ite] at e
          split at e
          · rename_i hp2
            split at e
            · rename_i vs hvs
              cases e
              obtain ⟨y, e1, h1⟩ := (T.opnd hrv).iface_inv
              have e2 := h1.flat_eq 3 hp
              rw [e2] at e1
              refine ⟨x' :: as.map a.eval, ⟨.flat 3 _ hp2, T.opnds hvs⟩, ?_⟩
              unfold execOp
              simp only [ho]
              have hr : resolve a.eval ⟨.invoke r name, ⟨as⟩, ts⟩ o.type = pure { target := .fn (.method name) #[], args := (.iface t x :: as.map a.eval).toArray } := by
                unfold resolve
                simp [e1]
              rw [hr, Sem.run_bind, Sem.run_pure, Result.andThen_ok]
              have h2 := srun_run hm w
              have h3 : ((.iface t x :: as.map a.eval).toArray : Array Value).extract 1 (as.length + 1) = (as.map a.eval).toArray := by
                have : (as.map a.eval).take as.length = as.map a.eval := List.take_of_length_le (by simp)
                simp [this]
              simp only [invoke, callMethod]
              simp [run_program, h2, h3]
            · cases e
          · cases e
        · cases e
      · cases e
    · cases e
  · cases e
theorem callFunc_enter {g : FuncId} {args : Array Value} {fn : Func} (hf : P.funcs[g]? = some fn) (hn : (fn.name == "runtime.NumGoroutine") = false) {c : Code} (hb : fn.body = some c) (w : World) : (callFunc g args).run P w = .ok (.enter g args) w := by
  simp [callFunc, hf, hb]
  simpa using hn
theorem calleeV_ok (T : TRel ρ N tm a) {g : FuncId} {args : List Value} (e : calleeV P tm o = some (g, args)) {fn : Func} (hf : P.funcs[g]? = some fn) (hn : (fn.name == "runtime.NumGoroutine") = false) {c : Code} (hb : fn.body = some c) (w : World) :
    ∃ args', VRels ρ N args args' ∧ (execOp a.eval o).run P w = .ok (.enter g args'.toArray) w := by
  obtain ⟨args', h1, h2⟩ := calleeV_run (P := P) T e w
  exact ⟨args', h1, by rw [h2, callFunc_enter hf hn hb]⟩
/-- a result of a function, read -/
noncomputable def resF (tmps : Array Value) : ResultVar → Sem Value
  | .tmp t => pure (tmps.getD t undef)
  | .cell a t => do loadVar t (← asAddr (tmps.getD a undef))
theorem results_run (R : Rel B ρ s.N s.h.get w) {tm : Tm} : ∀ (l : List ResultVar) {vs : List Value}, TRel ρ s.N tm a → evRes P s tm l = some vs → ∃ vs', VRels ρ s.N vs vs' ∧ (l.mapM (resF a.tmps)).run P w = .ok vs' w
  | [], vs, _, e => by cases e; exact ⟨[], trivial, rfl⟩
  | .cell x t :: l, vs, T, e => by
    simp only [evRes] at e
    split at e
    · rename_i u hu
      split at e
      · rename_i v hv
        split at e
        · rename_i r hr
          cases e
          obtain ⟨vs', h1, h2⟩ := results_run R l T hr
          obtain ⟨u', e1, r1⟩ := T.slot x u hu
          obtain ⟨A, v', e2, e3, e4⟩ := evLoad_var (P := P) R r1 hv
          refine ⟨v' :: vs', ⟨e4, h1⟩, ?_⟩
          have ed : a.tmps.getD x undef = u' := by rw [Array.getD_eq_getD_getElem?, e1]; rfl
          rw [List.mapM_cons, Sem.run_bind]
          show ((do loadVar t (← asAddr (a.tmps.getD x undef)) : Sem Value).run P w).andThen _ = _
          rw [ed, e2, Sem.run_bind]
          show (((loadVar t A).run P w)).andThen _ = _
          rw [e3, Result.andThen_ok, Sem.run_bind, h2]
          rfl
        · cases e
      · cases e
    · cases e
  | .tmp t :: l, vs, T, e => by
    simp only [evRes] at e
    split at e
    · rename_i v hv
      split at e
      · rename_i r hr
        cases e
        obtain ⟨vs', h1, h2⟩ := results_run R l T hr
        obtain ⟨v', e1, r1⟩ := T.slot t v hv
        refine ⟨v' :: vs', ⟨r1, h1⟩, ?_⟩
        have ed : a.tmps.getD t undef = v' := by rw [Array.getD_eq_getD_getElem?, e1]; rfl
        rw [List.mapM_cons, Sem.run_bind]
        show ((pure (a.tmps.getD t undef) : Sem Value).run P w).andThen _ = _
        rw [ed, Sem.run_pure, Result.andThen_ok, Sem.run_bind, h2]
        rfl
      · cases e
    · cases e
theorem results_ok (R : Rel B ρ s.N s.h.get w) {fn : Func} {vs : List Value} (T : TRel ρ s.N tm a) (e : evRes P s tm fn.results.toList = some vs) : ∃ v', VRel ρ s.N (tupleOf vs) v' ∧ (results fn a.tmps).run P w = .ok v' w := by
  obtain ⟨vs', h1, h2⟩ := results_run (P := P) R _ T e
  have hrun : ∃ v', VRel ρ s.N (tupleOf vs) v' ∧ v' = (if h : vs'.toArray.size = 1 then vs'.toArray[0] else .tuple vs'.toArray) := by
    refine ⟨_, ?_, rfl⟩
    cases vs with
    | nil =>
      cases vs' with
      | nil => exact .tuple _ _ rfl (fun i v v' e1 _ => by simp at e1)
      | cons _ _ => exact h1.elim
    | cons v l =>
      cases vs' with
      | nil => exact h1.elim
      | cons v' l' =>
        cases l with
        | nil =>
          cases l' with
          | nil => exact h1.1
          | cons _ _ => exact h1.2.elim
        | cons v2 l2 =>
          cases l' with
          | nil => exact h1.2.elim
          | cons v2' l2' =>
            rw [dif_neg (by simp)]
            exact .tuple _ _ (by have := h1.length; simpa using this) (fun i x x' e1 e2 => h1.at (by simpa using e1) (by simpa using e2))
  obtain ⟨v', hv, he⟩ := hrun
  refine ⟨v', hv, ?_⟩
  have hq : results fn a.tmps = (do let vs ← fn.results.mapM (resF a.tmps); pure (if h : vs.size = 1 then vs[0] else .tuple vs)) := by
    unfold results
    congr 2
  rw [hq, Sem.run_bind, Array.mapM_eq_mapM_toList, Sem.run_map, h2]
  simp only [Result.andThen_ok]
  rw [he]
  rfl
end
end Go.Proofs.Ytlapnehfjklpoaa
