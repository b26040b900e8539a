/- Closed calls by reckoning: the quick form. What it yields is what the slow form yields. -/
import Derived.Test.YtlapnehfjklpoaaEvO
namespace Go.Proofs.Ytlapnehfjklpoaa
open Go.RowKit

/-! views of values -/
noncomputable def onI64 {R : Type} (d : R) (f : Nat → R) (v : Value) : R := @Value.rec (fun _ => R) (fun _ => Unit) (fun _ => Unit) (fun _ => d) (fun k n => @IntKind.rec (fun _ => R) d d d (@Int.rec (fun _ => R) f (fun _ => d) n) d d d d k) (fun _ _ => d) (fun _ _ _ => d) (fun _ => d) (fun _ => d) (fun _ _ _ => d) (fun _ => d) (fun _ => d) (fun _ _ _ _ _ => d) (d) (fun _ _ _ => d) (d) (fun _ _ => d) (fun _ _ => d) (fun _ _ => ()) () (fun _ _ _ _ => ()) v
noncomputable def onIx {R : Type} (d : R) (f : Nat → R) (v : Value) : R := @Value.rec (fun _ => R) (fun _ => Unit) (fun _ => Unit) (fun _ => d) (fun _ n => @Int.rec (fun _ => R) f (fun _ => d) n) (fun _ _ => d) (fun _ _ _ => d) (fun _ => d) (fun _ => d) (fun _ _ _ => d) (fun _ => d) (fun _ => d) (fun _ _ _ _ _ => d) (d) (fun _ _ _ => d) (d) (fun _ _ => d) (fun _ _ => d) (fun _ _ => ()) () (fun _ _ _ _ => ()) v
noncomputable def onPtr {R : Type} (d : R) (f : Nat → Nat → R) (v : Value) : R := @Value.rec (fun _ => R) (fun _ => Unit) (fun _ => Unit) (fun _ => d) (fun _ _ => d) (fun _ _ => d) (fun _ _ _ => d) (fun _ => d) (fun a => @Option.rec Addr (fun _ => R) d (fun x => @Option.rec Nat (fun _ => R) (f x.block x.off) (fun _ => d) x.spot) a) (fun _ _ _ => d) (fun _ => d) (fun _ => d) (fun _ _ _ _ _ => d) (d) (fun _ _ _ => d) (d) (fun _ _ => d) (fun _ _ => d) (fun _ _ => ()) () (fun _ _ _ _ => ()) v
noncomputable def onSl {R : Type} (d : R) (f : Nat → Nat → Nat → Nat → R) (v : Value) : R := @Value.rec (fun _ => R) (fun _ => Unit) (fun _ => Unit) (fun _ => d) (fun _ _ => d) (fun _ _ => d) (fun _ _ _ => d) (fun _ => d) (fun _ => d) (fun a n c => @Option.rec Addr (fun _ => R) d (fun x => @Option.rec Nat (fun _ => R) (f x.block x.off n c) (fun _ => d) x.spot) a) (fun _ => d) (fun _ => d) (fun _ _ _ _ _ => d) (d) (fun _ _ _ => d) (d) (fun _ _ => d) (fun _ _ => d) (fun _ _ => ()) () (fun _ _ _ _ => ()) v
noncomputable def onBl {R : Type} (d : R) (f : Bool → R) (v : Value) : R := @Value.rec (fun _ => R) (fun _ => Unit) (fun _ => Unit) (fun b => f b) (fun _ _ => d) (fun _ _ => d) (fun _ _ _ => d) (fun _ => d) (fun _ => d) (fun _ _ _ => d) (fun _ => d) (fun _ => d) (fun _ _ _ _ _ => d) (d) (fun _ _ _ => d) (d) (fun _ _ => d) (fun _ _ => d) (fun _ _ => ()) () (fun _ _ _ _ => ()) v
noncomputable def onAg {R : Type} (d : R) (f : Array Value → R) (v : Value) : R := @Value.rec (fun _ => R) (fun _ => Unit) (fun _ => Unit) (fun _ => d) (fun _ _ => d) (fun _ _ => d) (fun _ _ _ => d) (fun _ => d) (fun _ => d) (fun _ _ _ => d) (fun _ => d) (fun _ => d) (fun _ _ _ _ _ => d) (d) (fun _ _ _ => d) (d) (fun cs _ => f cs) (fun _ _ => d) (fun _ _ => ()) () (fun _ _ _ _ => ()) v
noncomputable def onTu {R : Type} (d : R) (f : Array Value → R) (v : Value) : R := @Value.rec (fun _ => R) (fun _ => Unit) (fun _ => Unit) (fun _ => d) (fun _ _ => d) (fun _ _ => d) (fun _ _ _ => d) (fun _ => d) (fun _ => d) (fun _ _ _ => d) (fun _ => d) (fun _ => d) (fun _ _ _ _ _ => d) (d) (fun _ _ _ => d) (d) (fun _ _ => d) (fun cs _ => f cs) (fun _ _ => ()) () (fun _ _ _ _ => ()) v
noncomputable def onFu {R : Type} (d : R) (f : FuncId → Array Value → Array Value → R) (y : Nat → R) (v : Value) : R := @Value.rec (fun _ => R) (fun _ => Unit) (fun _ => Unit) (fun _ => d) (fun _ _ => d) (fun _ _ => d) (fun _ _ _ => d) (fun _ => d) (fun _ => d) (fun _ _ _ => d) (fun _ => d) (fun _ => d) (fun fn a b _ _ => @Fn.rec (fun _ => R) (fun g => f g a b) (fun _ => d) (fun _ _ => d) (fun _ _ _ _ => d) (fun l => y l) fn) (d) (fun _ _ _ => d) (d) (fun _ _ => d) (fun _ _ => d) (fun _ _ => ()) () (fun _ _ _ _ => ()) v
noncomputable def plainV (v : Value) : Bool := @Value.rec (fun _ => Bool) (fun _ => Unit) (fun _ => Unit) (fun _ => true) (fun _ _ => true) (fun _ _ => true) (fun _ _ _ => true) (fun _ => true) (fun _ => true) (fun _ _ _ => true) (fun _ => true) (fun _ => true) (fun _ _ _ _ _ => true) (true) (fun _ _ _ => true) (true) (fun _ _ => false) (fun _ _ => false) (fun _ _ => ()) () (fun _ _ _ _ => ()) v

theorem onI64_out {R : Type} {d : R} {f : Nat → R} (v : Value) : onI64 d f v = (match v with | .int .i64 (.ofNat n) => f n | _ => d) := by
  cases v <;> try rfl
  rename_i k n; cases k <;> cases n <;> rfl
theorem onIx_out {R : Type} {d : R} {f : Nat → R} (v : Value) : onIx d f v = (match v with | .int _ (.ofNat n) => f n | _ => d) := by
  cases v <;> try rfl
  rename_i k n; cases n <;> rfl
theorem onPtr_out {R : Type} {d : R} {f : Nat → Nat → R} (v : Value) : onPtr d f v = (match v with | .pointer (some ⟨i, o, none⟩) => f i o | _ => d) := by
  cases v <;> try rfl
  rename_i a; rcases a with _ | ⟨i, o, _ | _⟩ <;> rfl
theorem onSl_out {R : Type} {d : R} {f : Nat → Nat → Nat → Nat → R} (v : Value) : onSl d f v = (match v with | .slice (some ⟨i, o, none⟩) n c => f i o n c | _ => d) := by
  cases v <;> try rfl
  rename_i a n c; rcases a with _ | ⟨i, o, _ | _⟩ <;> rfl
theorem onFu_out {R : Type} {d : R} {f : FuncId → Array Value → Array Value → R} {y : Nat → R} (v : Value) : onFu d f y v = (match v with | .func (.func g) a b => f g a b | .func (.yield l) _ _ => y l | _ => d) := by
  cases v <;> try rfl
  rename_i fn a b; cases fn <;> rfl
theorem onTu_out {R : Type} {d : R} {f : Array Value → R} (v : Value) : onTu d f v = (match v with | .tuple cs => f cs | _ => d) := by cases v <;> rfl
theorem onAg_out {R : Type} {d : R} {f : Array Value → R} (v : Value) : onAg d f v = (match v with | .agg cs => f cs | _ => d) := by cases v <;> rfl
theorem onBl_out {R : Type} {d : R} {f : Bool → R} (v : Value) : onBl d f v = (match v with | .bool b => f b | _ => d) := by cases v <;> rfl

/-! lists -/
noncomputable def nthF {α : Type} (l : List α) : Nat → Option α := @List.rec α (fun _ => Nat → Option α) (fun _ => none) (fun x _ ih k => @Nat.rec (fun _ => Option α) (some x) (fun m _ => ih m) k) l
theorem nthF_eq {α : Type} : ∀ (l : List α) (k : Nat), nthF l k = l[k]?
  | [], k => by simp; rfl
  | x :: l, 0 => rfl
  | x :: l, k + 1 => by rw [List.getElem?_cons_succ]; exact nthF_eq l k
noncomputable def trF (l : List Value) : Tr Value → Nat → Option (Tr Value) := @List.rec Value (fun _ => Tr Value → Nat → Option (Tr Value)) (fun t _ => some t) (fun v _ ih t k => seqT (t.ins (some v) k) fun t' => ih t' (Nat.succ k)) l
theorem trF_eq : ∀ (l : List Value) (t : Tr Value) (k : Nat), trF l t k = trOf t k l
  | [], t, k => rfl
  | v :: l, t, k => by
    show seqT (t.ins (some v) k) (fun t' => trF l t' (k + 1)) = (match Tr.put 32 t k (some v) with | some t' => trOf t' (k + 1) l | none => none)
    unfold Tr.put
    rw [seqT_eq, seqT_eq]
    exact trF_eq l _ _

/-! operands and slots -/
noncomputable def opndF (tm : Tm) (x : Operand) : Option Value := @Operand.rec (fun _ => Option Value) (fun t => tm.t.get t) (fun v => @Bool.rec (fun _ => Option Value) none (some v) (pureV 3 v)) (fun _ => none) (fun f => some (.func (.func f) #[] #[])) x
theorem opndF_eq (tm : Tm) (x : Operand) : opndF tm x = opnd tm x := by
  cases x with
  | const v => show @Bool.rec (fun _ => Option Value) none (some v) (pureV 3 v) = bif pureV 3 v then some v else none; cases pureV 3 v <;> rfl
  | _ => rfl
noncomputable def opndsF (tm : Tm) (l : List Operand) : Option (List Value) := @List.rec Operand (fun _ => Option (List Value)) (some []) (fun x _ ih => @Option.rec Value (fun _ => Option (List Value)) none (fun v => @Option.rec (List Value) (fun _ => Option (List Value)) none (fun r => some (v :: r)) ih) (opndF tm x)) l
theorem opndsF_eq (tm : Tm) : ∀ (l : List Operand), opndsF tm l = opnds tm l
  | [] => rfl
  | x :: l => by
    show @Option.rec Value (fun _ => Option (List Value)) none (fun v => @Option.rec (List Value) (fun _ => Option (List Value)) none (fun r => some (v :: r)) (opndsF tm l)) (opndF tm x) = _
    rw [opndF_eq, opndsF_eq tm l]
    simp only [opnds]
    cases opnd tm x <;> try rfl
    cases opnds tm l <;> rfl
noncomputable def putF (tm : Tm) (dst : Option Tmp) (v : Value) : Option Tm := @Tm.rec (fun _ => Option Tm) (fun t n ds => @Option.rec Tmp (fun _ => Option Tm) (some ⟨t, n, ds⟩) (fun d => @Bool.rec (fun _ => Option Tm) none (seqT (t.ins (some v) d) fun t' => some ⟨t', n, ds⟩) (Nat.ble (Nat.succ d) n)) dst) tm
theorem putF_eq (tm : Tm) (dst : Option Tmp) (v : Value) : putF tm dst v = tm.put dst v := by
  obtain ⟨t, n, ds⟩ := tm
  cases dst with
  | none => rfl
  | some d =>
    show @Bool.rec (fun _ => Option Tm) none (seqT (t.ins (some v) d) fun t' => some ⟨t', n, ds⟩) (d.blt n) = bif d.blt n then (match seqT (t.ins (some v) d) some with | some t' => some ⟨t', n, ds⟩ | none => none) else none
    rw [seqT_eq, seqT_eq]
    cases d.blt n <;> rfl
/-- where the test of a guard lies -/
noncomputable def gdst (all : List Oper) (j : Nat) : Option Tmp := match all[j]? with | some oj => oj.dst | none => none
noncomputable def wantV (want : Bool) (v : Value) : Option Bool := @Value.rec (fun _ => Option Bool) (fun _ => Unit) (fun _ => Unit) (fun b => some (@Bool.rec (fun _ => Bool) (@Bool.rec (fun _ => Bool) true false want) want b)) (fun _ _ => none) (fun _ _ => none) (fun _ _ _ => none) (fun _ => none) (fun _ => none) (fun _ _ _ => none) (fun _ => none) (fun _ => none) (fun _ _ _ _ _ => none) (none) (fun _ _ _ => none) (none) (fun _ _ => none) (fun _ _ => some false) (fun _ _ => ()) () (fun _ _ _ _ => ()) v
noncomputable def wantF (all : List Oper) (tm : Tm) (o : Oper) : Option Bool := @Option.rec (Nat × Bool) (fun _ => Option Bool) (some true) (fun g => @Option.rec Tmp (fun _ => Option Bool) none (fun d => @Option.rec Value (fun _ => Option Bool) none (wantV g.2) (tm.t.get d)) (gdst all g.1)) o.guard
theorem wantF_eq (all : List Oper) (tm : Tm) (o : Oper) : wantF all tm o = wantedV all tm o := by
  unfold wantF wantedV gdst
  cases h : o.guard with
  | none => rfl
  | some g =>
    obtain ⟨j, want⟩ := g
    simp only
    cases all[j]? with
    | none => rfl
    | some oj =>
      simp only
      cases oj.dst with
      | none => rfl
      | some d =>
        simp only
        cases tm.t.get d with
        | none => rfl
        | some v =>
          cases v <;> try rfl
          rename_i b
          cases b <;> cases want <;> rfl

/-! what a type says, once and for all -/
noncomputable def slSz (P : Program) (t : TypeId) : Option Nat := match P.underlying t with | some (.slice el) => size? P el | _ => none
def isSlT (P : Program) (t : TypeId) : Bool := match P.underlying t with | some (.slice _) => true | _ => false
def fldT (P : Program) (t : TypeId) (f : Nat) : Option (TypeId × Nat) := match P.underlying t with | some (.struct fs) => (match fs[f]? with | some fd => some (fd.type, fd.offset) | none => none) | _ => none
noncomputable def fldA (P : Program) (t : TypeId) (f : Nat) : Option Nat := match P.underlying t with | some (.struct fs) => (match fs[f]? with | some fd => (match size? P fd.type with | some (_ + 1) => some fd.offset | _ => none) | none => none) | _ => none
def fnOf (P : Program) (f : FuncId) : Option (Code × Nat × List ResultVar) := match P.funcs[f]? with
  | some fn => bif fn.name == "runtime.NumGoroutine" then none else (match fn.body with | some c => some (c, fn.ntmps, fn.results.toList) | none => none)
  | none => none

/-! single operations -/
abbrev R2 := Option (Value × St)
noncomputable def addN (a b : Nat) : Option Value := @Bool.rec (fun _ => Option Value) none (some (.int .i64 (.ofNat (Nat.add a b)))) (Nat.ble (Nat.succ (Nat.add a b)) 9223372036854775808)
noncomputable def subN (a b : Nat) : Option Value := @Bool.rec (fun _ => Option Value) none (@Bool.rec (fun _ => Option Value) none (some (.int .i64 (.ofNat (Nat.sub a b)))) (Nat.ble (Nat.succ a) 9223372036854775808)) (Nat.ble b a)
noncomputable def mulN (a b : Nat) : Option Value := @Bool.rec (fun _ => Option Value) none (some (.int .i64 (.ofNat (Nat.mul a b)))) (Nat.ble (Nat.succ (Nat.mul a b)) 9223372036854775808)
noncomputable def noN (_ _ : Nat) : Option Value := none
noncomputable def quoN (a b : Nat) : Option Value := @Nat.rec (fun _ => Option Value) none (fun _ _ => @Bool.rec (fun _ => Option Value) none (some (.int .i64 (.ofNat (Nat.div a b)))) (Nat.ble (Nat.succ a) 9223372036854775808)) b
noncomputable def remN (a b : Nat) : Option Value := @Nat.rec (fun _ => Option Value) none (fun _ _ => some (.int .i64 (.ofNat (Nat.mod a b)))) b
noncomputable def eqlN (a b : Nat) : Option Value := some (.bool (Nat.beq a b))
noncomputable def neqN (a b : Nat) : Option Value := some (.bool (@Bool.rec (fun _ => Bool) true false (Nat.beq a b)))
noncomputable def lssN (a b : Nat) : Option Value := some (.bool (Nat.ble (Nat.succ a) b))
noncomputable def leqN (a b : Nat) : Option Value := some (.bool (Nat.ble a b))
noncomputable def gtrN (a b : Nat) : Option Value := some (.bool (Nat.ble (Nat.succ b) a))
noncomputable def geqN (a b : Nat) : Option Value := some (.bool (Nat.ble b a))
noncomputable def arN (op : BinOp) : Nat → Nat → Option Value := @BinOp.rec (fun _ => Nat → Nat → Option Value) addN subN mulN quoN remN noN noN noN noN noN noN eqlN neqN lssN leqN gtrN geqN op
noncomputable def binF (P : Program) (op : BinOp) (t : TypeId) (x y : Operand) (tm : Tm) : Option Value :=
  @Option.rec Value (fun _ => Option Value) (evBin P op t x y tm) (fun u => onI64 (evBin P op t x y tm) (fun a => @Option.rec Value (fun _ => Option Value) (evBin P op t x y tm) (fun v => onI64 (evBin P op t x y tm) (fun b => @Option.rec Value (fun _ => Option Value) (evBin P op t x y tm) some (arN op a b)) v) (opndF tm y)) u) (opndF tm x)
theorem srun_quo {P : Program} (a b : Nat) (ha : a < 9223372036854775808) (t : TypeId) (x y : Operand) : srun P (do eqGuard .quo t x y (.int .i64 (.ofNat a)) (.int .i64 (.ofNat (b + 1))); binOp .quo t (.int .i64 (.ofNat a)) (.int .i64 (.ofNat (b + 1)))) = some (.int .i64 (.ofNat (a / (b + 1)))) := by
  show srun P (Op.intDiv .quo .i64 (Int.ofNat a) (Int.ofNat (b + 1))) = _
  unfold Op.intDiv
  rw [if_neg (show ¬ Int.ofNat (b + 1) = 0 by simp; omega)]
  show some (Value.int .i64 (IntKind.i64.wrap ((Int.ofNat a).tdiv (Int.ofNat (b + 1))))) = _
  have h : IntKind.i64.wrap ((Int.ofNat a).tdiv (Int.ofNat (b + 1))) = Int.ofNat (a / (b + 1)) := by
    have h1 : a / (b + 1) ≤ a := Nat.div_le_self _ _
    show IntKind.i64.wrap (Int.ofNat (a / (b + 1))) = _
    rw [IntKind.wrap_i64]
    show _ = ((a / (b + 1) : Nat) : Int)
    have h2 : Int.ofNat (a / (b + 1)) = ((a / (b + 1) : Nat) : Int) := rfl
    rw [h2]
    generalize a / (b + 1) = q at h1
    omega
  rw [h]
theorem srun_rem {P : Program} (a b : Nat) (t : TypeId) (x y : Operand) : srun P (do eqGuard .rem t x y (.int .i64 (.ofNat a)) (.int .i64 (.ofNat (b + 1))); binOp .rem t (.int .i64 (.ofNat a)) (.int .i64 (.ofNat (b + 1)))) = some (.int .i64 (.ofNat (a % (b + 1)))) := by
  show srun P (Op.intDiv .rem .i64 (Int.ofNat a) (Int.ofNat (b + 1))) = _
  unfold Op.intDiv
  rw [if_neg (show ¬ Int.ofNat (b + 1) = 0 by simp; omega)]
  rfl
theorem boolRec_cond {α : Type} (b : Bool) (x y : α) : @Bool.rec (fun _ => α) y x b = bif b then x else y := by cases b <;> rfl
theorem arN_ok {P : Program} {op : BinOp} {t : TypeId} {x y : Operand} {tm : Tm} {a b : Nat} {v : Value} (hx : opnd tm x = some (.int .i64 (.ofNat a))) (hy : opnd tm y = some (.int .i64 (.ofNat b))) (h : arN op a b = some v) : evBin P op t x y tm = some v := by
  have slow : ∀ r, fastI op a b = none → srun P (do eqGuard op t x y (.int .i64 (.ofNat a)) (.int .i64 (.ofNat b)); binOp op t (.int .i64 (.ofNat a)) (.int .i64 (.ofNat b))) = some r → pureV 3 r = true → evBin P op t x y tm = some r := by
    intro r h1 h2 h3
    unfold evBin
    simp only [hx, hy, h1]
    unfold evBin0 flatO
    simp only [hx, hy]
    show pureR (srun P _) = _
    rw [h2]
    show (bif pureV 3 r then some r else none) = _
    rw [h3]; rfl
  have quick : fastI op a b = some v → evBin P op t x y tm = some v := by
    intro h1
    unfold evBin
    simp only [hx, hy, h1]
  cases op
  case add => exact quick (by show (bif _ then _ else _) = _; rw [← boolRec_cond]; exact h)
  case sub =>
    refine quick ?_
    have h : @Bool.rec (fun _ => Option Value) none (@Bool.rec (fun _ => Option Value) none (some (.int .i64 (.ofNat (Nat.sub a b)))) (a.blt 9223372036854775808)) (b.ble a) = some v := h
    show (bif b.ble a && a.blt 9223372036854775808 then some (Value.int .i64 (.ofNat (a - b))) else none) = _
    cases h1 : b.ble a <;> cases h2 : a.blt 9223372036854775808 <;> rw [h1] at h <;> (try rw [h2] at h) <;> first | exact h | cases h
  case mul => exact quick (by show (bif _ then _ else _) = _; rw [← boolRec_cond]; exact h)
  case quo =>
    cases b with
    | zero => cases h
    | succ b =>
      have h : @Bool.rec (fun _ => Option Value) none (some (.int .i64 (.ofNat (a / (b + 1))))) (a.blt 9223372036854775808) = some v := h
      cases hb : a.blt 9223372036854775808 with
      | false => rw [hb] at h; cases h
      | true =>
        rw [hb] at h
        rw [Nat.blt_eq] at hb
        cases h
        exact slow _ rfl (srun_quo a b hb t x y) rfl
  case rem =>
    cases b with
    | zero => cases h
    | succ b =>
      cases h
      exact slow _ rfl (srun_rem a b t x y) rfl
  case eql => exact quick h
  case neq =>
    refine quick ?_
    show some (Value.bool (!a.beq b)) = _
    have h : some (Value.bool (@Bool.rec (fun _ => Bool) true false (a.beq b))) = some v := h
    rw [← h]
    cases a.beq b <;> rfl
  case lss => exact quick h
  case leq => exact quick h
  case gtr => exact quick h
  case geq => exact quick h
  all_goals cases h
theorem binF_eq (P : Program) (op : BinOp) (t : TypeId) (x y : Operand) (tm : Tm) : binF P op t x y tm = evBin P op t x y tm := by
  unfold binF
  rw [opndF_eq, opndF_eq]
  cases hx : opnd tm x with
  | none => rfl
  | some u =>
    show onI64 _ _ u = _
    rw [onI64_out]
    split
    · rename_i a
      cases hy : opnd tm y with
      | none => rfl
      | some v =>
        show onI64 _ _ v = _
        rw [onI64_out]
        split
        · rename_i b
          cases ha : arN op a b with
          | none => rfl
          | some r => exact (arN_ok hx hy ha).symm
        · rfl
    · rfl

/-! reading and writing -/
noncomputable def cgF {R : Type} (s : St) (id : Nat) (d : R) (f : Blk → R) : R := @Option.rec Blk (fun _ => R) d (fun b => @Kind.rec (fun _ => R) (f b) (fun _ => d) d (fun _ _ => d) (fun _ _ => d) b.k) (s.h.get id)
theorem cgF_eq {R : Type} (s : St) (id : Nat) (d : R) (f : Blk → R) : cgF s id d f = (match cget s id with | some b => f b | none => d) := by
  unfold cgF cget
  cases s.h.get id with
  | none => rfl
  | some b =>
    show @Kind.rec (fun _ => R) (f b) (fun _ => d) d (fun _ _ => d) (fun _ _ => d) b.k = _
    cases h : b.k <;> simp only [h]
noncomputable def loadF (P : Program) (s : St) (t : TypeId) (x : Value) : Option Value :=
  onPtr none (fun id off => @Option.rec Bool (fun _ => Option Value) none (fun ag => @Bool.rec (fun _ => Option Value) (cgF s id none fun b => @Bool.rec (fun _ => Option Value) none (b.cs.get off) (Nat.ble (Nat.succ off) b.n)) (evLoad P s t x) ag) (isAgg? P t)) x
theorem loadF_eq (P : Program) (s : St) (t : TypeId) (x : Value) : loadF P s t x = evLoad P s t x := by
  unfold loadF
  rw [onPtr_out]
  split
  · rename_i id off
    cases h : isAgg? P t with
    | none =>
      unfold evLoad
      simp only [h]
      cases cget s id <;> rfl
    | some ag =>
      cases ag with
      | true => rfl
      | false =>
        show cgF s id none _ = _
        rw [cgF_eq]
        unfold evLoad
        simp only [h]
        cases cget s id with
        | none => rfl
        | some b =>
          simp only [rd]
          show @Bool.rec (fun _ => Option Value) none (b.cs.get off) (off.blt b.n) = _
          cases off.blt b.n with
          | false => rfl
          | true => simp only [cond_true]; cases b.cs.get off <;> rfl
  · rename_i h
    unfold evLoad
    split
    · rename_i id off
      exact absurd rfl (h id off)
    · rfl
noncomputable def storeF (P : Program) (s : St) (t : TypeId) (x v : Value) : Option St :=
  @Bool.rec (fun _ => Option St) (evStore P s t x v) (onPtr none (fun id off => @Option.rec Nat (fun _ => Option St) none (fun n => @Bool.rec (fun _ => Option St) none (cgF s id none fun b => @Bool.rec (fun _ => Option St) none (@Blk.rec (fun _ => Option St) (fun bn bz bex bel bcs bk => @St.rec (fun _ => Option St) (fun sh sN sW => seqT (bcs.ins (some v) off) fun t => seqT (sh.ins (some ⟨bn, bz, bex, bel, t, bk⟩) id) fun h => some ⟨h, sN, id :: sW⟩) s) b) (Nat.ble (Nat.succ off) b.n)) (Nat.beq n 1)) (size? P t)) x) (plainV v)
theorem plainV_ok {v : Value} (h : plainV v = true) : v.cells = #[v] ∧ v.oneCell' = true := by
  cases v <;> first | exact ⟨rfl, rfl⟩ | cases h
theorem storeF_eq (P : Program) (s : St) (t : TypeId) (x v : Value) : storeF P s t x v = evStore P s t x v := by
  unfold storeF
  cases hp : plainV v with
  | false => rfl
  | true =>
    obtain ⟨h1, h2⟩ := plainV_ok hp
    show onPtr _ _ x = _
    rw [onPtr_out]
    split
    · rename_i id off
      unfold evStore
      simp only [h1]
      cases hs : size? P t with
      | none => cases cget s id <;> rfl
      | some n =>
        show @Bool.rec (fun _ => Option St) none _ (n.beq 1) = _
        rw [cgF_eq]
        cases cget s id with
        | none => cases n.beq 1 <;> rfl
        | some b =>
          simp only
          show _ = bif n.beq 1 then _ else _
          cases n.beq 1 with
          | false => rfl
          | true =>
            simp only [cond_true]
            show @Bool.rec (fun _ => Option St) none _ (off.blt b.n) = (match (bif off.blt b.n && v.oneCell' then _ else none : Option (Tr Value)) with | some t => _ | none => none)
            rw [h2]
            cases off.blt b.n with
            | false => rfl
            | true =>
              obtain ⟨bn, bz, bex, bel, bcs, bk⟩ := b
              obtain ⟨sh, sN, sW⟩ := s
              unfold Tr.put
              simp only [seqT_eq]
              rfl
    · rename_i h
      unfold evStore
      split
      · rename_i id off
        exact absurd rfl (h id off)
      · rfl
/-! addresses and parts -/
noncomputable def ixaF (P : Program) (t : TypeId) (u i : Value) : Option Value :=
  onSl (evIndexAddr P t u i) (fun id off n _ => @Option.rec Nat (fun _ => Option Value) none (fun z => onIx none (fun k => @Bool.rec (fun _ => Option Value) none (some (.pointer (some ⟨id, Nat.add off (Nat.mul k z), none⟩))) (Nat.ble (Nat.succ k) n)) i) (slSz P t)) u
theorem ixaF_eq (P : Program) (t : TypeId) (u i : Value) : ixaF P t u i = evIndexAddr P t u i := by
  unfold ixaF
  rw [onSl_out]
  split
  · rename_i id off n c
    unfold slSz evIndexAddr
    cases hu : P.underlying t with
    | none => rfl
    | some d =>
      cases d <;> try rfl
      rename_i el
      simp only
      cases hz : size? P el with
      | none =>
        cases i <;> try rfl
        rename_i kk k
        cases k with
        | ofNat k => simp only [hz]; cases k.blt n <;> rfl
        | negSucc k => rfl
      | some z =>
        show onIx _ _ i = _
        rw [onIx_out]
        cases i <;> try rfl
        rename_i kk k
        cases k with
        | ofNat k => simp only [hz]; show @Bool.rec (fun _ => Option Value) none _ (k.blt n) = _; cases k.blt n <;> rfl
        | negSucc k => rfl
  · rfl
noncomputable def fdaF (P : Program) (t : TypeId) (u : Value) (f : Nat) : Option Value :=
  onPtr (evFieldAddr P t u f) (fun id off => @Option.rec Nat (fun _ => Option Value) none (fun o => some (.pointer (some ⟨id, Nat.add off o, none⟩))) (fldA P t f)) u
theorem fdaF_eq (P : Program) (t : TypeId) (u : Value) (f : Nat) : fdaF P t u f = evFieldAddr P t u f := by
  unfold fdaF
  rw [onPtr_out]
  split
  · rename_i id off
    unfold fldA evFieldAddr
    cases hu : P.underlying t with
    | none => rfl
    | some d =>
      cases d <;> try rfl
      rename_i fs
      simp only
      cases fs[f]? with
      | none => rfl
      | some fd =>
        simp only
        cases size? P fd.type with
        | none => rfl
        | some z => cases z <;> rfl
  · rfl
noncomputable def partF (P : Program) (t : TypeId) (cs : Array Value) (off : Nat) : Option Value :=
  @Option.rec Bool (fun _ => Option Value) none (fun ag => @Bool.rec (fun _ => Option Value) (nthF cs.toList off) (vpart P t cs off) ag) (isAgg? P t)
theorem partF_eq (P : Program) (t : TypeId) (cs : Array Value) (off : Nat) : partF P t cs off = vpart P t cs off := by
  unfold partF
  cases h : isAgg? P t with
  | none => unfold vpart; rw [h]
  | some ag =>
    cases ag with
    | true => rfl
    | false =>
      show nthF cs.toList off = _
      unfold vpart
      rw [h, nthF_eq]
      simp
noncomputable def fldF (P : Program) (t : TypeId) (x : Value) (f : Nat) : Option Value :=
  onAg (evField P t x f) (fun cs => @Option.rec (TypeId × Nat) (fun _ => Option Value) none (fun p => partF P p.1 cs p.2) (fldT P t f)) x
theorem fldF_eq (P : Program) (t : TypeId) (x : Value) (f : Nat) : fldF P t x f = evField P t x f := by
  unfold fldF
  rw [onAg_out]
  split
  · rename_i cs
    unfold fldT evField
    cases hu : P.underlying t with
    | none => rfl
    | some d =>
      cases d <;> try rfl
      rename_i fs
      simp only
      cases fs[f]? with
      | none => rfl
      | some fd => exact partF_eq P _ _ _
  · rfl
noncomputable def extF (x : Value) (i : Nat) : Option Value := onTu none (fun vs => nthF vs.toList i) x
theorem extF_eq (x : Value) (i : Nat) : extF x i = evExtract x i := by
  cases x <;> try rfl
  rename_i vs
  show nthF vs.toList i = vs[i]?
  rw [nthF_eq]; simp
noncomputable def lenF (P : Program) (t : TypeId) (x : Value) : Option Value := onSl (evLen P t x) (fun _ _ n _ => @Bool.rec (fun _ => Option Value) (evLen P t x) (some (.int .i64 (.ofNat n))) (isSlT P t)) x
theorem lenF_eq (P : Program) (t : TypeId) (x : Value) : lenF P t x = evLen P t x := by
  unfold lenF
  rw [onSl_out]
  split
  · rename_i id off n c
    unfold isSlT
    split
    · rename_i el hu
      unfold evLen
      rw [hu]; rfl
    · rfl
  · rfl

/-! one operation -/
noncomputable def slowA (P : Program) (tm : Tm) (s : St) (o : Oper) : Option (Value × St) := evOp P tm s o
noncomputable def movA (x : Operand) (tm : Tm) (s : St) (_ : Oper) : Option (Value × St) := @Option.rec Value (fun _ => Option (Value × St)) none (fun v => some (v, s)) (opndF tm x)
noncomputable def pickA (c x y : Operand) (tm : Tm) (s : St) (o : Oper) : Option (Value × St) := @Option.rec Value (fun _ => Option (Value × St)) none (fun u => onBl none (fun b => @Bool.rec (fun _ => Option (Value × St)) (movA y tm s o) (movA x tm s o) b) u) (opndF tm c)
noncomputable def loadA (P : Program) (t : TypeId) (x : Operand) (tm : Tm) (s : St) (_ : Oper) : Option (Value × St) := @Option.rec Value (fun _ => Option (Value × St)) none (fun u => @Option.rec Value (fun _ => Option (Value × St)) none (fun v => some (v, s)) (loadF P s t u)) (opndF tm x)
noncomputable def storeA (P : Program) (t : TypeId) (x y : Operand) (tm : Tm) (s : St) (_ : Oper) : Option (Value × St) := @Option.rec Value (fun _ => Option (Value × St)) none (fun u => @Option.rec Value (fun _ => Option (Value × St)) none (fun v => @Option.rec St (fun _ => Option (Value × St)) none (fun s' => some (undef, s')) (storeF P s t u v)) (opndF tm y)) (opndF tm x)
noncomputable def binA (P : Program) (op : BinOp) (t : TypeId) (x y : Operand) (_ : TypeId) (tm : Tm) (s : St) (_ : Oper) : Option (Value × St) := @Option.rec Value (fun _ => Option (Value × St)) none (fun v => some (v, s)) (binF P op t x y tm)
noncomputable def isNotU (op : UnOp) : Bool := @UnOp.rec (fun _ => Bool) false false true false op
noncomputable def unA (P : Program) (op : UnOp) (_ : TypeId) (x : Operand) (tm : Tm) (s : St) (o : Oper) : Option (Value × St) := @Bool.rec (fun _ => Option (Value × St)) (evOp P tm s o) (@Option.rec Value (fun _ => Option (Value × St)) none (fun u => onBl (evOp P tm s o) (fun b => some (.bool (@Bool.rec (fun _ => Bool) true false b), s)) u) (opndF tm x)) (isNotU op)
noncomputable def fdaA (P : Program) (t : TypeId) (x : Operand) (f : Nat) (tm : Tm) (s : St) (_ : Oper) : Option (Value × St) := @Option.rec Value (fun _ => Option (Value × St)) none (fun u => @Option.rec Value (fun _ => Option (Value × St)) none (fun v => some (v, s)) (fdaF P t u f)) (opndF tm x)
noncomputable def fldA2 (P : Program) (t : TypeId) (x : Operand) (f : Nat) (tm : Tm) (s : St) (_ : Oper) : Option (Value × St) := @Option.rec Value (fun _ => Option (Value × St)) none (fun u => @Option.rec Value (fun _ => Option (Value × St)) none (fun v => some (v, s)) (fldF P t u f)) (opndF tm x)
noncomputable def ixaA (P : Program) (t : TypeId) (x y : Operand) (tm : Tm) (s : St) (_ : Oper) : Option (Value × St) := @Option.rec Value (fun _ => Option (Value × St)) none (fun u => @Option.rec Value (fun _ => Option (Value × St)) none (fun i => @Option.rec Value (fun _ => Option (Value × St)) none (fun v => some (v, s)) (ixaF P t u i)) (opndF tm y)) (opndF tm x)
noncomputable def extA (x : Operand) (i : Nat) (tm : Tm) (s : St) (_ : Oper) : Option (Value × St) := @Option.rec Value (fun _ => Option (Value × St)) none (fun u => @Option.rec Value (fun _ => Option (Value × St)) none (fun v => some (v, s)) (extF u i)) (opndF tm x)
noncomputable def oneZ (P : Program) (t : TypeId) : Option (TypeId × Nat × Value) := match P.underlying t with
  | some (.slice elem) => (match P.info? elem with
    | some i => (match i.zero with | some z => bif i.size.beq 1 && plainV z && pureV 3 z then some (elem, i.bytes, z) else none | none => none)
    | none => none)
  | _ => none
noncomputable def repV (z : Value) (n : Nat) : List Value := @Nat.rec (fun _ => List Value) [] (fun _ ih => z :: ih) n
noncomputable def newF (s : St) (cells : List Value) (n : Nat) (elem : TypeId) : Option St :=
  @Option.rec (Tr Value) (fun _ => Option St) none (fun t => @St.rec (fun _ => Option St) (fun sh sN sW => seqT (sh.ins (some ⟨n, 1, true, elem, t, .cells⟩) sN) fun h => some ⟨h, Nat.succ sN, sW⟩) s) (trF cells .nil 0)
noncomputable def mkF (P : Program) (s : St) (t : TypeId) (l c : Value) : Option (Value × St) :=
  @Option.rec (TypeId × Nat × Value) (fun _ => Option (Value × St)) (evMake P s t l c) (fun q => onIx (evMake P s t l c) (fun n => onIx (evMake P s t l c) (fun m => @Bool.rec (fun _ => Option (Value × St)) none (@Option.rec St (fun _ => Option (Value × St)) none (fun s' => some (.slice (some ⟨s.N, 0, none⟩) n m, s')) (newF s (repV q.2.2 m) m q.1)) (n.ble m && m.ble 1000000 && (q.2.1 * m).ble 281474976710656)) c) l) (oneZ P t)
noncomputable def mkA (P : Program) (t : TypeId) (x y : Operand) (tm : Tm) (s : St) (_ : Oper) : Option (Value × St) := @Option.rec Value (fun _ => Option (Value × St)) none (fun u => @Option.rec Value (fun _ => Option (Value × St)) none (fun v => mkF P s t u v) (opndF tm y)) (opndF tm x)
noncomputable def isLen (b : Builtin) : Bool := @Builtin.rec (fun _ => Bool) false false false false false false false false true false false false false false false false false false false false false false false false false false b
noncomputable def lenA (P : Program) (c : Call) (tm : Tm) (s : St) (o : Oper) : Option (Value × St) :=
  @List.rec Operand (fun _ => Option (Value × St)) (evOp P tm s o) (fun x l _ => @List.rec Operand (fun _ => Option (Value × St)) (@List.rec TypeId (fun _ => Option (Value × St)) (evOp P tm s o) (fun t l2 _ => @List.rec TypeId (fun _ => Option (Value × St)) (@Option.rec Value (fun _ => Option (Value × St)) none (fun u => @Option.rec Value (fun _ => Option (Value × St)) (evOp P tm s o) (fun v => some (v, s)) (lenF P t u)) (opndF tm x)) (fun _ _ _ => evOp P tm s o) l2) c.argTypes.toList) (fun _ _ _ => evOp P tm s o) l) c.args.toList
noncomputable def callA (P : Program) (c : Call) (tm : Tm) (s : St) (o : Oper) : Option (Value × St) := @Callee.rec (fun _ => Option (Value × St)) (fun _ => evOp P tm s o) (fun _ _ => evOp P tm s o) (fun b => @Bool.rec (fun _ => Option (Value × St)) (evOp P tm s o) (lenA P c tm s o) (isLen b)) c.callee
noncomputable def opF (P : Program) (tm : Tm) (s : St) (o : Oper) : Option (Value × St) := @Op.rec (fun _ => Tm → St → Oper → Option (Value × St)) movA movA pickA (fun _ => slowA P) (fun _ _ => slowA P) (fun _ _ => slowA P) (fun _ _ _ => slowA P) (fun _ _ _ _ => slowA P) (loadA P) (storeA P) (fun _ => slowA P) (fun _ => slowA P) (fun _ => slowA P) (binA P) (unA P) (fun _ _ _ => slowA P) (fun _ _ => slowA P) (fun _ _ => slowA P) (fun _ _ _ => slowA P) (fun _ _ => slowA P) (fun _ _ => slowA P) (mkA P) (fun _ _ _ _ _ => slowA P) (fdaA P) (fldA2 P) (ixaA P) (fun _ _ _ => slowA P) (fun _ _ _ _ => slowA P) (fun _ _ _ _ => slowA P) (fun _ _ _ => slowA P) (fun _ _ _ _ => slowA P) (fun _ _ => slowA P) (fun _ _ => slowA P) (fun _ => slowA P) (fun _ _ _ _ => slowA P) extA (callA P) (fun _ => slowA P) (fun _ => slowA P) (fun _ => slowA P) (fun _ _ => slowA P) (fun _ _ _ => slowA P) (fun _ _ => slowA P) o.op tm s o
theorem repV_eq (z : Value) : ∀ n, repV z n = List.replicate n z
  | 0 => rfl
  | n + 1 => by rw [List.replicate_succ, ← repV_eq z n]; rfl
theorem zrow_one {P : Program} {elem : TypeId} {i : TypeInfo} {z : Value} (hi : P.info? elem = some i) (hz : i.zero = some z) (h1 : i.size = 1) (hp : plainV z = true) (hq : pureV 3 z = true) (n : Nat) : ∃ r, zrow P elem n = some r ∧ r.toList = repV z n := by
  have hc := (plainV_ok hp).1
  unfold zrow
  rw [hi]
  simp only [hz, h1, Nat.mul_one, cond_eq_ite]
  have hrow : ((Array.range n).map (z.cells[· % z.cells.size]!)).toList = repV z n := by
    rw [repV_eq]
    refine List.ext_getElem? fun k => ?_
    simp only [Array.toList_map, List.getElem?_map, hc]
    rcases Nat.lt_or_ge k n with hk | hk
    · rw [List.getElem?_replicate, if_pos hk]
      simp [hk, Nat.mod_one]
    · rw [List.getElem?_replicate, if_neg (by omega)]
      simp [hk]
  by_cases hn : n.beq 0 = true
  · rw [if_pos hn]
    have := Nat.eq_of_beq_eq_true hn
    subst this
    exact ⟨#[], rfl, rfl⟩
  · rw [if_neg hn, if_pos]
    · exact ⟨_, rfl, hrow⟩
    · rw [hrow, repV_eq, List.all_eq_true]
      intro x hx
      rw [List.eq_of_mem_replicate hx]; exact hq
theorem newF_eq (s : St) (cells : List Value) (n : Nat) (elem : TypeId) (h : cells.length = n) : newF s cells n elem = newB s cells 1 true elem := by
  unfold newF newB
  rw [trF_eq]
  cases trOf .nil 0 cells with
  | none => rfl
  | some t =>
    obtain ⟨sh, sN, sW⟩ := s
    simp only [Tr.put, seqT_eq, h]
theorem mkF_eq (P : Program) (s : St) (t : TypeId) (l c : Value) : mkF P s t l c = evMake P s t l c := by
  unfold mkF
  cases ho : oneZ P t with
  | none => rfl
  | some q =>
    simp only
    rw [onIx_out]
    split
    · rename_i k n
      rw [onIx_out]
      split
      · rename_i k2 m
        unfold oneZ at ho
        split at ho
        · rename_i elem hu
          split at ho
          · rename_i i hi
            split at ho
            · rename_i z hz
              rw [cond_eq_ite] at ho
              split at ho
              · rename_i hc
                simp only [Bool.and_eq_true, Nat.beq_eq] at hc
                cases ho
                obtain ⟨r, hr, hrl⟩ := zrow_one hi hz hc.1.1 hc.1.2 hc.2 m
                unfold evMake
                rw [hu]
                simp only [hi]
                cases (n.ble m && m.ble 1000000 && (i.bytes * m).ble 281474976710656) with
                | false => rfl
                | true =>
                  simp only [cond_true, hr, hrl, hc.1.1]
                  rw [newF_eq s _ m elem (by rw [repV_eq, List.length_replicate])]
                  cases newB s (repV z m) 1 true elem <;> rfl
              · cases ho
            · cases ho
          · cases ho
        · cases ho
      · rfl
    · rfl
theorem opF_eq (P : Program) (tm : Tm) (s : St) (o : Oper) : opF P tm s o = evOp P tm s o := by
  unfold opF
  cases ho : o.op <;> try rfl
  case move x =>
    show movA x tm s o = _
    unfold movA evOp
    rw [ho, opndF_eq]; simp only; cases opnd tm x <;> rfl
  case assign x =>
    show movA x tm s o = _
    unfold movA evOp
    rw [ho, opndF_eq]; simp only; cases opnd tm x <;> rfl
  case pick c x y =>
    show pickA c x y tm s o = _
    unfold pickA movA evOp
    rw [ho, opndF_eq, opndF_eq, opndF_eq]; simp only
    cases opnd tm c with
    | none => rfl
    | some u =>
      cases u <;> try rfl
      rename_i b
      cases b
      · cases opnd tm y <;> rfl
      · cases opnd tm x <;> rfl
  case load t x =>
    show loadA P t x tm s o = _
    unfold loadA evOp
    rw [ho, opndF_eq]; simp only [loadF_eq]
    cases opnd tm x with
    | none => rfl
    | some u => simp only; cases evLoad P s t u <;> rfl
  case store t x y =>
    show storeA P t x y tm s o = _
    unfold storeA evOp
    rw [ho, opndF_eq, opndF_eq]; simp only [storeF_eq]
    cases opnd tm x with
    | none => rfl
    | some u =>
      cases opnd tm y with
      | none => rfl
      | some v => simp only; cases evStore P s t u v <;> rfl
  case binOp op t x y t2 =>
    show binA P op t x y t2 tm s o = _
    unfold binA evOp
    rw [ho, binF_eq]; simp only
    cases evBin P op t x y tm <;> rfl
  case unOp op t x =>
    show unA P op t x tm s o = _
    unfold unA
    cases op <;> try rfl
    show @Option.rec Value (fun _ => Option (Value × St)) none _ (opndF tm x) = _
    rw [opndF_eq]
    cases hx : opnd tm x with
    | none =>
      unfold evOp flatO
      rw [ho]; simp only [hx]
    | some u =>
      show onBl _ _ u = _
      rw [onBl_out]
      split
      · rename_i b
        unfold evOp flatO
        rw [ho]; simp only [hx]
        cases b <;> rfl
      · rfl
  case fieldAddr t x f =>
    show fdaA P t x f tm s o = _
    unfold fdaA evOp
    rw [ho, opndF_eq]; simp only [fdaF_eq]
    cases opnd tm x with
    | none => rfl
    | some u => simp only; cases evFieldAddr P t u f <;> rfl
  case field t x f =>
    show fldA2 P t x f tm s o = _
    unfold fldA2 evOp
    rw [ho, opndF_eq]; simp only [fldF_eq]
    cases opnd tm x with
    | none => rfl
    | some u => simp only; cases evField P t u f <;> rfl
  case indexAddr t x y =>
    show ixaA P t x y tm s o = _
    unfold ixaA evOp
    rw [ho, opndF_eq, opndF_eq]; simp only [ixaF_eq]
    cases opnd tm x with
    | none => rfl
    | some u =>
      cases opnd tm y with
      | none => rfl
      | some v => simp only; cases evIndexAddr P t u v <;> rfl
  case makeSlice t x y =>
    show mkA P t x y tm s o = _
    unfold mkA evOp
    rw [ho, opndF_eq, opndF_eq]; simp only [mkF_eq]
    cases opnd tm x with
    | none => rfl
    | some u =>
      cases opnd tm y with
      | none => rfl
      | some v => rfl
  case extract x i =>
    show extA x i tm s o = _
    unfold extA evOp
    rw [ho, opndF_eq]; simp only [extF_eq]
    cases opnd tm x with
    | none => rfl
    | some u => simp only; cases evExtract u i <;> rfl
  case call c =>
    show callA P c tm s o = _
    unfold callA
    obtain ⟨callee, ⟨args⟩, ⟨ts⟩⟩ := c
    cases callee with
    | value f => rfl
    | invoke r m => rfl
    | builtin b =>
      show @Bool.rec (fun _ => Option (Value × St)) _ _ (isLen b) = _
      cases b <;> try rfl
      show lenA P _ tm s o = _
      unfold lenA
      rcases args with _ | ⟨x, _ | ⟨y, l⟩⟩ <;> try rfl
      rcases ts with _ | ⟨t, _ | ⟨t2, l2⟩⟩ <;> try rfl
      show @Option.rec Value (fun _ => Option (Value × St)) none _ (opndF tm x) = _
      rw [opndF_eq]
      simp only [lenF_eq]
      cases hx : opnd tm x with
      | none => unfold evOp; rw [ho]; simp only [hx]
      | some u =>
        simp only
        cases hl : evLen P t u with
        | none => rfl
        | some v => unfold evOp; rw [ho]; simp only [hx, hl]

/-! an operation with its calls -/
abbrev RecT := Task → Tm → St → Option Res
noncomputable def valE (P : Program) (rec : RecT) (tm : Tm) (s : St) (o : Oper) : Option (Value × St) := match calleeV P tm o with
  | some (f, args) => (match rec (.call f args) tm s with | some r => some (r.v, r.s) | none => none)
  | none => (match yieldV tm o with
    | some (l, args) => (match rec (.yield l args) tm s with | some r => some (r.v, r.s) | none => none)
    | none => evOp P tm s o)
noncomputable def appF (a b : List Value) : List Value := @List.rec Value (fun _ => List Value) b (fun x _ ih => x :: ih) a
theorem appF_eq : ∀ (a b : List Value), appF a b = a ++ b
  | [], _ => rfl
  | x :: a, b => congrArg (x :: ·) (appF_eq a b)
noncomputable def resR (x : Option Res) : Option (Value × St) := @Option.rec Res (fun _ => Option (Value × St)) none (fun r => @Res.rec (fun _ => Option (Value × St)) (fun _ _ v s => some (v, s)) r) x
noncomputable def valC (P : Program) (rec : RecT) (c : Call) (f : Operand) (tm : Tm) (s : St) (o : Oper) : Option (Value × St) :=
  @Option.rec Value (fun _ => Option (Value × St)) (valE P rec tm s o) (fun u => onFu (valE P rec tm s o) (fun g a b => @Option.rec (List Value) (fun _ => Option (Value × St)) none (fun vs => resR (rec (.call g (appF a.toList (appF vs b.toList))) tm s)) (opndsF tm c.args.toList)) (fun l => @Option.rec (List Value) (fun _ => Option (Value × St)) none (fun vs => resR (rec (.yield l vs) tm s)) (opndsF tm c.args.toList)) u) (opndF tm f)
noncomputable def callC (P : Program) (rec : RecT) (c : Call) (tm : Tm) (s : St) (o : Oper) : Option (Value × St) := @Callee.rec (fun _ => Option (Value × St)) (fun f => valC P rec c f tm s o) (fun _ _ => valE P rec tm s o) (fun b => @Bool.rec (fun _ => Option (Value × St)) (evOp P tm s o) (lenA P c tm s o) (isLen b)) c.callee
noncomputable def valF (P : Program) (rec : RecT) (tm : Tm) (s : St) (o : Oper) : Option (Value × St) := @Op.rec (fun _ => Tm → St → Oper → Option (Value × St)) movA movA pickA (fun _ => slowA P) (fun _ _ => slowA P) (fun _ _ => slowA P) (fun _ _ _ => slowA P) (fun _ _ _ _ => slowA P) (loadA P) (storeA P) (fun _ => slowA P) (fun _ => slowA P) (fun _ => slowA P) (binA P) (unA P) (fun _ _ _ => slowA P) (fun _ _ => slowA P) (fun _ _ => slowA P) (fun _ _ _ => slowA P) (fun _ _ => slowA P) (fun _ _ => slowA P) (mkA P) (fun _ _ _ _ _ => slowA P) (fdaA P) (fldA2 P) (ixaA P) (fun _ _ _ => slowA P) (fun _ _ _ _ => slowA P) (fun _ _ _ _ => slowA P) (fun _ _ _ => slowA P) (fun _ _ _ _ => slowA P) (fun _ _ => slowA P) (fun _ _ => slowA P) (fun _ => slowA P) (fun _ _ _ _ => slowA P) extA (callC P rec) (fun _ => slowA P) (fun _ => slowA P) (fun _ => slowA P) (fun _ _ => slowA P) (fun _ _ _ => slowA P) (fun _ _ => slowA P) o.op tm s o
theorem valF_call (P : Program) (rec : RecT) (tm : Tm) (s : St) (o : Oper) {c : Call} (ho : o.op = .call c) : valF P rec tm s o = callC P rec c tm s o := by unfold valF; rw [ho]
theorem valF_other (P : Program) (rec : RecT) (tm : Tm) (s : St) (o : Oper) (h : ∀ c, o.op ≠ .call c) : valF P rec tm s o = opF P tm s o := by
  unfold valF opF
  cases ho : o.op <;> first | rfl | exact absurd ho (h _)
theorem valF_eq (P : Program) (rec : RecT) (tm : Tm) (s : St) (o : Oper) : valF P rec tm s o = valE P rec tm s o := by
  by_cases hc : ∃ c, o.op = .call c
  · obtain ⟨⟨callee, ⟨args⟩, ⟨ts⟩⟩, ho⟩ := hc
    rw [valF_call P rec tm s o ho]
    unfold callC
    cases callee with
    | value f =>
      show valC P rec _ f tm s o = _
      unfold valC
      rw [opndF_eq, opndsF_eq]
      cases hf : opnd tm f with
      | none => rfl
      | some u =>
        show onFu _ _ _ u = _
        rw [onFu_out]
        split
        · rename_i g a b
          unfold valE calleeV yieldV evOp
          rw [ho]
          simp only [hf]
          cases opnds tm args with
          | none => rfl
          | some vs =>
            simp only [appF_eq]
            rw [show a.toList ++ (vs ++ b.toList) = a.toList ++ vs ++ b.toList by simp]
            cases rec (.call g (a.toList ++ vs ++ b.toList)) tm s <;> rfl
        · rename_i l _ _
          unfold valE calleeV yieldV evOp
          rw [ho]
          simp only [hf]
          cases opnds tm args with
          | none => rfl
          | some vs =>
            simp only
            cases rec (.yield l vs) tm s <;> rfl
        · rfl
    | invoke r m => rfl
    | builtin b =>
      have h1 : calleeV P tm o = none := by unfold calleeV; rw [ho]
      have h2 : yieldV tm o = none := by unfold yieldV; rw [ho]
      have h3 : valE P rec tm s o = evOp P tm s o := by unfold valE; rw [h1, h2]
      have h4 : opF P tm s o = callA P ⟨.builtin b, ⟨args⟩, ⟨ts⟩⟩ tm s o := by unfold opF; rw [ho]
      rw [h3]
      exact h4.symm.trans (opF_eq P tm s o)
  · have hn : ∀ c, o.op ≠ .call c := fun c h => hc ⟨c, h⟩
    rw [valF_other P rec tm s o hn, opF_eq]
    have h1 : calleeV P tm o = none := by
      unfold calleeV
      split
      · rename_i h; exact absurd h (hn _)
      · rename_i h; exact absurd h (hn _)
      · rfl
    have h2 : yieldV tm o = none := by
      unfold yieldV
      split
      · rename_i h; exact absurd h (hn _)
      · rfl
    unfold valE
    rw [h1, h2]
noncomputable def valW (P : Program) (rec : RecT) (all : List Oper) (tm : Tm) (s : St) (o : Oper) : Option (Value × St) := @Option.rec Bool (fun _ => Option (Value × St)) none (fun b => @Bool.rec (fun _ => Option (Value × St)) (some (undef, s)) (valF P rec tm s o) b) (wantF all tm o)
def snd3 (x : Option (Bool × Value × St)) : Option (Value × St) := match x with | some (_, v, s) => some (v, s) | none => none
theorem valW_eq (P : Program) (rec : RecT) (all : List Oper) (tm : Tm) (s : St) (o : Oper) : valW P rec all tm s o = snd3 (oneE P rec all tm s o) := by
  unfold valW oneE
  rw [wantF_eq, valF_eq]
  cases wantedV all tm o with
  | none => rfl
  | some b =>
    cases b with
    | false => rfl
    | true =>
      unfold valE
      simp only
      cases calleeV P tm o with
      | some fa => simp only; cases rec (.call fa.1 fa.2) tm s <;> rfl
      | none =>
        simp only
        cases yieldV tm o with
        | some la => simp only; cases rec (.yield la.1 la.2) tm s <;> rfl
        | none => simp only; cases evOp P tm s o <;> rfl
end Go.Proofs.Ytlapnehfjklpoaa
