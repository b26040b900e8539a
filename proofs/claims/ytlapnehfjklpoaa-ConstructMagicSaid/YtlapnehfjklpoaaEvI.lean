/- Closed calls by reckoning: one operation. -/
import Derived.Test.YtlapnehfjklpoaaEvV
namespace Go.Proofs.Ytlapnehfjklpoaa
open Go.RowKit

section
variable {P : Program} {B : Nat} {ρ ρ' : Nat → Place} {N N' : Nat} {h h' : Nat → Option Blk} {w w' : World} {W W' : List Nat} {tm : Tm} {a : Act} {s s' : St} {o : Oper}

/-! comparisons -/
noncomputable def nilCmp (P : Program) (t : TypeId) (x y : Value) : Bool :=
  match P.underlying t, x, y with
  | some (.slice _), .slice (some _) _ _, .slice none _ _ => true
  | some (.slice _), .slice none _ _, .slice (some _) _ _ => true
  | some (.pointer _), .pointer (some _), .pointer none => true
  | some (.pointer _), .pointer none, .pointer (some _) => true
  | some (.func _ _ _), .func (.func _) _ _, .nilFunc => true
  | some (.func _ _ _), .nilFunc, .func (.func _) _ _ => true
  | some (.interface _), .iface _ _, .nilIface => true
  | some (.interface _), .nilIface, .iface _ _ => true
  | _, _, _ => false
noncomputable def evBin0 (P : Program) (op : BinOp) (t : TypeId) (x y : Operand) (tm : Tm) : Option Value :=
  match flatO tm x, flatO tm y with
  | some u, some v => pureR (srun P (do eqGuard op t x y u v; binOp op t u v))
  | _, _ => (match opnd tm x, opnd tm y with
    | some u, some v => bif nilCmp P t u v then (match op with | .eql => some (.bool false) | .neq => some (.bool true) | _ => none) else none
    | _, _ => none)
/-- comparing with nil -/
noncomputable def eqF : TypeDesc → Value → Value → Bool
  | .slice _, .slice (some _) _ _, .slice none _ _ => true
  | .slice _, .slice none _ _, .slice (some _) _ _ => true
  | .pointer _, .pointer (some _), .pointer none => true
  | .pointer _, .pointer none, .pointer (some _) => true
  | .func _ _ _, .func _ _ _, .nilFunc => true
  | .func _ _ _, .nilFunc, .func _ _ _ => true
  | .interface _, .iface _ _, .nilIface => true
  | .interface _, .nilIface, .iface _ _ => true
  | _, _, _ => false
theorem eqK (d : Nat) {t : TypeId} {u v : Value} {T : TypeDesc} (hT : P.underlying t = some T) (h : eqF T u v = true) (w : World) : (Op.equalIn (d + 1) t u v).run P w = .ok false w := by
  unfold eqF at h
  split at h
  all_goals first
    | (simp only [Op.equalIn, Sem.run_bind, run_underlying hT, Result.andThen_ok]; rfl)
    | cases h
noncomputable def isNeq : BinOp → Bool | .neq => true | _ => false
theorem bin_eq {op : BinOp} (hop : op = .eql ∨ op = .neq) {t : TypeId} {u v : Value} {x y : Operand} (hg : ∀ op, eqGuard op t x y u v = pure ()) (hb1 : binOp .eql t u v = (do pure (.bool (← Op.equal t u v)))) (hb2 : binOp .neq t u v = (do pure (.bool (!(← Op.equal t u v))))) {w : World} (he : (Op.equal t u v).run P w = .ok false w) :
    (do eqGuard op t x y u v; binOp op t u v : Sem Value).run P w = .ok (.bool (isNeq op)) w := by
  rw [hg, Sem.run_bind, Sem.run_pure, Result.andThen_ok]
  rcases hop with rfl | rfl
  · rw [hb1, Sem.run_bind, he]; rfl
  · rw [hb2, Sem.run_bind, he]; rfl
theorem nilCmp_ok {t : TypeId} {u v u' v' : Value} (hu : VRel ρ N u u') (hv : VRel ρ N v v') (e : nilCmp P t u v = true) (x y : Operand) (op : BinOp) (hop : op = .eql ∨ op = .neq) (w : World) :
    (do eqGuard op t x y u' v'; binOp op t u' v' : Sem Value).run P w = .ok (.bool (isNeq op)) w := by
  unfold nilCmp at e
  split at e
  · rename_i hT
    obtain ⟨_, _, _, a', c', rfl, _⟩ := hu.slice1
    obtain ⟨_, _, rfl⟩ := hv.slice0
    refine bin_eq hop (fun op => by cases op <;> rfl) rfl rfl ?_
    exact eqK 9999 hT rfl w
  · rename_i hT
    obtain ⟨_, _, _, a', c', rfl, _⟩ := hv.slice1
    obtain ⟨_, _, rfl⟩ := hu.slice0
    refine bin_eq hop (fun op => by cases op <;> rfl) rfl rfl ?_
    exact eqK 9999 hT rfl w
  · rename_i hT
    obtain ⟨_, _, rfl⟩ := hu.pointer
    have := hv.flat_eq 0 rfl
    subst this
    refine bin_eq hop (fun op => by cases op <;> rfl) rfl rfl ?_
    exact eqK 9999 hT rfl w
  · rename_i hT
    obtain ⟨_, _, rfl⟩ := hv.pointer
    have := hu.flat_eq 0 rfl
    subst this
    refine bin_eq hop (fun op => by cases op <;> rfl) rfl rfl ?_
    exact eqK 9999 hT rfl w
  · rename_i hT
    obtain ⟨_, _, rfl, _⟩ := hu.func_inv
    have := hv.flat_eq 0 rfl
    subst this
    refine bin_eq hop (fun op => by cases op <;> rfl) rfl rfl ?_
    exact eqK 9999 hT rfl w
  · rename_i hT
    obtain ⟨_, _, rfl, _⟩ := hv.func_inv
    have := hu.flat_eq 0 rfl
    subst this
    refine bin_eq hop (fun op => by cases op <;> rfl) rfl rfl ?_
    exact eqK 9999 hT rfl w
  · rename_i hT
    obtain ⟨_, rfl, _⟩ := hu.iface_inv
    have := hv.flat_eq 0 rfl
    subst this
    refine bin_eq hop (fun op => by cases op <;> rfl) rfl rfl ?_
    exact eqK 9999 hT rfl w
  · rename_i hT
    obtain ⟨_, rfl, _⟩ := hv.iface_inv
    have := hu.flat_eq 0 rfl
    subst this
    refine bin_eq hop (fun op => by cases op <;> rfl) rfl rfl ?_
    exact eqK 9999 hT rfl w
  · cases e
theorem evBin0_ok (R : Rel B ρ s.N s.h.get w) (T : TRel ρ s.N tm a) {op : BinOp} {t t2 : TypeId} {x y : Operand} (ho : o.op = .binOp op t x y t2) {v : Value} (e : evBin0 P op t x y tm = some v) : Yl P B ρ s w (execOp a.eval o) v s := by
  simp only [evBin0] at e
  split at e
  · rename_i u u2 h1 h2
    obtain ⟨e1, e2⟩ := pureR_eq e
    refine Yl.flat R ?_ e2
    unfold execOp
    simp only [ho, (T.flatO h1).1, (T.flatO h2).1]
    exact run_v (srun_run e1 w)
  · split at e
    · rename_i u u2 h1 h2
      rw [cond_eq_ite] at e
      split at e
      · rename_i hc
        split at e
        · cases e
          refine Yl.flat R ?_ (d := 0) rfl
          unfold execOp
          simp only [ho]
          exact run_v (nilCmp_ok (T.opnd h1) (T.opnd h2) hc x y .eql (.inl rfl) w)
        · cases e
          refine Yl.flat R ?_ (d := 0) rfl
          unfold execOp
          simp only [ho]
          exact run_v (nilCmp_ok (T.opnd h1) (T.opnd h2) hc x y .neq (.inr rfl) w)
        · cases e
      · cases e
    · cases e

/-- numbers that are small and not negative, at once -/
noncomputable def fastI : BinOp → Nat → Nat → Option Value
  | .add, a, b => bif (a + b).blt 9223372036854775808 then some (.int .i64 (.ofNat (a + b))) else none
  | .sub, a, b => bif b.ble a && a.blt 9223372036854775808 then some (.int .i64 (.ofNat (a - b))) else none
  | .mul, a, b => bif (a * b).blt 9223372036854775808 then some (.int .i64 (.ofNat (a * b))) else none
  | .eql, a, b => some (.bool (a.beq b))
  | .neq, a, b => some (.bool (!a.beq b))
  | .lss, a, b => some (.bool (a.blt b))
  | .leq, a, b => some (.bool (a.ble b))
  | .gtr, a, b => some (.bool (b.blt a))
  | .geq, a, b => some (.bool (b.ble a))
  | _, _, _ => none
theorem fastI_ok {op : BinOp} {a b : Nat} {v : Value} (e : fastI op a b = some v) (t : TypeId) (x y : Operand) (w : World) : (do eqGuard op t x y (.int .i64 (.ofNat a)) (.int .i64 (.ofNat b)); binOp op t (.int .i64 (.ofNat a)) (.int .i64 (.ofNat b)) : Sem Value).run P w = .ok v w := by
  have hw : ∀ n : Nat, n < 9223372036854775808 → ∀ z : Int, z = (n : Int) → IntKind.i64.wrap z = Int.ofNat n := by
    intro n hn z hz
    rw [IntKind.wrap_i64, hz]
    show _ = (n : Int)
    omega
  unfold fastI at e
  split at e
  · rw [cond_eq_ite] at e
    split at e
    · rename_i h
      rw [Nat.blt_eq] at h
      cases e
      show Result.ok (Value.int .i64 (IntKind.i64.wrap (Int.ofNat a + Int.ofNat b))) w = _
      rw [hw (a + b) h _ (by simp)]
    · cases e
  · rw [cond_eq_ite] at e
    split at e
    · rename_i h
      simp only [Bool.and_eq_true, Nat.blt_eq, Nat.ble_eq] at h
      cases e
      show Result.ok (Value.int .i64 (IntKind.i64.wrap (Int.ofNat a - Int.ofNat b))) w = _
      rw [hw (a - b) (by omega) _ (by show (a : Int) - (b : Int) = _; omega)]
    · cases e
  · rw [cond_eq_ite] at e
    split at e
    · rename_i h
      rw [Nat.blt_eq] at h
      cases e
      show Result.ok (Value.int .i64 (IntKind.i64.wrap (Int.ofNat a * Int.ofNat b))) w = _
      rw [hw (a * b) h _ (by simp)]
    · cases e
  · cases e
    show Result.ok (Value.bool (Int.ofNat a == Int.ofNat b)) w = _
    have : (Int.ofNat a == Int.ofNat b) = a.beq b := by rw [Bool.eq_iff_iff, beq_iff_eq, Nat.beq_eq]; show (a : Int) = (b : Int) ↔ _; omega
    rw [this]
  · cases e
    show Result.ok (Value.bool (Int.ofNat a != Int.ofNat b)) w = _
    have : (Int.ofNat a == Int.ofNat b) = a.beq b := by rw [Bool.eq_iff_iff, beq_iff_eq, Nat.beq_eq]; show (a : Int) = (b : Int) ↔ _; omega
    unfold bne
    rw [this]
  · cases e
    show Result.ok (Value.bool (decide (Int.ofNat a < Int.ofNat b))) w = _
    have : decide (Int.ofNat a < Int.ofNat b) = a.blt b := by rw [Bool.eq_iff_iff, decide_eq_true_eq, Nat.blt_eq]; show (a : Int) < (b : Int) ↔ _; omega
    rw [this]
  · cases e
    show Result.ok (Value.bool (decide (Int.ofNat a ≤ Int.ofNat b))) w = _
    have : decide (Int.ofNat a ≤ Int.ofNat b) = a.ble b := by rw [Bool.eq_iff_iff, decide_eq_true_eq, Nat.ble_eq]; show (a : Int) ≤ (b : Int) ↔ _; omega
    rw [this]
  · cases e
    show Result.ok (Value.bool (decide (Int.ofNat a > Int.ofNat b))) w = _
    have : decide (Int.ofNat a > Int.ofNat b) = b.blt a := by rw [Bool.eq_iff_iff, decide_eq_true_eq, Nat.blt_eq]; show (a : Int) > (b : Int) ↔ _; omega
    rw [this]
  · cases e
    show Result.ok (Value.bool (decide (Int.ofNat a ≥ Int.ofNat b))) w = _
    have : decide (Int.ofNat a ≥ Int.ofNat b) = b.ble a := by rw [Bool.eq_iff_iff, decide_eq_true_eq, Nat.ble_eq]; show (a : Int) ≥ (b : Int) ↔ _; omega
    rw [this]
  · cases e
noncomputable def evBin (P : Program) (op : BinOp) (t : TypeId) (x y : Operand) (tm : Tm) : Option Value :=
  match opnd tm x, opnd tm y with
  | some (.int .i64 (.ofNat a)), some (.int .i64 (.ofNat b)) => (match fastI op a b with | some v => some v | none => evBin0 P op t x y tm)
  | _, _ => evBin0 P op t x y tm
theorem fastI_flat {op : BinOp} {a b : Nat} {v : Value} (e : fastI op a b = some v) : pureV 3 v = true := by
  unfold fastI at e
  split at e
  all_goals first
    | (cases e; rfl)
    | (cases e; done)
    | (rw [cond_eq_ite] at e; split at e <;> cases e; rfl)
theorem evBin_ok (R : Rel B ρ s.N s.h.get w) (T : TRel ρ s.N tm a) {op : BinOp} {t t2 : TypeId} {x y : Operand} (ho : o.op = .binOp op t x y t2) {v : Value} (e : evBin P op t x y tm = some v) : Yl P B ρ s w (execOp a.eval o) v s := by
  unfold evBin at e
  split at e
  · rename_i p q hx hy
    split at e
    · rename_i v1 hv
      cases e
      have e1 := (T.opnd hx).int
      have e2 := (T.opnd hy).int
      refine Yl.flat R ?_ (fastI_flat hv)
      unfold execOp
      simp only [ho, e1, e2]
      exact run_v (fastI_ok hv t x y w)
    · exact evBin0_ok R T ho e
  · exact evBin0_ok R T ho e
/-! builtins -/
noncomputable def constsOf (args : List Operand) : Array Bool := (args.map fun | .const _ => true | _ => false).toArray
noncomputable def evBuiltin (P : Program) (b : Builtin) (args : List Operand) (ts : Array TypeId) (ty : TypeId) (tm : Tm) : Option Value :=
  match flatOs tm args with
  | some vs => (match srun P (builtin b ts ty (constsOf args) vs.toArray) with | some (.value v) => bif pureV 3 v then some v else none | _ => none)
  | none => none
theorem resolve_builtin (b : Builtin) (args : List Operand) (ts : Array TypeId) (ty : TypeId) (f : Operand → Value) :
    resolve f ⟨.builtin b, ⟨args⟩, ts⟩ ty = pure { target := .builtin b ts ty (constsOf args), args := (args.map f).toArray } := by
  unfold resolve constsOf
  simp only [List.map_toArray]
  congr 4
theorem evBuiltin_ok (R : Rel B ρ s.N s.h.get w) (T : TRel ρ s.N tm a) {b : Builtin} {args : List Operand} {ts : Array TypeId} (ho : o.op = .call ⟨.builtin b, ⟨args⟩, ts⟩) {v : Value} (e : evBuiltin P b args ts o.type tm = some v) : Yl P B ρ s w (execOp a.eval o) v s := by
  simp only [evBuiltin] at e
  split at e
  · rename_i vs hvs
    split at e
    · rename_i u hu
      rw [cond_eq_ite] at e
      split at e
      · rename_i hp
        cases e
        refine Yl.flat R ?_ hp
        unfold execOp
        simp only [ho]
        rw [resolve_builtin, Sem.run_bind, Sem.run_pure, T.flatOs hvs]
        exact srun_run hu w
      · cases e
    · cases e
  · cases e
noncomputable def evLen (P : Program) (t : TypeId) (x : Value) : Option Value :=
  match P.underlying t, x with
  | some (.slice _), .slice (some _) n _ => some (goInt n)
  | some (.array n _), _ => some (goInt n)
  | _, _ => none
theorem evLen_ok (R : Rel B ρ s.N s.h.get w) (T : TRel ρ s.N tm a) {t : TypeId} {x : Operand} (ho : o.op = .call ⟨.builtin .len, ⟨[x]⟩, ⟨[t]⟩⟩) {u v : Value} (hx : opnd tm x = some u) (e : evLen P t u = some v) : Yl P B ρ s w (execOp a.eval o) v s := by
  simp only [evLen] at e
  split at e
  · rename_i el ad n c hu
    cases e
    obtain ⟨id, off, sp⟩ := ad
    obtain ⟨_, _, _, a', c', e1, _⟩ := (T.opnd hx).slice1
    refine Yl.flat R ?_ (d := 0) rfl
    unfold execOp
    simp only [ho]
    rw [resolve_builtin, Sem.run_bind, Sem.run_pure]
    refine run_v ?_
    simp [Builtin.len_, run_underlying hu, e1]
  · rename_i n el hu
    cases e
    refine Yl.flat R ?_ (d := 0) rfl
    unfold execOp
    simp only [ho]
    rw [resolve_builtin, Sem.run_bind, Sem.run_pure]
    refine run_v ?_
    simp [Builtin.len_, run_underlying hu]
  · cases e

/-! slice expressions -/
noncomputable def flatOO (tm : Tm) (x : Option Operand) : Option (Option Value) :=
  match x with
  | none => some none
  | some y => (match flatO tm y with | some v => some (some v) | none => none)
theorem TRel.flatOO (T : TRel ρ N tm a) {x : Option Operand} {v : Option Value} (e : flatOO tm x = some v) : x.map a.eval = v := by
  unfold Go.Proofs.Ytlapnehfjklpoaa.flatOO at e
  split at e
  · cases e; rfl
  · split at e
    · rename_i u hu; cases e; rw [Option.map_some, (T.flatO hu).1]
    · cases e
noncomputable def evSl (P : Program) (tm : Tm) (s : St) (t : TypeId) (x : Operand) (lo hi mx : Option Operand) : Option (Value × St) :=
  match flatO tm x with
  | some u => (match flatOO tm lo, flatOO tm hi, flatOO tm mx with
    | some vlo, some vhi, some vmx => (match pureR (srun P (Instr.sliceAt t u vlo vhi vmx)) with | some v => some (v, s) | none => none)
    | _, _, _ => none)
  | none => (match opnd tm x, opndO tm lo, opndO tm hi, opndO tm mx with
    | some u, some vlo, some vhi, some vmx => (match evSlice P s t u vlo vhi vmx with
      | some v => some (v, s)
      | none => (match lo, hi, mx with | none, none, none => (match evSliceA P s t u with | some v => some (v, s) | none => none) | _, _, _ => none))
    | _, _, _, _ => none)
theorem evSl_ok (R : Rel B ρ s.N s.h.get w) (T : TRel ρ s.N tm a) {t : TypeId} {x : Operand} {lo hi mx : Option Operand} (ho : o.op = .slice t x lo hi mx) {v : Value} (e : evSl P tm s t x lo hi mx = some (v, s')) : Yl P B ρ s w (execOp a.eval o) v s' := by
  simp only [evSl] at e
  split at e
  · rename_i u hu
    split at e
    · rename_i vlo vhi vmx h1 h2 h3
      split at e
      · rename_i v1 hv
        cases e
        obtain ⟨e1, e2⟩ := pureR_eq hv
        refine Yl.flat R ?_ e2
        unfold execOp
        simp only [ho, (T.flatO hu).1, T.flatOO h1, T.flatOO h2, T.flatOO h3]
        exact run_v (srun_run e1 w)
      · cases e
    · cases e
  · split at e
    · rename_i u vlo vhi vmx hx h1 h2 h3
      split at e
      · rename_i v1 hv; cases e; exact evSlice_ok R T ho hx h1 h2 h3 hv
      · split at e
        · split at e
          · rename_i v1 hv; cases e; exact evSliceA_ok R T ho hx hv
          · cases e
        · cases e
    · cases e

/-- one operation that is no call of a function -/
noncomputable def evOp (P : Program) (tm : Tm) (s : St) (o : Oper) : Option (Value × St) :=
  match o.op with
  | .move x => (match opnd tm x with | some v => some (v, s) | none => none)
  | .assign x => (match opnd tm x with | some v => some (v, s) | none => none)
  | .pick c x y => (match opnd tm c with
    | some (.bool true) => (match opnd tm x with | some v => some (v, s) | none => none)
    | some (.bool false) => (match opnd tm y with | some v => some (v, s) | none => none)
    | _ => none)
  | .alloc elem => evAlloc P s elem
  | .box elem x => (match opnd tm x with | some v => evBox s elem v | none => none)
  | .build t ⟨parts⟩ => (match pparts tm parts with | some ps => (match evBuild P t ps with | some v => some (v, s) | none => none) | none => none)
  | .buildSlice t n ⟨parts⟩ => (match pparts tm parts with | some ps => evBuildSlice P s t n ps | none => none)
  | .load t x => (match opnd tm x with | some u => (match evLoad P s t u with | some v => some (v, s) | none => none) | none => none)
  | .store t x y => (match opnd tm x, opnd tm y with | some u, some v => (match evStore P s t u v with | some s' => some (undef, s') | none => none) | _, _ => none)
  | .nilCheck x => (match opnd tm x with
    | some (.pointer (some ad)) => some (.pointer (some ad), s)
    | some (.func (.method n) ⟨[.iface t x]⟩ ⟨[]⟩) => bif pureV 3 x then (match srun P (nilAhead (P.types.size + Made.depth) t x n) with | some (some false) => some (.func (.method n) #[.iface t x] #[], s) | _ => none) else none
    | _ => none)
  | .binOp op t x y _ => (match evBin P op t x y tm with | some v => some (v, s) | none => none)
  | .unOp op _ x => (match flatO tm x with | some u => (match pureR (srun P (Op.unary op u)) with | some v => some (v, s) | none => none) | none => none)
  | .convert src dst x => (match flatO tm x with
    | some u => (match pureR (srun P (convert src dst u)) with
      | some v => some (v, s)
      | none => (match opnd tm x with | some (.string q) => evBytes P s src dst q | _ => none))
    | none => none)
  | .makeFunc (.func f) ⟨first⟩ ⟨cap⟩ => (match opnds tm first, opnds tm cap with | some us, some vs => some (.func (.func f) ⟨us⟩ ⟨vs⟩, s) | _, _ => none)
  | .makeFunc (.method n) ⟨[x]⟩ ⟨[]⟩ => (match opnd tm x with | some v => some (.func (.method n) #[v] #[], s) | none => none)
  | .makeSlice t x y => (match opnd tm x, opnd tm y with | some u, some v => evMake P s t u v | _, _ => none)
  | .slice t x lo hi mx => evSl P tm s t x lo hi mx
  | .fieldAddr t x f => (match opnd tm x with | some u => (match evFieldAddr P t u f with | some v => some (v, s) | none => none) | none => none)
  | .field t x f => (match opnd tm x with | some u => (match evField P t u f with | some v => some (v, s) | none => none) | none => none)
  | .indexAddr t x y => (match opnd tm x, opnd tm y with | some u, some i => (match evIndexAddr P t u i with | some v => some (v, s) | none => none) | _, _ => none)
  | .index t x y => (match opnd tm x, opnd tm y with
    | some (.string q), some i => (match flatO tm y with | some _ => (match pureR (srun P (Instr.index t (.string q) i)) with | some v => some (v, s) | none => none) | none => none)
    | some u, some i => (match evIndex P t u i with | some v => some (v, s) | none => none)
    | _, _ => none)
  | .makeMap t r => evMakeMap P tm s t r
  | .mapUpdate t m k x => (match opnd tm m, flatO tm k, flatO tm x with | some u, some vk, some vx => (match evMapPut P s t u vk vx with | some s' => some (undef, s') | none => none) | _, _, _ => none)
  | .insert t m k x => (match opnd tm m, flatO tm k, flatO tm x with | some u, some vk, some vx => (match evMapPut P s t u vk vx with | some s' => some (undef, s') | none => none) | _, _, _ => none)
  | .lookup t m k ok => (match opnd tm m, flatO tm k with | some u, some vk => (match evLookup P s t u vk ok with | some v => some (v, s) | none => none) | _, _ => none)
  | .range t x => (match opnd tm x with | some u => evRange P s t u | none => none)
  | .next x q => (match opnd tm x with | some u => evNext s u q | none => none)
  | .makeInterface t x => (match opnd tm x with | some u => (match evIface P t u with | some v => some (v, s) | none => none) | none => none)
  | .typeAssert x _ t ok => (match opnd tm x with | some u => (match evAssert P u t ok with | some v => some (v, s) | none => none) | none => none)
  | .extract x i => (match opnd tm x with | some u => (match evExtract u i with | some v => some (v, s) | none => none) | none => none)
  | .call ⟨.builtin .append, ⟨[x, y]⟩, ⟨[t, tx]⟩⟩ => (match opnd tm x, opnd tm y with
    | some u, some v => (match evGrow P s t tx u v with
      | some r => some r
      | none => evAppend P s t tx u v)
    | _, _ => none)
  | .call ⟨.builtin .len, ⟨[x]⟩, ⟨[t]⟩⟩ => (match opnd tm x with
    | some u => (match evLen P t u with
      | some v => some (v, s)
      | none => (match evBuiltin P .len [x] ⟨[t]⟩ o.type tm with | some v => some (v, s) | none => none))
    | none => none)
  | .call ⟨.builtin .clear, ⟨[x]⟩, ⟨[t]⟩⟩ => (match opnd tm x with | some u => (match evClear P s t u with | some s' => some (.tuple #[], s') | none => none) | none => none)
  | .call ⟨.builtin .copy, ⟨[x, y]⟩, ⟨[t, _]⟩⟩ => (match opnd tm x, opnd tm y with | some u, some v => evCopy P s t u v | _, _ => none)
  | .call ⟨.builtin b, ⟨args⟩, ts⟩ => (match evBuiltin P b args ts o.type tm with | some v => some (v, s) | none => none)
  | _ => none
theorem arr1 {α : Type} (l : List α) : (⟨l⟩ : Array α).toList = l := rfl
theorem evOp_ok (R : Rel B ρ s.N s.h.get w) (T : TRel ρ s.N tm a) {v : Value} (e : evOp P tm s o = some (v, s')) : Yl P B ρ s w (execOp a.eval o) v s' := by
  unfold evOp at e
  split at e
  · rename_i x ho
    split at e
    · rename_i u hu; cases e
      exact Yl.same R (by unfold execOp; simp only [ho]; rfl) (T.opnd hu)
    · cases e
  · rename_i x ho
    split at e
    · rename_i u hu; cases e
      exact Yl.same R (by unfold execOp; simp only [ho]; rfl) (T.opnd hu)
    · cases e
  · rename_i c x y ho
    split at e
    · rename_i hc
      split at e
      · rename_i u hu; cases e
        have hb := (T.opnd hc).bool
        exact Yl.same R (v' := a.eval x) (by unfold execOp; simp [ho, hb, asBool]) (T.opnd hu)
      · cases e
    · rename_i hc
      split at e
      · rename_i u hu; cases e
        have hb := (T.opnd hc).bool
        exact Yl.same R (v' := a.eval y) (by unfold execOp; simp [ho, hb, asBool]) (T.opnd hu)
      · cases e
    · cases e
  · rename_i elem ho; exact evAlloc_ok R ho e
  · rename_i elem x ho
    split at e
    · rename_i u hu; exact evBox_ok R T ho hu e
    · cases e
  · rename_i t parts ho
    split at e
    · rename_i ps hps
      split at e
      · rename_i u hu; cases e; exact evBuild_ok R T ho hps hu
      · cases e
    · cases e
  · rename_i t n parts ho
    split at e
    · rename_i ps hps; exact evBuildSlice_ok R T ho hps e
    · cases e
  · rename_i t x ho
    split at e
    · rename_i u hu
      split at e
      · rename_i v1 hv; cases e; exact evLoad_ok R T ho hu hv
      · cases e
    · cases e
  · rename_i t x y ho
    split at e
    · rename_i u u2 hu hu2
      split at e
      · rename_i s1 hs; cases e; exact evStore_ok R T ho hu hu2 hs
      · cases e
    · cases e
  · rename_i x ho
    split at e
    · rename_i ad hu
      cases e
      obtain ⟨id, off, sp⟩ := ad
      have hv := (T.opnd hu)
      obtain ⟨_, _, e1⟩ := hv.pointer
      refine Yl.same R (v' := a.eval x) ?_ hv
      unfold execOp
      simp only [ho, e1]; rfl
    · rename_i n t y hu
      rw [cond_eq_ite] at e
      split at e
      · rename_i hp
        split at e
        · rename_i hn
          cases e
          have hv := (T.opnd hu)
          obtain ⟨x1, e1, h1⟩ := VRel.meth_inv hv
          obtain ⟨x2, rfl, h2⟩ := h1.iface_inv
          have e2 := h2.flat_eq 3 hp
          rw [e2] at e1
          refine Yl.same R (v' := a.eval x) ?_ hv
          have h3 := srun_run hn w
          unfold execOp
          simp only [ho, e1]
          simp [run_program, h3]
        · cases e
      · cases e
    · cases e
  · rename_i op t x y t2 ho
    split at e
    · rename_i u hu; cases e; exact evBin_ok R T ho hu
    · cases e
  · rename_i op t x ho
    split at e
    · rename_i u hu
      split at e
      · rename_i v1 hv
        cases e
        obtain ⟨e1, e2⟩ := pureR_eq hv
        refine Yl.flat R ?_ e2
        unfold execOp
        simp only [ho, (T.flatO hu).1]
        exact run_v (srun_run e1 w)
      · cases e
    · cases e
  · rename_i src dst x ho
    split at e
    · rename_i u hu
      split at e
      · rename_i v1 hv
        cases e
        obtain ⟨e1, e2⟩ := pureR_eq hv
        refine Yl.flat R ?_ e2
        unfold execOp
        simp only [ho, (T.flatO hu).1]
        exact run_v (srun_run e1 w)
      · split at e
        · rename_i q hq; exact evBytes_ok R T ho hq e
        · cases e
    · cases e
  · rename_i f first cap ho
    split at e
    · rename_i us vs hus hvs
      cases e
      have hr := T.opnds hvs
      have hu := T.opnds hus
      refine Yl.same R (v' := .func (.func f) ((⟨first⟩ : Array Operand).map a.eval) ((⟨cap⟩ : Array Operand).map a.eval)) ?_ (.func f _ _ _ _ (by simpa using hu.length) (by simpa using hr.length) (fun i v v' e1 e2 => hu.at (by simpa using e1) (by simpa using e2)) (fun i v v' e1 e2 => hr.at (by simpa using e1) (by simpa using e2)))
      unfold execOp
      simp [ho, Instr.makeFunc]
    · cases e
  · rename_i n x ho
    split at e
    · rename_i u hu
      cases e
      refine Yl.same R (v' := .func (.method n) #[a.eval x] #[]) ?_ (.meth _ _ _ (T.opnd hu))
      unfold execOp
      simp [ho, Instr.makeFunc]
    · cases e
  · rename_i t x y ho
    split at e
    · rename_i u u2 hu hu2; exact evMake_ok R T ho hu hu2 e
    · cases e
  · rename_i t x lo hi mx ho; exact evSl_ok R T ho e
  · rename_i t x f ho
    split at e
    · rename_i u hu
      split at e
      · rename_i v1 hv; cases e; exact evFieldAddr_ok R T ho hu hv
      · cases e
    · cases e
  · rename_i t x f ho
    split at e
    · rename_i u hu
      split at e
      · rename_i v1 hv; cases e; exact evField_ok R T ho hu hv
      · cases e
    · cases e
  · rename_i t x y ho
    split at e
    · rename_i u i hu hi
      split at e
      · rename_i v1 hv; cases e; exact evIndexAddr_ok R T ho hu hi hv
      · cases e
    · cases e
  · rename_i t x y ho
    split at e
    · rename_i q i hu hi
      split at e
      · rename_i i2 hi2
        split at e
        · rename_i v1 hv
          cases e
          obtain ⟨e1, e2⟩ := pureR_eq hv
          have hq := (T.opnd hu).string
          obtain ⟨f1, f2⟩ := T.flatO hi2
          have hie : i2 = i := by
            have := (T.opnd hi).flat_eq
            simp only [flatO, hi, cond_eq_ite] at hi2
            split at hi2
            · cases hi2; rfl
            · cases hi2
          refine Yl.flat R ?_ e2
          unfold execOp
          simp only [ho, hq, f1, hie]
          exact run_v (srun_run e1 w)
        · cases e
      · cases e
    · rename_i u i _ hu hi
      split at e
      · rename_i v1 hv; cases e; exact evIndex_ok R T ho hu hi hv
      · cases e
    · cases e
  · rename_i t r ho
    exact evMakeMap_ok R T ho e
  · rename_i t m k x ho
    split at e
    · rename_i u vk vx hm hk hx
      split at e
      · rename_i s1 hv; cases e; exact evMapPut_ok R T (.inl ho) hm hk hx hv
      · cases e
    · cases e
  · rename_i t m k x ho
    split at e
    · rename_i u vk vx hm hk hx
      split at e
      · rename_i s1 hv; cases e; exact evMapPut_ok R T (.inr ho) hm hk hx hv
      · cases e
    · cases e
  · rename_i t m k ok ho
    split at e
    · rename_i u vk hm hk
      split at e
      · rename_i v1 hv; cases e; exact evLookup_ok R T ho hm hk hv
      · cases e
    · cases e
  · rename_i t x ho
    split at e
    · rename_i u hu; exact evRange_ok R T ho hu e
    · cases e
  · rename_i x q ho
    split at e
    · rename_i u hu; exact evNext_ok R T ho hu e
    · cases e
  · rename_i t x ho
    split at e
    · rename_i u hu
      split at e
      · rename_i v1 hv; cases e; exact evIface_ok R T ho hu hv
      · cases e
    · cases e
  · rename_i x xT t ok ho
    split at e
    · rename_i u hu
      split at e
      · rename_i v1 hv; cases e; exact evAssert_ok R T ho hu hv
      · cases e
    · cases e
  · rename_i x i ho
    split at e
    · rename_i u hu
      split at e
      · rename_i v1 hv; cases e; exact evExtract_ok R T ho hu hv
      · cases e
    · cases e
  · rename_i x y t tx ho
    split at e
    · rename_i u u2 hu hu2
      split at e
      · rename_i r hr; cases e; exact evGrow_ok R T ho hu hu2 hr
      · exact evAppend_ok R T ho hu hu2 e
    · cases e
  · rename_i x t ho
    split at e
    · rename_i u hu
      split at e
      · rename_i v1 hv; cases e; exact evLen_ok R T ho hu hv
      · split at e
        · rename_i v1 hv; cases e; exact evBuiltin_ok R T ho hv
        · cases e
    · cases e
  · rename_i x t ho
    split at e
    · rename_i u hu
      split at e
      · rename_i s1 hs1; cases e; exact evClear_ok R T ho hu hs1
      · cases e
    · cases e
  · rename_i x y t t2 ho
    split at e
    · rename_i u u2 hu hu2; exact evCopy_ok R T ho hu hu2 e
    · cases e
  · rename_i b args ts _ _ _ _ ho
    split at e
    · rename_i v1 hv; cases e; exact evBuiltin_ok R T ho hv
    · cases e
  · cases e
end
end Go.Proofs.Ytlapnehfjklpoaa
