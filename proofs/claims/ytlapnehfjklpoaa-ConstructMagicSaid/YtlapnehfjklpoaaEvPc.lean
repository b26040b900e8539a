/- Closed calls by reckoning: a function's body in pieces, each reckoned for itself. -/
import Derived.Test.YtlapnehfjklpoaaEvU
namespace Go.Proofs.Ytlapnehfjklpoaa
open Go.RowKit

/-- what is kept of a trie -/
noncomputable def keepT {α : Type} (t : Tr α) (l : List Nat) : Tr α := @List.rec Nat (fun _ => Tr α) .nil (fun k _ ih => @Option.rec α (fun _ => Tr α) ih (fun v => seqT (Tr.ins (some v) ih k) fun t => t) (t.get k)) l
theorem keepT_get {α : Type} (t : Tr α) : ∀ (l : List Nat) (j : Nat) (v : α), (keepT t l).get j = some v → t.get j = some v
  | [], j, v, h => by cases h
  | k :: l, j, v, h => by
    have h : (@Option.rec α (fun _ => Tr α) (keepT t l) (fun v => seqT (Tr.ins (some v) (keepT t l) k) fun t => t) (t.get k)).get j = some v := h
    cases hk : t.get k with
    | none => rw [hk] at h; exact keepT_get t l j v h
    | some u =>
      rw [hk] at h
      simp only [seqT_eq, Tr.ins_get] at h
      split at h
      · rename_i hj; rw [hj, hk]; exact h
      · exact keepT_get t l j v h
/-- what is kept of an end -/
noncomputable def gcR (sl ids : List Nat) (x : Option Res) : Option (Ex × Tr Value × Nat × List Nat × Tr Blk × Nat) :=
  match x with
  | some r => some (r.x, keepT r.tm.t sl, r.tm.n, r.tm.ds, keepT r.s.h ids, r.s.N)
  | none => none
/-- what holds behind a piece -/
def QP (B : Nat) (x : Ex) (tm : Tm) (h : Tr Blk) (N : Nat) (w : World) (e : Exit) (a' : Act) (w' : World) : Prop := e = x.of ∧ ∃ ρ', TRel ρ' N tm a' ∧ Rel B ρ' N h.get w' ∧ Below B w w'
section
variable {P : Program} {O : OraT} {B : Nat} {ρ : Nat → Place} {w w0 : World} {a : Act}
theorem piece (hmix : P.follows .mixedOrders = true) (hO : Orac P B w0 O) {k : Nat} {c : Code} {tm : Tm} {s : St} {sl ids : List Nat} {x : Ex} {tL : Tr Value} {n : Nat} {hL : Tr Blk} {N : Nat} (e : gcR sl ids (evF P O k (.code none c) tm s) = some (x, tL, n, [], hL, N))
    (hB : Below B w0 w) (R : Rel B ρ s.N s.h.get w) (T : TRel ρ s.N tm a) : c.wpIn (fe none) 0 P (QP B x ⟨tL, n, []⟩ hL N w) a w := by
  unfold gcR at e
  split at e
  · rename_i r hr
    have hs := evF_ok (w0 := w0) hmix hO k _ _ _ _ hr ρ a w hB R T (fun l h => by cases h)
    have hs : c.wpIn (fe none) 0 P (QC B ρ s w r) a w := hs
    refine wpIn_mono hs fun e' a' w' hq => ?_
    obtain ⟨q1, _, ρ1, q3, q4, q5⟩ := hq
    obtain ⟨rx, ⟨rt, rn, rds⟩, rv, ⟨rh, rN, rW⟩⟩ := r
    simp only [Option.some.injEq, Prod.mk.injEq] at e
    obtain ⟨e1, e2, e3, e4, e5, e6⟩ := e
    subst e1; subst e2; subst e3; subst e4; subst e5; subst e6
    refine ⟨q1, ρ1, ⟨q3.size, fun t v hv => q3.slot t v (keepT_get rt sl t v hv), q3.dfr, q3.ds⟩, q4.less fun id b hb => keepT_get rh ids id b hb, q5.below R⟩
  · cases e
/-- two pieces behind one another -/
theorem pieces {x : Ex} {tm1 tm2 : Tm} {h1 h2 : Tr Blk} {N1 N2 : Nat} {c1 c2 : Code} (H1 : c1.wpIn (fe none) 0 P (QP B .normal tm1 h1 N1 w) a w)
    (H2 : ∀ ρ a w', Below B w w' → Rel B ρ N1 h1.get w' → TRel ρ N1 tm1 a → c2.wpIn (fe none) 0 P (QP B x tm2 h2 N2 w') a w') : (Code.seq c1 c2).wpIn (fe none) 0 P (QP B x tm2 h2 N2 w) a w := by
  refine wpIn_seq (wpIn_mono H1 fun e' a' w' hq => ?_)
  obtain ⟨q1, ρ1, q3, q4, q5⟩ := hq
  subst q1
  show c2.wpIn _ 0 P _ a' w'
  refine wpIn_mono (H2 ρ1 a' w' q5 q4 q3) fun e2 a2 w2 hq2 => ?_
  obtain ⟨p1, ρ2, p3, p4, p5⟩ := hq2
  exact ⟨p1, ρ2, p3, p4, q5.trans p5⟩
/-- a call whose body is reckoned in pieces -/
theorem calls_of_code {f : FuncId} {fn : Func} {c : Code} (hf : P.funcs[f]? = some fn) (hb : fn.body = some c) {args : List Value} {t : Tr Value} (ht : trOf .nil 0 args = some t) (hp : args.all (pureV 3) = true) {x : Ex} (hx : x = .normal ∨ x = .ret) {tL : Tr Value} {n N : Nat} {hL : Tr Blk} {vs : List Value} (hvs : evRes P ⟨hL, N, []⟩ ⟨tL, n, []⟩ fn.results.toList = some vs) {v : Value} (hv : tupleOf vs = v) (hpv : pureV 3 v = true)
    (H : ∀ ρ a, Rel w.heap.size ρ 0 (Tr.nil : Tr Blk).get w → TRel ρ 0 ⟨t, args.length + (fn.ntmps - args.length), []⟩ a → c.wpIn (fe none) 0 P (QP w.heap.size x ⟨tL, n, []⟩ hL N w) a w) : Calls P f args.toArray w fun e w' => e = .returned v ∧ Below w.heap.size w w' := by
  have R0 : Rel w.heap.size (fun _ => ⟨0, 0, 0, 0, false⟩) 0 (Tr.nil : Tr Blk).get w := ⟨Nat.le_refl _, (fun id b h => by cases h), (fun id b h => by cases h), (fun i j bi bj h => by cases h), (fun id b h => by cases h)⟩
  have T0 : TRel (fun _ => ⟨0, 0, 0, 0, false⟩) 0 ⟨t, args.length + (fn.ntmps - args.length), []⟩ { tmps := args.toArray ++ Array.replicate (fn.ntmps - args.toArray.size) undef, defers := [] } := by
    refine ⟨by simp, fun j u hu => ?_, rfl, fun d hd => by simp at hd⟩
    have hu := trOf_nil ht hu
    have hlt : j < args.length := by
      rcases Nat.lt_or_ge j args.length with q | q
      · exact q
      · rw [List.getElem?_eq_none q] at hu; cases hu
    refine ⟨u, by rw [Array.getElem?_append_left (by simpa using hlt)]; simpa using hu, .flat 3 u ?_⟩
    exact List.all_eq_true.1 hp u (List.mem_of_getElem? hu)
  refine (callsIn_wide (n := 0)).1 (callsIn_of_wp_marks hf hb trivial (wpIn_mono (H _ _ R0 T0) fun e' a' w' hq => ?_))
  obtain ⟨q1, ρ1, q3, q4, q5⟩ := hq
  have hfin : LeavesInM Fence.wide 0 P fn a'.tmps (fun e w' => e = .returned v ∧ Below w.heap.size w w') a'.defers .returning w' := by
    rw [q3.dfr]
    refine take_ok (ρ := ρ1) [] ⟨hL, N, []⟩ ⟨hL, N, []⟩ w' q4 rfl fun w2 g1 g2 g3 g4 => ?_
    have T2 : TRel ρ1 N ⟨tL, n, []⟩ a' := q3
    obtain ⟨v', g5, g6⟩ := results_ok (P := P) g3 T2 hvs
    rw [hv] at g5
    rw [g5.flat_eq 3 hpv] at g6
    exact ⟨v, g6, rfl, q5.trans (g4.below q4)⟩
  rcases hx with rfl | rfl
  · subst q1; exact hfin
  · subst q1; exact hfin

/-! ends that are tested -/
noncomputable def one (k : Nat) (v : Value) : Tr Value := Tr.ins (some v) .nil k
theorem one_get {k j : Nat} {u v : Value} (h : (one k v).get j = some u) : j = k ∧ u = v := by
  unfold one at h
  rw [Tr.ins_get] at h
  split at h
  · rename_i hj; cases h; exact ⟨hj, rfl⟩
  · cases h
noncomputable def nilB (l : List Nat) : Bool := @List.rec Nat (fun _ => Bool) true (fun _ _ _ => false) l
/-- it goes on, a slot is the number k, and there are no new blocks -/
noncomputable def endN (n sl k : Nat) (x : Option Res) : Bool := match x with
  | some ⟨.normal, ⟨t, m, ds⟩, _, ⟨_, N, _⟩⟩ => nilB ds && m.beq n && N.beq 0 && (match t.get sl with | some (.int .i64 (.ofNat j)) => j.beq k | _ => false)
  | _ => false
/-- it goes on, a slot is the byte k, and there are no new blocks -/
noncomputable def endU (n sl k : Nat) (x : Option Res) : Bool := match x with
  | some ⟨.normal, ⟨t, m, ds⟩, _, ⟨_, N, _⟩⟩ => nilB ds && m.beq n && N.beq 0 && (match t.get sl with | some (.int .u8 (.ofNat j)) => j.beq k | _ => false)
  | _ => false
/-- it returns, and a slot is true -/
noncomputable def endT (n sl : Nat) (x : Option Res) : Bool := match x with
  | some ⟨.ret, ⟨t, m, ds⟩, _, _⟩ => nilB ds && m.beq n && (match t.get sl with | some (.bool b) => b | _ => false)
  | _ => false
theorem nilB_eq {l : List Nat} (h : nilB l = true) : l = [] := by cases l with | nil => rfl | cons => cases h
def QT (B n sl : Nat) (w : World) (e : Exit) (a' : Act) (w' : World) : Prop := e = .ret ∧ ∃ ρ' N, TRel ρ' N ⟨one sl (.bool true), n, []⟩ a' ∧ Rel B ρ' N (Tr.nil : Tr Blk).get w' ∧ Below B w w'
theorem Rel.nilH {B : Nat} {ρ : Nat → Place} {N : Nat} {h : Nat → Option Blk} {w : World} (R : Rel B ρ N h w) : Rel B ρ N (Tr.nil : Tr Blk).get w := R.less fun id b e => by cases e
theorem pieceN (hmix : P.follows .mixedOrders = true) (hO : Orac P B w0 O) {k : Nat} {c : Code} {tm : Tm} {n sl m : Nat} (e : endN n sl m (evF P O k (.code none c) tm ⟨.nil, 0, []⟩) = true)
    (hB : Below B w0 w) (R : Rel B ρ 0 (Tr.nil : Tr Blk).get w) (T : TRel ρ 0 tm a) : c.wpIn (fe none) 0 P (QP B .normal ⟨one sl (.int .i64 (.ofNat m)), n, []⟩ .nil 0 w) a w := by
  unfold endN at e
  split at e
  · rename_i t m2 ds v h N W hr
    simp only [Bool.and_eq_true, Nat.beq_eq] at e
    obtain ⟨⟨⟨e1, e2⟩, e3⟩, e4⟩ := e
    have e1 := nilB_eq e1
    subst e1; subst e2; subst e3
    split at e4
    · rename_i j hj
      rw [Nat.beq_eq] at e4
      subst e4
      have hs : c.wpIn (fe none) 0 P (QC B ρ ⟨.nil, 0, []⟩ w _) a w := evF_ok (w0 := w0) hmix hO k _ _ _ _ hr ρ a w hB R T (fun l h => by cases h)
      refine wpIn_mono hs fun e' a' w' hq => ?_
      obtain ⟨q1, _, ρ1, q3, q4, q5⟩ := hq
      refine ⟨q1, ρ1, ⟨q3.size, fun t2 u hu => ?_, q3.dfr, q3.ds⟩, q4.nilH, q5.below R⟩
      obtain ⟨rfl, rfl⟩ := one_get hu
      exact q3.slot _ _ hj
    · cases e4
  · cases e
theorem pieceU (hmix : P.follows .mixedOrders = true) (hO : Orac P B w0 O) {k : Nat} {c : Code} {tm : Tm} {n sl m : Nat} (e : endU n sl m (evF P O k (.code none c) tm ⟨.nil, 0, []⟩) = true)
    (hB : Below B w0 w) (R : Rel B ρ 0 (Tr.nil : Tr Blk).get w) (T : TRel ρ 0 tm a) : c.wpIn (fe none) 0 P (QP B .normal ⟨one sl (.int .u8 (.ofNat m)), n, []⟩ .nil 0 w) a w := by
  unfold endU at e
  split at e
  · rename_i t m2 ds v h N W hr
    simp only [Bool.and_eq_true, Nat.beq_eq] at e
    obtain ⟨⟨⟨e1, e2⟩, e3⟩, e4⟩ := e
    have e1 := nilB_eq e1
    subst e1; subst e2; subst e3
    split at e4
    · rename_i j hj
      rw [Nat.beq_eq] at e4
      subst e4
      have hs : c.wpIn (fe none) 0 P (QC B ρ ⟨.nil, 0, []⟩ w _) a w := evF_ok (w0 := w0) hmix hO k _ _ _ _ hr ρ a w hB R T (fun l h => by cases h)
      refine wpIn_mono hs fun e' a' w' hq => ?_
      obtain ⟨q1, _, ρ1, q3, q4, q5⟩ := hq
      refine ⟨q1, ρ1, ⟨q3.size, fun t2 u hu => ?_, q3.dfr, q3.ds⟩, q4.nilH, q5.below R⟩
      obtain ⟨rfl, rfl⟩ := one_get hu
      exact q3.slot _ _ hj
    · cases e4
  · cases e
theorem pieceT (hmix : P.follows .mixedOrders = true) (hO : Orac P B w0 O) {k : Nat} {c : Code} {tm : Tm} {s : St} {n sl : Nat} (e : endT n sl (evF P O k (.code none c) tm s) = true)
    (hB : Below B w0 w) (R : Rel B ρ s.N s.h.get w) (T : TRel ρ s.N tm a) : c.wpIn (fe none) 0 P (QT B n sl w) a w := by
  unfold endT at e
  split at e
  · rename_i t m2 ds v s2 hr
    simp only [Bool.and_eq_true, Nat.beq_eq] at e
    obtain ⟨⟨e1, e2⟩, e4⟩ := e
    have e1 := nilB_eq e1
    subst e1; subst e2
    split at e4
    · rename_i b hj
      subst e4
      have hs : c.wpIn (fe none) 0 P (QC B ρ s w _) a w := evF_ok (w0 := w0) hmix hO k _ _ _ _ hr ρ a w hB R T (fun l h => by cases h)
      refine wpIn_mono hs fun e' a' w' hq => ?_
      obtain ⟨q1, _, ρ1, q3, q4, q5⟩ := hq
      refine ⟨q1, ρ1, _, ⟨q3.size, fun t2 u hu => ?_, q3.dfr, q3.ds⟩, q4.nilH, q5.below R⟩
      obtain ⟨rfl, rfl⟩ := one_get hu
      exact q3.slot _ _ hj
    · cases e4
  · cases e
theorem thenT {n sl : Nat} {tm1 : Tm} {h1 : Tr Blk} {N1 : Nat} {c1 c2 : Code} (H1 : c1.wpIn (fe none) 0 P (QP B .normal tm1 h1 N1 w) a w)
    (H2 : ∀ ρ a w', Below B w w' → Rel B ρ N1 h1.get w' → TRel ρ N1 tm1 a → c2.wpIn (fe none) 0 P (QT B n sl w') a w') : (Code.seq c1 c2).wpIn (fe none) 0 P (QT B n sl w) a w := by
  refine wpIn_seq (wpIn_mono H1 fun e' a' w' hq => ?_)
  obtain ⟨q1, ρ1, q3, q4, q5⟩ := hq
  subst q1
  show c2.wpIn _ 0 P _ a' w'
  refine wpIn_mono (H2 ρ1 a' w' q5 q4 q3) fun e2 a2 w2 hq2 => ?_
  obtain ⟨p1, ρ2, N, p3, p4, p5⟩ := hq2
  exact ⟨p1, ρ2, N, p3, p4, q5.trans p5⟩
/-- a call that returns true -/
theorem calls_true {f : FuncId} {fn : Func} {c : Code} (hf : P.funcs[f]? = some fn) (hb : fn.body = some c) {args : List Value} {t : Tr Value} (ht : trOf .nil 0 args = some t) (hp : args.all (pureV 3) = true) {n sl : Nat} (hres : fn.results.toList = [.tmp sl])
    (H : ∀ ρ a, Rel w.heap.size ρ 0 (Tr.nil : Tr Blk).get w → TRel ρ 0 ⟨t, args.length + (fn.ntmps - args.length), []⟩ a → c.wpIn (fe none) 0 P (QT w.heap.size n sl w) a w) : Calls P f args.toArray w fun e w' => e = .returned (.bool true) ∧ Below w.heap.size w w' := by
  have R0 : Rel w.heap.size (fun _ => ⟨0, 0, 0, 0, false⟩) 0 (Tr.nil : Tr Blk).get w := ⟨Nat.le_refl _, (fun id b h => by cases h), (fun id b h => by cases h), (fun i j bi bj h => by cases h), (fun id b h => by cases h)⟩
  have T0 : TRel (fun _ => ⟨0, 0, 0, 0, false⟩) 0 ⟨t, args.length + (fn.ntmps - args.length), []⟩ { tmps := args.toArray ++ Array.replicate (fn.ntmps - args.toArray.size) undef, defers := [] } := by
    refine ⟨by simp, fun j u hu => ?_, rfl, fun d hd => by simp at hd⟩
    have hu := trOf_nil ht hu
    have hlt : j < args.length := by
      rcases Nat.lt_or_ge j args.length with q | q
      · exact q
      · rw [List.getElem?_eq_none q] at hu; cases hu
    refine ⟨u, by rw [Array.getElem?_append_left (by simpa using hlt)]; simpa using hu, .flat 3 u ?_⟩
    exact List.all_eq_true.1 hp u (List.mem_of_getElem? hu)
  refine (callsIn_wide (n := 0)).1 (callsIn_of_wp_marks hf hb trivial (wpIn_mono (H _ _ R0 T0) fun e' a' w' hq => ?_))
  obtain ⟨q1, ρ1, N, q3, q4, q5⟩ := hq
  subst q1
  show LeavesInM Fence.wide 0 P fn a'.tmps (fun e w' => e = .returned (.bool true) ∧ Below w.heap.size w w') a'.defers .returning w'
  rw [q3.dfr]
  refine take_ok (ρ := ρ1) [] ⟨.nil, N, []⟩ ⟨.nil, N, []⟩ w' q4 rfl fun w2 g1 g2 g3 g4 => ?_
  have T2 : TRel ρ1 N ⟨one sl (.bool true), n, []⟩ a' := q3
  have hvs : evRes P ⟨.nil, N, []⟩ ⟨one sl (.bool true), n, []⟩ fn.results.toList = some [.bool true] := by
    rw [hres]
    show (match (one sl (.bool true)).get sl with | some v => some [v] | none => none) = _
    unfold one
    rw [Tr.ins_get, if_pos rfl]
  obtain ⟨v', g5, g6⟩ := results_ok (P := P) g3 T2 hvs
  have g7 := g5.flat_eq 3 rfl
  rw [g7] at g6
  exact ⟨_, g6, rfl, q5.trans (g4.below q4)⟩
def bodyOf (f : Func) : Code := match f.body with | some c => c | none => .skip
def fstC : Code → Code | .seq a _ => a | c => c
def sndC : Code → Code | .seq _ b => b | c => c
/-- one function that is not gone into: it takes nothing and returns true -/
def awO (f : FuncId) : OraT := fun g args => bif g.beq f then (match args with | [] => some (.bool true) | _ => none) else none
theorem awO_ok {f : FuncId} (hE : Enters P f) (h : ∀ w, Calls P f #[] w fun e w' => e = .returned (.bool true) ∧ Below w.heap.size w w') (B : Nat) (w0 : World) : Orac P B w0 (awO f) := by
  intro g args v e
  unfold awO at e
  rw [cond_eq_ite] at e
  split at e
  · rename_i hg
    have := Nat.eq_of_beq_eq_true hg
    subst this
    split at e
    · cases e; exact ⟨hE, rfl, rfl, fun w _ => h w⟩
    · cases e
  · cases e
end
end Go.Proofs.Ytlapnehfjklpoaa
