/- Closed calls by reckoning: regions that draw their order: what is asked of the order, and the reckoning. -/
import Derived.Test.YtlapnehfjklpoaaEvK
namespace Go.Proofs.Ytlapnehfjklpoaa
open Go.RowKit

/-! the order of a region's operations: a mask for each of those that come before it -/
noncomputable def maskOf (ms : List Nat) (o : Oper) : Nat := o.after.toList.foldl (fun s e => bif Region.binds .any e then s ||| (2 ^ e.on ||| ms.getD e.on 0) else s) 0
noncomputable def masks : List Oper → List Nat → List Nat
  | [], ms => ms
  | o :: l, ms => masks l (ms ++ [maskOf ms o])
noncomputable def opTmps : List Operand → List Tmp
  | [] => []
  | .tmp t :: l => t :: opTmps l
  | _ :: l => opTmps l
noncomputable def reads (all : List Oper) (o : Oper) : List Tmp :=
  opTmps o.op.operands.toList ++ (match o.guard with
    | some (j, _) => (match all[j]? with | some oj => oj.dst.toList | none => [])
    | none => [])
/-- the masks are those of the order -/
noncomputable def msOK (all : List Oper) (ms : List Nat) : Bool :=
  (List.range all.length).all fun i => match all[i]? with
    | some o => (ms.getD i 0).beq (maskOf ms o) && o.after.toList.all (fun e => !Region.binds .any e || e.on.blt i)
    | none => true
/-- who writes a slot that another operation names is ordered with it -/
noncomputable def slotsOK (all : List Oper) (ms : List Nat) : Bool :=
  (List.range all.length).all fun i => match all[i]? with
    | some o => (List.range all.length).all fun j => match all[j]? with
      | some oj => (match oj.dst with
        | some d => bif (reads all o ++ o.dst.toList).contains d then j.beq i || (bif j.blt i then (ms.getD i 0).testBit j else (ms.getD j 0).testBit i) else true
        | none => true)
      | none => true
    | none => true
noncomputable def statOK (all : List Oper) : Bool := msOK all (masks all []) && slotsOK all (masks all [])

noncomputable def Pr (ms : List Nat) (i j : Nat) : Prop := (ms.getD i 0).testBit j = true
theorem foldl_bit (ms : List Nat) (j : Nat) : ∀ (l : List Edge) (s : Nat), ((l.foldl (fun s e => bif Region.binds .any e then s ||| (2 ^ e.on ||| ms.getD e.on 0) else s) s).testBit j = true) ↔
    (s.testBit j = true ∨ ∃ e ∈ l, Region.binds .any e = true ∧ (j = e.on ∨ (ms.getD e.on 0).testBit j = true))
  | [], s => by simp
  | e :: l, s => by
    rw [List.foldl_cons, foldl_bit ms j l]
    cases hb : Region.binds .any e with
    | false =>
      simp only [cond_false]
      constructor
      · rintro (h | ⟨e', h1, h2⟩)
        · exact .inl h
        · exact .inr ⟨e', List.mem_cons_of_mem _ h1, h2⟩
      · rintro (h | ⟨e', h1, h2, h3⟩)
        · exact .inl h
        · rcases List.mem_cons.1 h1 with rfl | h1
          · rw [hb] at h2; cases h2
          · exact .inr ⟨e', h1, h2, h3⟩
    | true =>
      simp only [cond_true, Nat.testBit_or, Nat.testBit_two_pow, Bool.or_eq_true, decide_eq_true_eq]
      constructor
      · rintro ((h | h | h) | ⟨e', h1, h2⟩)
        · exact .inl h
        · exact .inr ⟨e, List.mem_cons_self, hb, .inl h.symm⟩
        · exact .inr ⟨e, List.mem_cons_self, hb, .inr h⟩
        · exact .inr ⟨e', List.mem_cons_of_mem _ h1, h2⟩
      · rintro (h | ⟨e', h1, h2, h3⟩)
        · exact .inl (.inl h)
        · rcases List.mem_cons.1 h1 with rfl | h1
          · rcases h3 with h3 | h3
            · exact .inl (.inr (.inl h3.symm))
            · exact .inl (.inr (.inr h3))
          · exact .inr ⟨e', h1, h2, h3⟩
section
variable {all : List Oper} {ms : List Nat}
theorem msOK_at (h : msOK all ms = true) {i : Nat} {o : Oper} (ho : all[i]? = some o) :
    (∀ j, Pr ms i j ↔ ∃ e ∈ o.after.toList, Region.binds .any e = true ∧ (j = e.on ∨ Pr ms e.on j)) ∧ ∀ e ∈ o.after.toList, Region.binds .any e = true → e.on < i := by
  have hi : i < all.length := by
    rcases Nat.lt_or_ge i all.length with q | q
    · exact q
    · rw [List.getElem?_eq_none q] at ho; cases ho
  have h1 := List.all_eq_true.1 h i (List.mem_range.2 hi)
  rw [ho] at h1
  simp only [Bool.and_eq_true, Nat.beq_eq] at h1
  refine ⟨fun j => ?_, fun e he hb => ?_⟩
  · unfold Pr
    rw [h1.1]
    unfold maskOf
    rw [foldl_bit]
    simp
  · have h2 := List.all_eq_true.1 h1.2 e he
    rw [hb] at h2
    simpa [Nat.blt_eq] using h2
theorem Pr_lt (h : msOK all ms = true) : ∀ (i j : Nat), i < all.length → Pr ms i j → j < i := by
  intro i
  induction i using Nat.strongRecOn with
  | _ i ih =>
    intro j hi hp
    have ho := List.getElem?_eq_getElem hi
    obtain ⟨h1, h2⟩ := msOK_at h ho
    obtain ⟨e, he, hb, hj⟩ := (h1 j).1 hp
    have he2 := h2 e he hb
    rcases hj with rfl | hj
    · exact he2
    · have := ih e.on he2 j (by omega) hj; omega
/-- what is asked of a slot that is named -/
theorem slotsOK_at (h : slotsOK all ms = true) {i j : Nat} {o oj : Oper} (hi : all[i]? = some o) (hj : all[j]? = some oj) {d : Tmp} (hd : oj.dst = some d) (hm : d ∈ reads all o ++ o.dst.toList) (hij : j ≠ i) :
    (j < i → Pr ms i j) ∧ (i < j → Pr ms j i) := by
  have li : i < all.length := by
    rcases Nat.lt_or_ge i all.length with q | q
    · exact q
    · rw [List.getElem?_eq_none q] at hi; cases hi
  have lj : j < all.length := by
    rcases Nat.lt_or_ge j all.length with q | q
    · exact q
    · rw [List.getElem?_eq_none q] at hj; cases hj
  have h1 := List.all_eq_true.1 h i (List.mem_range.2 li)
  rw [hi] at h1
  have h2 := List.all_eq_true.1 h1 j (List.mem_range.2 lj)
  rw [hj] at h2
  have hc : (reads all o ++ o.dst.toList).contains d = true := by simpa using hm
  simp only [hd, hc, cond_true] at h2
  rw [Bool.or_eq_true, Nat.beq_eq, cond_eq_ite] at h2
  rcases h2 with h2 | h2
  · exact absurd h2 hij
  · constructor
    · intro hlt; rw [if_pos (by rw [Nat.blt_eq]; exact hlt)] at h2; exact h2
    · intro hlt; rw [if_neg (by rw [Nat.blt_eq]; omega)] at h2; exact h2
end

/-! the reckoning -/
noncomputable def restr (tm : Tm) (l : List Tmp) : Option (Tr Value) := some (.only l tm.t)
theorem restr_get (tm : Tm) (l : List Tmp) (r : Tr Value) (h : restr tm l = some r) (t : Tmp) (v : Value) (hv : r.get t = some v) : t ∈ l ∧ tm.t.get t = some v := by
  cases h
  exact Tr.get_only hv
/-- one operation of a region, for itself -/
noncomputable def oneE (P : Program) (rec : Task → Tm → St → Option Res) (all : List Oper) (tm : Tm) (s : St) (o : Oper) : Option (Bool × Value × St) :=
  match wantedV all tm o with
  | some false => some (false, undef, s)
  | some true => (match calleeV P tm o with
    | some (f, args) => (match rec (.call f args) tm s with | some r => some (true, r.v, r.s) | none => none)
    | none => (match yieldV tm o with
      | some (l, args) => (match rec (.yield l args) tm s with | some r => some (true, r.v, r.s) | none => none)
      | none => (match evOp P tm s o with | some (v, s') => some (true, v, s') | none => none)))
  | none => none
structure DRec where
  o : Oper
  tmI : Tm
  p : Nat
  w : Bool
  v : Value
  sO : St
  heavy : Bool
  pu : Bool
/-- which of the heavy operations come before -/
noncomputable def prefOK (m p : Nat) : List Nat → Nat → Bool
  | [], _ => true
  | x :: l, q => (m.testBit x == q.blt p) && prefOK m p l (q + 1)
noncomputable def countP (m : Nat) : List Nat → Nat
  | [] => 0
  | x :: l => bif m.testBit x then countP m l + 1 else countP m l
noncomputable def lvOK (lv : Tr Nat) (p : Nat) : List Tmp → Bool
  | [] => true
  | t :: l => (match lv.get t with | some k => k.ble p | none => true) && lvOK lv p l
/-- a trie in which nothing is laid stays so for zeros -/
noncomputable def setLv0 (lv : Tr Nat) (t : Tmp) (k : Nat) : Option (Tr Nat) := @Tr.rec Nat (fun _ => Option (Tr Nat)) (@Nat.rec (fun _ => Option (Tr Nat)) (some .nil) (fun _ _ => Tr.put 32 lv t (some k)) k) (fun _ _ _ _ _ => Tr.put 32 lv t (some k)) (fun _ _ _ => Tr.put 32 lv t (some k)) (fun _ _ _ _ => Tr.put 32 lv t (some k)) lv
noncomputable def setLv (lv : Tr Nat) (d : Option Tmp) (k : Nat) : Option (Tr Nat) := @Option.rec Tmp (fun _ => Option (Tr Nat)) (some lv) (fun t => setLv0 lv t k) d

structure DOut where
  recs : List DRec
  hs : List Nat
  sn : List St
  tm : Tm
/-- an operation that needs nothing of the heap -/
noncomputable def lightE (P : Program) (all : List Oper) (tm : Tm) (N : Nat) (o : Oper) : Option (Bool × Value × St) :=
  match oneE P (fun _ _ _ => none) all tm ⟨.nil, N, []⟩ o with
  | some (w, v, sO) => (match sO.W with | [] => bif sO.N.beq N then some (w, v, sO) else none | _ => none)
  | none => none
noncomputable def drawE (P : Program) (rec : Task → Tm → St → Option Res) (all : List Oper) (ms : List Nat) : List Oper → Nat → Nat → List Nat → List St → Nat → Tr Nat → Tm → Option DOut
  | [], _, _, hs, sn, _, _, tm => some ⟨[], hs, sn, tm⟩
  | o :: l, i, nm, hs, sn, dq, lv, tm =>
    match restr tm (reads all o), sn[countP (ms.getD i 0) hs]? with
    | some t, some s =>
      bif prefOK (ms.getD i 0) (countP (ms.getD i 0) hs) hs 0 && lvOK lv (countP (ms.getD i 0) hs) (reads all o) then
        (match lightE P all ⟨t, tm.n, tm.ds⟩ s.N o with
        | some (w, v, sO) => (match tm.put o.dst v with
          | some tm' => (match setLv lv o.dst (countP (ms.getD i 0) hs) with
            | some lv' => (match drawE P rec all ms l (i + 1) nm hs sn dq lv' tm' with
              | some r => some ⟨⟨o, ⟨t, tm.n, tm.ds⟩, countP (ms.getD i 0) hs, w, v, sO, false, true⟩ :: r.recs, r.hs, r.sn, r.tm⟩
              | none => none)
            | none => none)
          | none => none)
        | none => bif dq.ble (countP (ms.getD i 0) hs) then
        (match oneE P rec all ⟨t, tm.n, tm.ds⟩ ⟨s.h, s.N, []⟩ o with
        | some (w, v, sO) =>
          (match tm.put o.dst v with
          | some tm' =>
            (match sO.W with
            | [] => bif sO.N.beq s.N then
                (match setLv lv o.dst (countP (ms.getD i 0) hs) with
                | some lv' => (match drawE P rec all ms l (i + 1) (nm ||| 2 ^ i) hs sn dq lv' tm' with
                  | some r => some ⟨⟨o, ⟨t, tm.n, tm.ds⟩, countP (ms.getD i 0) hs, w, v, sO, false, false⟩ :: r.recs, r.hs, r.sn, r.tm⟩
                  | none => none)
                | none => none)
              else bif (countP (ms.getD i 0) hs).beq hs.length then
                (match setLv lv o.dst (countP (ms.getD i 0) hs + 1) with
                | some lv' => (match drawE P rec all ms l (i + 1) (nm ||| 2 ^ i) (hs ++ [i]) (sn ++ [⟨sO.h, sO.N, s.W⟩]) dq lv' tm' with
                  | some r => some ⟨⟨o, ⟨t, tm.n, tm.ds⟩, countP (ms.getD i 0) hs, w, v, sO, true, false⟩ :: r.recs, r.hs, r.sn, r.tm⟩
                  | none => none)
                | none => none) else none
            | x :: W => bif (countP (ms.getD i 0) hs).beq hs.length && (ms.getD i 0 &&& nm).beq nm then
                (match setLv lv o.dst (countP (ms.getD i 0) hs + 1) with
                | some lv' => (match drawE P rec all ms l (i + 1) (nm ||| 2 ^ i) (hs ++ [i]) (sn ++ [⟨sO.h, sO.N, x :: W ++ s.W⟩]) (hs.length + 1) lv' tm' with
                  | some r => some ⟨⟨o, ⟨t, tm.n, tm.ds⟩, countP (ms.getD i 0) hs, w, v, sO, true, false⟩ :: r.recs, r.hs, r.sn, r.tm⟩
                  | none => none)
                | none => none) else none)
          | none => none)
        | none => none) else none) else none
    | _, _ => none
end Go.Proofs.Ytlapnehfjklpoaa
