/- Closed calls by reckoning: regions that draw their order, once more: writers in one order, readers and new blocks in any. The reckoning. -/
import Derived.Test.YtlapnehfjklpoaaEvS
namespace Go.Proofs.Ytlapnehfjklpoaa
open Go.RowKit

/-! values that name no block from K on -/
noncomputable def idsLt (K : Nat) : Nat → Value → Bool
  | _, .bool _ => true
  | _, .int _ _ => true
  | _, .string _ => true
  | _, .pointer none => true
  | _, .pointer (some ⟨id, _, none⟩) => id.blt K
  | _, .slice none n c => n.beq 0 && c.beq 0
  | _, .slice (some ⟨id, _, none⟩) _ _ => id.blt K
  | _, .map none => true
  | _, .map (some id) => id.blt K
  | _, .nilFunc => true
  | _, .nilIface => true
  | _ + 1, .func (.yield l) a b => a.toList.isEmpty && b.toList.isEmpty && l.blt K
  | d + 1, .func (.func _) a b => a.toList.all (idsLt K d) && b.toList.all (idsLt K d)
  | d + 1, .agg cs => cs.toList.all (idsLt K d)
  | d + 1, .tuple cs => cs.toList.all (idsLt K d)
  | d + 1, .iface _ v => idsLt K d v
  | _, _ => false
theorem mem_arr {a : Array Value} {i : Nat} {v : Value} (h : a[i]? = some v) : v ∈ a.toList := by
  rw [← Array.getElem?_toList] at h; exact List.mem_of_getElem? h
theorem VRel.at_level {ρ : Nat → Place} {N K : Nat} {v v' : Value} (h : VRel ρ N v v') : ∀ d, idsLt K d v = true → VRel ρ K v v' := by
  induction h with
  | flat d v h => exact fun _ _ => .flat d v h
  | ptr id off h => intro d h2; exact .ptr id off (by cases d <;> (have h2 : id.blt K = true := h2; rwa [Nat.blt_eq] at h2))
  | slice id off n c c' h hn hc hx hS => intro d h2; exact .slice id off n c c' (by cases d <;> (have h2 : id.blt K = true := h2; rwa [Nat.blt_eq] at h2)) hn hc hx hS
  | sliceE id off h b' off' => intro d h2; exact .sliceE id off (by cases d <;> (have h2 : id.blt K = true := h2; rwa [Nat.blt_eq] at h2)) b' off'
  | yld l h =>
    intro d h2
    cases d with
    | zero => cases h2
    | succ d =>
      have h2 : l.blt K = true := h2
      exact .yld l (by rwa [Nat.blt_eq] at h2)
  | mp id h => intro d h2; exact .mp id (by cases d <;> (have h2 : id.blt K = true := h2; rwa [Nat.blt_eq] at h2))
  | func f a b a' b' ha hb _ _ i1 i2 =>
    intro d h2
    cases d with
    | zero => cases h2
    | succ d =>
      have h2 : (a.toList.all (idsLt K d) && b.toList.all (idsLt K d)) = true := h2
      simp only [Bool.and_eq_true, List.all_eq_true] at h2
      exact .func f a b a' b' ha hb (fun i v v' h3 h4 => i1 i v v' h3 h4 d (h2.1 v (mem_arr h3))) (fun i v v' h3 h4 => i2 i v v' h3 h4 d (h2.2 v (mem_arr h3)))
  | agg a a' ha _ i1 =>
    intro d h2
    cases d with
    | zero => cases h2
    | succ d =>
      have h2 : a.toList.all (idsLt K d) = true := h2
      rw [List.all_eq_true] at h2
      exact .agg a a' ha fun i v v' h3 h4 => i1 i v v' h3 h4 d (h2 v (mem_arr h3))
  | tuple a a' ha _ i1 =>
    intro d h2
    cases d with
    | zero => cases h2
    | succ d =>
      have h2 : a.toList.all (idsLt K d) = true := h2
      rw [List.all_eq_true] at h2
      exact .tuple a a' ha fun i v v' h3 h4 => i1 i v v' h3 h4 d (h2 v (mem_arr h3))
  | iface t v v' _ ih =>
    intro d h2
    cases d with
    | zero => cases h2
    | succ d => exact .iface t v v' (ih d h2)
  | meth t v v' _ ih => intro d h2; cases d <;> cases h2
noncomputable def blkLt (K : Nat) (b : Blk) : Bool := match b.k with
  | .cells => (List.range b.n).all fun i => match b.cs.get i with | some v => idsLt K 4 v | none => true
  | .loop _ => false
  | _ => true
theorem BlkRel.at_level {ρ : Nat → Place} {N K : Nat} {p : Place} {b : Blk} {o : Option Obj} (h : BlkRel ρ N p b o) (hb : blkLt K b = true) : BlkRel ρ K p b o := by
  unfold blkLt at hb
  unfold BlkRel at h ⊢
  split at h
  · rename_i hk
    rw [hk] at hb
    obtain ⟨cs, e1, e2, e3, e4, e5, e6⟩ := h
    refine ⟨cs, e1, e2, e3, e4, e5, fun i v hi hv => ?_⟩
    obtain ⟨v', g1, g2⟩ := e6 i v hi hv
    have := List.all_eq_true.1 hb i (List.mem_range.2 hi)
    rw [hv] at this
    exact ⟨v', g1, g2.at_level 4 this⟩
  · rename_i hk; rw [hk] at hb; cases hb
  · exact h
  · exact h
  · exact h

/-! blocks that are left out, and blocks that are laid over -/
noncomputable def dropH (h : Tr Blk) (X : List Nat) : Tr Blk := X.foldr (fun id t => .over id none t) h
theorem dropH_get (h : Tr Blk) : ∀ (X : List Nat) (j : Nat), (dropH h X).get j = if j ∈ X then none else h.get j
  | [], j => by simp; rfl
  | x :: X, j => by
    show (Tr.over x none (dropH h X)).get j = _
    rw [Tr.get_over, dropH_get h X j]
    by_cases hj : j = x
    · rw [if_pos hj, if_pos (by rw [hj]; exact List.mem_cons_self)]
    · rw [if_neg hj]
      by_cases hX : j ∈ X
      · rw [if_pos hX, if_pos (List.mem_cons_of_mem _ hX)]
      · rw [if_neg hX, if_neg (fun q => (List.mem_cons.1 q).elim hj hX)]
noncomputable def layH (h h' : Tr Blk) (W : List Nat) : Tr Blk := W.foldr (fun id t => seqT (t.ins (h'.get id) id) fun t => t) h
theorem layH_get (h h' : Tr Blk) : ∀ (W : List Nat) (j : Nat), (layH h h' W).get j = if j ∈ W then h'.get j else h.get j
  | [], j => by simp; rfl
  | x :: W, j => by
    show (seqT ((layH h h' W).ins (h'.get x) x) fun t => t).get j = _
    rw [seqT_eq, Tr.ins_get, layH_get h h' W j]
    by_cases hj : j = x
    · rw [if_pos hj, if_pos (by rw [hj]; exact List.mem_cons_self), hj]
    · rw [if_neg hj]
      by_cases hX : j ∈ W
      · rw [if_pos hX, if_pos (List.mem_cons_of_mem _ hX)]
      · rw [if_neg hX, if_neg (fun q => (List.mem_cons.1 q).elim hj hX)]

/-! the operations that make new blocks in any order -/
noncomputable def allocT (o : Oper) : Option TypeId := match o.op, o.guard with | .alloc t, none => some t | _, _ => none
/-- which they are -/
noncomputable def allocs : List Oper → Nat → List Nat
  | [], _ => []
  | o :: l, i => match allocT o with | some _ => i :: allocs l (i + 1) | none => allocs l (i + 1)
/-- all of their blocks -/
noncomputable def allocH (P : Program) (K : Nat) : List Oper → Tr Blk → Nat → Option (Tr Blk)
  | [], h, _ => some h
  | o :: l, h, N => match allocT o with
    | some t => (match evAlloc P ⟨.nil, N, []⟩ t with
      | some (_, s) => (match s.h.get N with
        | some b => bif blkLt K b then (match Tr.put 32 h N (some b) with | some h' => allocH P K l h' (N + 1) | none => none) else none
        | none => none)
      | none => none)
    | none => allocH P K l h N

structure GRec where
  o : Oper
  tmI : Tm
  w : Bool
  v : Value
  k : Nat
  p : Nat
  X : List Nat
  sO : St
structure GOut where
  recs : List GRec
  hs : List Nat
  sn : List (Tr Blk)
  tm : Tm
/-- what is left out of an operation's sight: new blocks, and what others write, that are not ahead of it -/
noncomputable def xA (m N0 : Nat) : List Nat → Nat → List Nat
  | [], _ => []
  | a :: l, q => bif m.testBit a then xA m N0 l (q + 1) else (N0 + q) :: xA m N0 l (q + 1)
noncomputable def xW (ms : List Nat) (i : Nat) : List (Nat × List Nat) → List Nat
  | [] => []
  | (x, W) :: l => bif x.beq i || (ms.getD x 0).testBit i then xW ms i l else W ++ xW ms i l
noncomputable def wOK (K N1 : Nat) (s : St) (X W' : List Nat) : List Nat → Bool
  | [] => true
  | id :: W => id.blt N1 && W'.contains id && !X.contains id && (match s.h.get id with | some b => blkLt K b | none => true) && wOK K N1 s X W' W
noncomputable def gChk (chk : Bool) (N0 N1 : Nat) (G : List (Nat × List Nat)) (p i : Nat) (sO : St) (X W : List Nat) : Bool := !chk || (match G[p]? with | some (x, W') => x.beq i && wOK N0 N1 sO X W' W | none => false)
noncomputable def gE (P : Program) (rec : Task → Tm → St → Option Res) (all : List Oper) (ms al : List Nat) (G : List (Nat × List Nat)) (chk : Bool) (N0 N1 : Nat) : List Oper → Nat → Nat → List Nat → List (Tr Blk) → Tm → Option GOut
  | [], _, _, hs, sn, tm => some ⟨[], hs, sn, tm⟩
  | o :: l, i, ia, hs, sn, tm => match allocT o with
    | some _ => (match tm.put o.dst (.pointer (some ⟨N0 + ia, 0, none⟩)) with
      | some tm' => (match gE P rec all ms al G chk N0 N1 l (i + 1) (ia + 1) hs sn tm' with
        | some r => some ⟨⟨o, ⟨.nil, tm.n, tm.ds⟩, true, .pointer (some ⟨N0 + ia, 0, none⟩), 1, 0, [], ⟨.nil, N0 + ia, []⟩⟩ :: r.recs, r.hs, r.sn, r.tm⟩
        | none => none)
      | none => none)
    | none => (match sn[countP (ms.getD i 0) hs]? with
      | some H => bif prefOK (ms.getD i 0) (countP (ms.getD i 0) hs) hs 0 then
        (match oneE P rec all ⟨.only (reads all o) tm.t, tm.n, tm.ds⟩ ⟨dropH H (xA (ms.getD i 0) N0 al 0 ++ xW ms i (G.drop (countP (ms.getD i 0) hs))), N1, []⟩ o with
        | some (w, v, sO) => bif idsLt N0 4 v then (match tm.put o.dst v with
          | some tm' => (match sO.W with
            | [] => (match gE P rec all ms al G chk N0 N1 l (i + 1) ia hs sn tm' with
              | some r => some ⟨⟨o, ⟨.only (reads all o) tm.t, tm.n, tm.ds⟩, w, v, 0, countP (ms.getD i 0) hs, xA (ms.getD i 0) N0 al 0 ++ xW ms i (G.drop (countP (ms.getD i 0) hs)), sO⟩ :: r.recs, r.hs, r.sn, r.tm⟩
              | none => none)
            | y :: W => bif (countP (ms.getD i 0) hs).beq hs.length && gChk chk N0 N1 G (countP (ms.getD i 0) hs) i sO (xA (ms.getD i 0) N0 al 0 ++ xW ms i (G.drop (countP (ms.getD i 0) hs))) (y :: W) then
                (match gE P rec all ms al G chk N0 N1 l (i + 1) ia (hs ++ [i]) (sn ++ [layH H sO.h (y :: W)]) tm' with
                | some r => some ⟨⟨o, ⟨.only (reads all o) tm.t, tm.n, tm.ds⟩, w, v, 2, countP (ms.getD i 0) hs, xA (ms.getD i 0) N0 al 0 ++ xW ms i (G.drop (countP (ms.getD i 0) hs)), sO⟩ :: r.recs, r.hs, r.sn, r.tm⟩
                | none => none) else none)
          | none => none) else none
        | none => none) else none
      | none => none)
/-- who writes what, at a first look -/
noncomputable def guessW : List GRec → Nat → List (Nat × List Nat)
  | [], _ => []
  | r :: l, i => bif r.k.beq 2 then (i, r.sO.W) :: guessW l (i + 1) else guessW l (i + 1)
noncomputable def regG (P : Program) (rec : Task → Tm → St → Option Res) (l : List Oper) (tm : Tm) (s : St) : Option (Tm × St) :=
  match allocH P s.N l s.h s.N with
  | some H => (match gE P rec l (masks l []) (allocs l 0) [] false s.N (s.N + (allocs l 0).length) l 0 0 [] [H] tm with
    | some g => (match gE P rec l (masks l []) (allocs l 0) (guessW g.recs 0) true s.N (s.N + (allocs l 0).length) l 0 0 [] [H] tm with
      | some out => (match out.sn[out.hs.length]? with | some h => some (out.tm, ⟨h, s.N + (allocs l 0).length, ((guessW g.recs 0).map (·.2)).flatten ++ s.W⟩) | none => none)
      | none => none)
    | none => none)
  | none => none
end Go.Proofs.Ytlapnehfjklpoaa
