/- Closed calls by reckoning: tries, values in a numbering of their own, and how they stand to the world's. -/
import Derived.Orders
import Derived.Below
import Derived.Tactics
import Derived.WalkKit
namespace Go.Proofs.Ytlapnehfjklpoaa
open Go.RowKit

/-- a trie: keys are numbers; what is seen of it alone by some keys; one key laid over it -/
inductive Tr (α : Type) where
  | nil
  | node (v : Option α) (l r : Tr α)
  | only (ks : List Nat) (t : Tr α)
  | over (k : Nat) (a : Option α) (t : Tr α)
noncomputable def memK (k : Nat) : List Nat → Bool := @List.rec Nat (fun _ => Bool) false (fun x _ ih => @Bool.rec (fun _ => Bool) ih true (Nat.beq k x))
theorem memK_iff {k : Nat} : ∀ {l : List Nat}, memK k l = true → k ∈ l
  | x :: l, h => by
    change @Bool.rec (fun _ => Bool) (memK k l) true (Nat.beq k x) = true at h
    cases hb : Nat.beq k x with
    | true => rw [Nat.eq_of_beq_eq_true hb]; exact List.mem_cons_self
    | false => rw [hb] at h; exact List.mem_cons_of_mem _ (memK_iff h)
/-- what is found of a key -/
noncomputable def Tr.get {α : Type} (t : Tr α) : Nat → Option α :=
  @Tr.rec α (fun _ => Nat → Option α) (fun _ => none)
    (fun v _ _ gl gr k => @Nat.rec (fun _ => Option α) v (fun m _ => @Bool.rec (fun _ => Option α) (gr (Nat.div m 2)) (gl (Nat.div m 2)) (Nat.beq (Nat.mod m 2) 0)) k)
    (fun ks _ g k => @Bool.rec (fun _ => Option α) none (g k) (memK k ks))
    (fun k' a _ g k => @Bool.rec (fun _ => Option α) (g k) a (Nat.beq k k')) t
/-- a trie, reckoned out before it is handed on -/
noncomputable def seqT {α β : Type} (t : Tr α) (f : Tr α → β) : β := @Tr.rec α (fun _ => β) (f .nil) (fun v l r _ _ => f (.node v l r)) (fun ks t _ => f (.only ks t)) (fun k a t _ => f (.over k a t)) t
theorem seqT_eq {α β : Type} (t : Tr α) (f : Tr α → β) : seqT t f = f t := by cases t <;> rfl
/-- one key -/
noncomputable def Tr.sing {α : Type} (a : Option α) (d : Nat) : Nat → Tr α :=
  @Nat.rec (fun _ => Nat → Tr α) (fun k => .over k a .nil)
    (fun _ ih k => @Nat.rec (fun _ => Tr α) (.node a .nil .nil) (fun m _ => @Bool.rec (fun _ => Tr α) (seqT (ih (Nat.div m 2)) fun r => .node none .nil r) (seqT (ih (Nat.div m 2)) fun l => .node none l .nil) (Nat.beq (Nat.mod m 2) 0)) k) d
noncomputable def Tr.ins {α : Type} (a : Option α) (t : Tr α) : Nat → Tr α :=
  @Tr.rec α (fun _ => Nat → Tr α) (fun k => .sing a 40 k)
    (fun v l r pl pr k => @Nat.rec (fun _ => Tr α) (.node a l r) (fun m _ => @Bool.rec (fun _ => Tr α) (seqT (pr (Nat.div m 2)) fun r' => .node v l r') (seqT (pl (Nat.div m 2)) fun l' => .node v l' r) (Nat.beq (Nat.mod m 2) 0)) k)
    (fun ks t _ k => .over k a (.only ks t))
    (fun k' a' t _ k => .over k a (.over k' a' t)) t
noncomputable def Tr.put {α : Type} (_ : Nat) (t : Tr α) (k : Nat) (a : Option α) : Option (Tr α) := seqT (t.ins a k) some
theorem Tr.get_nil {α : Type} (k : Nat) : (Tr.nil : Tr α).get k = none := rfl
theorem Tr.get_zero {α : Type} (v : Option α) (l r : Tr α) : (Tr.node v l r).get 0 = v := rfl
theorem Tr.get_succ {α : Type} (v : Option α) (l r : Tr α) (m : Nat) : (Tr.node v l r).get (m + 1) = if m % 2 = 0 then l.get (m / 2) else r.get (m / 2) := by
  show @Bool.rec (fun _ => Option α) (r.get (m / 2)) (l.get (m / 2)) (Nat.beq (m % 2) 0) = _
  by_cases h : m % 2 = 0
  · rw [if_pos h, h]; rfl
  · have : Nat.beq (m % 2) 0 = false := by
      cases hb : Nat.beq (m % 2) 0 with
      | true => exact absurd (Nat.eq_of_beq_eq_true hb) h
      | false => rfl
    rw [if_neg h, this]
theorem Tr.get_over {α : Type} (k' : Nat) (a : Option α) (t : Tr α) (k : Nat) : (Tr.over k' a t).get k = if k = k' then a else t.get k := by
  show @Bool.rec (fun _ => Option α) (t.get k) a (Nat.beq k k') = _
  by_cases h : k = k'
  · rw [if_pos h, h, Nat.beq_refl]
  · have : Nat.beq k k' = false := by
      cases hb : Nat.beq k k' with
      | true => exact absurd (Nat.eq_of_beq_eq_true hb) h
      | false => rfl
    rw [if_neg h, this]
theorem Tr.get_only {α : Type} {ks : List Nat} {t : Tr α} {k : Nat} {v : α} (h : (Tr.only ks t).get k = some v) : k ∈ ks ∧ t.get k = some v := by
  have h : @Bool.rec (fun _ => Option α) none (t.get k) (memK k ks) = some v := h
  cases hm : memK k ks with
  | true => rw [hm] at h; exact ⟨memK_iff hm, h⟩
  | false => rw [hm] at h; cases h
theorem Tr.sing_get {α : Type} (a : Option α) : ∀ (d k j : Nat), (Tr.sing a d k).get j = if j = k then a else none
  | 0, k, j => Tr.get_over k a .nil j
  | d + 1, 0, j => by
    show (Tr.node a .nil .nil).get j = _
    cases j with
    | zero => rfl
    | succ m => rw [Tr.get_succ, if_neg (show ¬ m + 1 = 0 by omega)]; split <;> rfl
  | d + 1, m + 1, j => by
    have e : Tr.sing a (d + 1) (m + 1) = if m % 2 = 0 then .node none (.sing a d (m / 2)) .nil else .node none .nil (.sing a d (m / 2)) := by
      show @Bool.rec (fun _ => Tr α) (seqT (Tr.sing a d (m / 2)) _) (seqT (Tr.sing a d (m / 2)) _) (Nat.beq (m % 2) 0) = _
      rw [seqT_eq, seqT_eq]
      by_cases h : m % 2 = 0
      · rw [if_pos h, h]; rfl
      · have : Nat.beq (m % 2) 0 = false := by
          cases hb : Nat.beq (m % 2) 0 with
          | true => exact absurd (Nat.eq_of_beq_eq_true hb) h
          | false => rfl
        rw [if_neg h, this]
    rw [e]
    cases j with
    | zero => rw [if_neg (show ¬ 0 = m + 1 by omega)]; split <;> rfl
    | succ n =>
      split
      · rename_i h
        rw [Tr.get_succ, Tr.sing_get a d, Tr.get_nil]
        by_cases hn : n + 1 = m + 1
        · have : n = m := by omega
          subst this; simp [h]
        · rw [if_neg hn]; split
          · rw [if_neg (by omega)]
          · rfl
      · rename_i h
        rw [Tr.get_succ, Tr.sing_get a d, Tr.get_nil]
        by_cases hn : n + 1 = m + 1
        · have : n = m := by omega
          subst this; simp [h]
        · rw [if_neg hn]; split
          · rfl
          · rw [if_neg (by omega)]
theorem Tr.ins_get {α : Type} (a : Option α) : ∀ (t : Tr α) (k j : Nat), (t.ins a k).get j = if j = k then a else t.get j
  | .nil, k, j => Tr.sing_get a 40 k j
  | .only ks t, k, j => Tr.get_over k a _ j
  | .over k' a' t, k, j => Tr.get_over k a _ j
  | .node v l r, 0, j => by
    show (Tr.node a l r).get j = _
    cases j with
    | zero => rfl
    | succ m => rw [Tr.get_succ, Tr.get_succ, if_neg (by omega : ¬ m + 1 = 0)]
  | .node v l r, m + 1, j => by
    have e : (Tr.node v l r).ins a (m + 1) = if m % 2 = 0 then .node v (l.ins a (m / 2)) r else .node v l (r.ins a (m / 2)) := by
      show @Bool.rec (fun _ => Tr α) (seqT (r.ins a (m / 2)) _) (seqT (l.ins a (m / 2)) _) (Nat.beq (m % 2) 0) = _
      rw [seqT_eq, seqT_eq]
      by_cases h : m % 2 = 0
      · rw [if_pos h, h]; rfl
      · have : Nat.beq (m % 2) 0 = false := by
          cases hb : Nat.beq (m % 2) 0 with
          | true => exact absurd (Nat.eq_of_beq_eq_true hb) h
          | false => rfl
        rw [if_neg h, this]
    rw [e]
    cases j with
    | zero => rw [if_neg (show ¬ 0 = m + 1 by omega)]; split <;> rfl
    | succ n =>
      split
      · rename_i h
        rw [Tr.get_succ, Tr.ins_get a l, Tr.get_succ]
        by_cases hn : n + 1 = m + 1
        · have : n = m := by omega
          subst this; simp [h]
        · rw [if_neg hn]; split
          · rw [if_neg (by omega)]
          · rfl
      · rename_i h
        rw [Tr.get_succ, Tr.ins_get a r, Tr.get_succ]
        by_cases hn : n + 1 = m + 1
        · have : n = m := by omega
          subst this; simp [h]
        · rw [if_neg hn]; split
          · rfl
          · rw [if_neg (by omega)]
theorem Tr.get_put {α : Type} (d : Nat) (t t' : Tr α) (k j : Nat) (a : Option α) (h : Tr.put d t k a = some t') : t'.get j = if j = k then a else t.get j := by
  unfold Tr.put at h
  rw [seqT_eq] at h
  cases h
  exact Tr.ins_get a t k j

/-- what a semantic term yields that asks for nothing but the program -/
def srun {α : Type} (P : Program) : Sem α → Option α
  | .pure a => some a
  | .program k => srun P (k P)
  | .mark _ k => srun P k
  | _ => none
theorem srun_run {α : Type} {P : Program} : ∀ {s : Sem α} {a : α}, srun P s = some a → ∀ w, s.run P w = .ok a w
  | .pure a, _, h, w => by cases h; rfl
  | .program k, _, h, w => by show (k P).run P w = _; exact srun_run (s := k P) h w
  | .mark _ k, _, h, w => by show k.run P w = _; exact srun_run (s := k) h w

/-- a value with no address in it -/
def pureV : Nat → Value → Bool
  | _, .bool _ => true
  | _, .int _ _ => true
  | _, .string _ => true
  | _, .pointer none => true
  | _, .slice none n c => n.beq 0 && c.beq 0
  | _, .map none => true
  | _, .nilFunc => true
  | _, .nilIface => true
  | _, .func (.func _) a b => a.toList.isEmpty && b.toList.isEmpty
  | d + 1, .agg cs => cs.toList.all (pureV d)
  | d + 1, .tuple cs => cs.toList.all (pureV d)
  | _, _ => false

/-- where a block of the reckoning lies: block, offset, cells from there on, cells of an element; 'ex': slices of it have their capacity -/
structure Place where
  b : Nat
  d : Nat
  S : Nat
  z : Nat
  ex : Bool

/-- the value of the reckoning, and the world's -/
inductive VRel (ρ : Nat → Place) (N : Nat) : Value → Value → Prop
  | flat (d : Nat) (v : Value) (h : pureV d v = true) : VRel ρ N v v
  | ptr (id off : Nat) (h : id < N) : VRel ρ N (.pointer (some ⟨id, off, none⟩)) (.pointer (some ⟨(ρ id).b, off + (ρ id).d, none⟩))
  | slice (id off n c c' : Nat) (h : id < N) (hn : n ≤ c) (hc : c ≤ c') (hx : (ρ id).ex = true → c' = c) (hS : off + c' * (ρ id).z ≤ (ρ id).S) :
      VRel ρ N (.slice (some ⟨id, off, none⟩) n c) (.slice (some ⟨(ρ id).b, off + (ρ id).d, none⟩) n c')
  | sliceE (id off : Nat) (h : id < N) (b' off' : Nat) : VRel ρ N (.slice (some ⟨id, off, none⟩) 0 0) (.slice (some ⟨b', off', none⟩) 0 0)
  | yld (l : Nat) (h : l < N) : VRel ρ N (.func (.yield l) #[] #[]) (.func (.yield (ρ l).b) #[] #[])
  | mp (id : Nat) (h : id < N) : VRel ρ N (.map (some id)) (.map (some (ρ id).b))
  | func (f : FuncId) (a b a' b' : Array Value) (ha : a.size = a'.size) (hb : b.size = b'.size)
      (h1 : ∀ (i : Nat) (v v' : Value), a[i]? = some v → a'[i]? = some v' → VRel ρ N v v') (h2 : ∀ (i : Nat) (v v' : Value), b[i]? = some v → b'[i]? = some v' → VRel ρ N v v') : VRel ρ N (.func (.func f) a b) (.func (.func f) a' b')
  | agg (a a' : Array Value) (ha : a.size = a'.size) (h1 : ∀ (i : Nat) (v v' : Value), a[i]? = some v → a'[i]? = some v' → VRel ρ N v v') : VRel ρ N (.agg a) (.agg a')
  | tuple (a a' : Array Value) (ha : a.size = a'.size) (h1 : ∀ (i : Nat) (v v' : Value), a[i]? = some v → a'[i]? = some v' → VRel ρ N v v') : VRel ρ N (.tuple a) (.tuple a')
  | meth (name : String) (v v' : Value) (h : VRel ρ N v v') : VRel ρ N (.func (.method name) #[v] #[]) (.func (.method name) #[v'] #[])
  | iface (t : TypeId) (v v' : Value) (h : VRel ρ N v v') : VRel ρ N (.iface t v) (.iface t v')

theorem VRel.mono {ρ ρ' : Nat → Place} {N N' : Nat} (hN : N ≤ N') (hρ : ∀ i, i < N → ρ' i = ρ i) {v v' : Value} (h : VRel ρ N v v') : VRel ρ' N' v v' := by
  induction h with
  | flat d v h => exact .flat d v h
  | ptr id off h => rw [← hρ id h]; exact .ptr id off (by omega)
  | slice id off n c c' h hn hc hx hS => rw [← hρ id h] at hx hS ⊢; exact .slice id off n c c' (by omega) hn hc hx hS
  | sliceE id off h b' off' => exact .sliceE id off (by omega) b' off'
  | yld l h => rw [← hρ l h]; exact .yld l (by omega)
  | mp id h => rw [← hρ id h]; exact .mp id (by omega)
  | func f a b a' b' ha hb _ _ i1 i2 => exact .func f a b a' b' ha hb i1 i2
  | agg a a' ha _ i1 => exact .agg a a' ha i1
  | tuple a a' ha _ i1 => exact .tuple a a' ha i1
  | iface t v v' _ ih => exact .iface t v v' ih
  | meth t v v' _ ih => exact .meth t v v' ih

theorem arr_eq {a a' : Array Value} (h : a.size = a'.size) (h1 : ∀ (i : Nat) (v v' : Value), a[i]? = some v → a'[i]? = some v' → v' = v) : a' = a := by
  apply Array.ext h.symm
  intro i h2 h3
  exact h1 i _ _ (Array.getElem?_eq_getElem h3) (Array.getElem?_eq_getElem h2)
theorem VRel.flat_eq {ρ : Nat → Place} {N : Nat} {v v' : Value} (h : VRel ρ N v v') : ∀ d, pureV d v = true → v' = v := by
  induction h with
  | flat d v h => exact fun _ _ => rfl
  | ptr id off h => intro d h2; cases d <;> cases h2
  | slice id off n c c' h hn hc hx hS => intro d h2; cases d <;> cases h2
  | sliceE id off h b' off' => intro d h2; cases d <;> cases h2
  | yld l h => intro d h2; cases d <;> cases h2
  | mp id h => intro d h2; cases d <;> cases h2
  | iface t v v' _ _ => intro d h2; cases d <;> cases h2
  | meth t v v' _ _ => intro d h2; cases d <;> cases h2
  | func f a b a' b' ha hb _ _ i1 i2 =>
    intro d h2
    have h3 : (a.toList.isEmpty && b.toList.isEmpty) = true := by cases d <;> exact h2
    simp only [Bool.and_eq_true, List.isEmpty_iff] at h3
    have e1 : a = #[] := by simpa using h3.1
    have e2 : b = #[] := by simpa using h3.2
    subst e1; subst e2
    have e3 : a' = #[] := by simpa using ha.symm
    have e4 : b' = #[] := by simpa using hb.symm
    rw [e3, e4]
  | agg a a' ha _ i1 =>
    intro d h2
    cases d with
    | zero => cases h2
    | succ d =>
      have h3 : a.toList.all (pureV d) = true := h2
      rw [arr_eq ha (fun i v v' h4 h5 => i1 i v v' h4 h5 d (List.all_eq_true.1 h3 v (by
        rw [← Array.getElem?_toList] at h4; exact List.mem_of_getElem? h4)))]
  | tuple a a' ha _ i1 =>
    intro d h2
    cases d with
    | zero => cases h2
    | succ d =>
      have h3 : a.toList.all (pureV d) = true := h2
      rw [arr_eq ha (fun i v v' h4 h5 => i1 i v v' h4 h5 d (List.all_eq_true.1 h3 v (by
        rw [← Array.getElem?_toList] at h4; exact List.mem_of_getElem? h4)))]
theorem VRel.int {ρ : Nat → Place} {N : Nat} {k : IntKind} {n : Int} {v : Value} (h : VRel ρ N (.int k n) v) : v = .int k n := h.flat_eq 0 rfl
theorem VRel.bool {ρ : Nat → Place} {N : Nat} {b : Bool} {v : Value} (h : VRel ρ N (.bool b) v) : v = .bool b := h.flat_eq 0 rfl
theorem VRel.string {ρ : Nat → Place} {N : Nat} {s : ByteArray} {v : Value} (h : VRel ρ N (.string s) v) : v = .string s := h.flat_eq 0 rfl
theorem VRel.pointer {ρ : Nat → Place} {N : Nat} {id off : Nat} {sp : Option Nat} {v : Value} (h : VRel ρ N (.pointer (some ⟨id, off, sp⟩)) v) : sp = none ∧ id < N ∧ v = .pointer (some ⟨(ρ id).b, off + (ρ id).d, none⟩) := by
  cases h with
  | flat d _ h => cases d <;> cases h
  | ptr _ _ h => exact ⟨rfl, h, rfl⟩
theorem VRel.slice0 {ρ : Nat → Place} {N : Nat} {n c : Nat} {v : Value} (h : VRel ρ N (.slice none n c) v) : n = 0 ∧ c = 0 ∧ v = .slice none 0 0 := by
  cases h with
  | flat d _ h =>
    have h2 : (n.beq 0 && c.beq 0) = true := by cases d <;> exact h
    simp only [Bool.and_eq_true] at h2
    obtain ⟨e1, e2⟩ := h2
    have e1 := Nat.eq_of_beq_eq_true e1
    have e2 := Nat.eq_of_beq_eq_true e2
    subst e1; subst e2
    exact ⟨rfl, rfl, rfl⟩
theorem VRel.slice1 {ρ : Nat → Place} {N : Nat} {id off n c : Nat} {sp : Option Nat} {v : Value} (h : VRel ρ N (.slice (some ⟨id, off, sp⟩) n c) v) :
    sp = none ∧ id < N ∧ n ≤ c ∧ ∃ a' c', v = .slice (some a') n c' ∧ c ≤ c' ∧ a'.spot = none ∧
      ((a' = ⟨(ρ id).b, off + (ρ id).d, none⟩ ∧ ((ρ id).ex = true → c' = c) ∧ off + c' * (ρ id).z ≤ (ρ id).S) ∨ (n = 0 ∧ c = 0 ∧ c' = 0)) := by
  cases h with
  | flat d _ h => cases d <;> cases h
  | slice _ _ _ _ c' h hn hc hx hS => exact ⟨rfl, h, hn, _, c', rfl, hc, rfl, .inl ⟨rfl, hx, hS⟩⟩
  | sliceE _ _ h b' off' => exact ⟨rfl, h, Nat.le_refl _, _, 0, rfl, Nat.le_refl _, rfl, .inr ⟨rfl, rfl, rfl⟩⟩
theorem VRel.agg_inv {ρ : Nat → Place} {N : Nat} {a : Array Value} {v : Value} (h : VRel ρ N (.agg a) v) :
    ∃ a', v = .agg a' ∧ a.size = a'.size ∧ ∀ (i : Nat) (x x' : Value), a[i]? = some x → a'[i]? = some x' → VRel ρ N x x' := by
  cases h with
  | flat d _ h =>
    cases d with
    | zero => cases h
    | succ d =>
      have h3 : a.toList.all (pureV d) = true := h
      refine ⟨a, rfl, rfl, fun i x x' h4 h5 => ?_⟩
      rw [h4] at h5; cases h5
      exact .flat d x (List.all_eq_true.1 h3 x (by rw [← Array.getElem?_toList] at h4; exact List.mem_of_getElem? h4))
  | agg _ a' ha h1 => exact ⟨a', rfl, ha, h1⟩
theorem VRel.tuple_inv {ρ : Nat → Place} {N : Nat} {a : Array Value} {v : Value} (h : VRel ρ N (.tuple a) v) :
    ∃ a', v = .tuple a' ∧ a.size = a'.size ∧ ∀ (i : Nat) (x x' : Value), a[i]? = some x → a'[i]? = some x' → VRel ρ N x x' := by
  cases h with
  | flat d _ h =>
    cases d with
    | zero => cases h
    | succ d =>
      have h3 : a.toList.all (pureV d) = true := h
      refine ⟨a, rfl, rfl, fun i x x' h4 h5 => ?_⟩
      rw [h4] at h5; cases h5
      exact .flat d x (List.all_eq_true.1 h3 x (by rw [← Array.getElem?_toList] at h4; exact List.mem_of_getElem? h4))
  | tuple _ a' ha h1 => exact ⟨a', rfl, ha, h1⟩
theorem VRel.func_inv {ρ : Nat → Place} {N : Nat} {f : FuncId} {a b : Array Value} {v : Value} (h : VRel ρ N (.func (.func f) a b) v) :
    ∃ a' b', v = .func (.func f) a' b' ∧ a.size = a'.size ∧ b.size = b'.size ∧ (∀ (i : Nat) (x x' : Value), a[i]? = some x → a'[i]? = some x' → VRel ρ N x x') ∧ (∀ (i : Nat) (x x' : Value), b[i]? = some x → b'[i]? = some x' → VRel ρ N x x') := by
  cases h with
  | flat d _ h =>
    have h3 : (a.toList.isEmpty && b.toList.isEmpty) = true := by cases d <;> exact h
    simp only [Bool.and_eq_true, List.isEmpty_iff] at h3
    have e1 : a = #[] := by simpa using h3.1
    have e2 : b = #[] := by simpa using h3.2
    subst e1; subst e2
    exact ⟨#[], #[], rfl, rfl, rfl, fun i x x' h => by simp at h, fun i x x' h => by simp at h⟩
  | func _ _ _ a' b' ha hb h1 h2 => exact ⟨a', b', rfl, ha, hb, h1, h2⟩
theorem VRel.meth_inv {ρ : Nat → Place} {N : Nat} {n : String} {x v : Value} (h : VRel ρ N (.func (.method n) #[x] #[]) v) : ∃ x', v = .func (.method n) #[x'] #[] ∧ VRel ρ N x x' := by
  cases h with
  | flat d _ h => cases d <;> cases h
  | meth _ _ x' h => exact ⟨x', rfl, h⟩
theorem VRel.iface_inv {ρ : Nat → Place} {N : Nat} {t : TypeId} {x v : Value} (h : VRel ρ N (.iface t x) v) : ∃ x', v = .iface t x' ∧ VRel ρ N x x' := by
  cases h with
  | flat d _ h => cases d <;> cases h
  | iface _ _ x' h => exact ⟨x', rfl, h⟩
theorem VRel.yield_inv {ρ : Nat → Place} {N l : Nat} {a b : Array Value} {v : Value} (h : VRel ρ N (.func (.yield l) a b) v) : a = #[] ∧ b = #[] ∧ l < N ∧ v = .func (.yield (ρ l).b) #[] #[] := by
  cases h with
  | flat d _ h => cases d <;> cases h
  | yld _ h => exact ⟨rfl, rfl, h, rfl⟩
end Go.Proofs.Ytlapnehfjklpoaa
