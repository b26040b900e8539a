/- Closed calls by reckoning: the reckoning's heap against the world's. -/
import Derived.Test.YtlapnehfjklpoaaEvA
namespace Go.Proofs.Ytlapnehfjklpoaa
open Go.RowKit

/-- a loop over a function: the slots as they were where it began -/
structure LoopV where
  tm : Tr Value
  n : Nat
  ps : List Tmp
  assign : Code
  body : Code
  st : LoopState
  pend : Option Code
  dl : Nat
inductive Kind where
  | cells
  | loop (r : LoopV)
  | dfr
  | iter (s : ByteArray) (pos : Nat)
  | mp (es : Array MapEntry) (clock : Nat)
/-- a block of the reckoning: cells that are known, cells of an element, the element's type; 'ex': slices of it have their capacity -/
structure Blk where
  n : Nat
  z : Nat
  ex : Bool
  elem : TypeId
  cs : Tr Value
  k : Kind

/-- the cells of which none is frozen -/
noncomputable def Thaw (cs : Array Value) (fz : Nat × Nat) : Prop := ∀ o, o < cs.size → ¬ (fz.1 ≤ o ∧ o < fz.2)
theorem Thaw.none (cs : Array Value) : Thaw cs (0, 0) := fun o _ h => Nat.not_lt_zero o h.2
noncomputable def CellsRel (ρ : Nat → Place) (N : Nat) (p : Place) (b : Blk) (o : Option Obj) : Prop :=
  ∃ cs : Array Value, (∃ fz, Thaw cs fz ∧ o = some (.cells cs b.elem fz)) ∧ cs.size = p.d + p.S ∧ b.n ≤ p.S ∧ p.z = b.z ∧ p.ex = b.ex ∧
    ∀ i v, i < b.n → b.cs.get i = some v → ∃ v', cs[i + p.d]? = some v' ∧ VRel ρ N v v'
noncomputable def BlkRel (ρ : Nat → Place) (N : Nat) (p : Place) (b : Blk) (o : Option Obj) : Prop :=
  match b.k with
  | .cells => CellsRel ρ N p b o
  | .loop r => r.dl < N ∧ ∃ tmps fn, o = some (.loop ⟨r.st, r.pend, fn, tmps, ⟨r.ps⟩, r.assign, r.body, (ρ r.dl).b⟩) ∧ tmps.size = r.n ∧ ∀ t v, r.tm.get t = some v → ∃ v', tmps[t]? = some v' ∧ VRel ρ N v v'
  | .dfr => o = some (.deferred (some []))
  | .iter q pos => p.d = 0 ∧ o = some (.stringIter q pos)
  | .mp es clock => o = some (.map es clock)
theorem CellsRel.mono {ρ ρ' : Nat → Place} {N N' : Nat} (hN : N ≤ N') (hρ : ∀ i, i < N → ρ' i = ρ i) {p : Place} {b : Blk} {o : Option Obj} (h : CellsRel ρ N p b o) : CellsRel ρ' N' p b o := by
  obtain ⟨cs, e1, e2, e3, e4, e5, e6⟩ := h
  refine ⟨cs, e1, e2, e3, e4, e5, fun i v hi hv => ?_⟩
  obtain ⟨v', g1, g2⟩ := e6 i v hi hv
  exact ⟨v', g1, g2.mono hN hρ⟩
theorem BlkRel.mono {ρ ρ' : Nat → Place} {N N' : Nat} (hN : N ≤ N') (hρ : ∀ i, i < N → ρ' i = ρ i) {p : Place} {b : Blk} {o : Option Obj} (h : BlkRel ρ N p b o) : BlkRel ρ' N' p b o := by
  unfold BlkRel at h ⊢
  split at h
  · rename_i hk; exact CellsRel.mono hN hρ h
  · rename_i r hk
    obtain ⟨h0, tmps, fn, h1, h2, h3⟩ := h
    refine ⟨Nat.lt_of_lt_of_le h0 hN, tmps, fn, by rw [hρ _ h0]; exact h1, h2, fun t v hv => ?_⟩
    obtain ⟨v', g1, g2⟩ := h3 t v hv
    exact ⟨v', g1, g2.mono hN hρ⟩
  · exact h
  · exact h
  · exact h
theorem BlkRel.some {ρ : Nat → Place} {N : Nat} {p : Place} {b : Blk} {o : Option Obj} (h : BlkRel ρ N p b o) : ∃ x, o = some x := by
  unfold BlkRel at h
  split at h
  · obtain ⟨cs, ⟨_, _, e⟩, _⟩ := h; exact ⟨_, e⟩
  · obtain ⟨_, tmps, fn, e, _⟩ := h; exact ⟨_, e⟩
  · exact ⟨_, h⟩
  · exact ⟨_, h.2⟩
  · exact ⟨_, h⟩

structure Rel (B : Nat) (ρ : Nat → Place) (N : Nat) (h : Nat → Option Blk) (w : World) : Prop where
  base : B ≤ w.heap.size
  lt : ∀ id b, h id = some b → id < N
  own : ∀ id b, h id = some b → B ≤ (ρ id).b
  sep : ∀ i j bi bj, h i = some bi → h j = some bj → i ≠ j → (ρ i).b ≠ (ρ j).b
  blk : ∀ id b, h id = some b → BlkRel ρ N (ρ id) b w.heap[(ρ id).b]?

/-- what a step leaves: W are the blocks that it may have written or given up -/
structure Fr (ρ : Nat → Place) (N : Nat) (h : Nat → Option Blk) (w : World) (ρ' : Nat → Place) (N' : Nat) (h' : Nat → Option Blk) (w' : World) (W : List Nat) : Prop where
  os : w'.os = w.os
  tape : w'.tape = w.tape
  output : w'.output = w.output
  size : w.heap.size ≤ w'.heap.size
  le : N ≤ N'
  same : ∀ i, i < N → ρ' i = ρ i
  keep : ∀ k, k < w.heap.size → (∀ id ∈ W, ∀ b, h id = some b → (ρ id).b ≠ k) → w'.heap[k]? = w.heap[k]?
  old : ∀ id b', id < N → h' id = some b' → ∃ b, h id = some b
  unch : ∀ id, id < N → id ∉ W → h' id = h id
  orig : ∀ id b, h' id = some b → N ≤ id → w.heap.size ≤ (ρ' id).b ∨ ∃ id0 ∈ W, ∃ b0, h id0 = some b0 ∧ (ρ id0).b = (ρ' id).b

section
variable {B : Nat} {ρ ρ' ρ'' : Nat → Place} {N N' N'' : Nat} {h h' h'' : Nat → Option Blk} {w w' w'' : World} {W W' : List Nat}
theorem Fr.refl (ρ : Nat → Place) (N : Nat) (h : Nat → Option Blk) (w : World) (hlt : ∀ id b, h id = some b → id < N) : Fr ρ N h w ρ N h w [] :=
  ⟨rfl, rfl, rfl, Nat.le_refl _, Nat.le_refl _, fun _ _ => rfl, fun _ _ _ => rfl, fun _ b' _ e => ⟨b', e⟩, fun _ _ _ => rfl, fun id b e hN => absurd (hlt id b e) (by omega)⟩
theorem Fr.weaken (f : Fr ρ N h w ρ' N' h' w' W) (hW : ∀ i ∈ W, i ∈ W') : Fr ρ N h w ρ' N' h' w' W' :=
  { f with
    keep := fun k hk hq => f.keep k hk (fun id hi b hb => hq id (hW id hi) b hb)
    unch := fun id hi hn => f.unch id hi (fun hw => hn (hW id hw))
    orig := fun id b e hN => (f.orig id b e hN).imp (fun x => x) fun ⟨i, hi, r⟩ => ⟨i, hW i hi, r⟩ }
theorem Fr.trans (f : Fr ρ N h w ρ' N' h' w' W) (g : Fr ρ' N' h' w' ρ'' N'' h'' w'' W') : Fr ρ N h w ρ'' N'' h'' w'' (W ++ W') where
  os := g.os.trans f.os
  tape := g.tape.trans f.tape
  output := g.output.trans f.output
  size := Nat.le_trans f.size g.size
  le := Nat.le_trans f.le g.le
  same := fun i hi => (g.same i (Nat.lt_of_lt_of_le hi f.le)).trans (f.same i hi)
  keep := fun k hk hq => by
    rw [← f.keep k hk (fun id hi b hb => hq id (List.mem_append.2 (.inl hi)) b hb)]
    refine g.keep k (Nat.lt_of_lt_of_le hk f.size) (fun id hi b hb => ?_)
    rcases Nat.lt_or_ge id N with hl | hl
    · obtain ⟨b0, hb0⟩ := f.old id b hl hb
      rw [f.same id hl]
      exact hq id (List.mem_append.2 (.inr hi)) b0 hb0
    · rcases f.orig id b hb hl with h1 | ⟨i0, hi0, b0, hb0, e⟩
      · omega
      · rw [← e]; exact hq i0 (List.mem_append.2 (.inl hi0)) b0 hb0
  old := fun id b'' hi hb => by
    obtain ⟨b1, h1⟩ := g.old id b'' (Nat.lt_of_lt_of_le hi f.le) hb
    exact f.old id b1 hi h1
  unch := fun id hi hn => by
    rw [g.unch id (Nat.lt_of_lt_of_le hi f.le) (fun k => hn (List.mem_append.2 (.inr k)))]
    exact f.unch id hi (fun k => hn (List.mem_append.2 (.inl k)))
  orig := fun id b hb hl => by
    rcases Nat.lt_or_ge id N' with h1 | h1
    · obtain ⟨b1, hb1⟩ := g.old id b h1 hb
      rw [g.same id h1]
      exact (f.orig id b1 hb1 hl).imp (fun x => x) fun ⟨i0, hi0, r⟩ => ⟨i0, List.mem_append.2 (.inl hi0), r⟩
    · rcases g.orig id b hb h1 with h2 | ⟨i0, hi0, b0, hb0, e⟩
      · exact .inl (Nat.le_trans f.size h2)
      · rcases Nat.lt_or_ge i0 N with h3 | h3
        · obtain ⟨b2, hb2⟩ := f.old i0 b0 h3 hb0
          refine .inr ⟨i0, List.mem_append.2 (.inr hi0), b2, hb2, ?_⟩
          rw [← f.same i0 h3]; exact e
        · rcases f.orig i0 b0 hb0 h3 with h4 | ⟨i1, hi1, b1, hb1, e1⟩
          · left; rw [← e]; exact h4
          · exact .inr ⟨i1, List.mem_append.2 (.inl hi1), b1, hb1, e1.trans e⟩

theorem Rel.world (R : Rel B ρ N h w) (hw : w'.heap = w.heap) : Rel B ρ N h w' := by
  obtain ⟨h1, h2, h3, h4, h5⟩ := R
  rw [← hw] at h1 h5
  exact ⟨h1, h2, h3, h4, h5⟩
theorem Fr.world (hlt : ∀ id b, h id = some b → id < N) (hw : w'.heap = w.heap) (h1 : w'.os = w.os) (h2 : w'.tape = w.tape) (h3 : w'.output = w.output) : Fr ρ N h w ρ N h w' [] :=
  ⟨h1, h2, h3, by rw [hw]; exact Nat.le_refl _, Nat.le_refl _, fun _ _ => rfl, fun _ _ _ => by rw [hw], fun _ b' _ e => ⟨b', e⟩, fun _ _ _ => rfl, fun id b e hN => absurd (hlt id b e) (by omega)⟩
/-- fewer blocks -/
theorem Rel.less (R : Rel B ρ N h w) (hs : ∀ id b, h' id = some b → h id = some b) : Rel B ρ N h' w :=
  ⟨R.base, fun id b e => R.lt id b (hs id b e), fun id b e => R.own id b (hs id b e), fun i j bi bj e1 e2 hij => R.sep i j bi bj (hs _ _ e1) (hs _ _ e2) hij, fun id b e => R.blk id b (hs id b e)⟩

noncomputable def upd (h : Nat → Option Blk) (id : Nat) (x : Option Blk) : Nat → Option Blk := fun j => if j = id then x else h j
theorem upd_at (h : Nat → Option Blk) (id : Nat) (x : Option Blk) : upd h id x id = x := if_pos rfl
theorem upd_ne (h : Nat → Option Blk) {id j : Nat} (x : Option Blk) (hj : j ≠ id) : upd h id x j = h j := if_neg hj

theorem Rel.cb (R : Rel B ρ N h w) {id : Nat} {b : Blk} (hb : h id = some b) (hk : b.k = .cells) : CellsRel ρ N (ρ id) b w.heap[(ρ id).b]? := by
  have := R.blk id b hb
  unfold BlkRel at this
  rw [hk] at this
  exact this
theorem Rel.in_heap (R : Rel B ρ N h w) {id : Nat} {b : Blk} (hb : h id = some b) : (ρ id).b < w.heap.size := by
  obtain ⟨x, e⟩ := (R.blk id b hb).some
  rcases Nat.lt_or_ge (ρ id).b w.heap.size with q | q
  · exact q
  · rw [Array.getElem?_eq_none q] at e; cases e
theorem Rel.cell (R : Rel B ρ N h w) {id : Nat} {b : Blk} (hb : h id = some b) (hk : b.k = .cells) {i : Nat} {v : Value} (hi : i < b.n) (hv : b.cs.get i = some v) :
    ∃ v', w.cell? ⟨(ρ id).b, i + (ρ id).d, none⟩ = some v' ∧ VRel ρ N v v' := by
  obtain ⟨cs, ⟨fz, _, e1⟩, _, _, _, _, h5⟩ := R.cb hb hk
  obtain ⟨v', e2, r⟩ := h5 i v hi hv
  exact ⟨v', by simp only [World.cell?, e1, Option.isSome_none, Bool.false_eq_true, if_false]; exact e2, r⟩
theorem Rel.there (R : Rel B ρ N h w) {id : Nat} {b : Blk} (hb : h id = some b) (hk : b.k = .cells) {i : Nat} (hi : i < (ρ id).S) :
    ∃ v', w.cell? ⟨(ρ id).b, i + (ρ id).d, none⟩ = some v' := by
  obtain ⟨cs, ⟨fz, _, e1⟩, h2, h3, _, _, h5⟩ := R.cb hb hk
  have : i + (ρ id).d < cs.size := by omega
  exact ⟨cs[i + (ρ id).d], by simp only [World.cell?, e1, Option.isSome_none, Bool.false_eq_true, if_false]; exact Array.getElem?_eq_getElem this⟩
theorem Rel.unfrozen (R : Rel B ρ N h w) {id : Nat} {b : Blk} (hb : h id = some b) (hk : b.k = .cells) {o : Nat} (ho : (w.cell? ⟨(ρ id).b, o, none⟩).isSome = true) : w.frozen? ⟨(ρ id).b, o, none⟩ = false := by
  obtain ⟨cs, ⟨fz, hf, e1⟩, _⟩ := R.cb hb hk
  have hlt : o < cs.size := by
    rcases Nat.lt_or_ge o cs.size with q | q
    · exact q
    · simp [World.cell?, e1, Array.getElem?_eq_none q] at ho
  have := hf o hlt
  simp only [World.frozen?, e1]
  rw [← Bool.not_eq_true]
  simpa using this

/-- a new block, of whatever kind -/
theorem Rel.newObj (R : Rel B ρ N h w) (p : Place) (hpb : p.b = w.heap.size) (b : Blk) (o : Obj) (hc : ∀ ρ', ρ' N = p → (∀ i, i < N → ρ' i = ρ i) → BlkRel ρ' (N + 1) p b (some o))
    (hw : w'.heap = w.heap.push o) (h1 : w'.os = w.os) (h2 : w'.tape = w.tape) (h3 : w'.output = w.output) :
    ∃ ρ', ρ' N = p ∧ Rel B ρ' (N + 1) (upd h N (some b)) w' ∧ Fr ρ N h w ρ' (N + 1) (upd h N (some b)) w' [] := by
  have hρ : ∀ i, i < N → (fun j => if j = N then p else ρ j) i = ρ i := fun i hi => if_neg (by omega)
  have hlow : ∀ id b', h id = some b' → (ρ id).b < w.heap.size := fun id b' e => R.in_heap e
  refine ⟨fun j => if j = N then p else ρ j, if_pos rfl, ⟨?_, ?_, ?_, ?_, ?_⟩, ?_⟩
  · rw [hw, Array.size_push]; exact Nat.le_succ_of_le R.base
  · intro id b' e
    by_cases hid : id = N
    · omega
    · rw [upd_ne _ _ hid] at e; have := R.lt id b' e; omega
  · intro id b' e
    by_cases hid : id = N
    · simp only [hid, if_true]; rw [hpb]; exact R.base
    · rw [upd_ne _ _ hid] at e; simp only [hid, if_false]; exact R.own id b' e
  · intro i j bi bj e1 e2 hij
    by_cases hi : i = N
    · have hj : j ≠ N := fun k => hij (by omega)
      rw [upd_ne _ _ hj] at e2
      have := hlow j bj e2
      simp only [hi, hj, if_true, if_false]; omega
    · rw [upd_ne _ _ hi] at e1
      by_cases hj : j = N
      · have := hlow i bi e1
        simp only [hi, hj, if_true, if_false]; omega
      · rw [upd_ne _ _ hj] at e2
        simp only [hi, hj, if_false]; exact R.sep i j bi bj e1 e2 hij
  · intro id b' e
    by_cases hid : id = N
    · rw [hid, upd_at] at e
      cases e
      have hh : w'.heap[p.b]? = some o := by rw [hw, hpb, Array.getElem?_push, if_pos rfl]
      simp only [hid, if_true, hh]
      exact hc _ (if_pos rfl) hρ
    · rw [upd_ne _ _ hid] at e
      have hl := hlow id b' e
      simp only [hid, if_false]
      rw [hw, Array.getElem?_push, if_neg (by omega)]
      exact (R.blk id b' e).mono (Nat.le_succ N) hρ
  · refine ⟨h1, h2, h3, by rw [hw, Array.size_push]; omega, Nat.le_succ N, hρ, fun k hk _ => ?_, fun id b' hi e => ?_, fun id hi _ => ?_, fun id b' e hN => ?_⟩
    · rw [hw, Array.getElem?_push, if_neg (by omega)]
    · rw [upd_ne _ _ (by omega)] at e; exact ⟨b', e⟩
    · exact upd_ne _ _ (by omega)
    · have hid : id = N := by
        by_cases hid : id = N
        · exact hid
        · rw [upd_ne _ _ hid] at e; have := R.lt id b' e; omega
      left; simp only [hid, if_true]; rw [hpb]; exact Nat.le_refl _
/-- a new block of cells -/
theorem Rel.new (R : Rel B ρ N h w) (b : Blk) (hk : b.k = .cells) (cs : Array Value) (hn : b.n ≤ cs.size)
    (hc : ∀ i v, i < b.n → b.cs.get i = some v → ∃ v', cs[i]? = some v' ∧ VRel ρ N v v') {fz : Nat × Nat} (hf : Thaw cs fz) (hw : w'.heap = w.heap.push (.cells cs b.elem fz)) (h1 : w'.os = w.os) (h2 : w'.tape = w.tape) (h3 : w'.output = w.output) :
    ∃ ρ', (ρ' N = ⟨w.heap.size, 0, cs.size, b.z, b.ex⟩) ∧ Rel B ρ' (N + 1) (upd h N (some b)) w' ∧ Fr ρ N h w ρ' (N + 1) (upd h N (some b)) w' [] :=
  R.newObj ⟨w.heap.size, 0, cs.size, b.z, b.ex⟩ rfl b (.cells cs b.elem fz) (fun ρ' e1 e2 => by
    unfold BlkRel
    rw [hk]
    refine ⟨cs, ⟨fz, hf, rfl⟩, by simp, hn, rfl, rfl, fun i v hi hv => ?_⟩
    obtain ⟨v', g1, g2⟩ := hc i v hi hv
    exact ⟨v', g1, g2.mono (Nat.le_succ N) e2⟩) hw h1 h2 h3
/-- an object that is no row of cells turns into another one -/
theorem Rel.turn (R : Rel B ρ N h w) {id : Nat} {b b' : Blk} (hb : h id = some b) {o : Obj} (hc : BlkRel ρ N (ρ id) b' (some o)) (hw : w'.heap = w.heap.setIfInBounds (ρ id).b o) (h1 : w'.os = w.os) (h2 : w'.tape = w.tape) (h3 : w'.output = w.output) :
    Rel B ρ N (upd h id (some b')) w' ∧ Fr ρ N h w ρ N (upd h id (some b')) w' [id] := by
  have hlt := R.in_heap hb
  have hidN := R.lt id b hb
  have hat : w'.heap[(ρ id).b]? = some o := by rw [hw, Array.getElem?_setIfInBounds_self_of_lt hlt]
  have hne : ∀ k, k ≠ (ρ id).b → w'.heap[k]? = w.heap[k]? := fun k hk => by rw [hw, Array.getElem?_setIfInBounds_ne (Ne.symm hk)]
  have hsz : w'.heap.size = w.heap.size := by rw [hw, Array.size_setIfInBounds]
  have q : ∀ j bj, upd h id (some b') j = some bj → ∃ b0, h j = some b0 := fun j bj e => by
    by_cases hj : j = id
    · rw [hj]; exact ⟨b, hb⟩
    · rw [upd_ne _ _ hj] at e; exact ⟨bj, e⟩
  refine ⟨⟨by rw [hsz]; exact R.base, fun j b1 e => ?_, fun j b1 e => ?_, fun j k bj bk e1 e2 hjk => ?_, fun j b1 e => ?_⟩, h1, h2, h3, by rw [hsz]; exact Nat.le_refl _, Nat.le_refl _, fun _ _ => rfl, fun k _ hq => hne k (fun e => hq id (List.mem_singleton.2 rfl) b hb e.symm), fun j b1 _ e => q j b1 e, fun j _ hj => upd_ne _ _ (fun e => hj (List.mem_singleton.2 e)), fun j b1 e hN => ?_⟩
  · obtain ⟨b0, e0⟩ := q j b1 e; exact R.lt j b0 e0
  · obtain ⟨b0, e0⟩ := q j b1 e; exact R.own j b0 e0
  · obtain ⟨b1, h1⟩ := q j bj e1
    obtain ⟨b2, h2⟩ := q k bk e2
    exact R.sep j k b1 b2 h1 h2 hjk
  · by_cases hj : j = id
    · rw [hj, upd_at] at e
      cases e
      rw [hj, hat]; exact hc
    · rw [upd_ne _ _ hj] at e
      rw [hne _ (R.sep j id b1 b e hb hj)]
      exact R.blk j b1 e
  · obtain ⟨b0, e0⟩ := q j b1 e
    have := R.lt j b0 e0; omega

/-- a cell is written -/
theorem Rel.set (R : Rel B ρ N h w) {id : Nat} {b : Blk} (hb : h id = some b) (hk : b.k = .cells) {i : Nat} (hi : i < b.n) {v v' : Value} (hv : VRel ρ N v v') {cs' : Tr Value} (hp : ∀ j, cs'.get j = if j = i then some v else b.cs.get j) :
    Rel B ρ N (upd h id (some { b with cs := cs' })) (w.setCell ⟨(ρ id).b, i + (ρ id).d, none⟩ v') ∧ Fr ρ N h w ρ N (upd h id (some { b with cs := cs' })) (w.setCell ⟨(ρ id).b, i + (ρ id).d, none⟩ v') [id] := by
  obtain ⟨cs, ⟨fz, hf, e1⟩, h2, h3, h4, h5, h6⟩ := R.cb hb hk
  have hw : (w.setCell ⟨(ρ id).b, i + (ρ id).d, none⟩ v').heap = w.heap.setIfInBounds (ρ id).b (.cells (cs.setIfInBounds (i + (ρ id).d) v') b.elem fz) := by
    apply Array.ext_getElem?
    intro k
    by_cases hk : k = (ρ id).b
    · rw [hk, Array.getElem?_setIfInBounds_self_of_lt (R.in_heap hb)]
      simp only [World.setCell, Array.getElem?_modify, if_true, e1, Option.map_some]
      rfl
    · rw [Array.getElem?_setIfInBounds_ne (Ne.symm hk)]
      exact Below.heap_setCell _ _ _ _ hk
  refine R.turn hb ?_ hw rfl rfl rfl
  unfold BlkRel
  simp only [hk]
  refine ⟨_, ⟨fz, fun o ho => hf o (by simpa using ho), rfl⟩, by rw [Array.size_setIfInBounds]; exact h2, h3, h4, h5, fun m x hm hx => ?_⟩
  have hx' : cs'.get m = some x := hx
  rw [hp] at hx'
  by_cases hmi : m = i
  · rw [if_pos hmi] at hx'
    cases hx'
    refine ⟨v', ?_, hv⟩
    rw [hmi, Array.getElem?_setIfInBounds_self_of_lt (by omega)]
  · rw [if_neg hmi] at hx'
    obtain ⟨x', e2, r⟩ := h6 m x hm hx'
    refine ⟨x', ?_, r⟩
    rw [Array.getElem?_setIfInBounds_ne (by omega)]; exact e2
end
end Go.Proofs.Ytlapnehfjklpoaa
