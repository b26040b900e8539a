/- Closed calls by reckoning: lists of cells, writing, giving up, growing. -/
import Derived.Test.YtlapnehfjklpoaaEvB
import Derived.Deep.MidRow
import Derived.Deep.AppendSrc
namespace Go.Proofs.Ytlapnehfjklpoaa
open Go.RowKit

noncomputable def VRels (ρ : Nat → Place) (N : Nat) : List Value → List Value → Prop
  | [], [] => True
  | v :: l, v' :: l' => VRel ρ N v v' ∧ VRels ρ N l l'
  | _, _ => False

section
variable {B : Nat} {ρ ρ' : Nat → Place} {N N' : Nat} {h h' : Nat → Option Blk} {w w' : World} {W W' : List Nat}
theorem VRels.length : ∀ {l l' : List Value}, VRels ρ N l l' → l.length = l'.length
  | [], [], _ => rfl
  | _ :: _, _ :: _, h => by rw [List.length_cons, List.length_cons, VRels.length h.2]
  | [], _ :: _, h => h.elim
  | _ :: _, [], h => h.elim
theorem VRels.at : ∀ {l l' : List Value}, VRels ρ N l l' → ∀ {i : Nat} {v v' : Value}, l[i]? = some v → l'[i]? = some v' → VRel ρ N v v'
  | _ :: _, _ :: _, h, 0, v, v', e1, e2 => by simp at e1 e2; rw [← e1, ← e2]; exact h.1
  | _ :: _, _ :: _, h, i + 1, v, v', e1, e2 => VRels.at h.2 (by simpa using e1) (by simpa using e2)
  | [], [], _, _, v, _, e1, _ => by simp at e1
  | [], _ :: _, h, _, _, _, _, _ => h.elim
  | _ :: _, [], h, _, _, _, _, _ => h.elim
theorem VRels.get : ∀ {l l' : List Value}, VRels ρ N l l' → ∀ {i : Nat} {v : Value}, l[i]? = some v → ∃ v', l'[i]? = some v' ∧ VRel ρ N v v'
  | _ :: _, v' :: _, h, 0, v, e1 => by simp at e1; rw [← e1]; exact ⟨v', rfl, h.1⟩
  | _ :: _, _ :: _, h, i + 1, v, e1 => by
    obtain ⟨x, e, r⟩ := VRels.get h.2 (i := i) (v := v) (by simpa using e1)
    exact ⟨x, by simpa using e, r⟩
  | [], [], _, _, v, e1 => by simp at e1
  | [], _ :: _, h, _, _, _ => h.elim
  | _ :: _, [], h, _, _, _ => h.elim
theorem VRels.of : ∀ {l l' : List Value}, l.length = l'.length → (∀ (i : Nat) (v v' : Value), l[i]? = some v → l'[i]? = some v' → VRel ρ N v v') → VRels ρ N l l'
  | [], [], _, _ => trivial
  | v :: l, v' :: l', hl, h => ⟨h 0 v v' rfl rfl, VRels.of (by simpa using hl) fun i x x' e1 e2 => h (i + 1) x x' (by simpa using e1) (by simpa using e2)⟩
  | [], _ :: _, hl, _ => by simp at hl
  | _ :: _, [], hl, _ => by simp at hl
theorem VRels.mono (hN : N ≤ N') (hρ : ∀ i, i < N → ρ' i = ρ i) {l l' : List Value} (h : VRels ρ N l l') : VRels ρ' N' l l' :=
  .of h.length fun _ _ _ e1 e2 => (h.at e1 e2).mono hN hρ
theorem VRels.append {a a' b b' : List Value} (h1 : VRels ρ N a a') (h2 : VRels ρ N b b') : VRels ρ N (a ++ b) (a' ++ b') := by
  refine .of (by rw [List.length_append, List.length_append, h1.length, h2.length]) fun i v v' e1 e2 => ?_
  rcases Nat.lt_or_ge i a.length with hi | hi
  · rw [List.getElem?_append_left hi] at e1
    rw [List.getElem?_append_left (by rw [← h1.length]; exact hi)] at e2
    exact h1.at e1 e2
  · rw [List.getElem?_append_right hi] at e1
    rw [List.getElem?_append_right (by rw [← h1.length]; exact hi), ← h1.length] at e2
    exact h2.at e1 e2
theorem VRels.arr {a a' : Array Value} (h : VRels ρ N a.toList a'.toList) : a.size = a'.size ∧ ∀ (i : Nat) (v v' : Value), a[i]? = some v → a'[i]? = some v' → VRel ρ N v v' :=
  ⟨by simpa using h.length, fun i v v' e1 e2 => h.at (by simpa using e1) (by simpa using e2)⟩
theorem VRels.ofArr {a a' : Array Value} (hs : a.size = a'.size) (h : ∀ (i : Nat) (v v' : Value), a[i]? = some v → a'[i]? = some v' → VRel ρ N v v') : VRels ρ N a.toList a'.toList :=
  .of (by simpa using hs) fun i v v' e1 e2 => h i v v' (by simpa using e1) (by simpa using e2)
theorem VRel.oneCell {v v' : Value} (h : VRel ρ N v v') : v'.oneCell' = v.oneCell' := by cases h <;> rfl
theorem VRels.oneCell {l l' : List Value} (h : VRels ρ N l l') (h1 : ∀ v ∈ l, v.oneCell' = true) : ∀ v ∈ l', v.oneCell' = true := by
  intro v' hv
  obtain ⟨i, hi⟩ := List.getElem?_of_mem hv
  have hlt : i < l.length := by
    rw [h.length]
    rcases Nat.lt_or_ge i l'.length with q | q
    · exact q
    · rw [List.getElem?_eq_none q] at hi; cases hi
  have e := List.getElem?_eq_getElem hlt
  rw [(h.at e hi).oneCell]
  exact h1 _ (List.getElem_mem hlt)
theorem VRel.cells {v v' : Value} (h : VRel ρ N v v') : VRels ρ N v.cells.toList v'.cells.toList := by
  cases h with
  | agg a a' ha h1 => exact .ofArr ha h1
  | flat d v h =>
    refine .ofArr rfl fun i x x' e1 e2 => ?_
    rw [e1] at e2; cases e2
    cases v with
    | agg a =>
      obtain ⟨a', h2, _, h3⟩ := (VRel.flat (ρ := ρ) (N := N) d _ h).agg_inv
      cases h2
      exact h3 i x x e1 e1
    | _ =>
      have e1 : (#[_] : Array Value)[i]? = some x := e1
      cases i with
      | zero => simp at e1; rw [← e1]; exact .flat d _ h
      | succ i => simp at e1
  | ptr id off h => exact ⟨.ptr id off h, trivial⟩
  | slice id off n c c' h hn hc hx hS => exact ⟨.slice id off n c c' h hn hc hx hS, trivial⟩
  | sliceE id off h b' off' => exact ⟨.sliceE id off h b' off', trivial⟩
  | func f a b a' b' ha hb h1 h2 => exact ⟨.func f a b a' b' ha hb h1 h2, trivial⟩
  | yld l h => exact ⟨.yld l h, trivial⟩
  | mp id h => exact ⟨.mp id h, trivial⟩
  | tuple a a' ha h1 => exact ⟨.tuple a a' ha h1, trivial⟩
  | iface t v v' h => exact ⟨.iface t v v' h, trivial⟩
  | meth t v v' h => exact ⟨.meth t v v' h, trivial⟩

/-- the cells of a block from 'off' on -/
noncomputable def rd (b : Blk) : Nat → Nat → Option (List Value)
  | _, 0 => some []
  | off, k + 1 => bif off.blt b.n then (match b.cs.get off with
    | some v => (match rd b (off + 1) k with | some l => some (v :: l) | none => none)
    | none => none) else none
theorem rd_at (b : Blk) : ∀ (k off : Nat) (l : List Value), rd b off k = some l → l.length = k ∧ ∀ i v, l[i]? = some v → off + i < b.n ∧ b.cs.get (off + i) = some v
  | 0, off, l, e => by
    have e' : some [] = some l := e
    cases e'
    exact ⟨rfl, fun i v h => by simp at h⟩
  | k + 1, off, l, e => by
    simp only [rd, cond_eq_ite] at e
    split at e
    · rename_i hlt
      rw [Nat.blt_eq] at hlt
      split at e
      · rename_i v hv
        split at e
        · rename_i r hr
          cases e
          obtain ⟨h1, h2⟩ := rd_at b k (off + 1) r hr
          refine ⟨by rw [List.length_cons, h1], fun i x hx => ?_⟩
          cases i with
          | zero => simp at hx; rw [← hx]; exact ⟨hlt, hv⟩
          | succ i =>
            obtain ⟨h3, h4⟩ := h2 i x (by simpa using hx)
            rw [show off + (i + 1) = off + 1 + i by omega]
            exact ⟨h3, h4⟩
        · cases e
      · cases e
    · cases e
theorem Rel.rd (R : Rel B ρ N h w) {id : Nat} {b : Blk} (hb : h id = some b) (hk : b.k = .cells) {off k : Nat} {l : List Value} (e : rd b off k = some l) :
    ∃ l', VRels ρ N l l' ∧ ∀ i v, l'[i]? = some v → w.cell? ⟨(ρ id).b, off + (ρ id).d + i, none⟩ = some v := by
  obtain ⟨h1, h2⟩ := rd_at b k off l e
  clear e h1
  have key : ∀ (l : List Value) (off : Nat), (∀ i v, l[i]? = some v → off + i < b.n ∧ b.cs.get (off + i) = some v) → ∃ l', VRels ρ N l l' ∧ ∀ i v, l'[i]? = some v → w.cell? ⟨(ρ id).b, off + (ρ id).d + i, none⟩ = some v := by
    intro l
    induction l with
    | nil => exact fun off _ => ⟨[], trivial, fun i v h => by simp at h⟩
    | cons v l ih =>
      intro off h2
      obtain ⟨h3, h4⟩ := h2 0 v rfl
      obtain ⟨v', e1, r⟩ := R.cell hb hk h3 h4
      obtain ⟨l', r2, h5⟩ := ih (off + 1) (fun i x hx => by
        have := h2 (i + 1) x (by simpa using hx)
        rw [show off + 1 + i = off + (i + 1) by omega]; exact this)
      refine ⟨v' :: l', ⟨r, r2⟩, fun i x hx => ?_⟩
      cases i with
      | zero => simp at hx; rw [← hx]; exact e1
      | succ i =>
        have := h5 i x (by simpa using hx)
        rw [show off + (ρ id).d + (i + 1) = off + 1 + (ρ id).d + i by omega]; exact this
  exact key l off h2

/-- writing cells from 'off' on -/
noncomputable def wr (n : Nat) : Tr Value → Nat → List Value → Option (Tr Value)
  | t, _, [] => some t
  | t, off, v :: l => bif off.blt n && v.oneCell' then (match Tr.put 32 t off (some v) with | some t' => wr n t' (off + 1) l | none => none) else none
theorem Rel.wr : ∀ (l l' : List Value) (b : Blk) (h : Nat → Option Blk) (w : World) (off : Nat) (t : Tr Value) (id : Nat), Rel B ρ N h w → h id = some b → b.k = .cells → VRels ρ N l l' → wr b.n b.cs off l = some t →
    (∀ v ∈ l', v.oneCell' = true) ∧ (∀ j, j < l'.length → (w.cell? ⟨(ρ id).b, off + (ρ id).d + j, none⟩).isSome = true) ∧
    Rel B ρ N (upd h id (some { b with cs := t })) (w.setCells (ρ id).b (off + (ρ id).d) l') ∧ Fr ρ N h w ρ N (upd h id (some { b with cs := t })) (w.setCells (ρ id).b (off + (ρ id).d) l') [id]
  | [], [], b, h, w, off, t, id, R, hb, _, _, e => by
    have e' : some b.cs = some t := e
    cases e'
    have hu : upd h id (some { b with cs := b.cs }) = h := by
      funext j
      by_cases hj : j = id
      · rw [hj, upd_at, hb]
      · rw [upd_ne _ _ hj]
    rw [hu]
    exact ⟨fun v hv => (by simp at hv), fun j hj => (by simp at hj), R, (Fr.refl ρ N h w R.lt).weaken (fun i hi => by simp at hi)⟩
  | v :: l, v' :: l', b, h, w, off, t, id, R, hb, hk, hv, e => by
    simp only [Go.Proofs.Ytlapnehfjklpoaa.wr, cond_eq_ite] at e
    split at e
    · rename_i hc
      simp only [Bool.and_eq_true, Nat.blt_eq] at hc
      split at e
      · rename_i t1 ht1
        have hp := fun j => Tr.get_put 32 b.cs t1 off j (some v) ht1
        obtain ⟨R1, F1⟩ := R.set hb hk hc.1 hv.1 hp
        have R2 := Rel.wr l l' { b with cs := t1 } _ _ (off + 1) t id R1 (upd_at _ _ _) hk hv.2 e
        obtain ⟨h1, h2, h3, h4⟩ := R2
        have hu : upd (upd h id (some { b with cs := t1 })) id (some { { b with cs := t1 } with cs := t }) = upd h id (some { b with cs := t }) := by
          funext j
          by_cases hj : j = id
          · rw [hj, upd_at, upd_at]
          · rw [upd_ne _ _ hj, upd_ne _ _ hj, upd_ne _ _ hj]
        rw [hu] at h3 h4
        have e2 : off + 1 + (ρ id).d = off + (ρ id).d + 1 := by omega
        rw [e2] at h2 h3 h4
        refine ⟨fun x hx => ?_, fun j hj => ?_, h3, (F1.trans h4).weaken (fun i hi => by simpa using hi)⟩
        · rcases List.mem_cons.1 hx with rfl | hx
          · rw [hv.1.oneCell]; exact hc.2
          · exact h1 x hx
        · cases j with
          | zero =>
            obtain ⟨cs, ⟨fz, hfz, e1⟩, q2, q3, _⟩ := R.cb hb hk
            obtain ⟨x, hx⟩ := R.there hb hk (i := off) (by omega)
            simp only [Nat.add_zero, hx, Option.isSome_some]
          | succ j =>
            have := h2 j (by simpa using hj)
            rw [World.cell?_setCell_other _ _ _ _ (by simp <;> omega)] at this
            rw [show off + (ρ id).d + (j + 1) = off + (ρ id).d + 1 + j by omega]; exact this
      · cases e
    · cases e
  | [], _ :: _, _, _, _, _, _, _, _, _, _, h, _ => h.elim
  | _ :: _, [], _, _, _, _, _, _, _, _, _, h, _ => h.elim

/-- a block is given up -/
theorem Rel.kill (R : Rel B ρ N h w) (id : Nat) : Rel B ρ N (upd h id none) w ∧ Fr ρ N h w ρ N (upd h id none) w [id] := by
  have hs : ∀ j b, upd h id none j = some b → h j = some b := fun j b e => by
    by_cases hj : j = id
    · rw [hj, upd_at] at e; cases e
    · rw [upd_ne _ _ hj] at e; exact e
  exact ⟨R.less hs, rfl, rfl, rfl, Nat.le_refl _, Nat.le_refl _, fun _ _ => rfl, fun _ _ _ => rfl, fun j b' _ e => ⟨b', hs j b' e⟩, fun j _ hj => upd_ne _ _ (fun e => hj (List.mem_singleton.2 e)), fun j b e hN => absurd (R.lt j b (hs j b e)) (by omega)⟩

/-- a trie of a list -/
noncomputable def trOf : Tr Value → Nat → List Value → Option (Tr Value)
  | t, _, [] => some t
  | t, k, v :: l => match Tr.put 32 t k (some v) with | some t' => trOf t' (k + 1) l | none => none
theorem trOf_get : ∀ (l : List Value) (t t' : Tr Value) (k : Nat), trOf t k l = some t' → ∀ j, t'.get j = if k ≤ j ∧ j < k + l.length then l[j - k]? else t.get j
  | [], t, t', k, e, j => by
    have e' : some t = some t' := e
    cases e'
    rw [if_neg (by simp)]
  | v :: l, t, t', k, e, j => by
    simp only [trOf] at e
    split at e
    · rename_i t1 h1
      rw [trOf_get l t1 t' (k + 1) e j, Tr.get_put 32 _ _ _ _ _ h1]
      by_cases hj : j = k
      · rw [if_neg (by omega), if_pos hj, if_pos (by simp [hj])]; simp [hj]
      · rw [if_neg hj]
        by_cases h2 : k + 1 ≤ j ∧ j < k + 1 + l.length
        · rw [if_pos h2, if_pos (by simp; omega), show j - k = (j - (k + 1)) + 1 by omega]; simp
        · rw [if_neg h2, if_neg (by simp; omega)]
    · cases e
theorem trOf_nil {l : List Value} {t : Tr Value} (e : trOf .nil 0 l = some t) {i : Nat} {v : Value} (h : t.get i = some v) : l[i]? = some v := by
  rw [trOf_get l .nil t 0 e] at h
  split at h
  · simpa using h
  · cases h

/-- append where there is room -/
theorem Rel.appIn (R : Rel B ρ N h w) {id : Nat} {b : Blk} (hb : h id = some b) (hk : b.k = .cells) {off k c' z : Nat} (hz : z = b.z) {olds news news' : List Value} (hl : olds.length = k * z)
    (ho : ∀ i v, olds[i]? = some v → off + i < b.n ∧ b.cs.get (off + i) = some v) (hn : VRels ρ N news news') {m : Nat} (hm : news.length = m * z)
    (hroom : k + m ≤ c') (hS : off + c' * (ρ id).z ≤ (ρ id).S) {t : Tr Value} (ht : trOf .nil 0 (olds ++ news) = some t) :
    (∀ j, j < news'.length → (w.cell? ⟨(ρ id).b, off + (ρ id).d + k * z + j, none⟩).isSome = true) ∧
    ∃ ρ', Rel B ρ' (N + 1) (upd (upd h id none) N (some ⟨(k + m) * z, z, false, b.elem, t, .cells⟩)) (w.setCells (ρ id).b (off + (ρ id).d + k * z) news') ∧
      Fr ρ N h w ρ' (N + 1) (upd (upd h id none) N (some ⟨(k + m) * z, z, false, b.elem, t, .cells⟩)) (w.setCells (ρ id).b (off + (ρ id).d + k * z) news') [id] ∧
      VRel ρ' (N + 1) (.slice (some ⟨N, 0, none⟩) (k + m) (k + m)) (.slice (some ⟨(ρ id).b, off + (ρ id).d, none⟩) (k + m) c') := by
  obtain ⟨cs, ⟨fz, hfz, e1⟩, h2, h3, h4, h5, h6⟩ := R.cb hb hk
  have hidN := R.lt id b hb
  have hz' : (ρ id).z = z := by rw [h4, hz]
  have hS' : off + c' * z ≤ (ρ id).S := by rw [← hz']; exact hS
  have hmul : (k + m) * z ≤ c' * z := Nat.mul_le_mul_right _ hroom
  have hadd : (k + m) * z = k * z + m * z := Nat.add_mul _ _ _
  have hl' : news'.length = m * z := by rw [← hn.length]; exact hm
  have hthere : ∀ j, j < news'.length → (w.cell? ⟨(ρ id).b, off + (ρ id).d + k * z + j, none⟩).isSome = true := fun j hj => by
    obtain ⟨x, hx⟩ := R.there hb hk (i := off + k * z + j) (by omega)
    rw [show off + (ρ id).d + k * z + j = off + k * z + j + (ρ id).d by omega, hx]; rfl
  refine ⟨hthere, fun j => if j = N then ⟨(ρ id).b, (ρ id).d + off, (ρ id).S - off, z, false⟩ else ρ j, ?_⟩
  have hρ : ∀ i, i < N → (fun j => if j = N then (⟨(ρ id).b, (ρ id).d + off, (ρ id).S - off, z, false⟩ : Place) else ρ j) i = ρ i := fun i hi => if_neg (by omega)
  have hblk : (w.setCells (ρ id).b (off + (ρ id).d + k * z) news').heap.size = w.heap.size := by
    have : ∀ (vs : List Value) (o : Nat) (w : World), (w.setCells (ρ id).b o vs).heap.size = w.heap.size := by
      intro vs
      induction vs with
      | nil => intro o w; rfl
      | cons v vs ih => intro o w; rw [World.setCells, ih]; simp [World.setCell]
    exact this _ _ _
  have hrow : ∀ (vs : List Value) (o : Nat) (w : World) (cs : Array Value), w.heap[(ρ id).b]? = some (.cells cs b.elem fz) → ∃ cs', (w.setCells (ρ id).b o vs).heap[(ρ id).b]? = some (.cells cs' b.elem fz) ∧ cs'.size = cs.size := by
    intro vs
    induction vs with
    | nil => intro o w cs e; exact ⟨cs, e, rfl⟩
    | cons v vs ih =>
      intro o w cs e
      have hat : (w.setCell ⟨(ρ id).b, o, none⟩ v).heap[(ρ id).b]? = some (.cells (cs.setIfInBounds o v) b.elem fz) := by
        simp only [World.setCell, Array.getElem?_modify, if_true, e, Option.map_some]; rfl
      obtain ⟨cs', e2, e3⟩ := ih (o + 1) _ _ hat
      exact ⟨cs', by rw [World.setCells]; exact e2, by rw [e3, Array.size_setIfInBounds]⟩
  have hother : ∀ (vs : List Value) (o : Nat) (w : World) (q : Nat), q ≠ (ρ id).b → (w.setCells (ρ id).b o vs).heap[q]? = w.heap[q]? := by
    intro vs
    induction vs with
    | nil => intro o w q _; rfl
    | cons v vs ih => intro o w q hq; rw [World.setCells, ih _ _ _ hq]; exact Below.heap_setCell _ _ _ _ hq
  have hos : ∀ (vs : List Value) (o : Nat) (w : World), (w.setCells (ρ id).b o vs).os = w.os ∧ (w.setCells (ρ id).b o vs).tape = w.tape ∧ (w.setCells (ρ id).b o vs).output = w.output := by
    intro vs
    induction vs with
    | nil => intro o w; exact ⟨rfl, rfl, rfl⟩
    | cons v vs ih => intro o w; rw [World.setCells]; exact ih _ _
  have hlive : ∀ j b', upd (upd h id none) N (some ⟨(k + m) * z, z, false, b.elem, t, .cells⟩) j = some b' → j ≠ N → h j = some b' ∧ j ≠ id := fun j b' e hj => by
    rw [upd_ne _ _ hj] at e
    by_cases hji : j = id
    · rw [hji, upd_at] at e; cases e
    · rw [upd_ne _ _ hji] at e; exact ⟨e, hji⟩
  obtain ⟨cs', e7, e8⟩ := hrow news' (off + (ρ id).d + k * z) w cs e1
  have hcell : ∀ o v, (w.setCells (ρ id).b (off + (ρ id).d + k * z) news').cell? ⟨(ρ id).b, o, none⟩ = some v → cs'[o]? = some v := fun o v e => by
    simpa [World.cell?, e7] using e
  refine ⟨⟨by rw [hblk]; exact R.base, ?_, ?_, ?_, ?_⟩, ⟨(hos _ _ _).1, (hos _ _ _).2.1, (hos _ _ _).2.2, by rw [hblk]; exact Nat.le_refl _, Nat.le_succ N, hρ, ?_, ?_, ?_, ?_⟩, ?_⟩
  · intro j b' e
    by_cases hj : j = N
    · omega
    · have := R.lt j b' (hlive j b' e hj).1; omega
  · intro j b' e
    by_cases hj : j = N
    · simp only [hj, if_true]; exact R.own id b hb
    · simp only [hj, if_false]; exact R.own j b' (hlive j b' e hj).1
  · intro i j bi bj e1 e2 hij
    by_cases hi : i = N
    · have hj : j ≠ N := fun q => hij (by omega)
      obtain ⟨q1, q2⟩ := hlive j bj e2 hj
      simp only [hi, hj, if_true, if_false]
      exact R.sep id j b bj hb q1 (fun q => q2 q.symm)
    · obtain ⟨p1, p2⟩ := hlive i bi e1 hi
      by_cases hj : j = N
      · simp only [hi, hj, if_true, if_false]
        exact R.sep i id bi b p1 hb p2
      · obtain ⟨q1, _⟩ := hlive j bj e2 hj
        simp only [hi, hj, if_false]
        exact R.sep i j bi bj p1 q1 hij
  · intro j b' e
    by_cases hj : j = N
    · rw [hj, upd_at] at e
      cases e
      simp only [hj, if_true]
      show CellsRel _ _ _ _ _
      refine ⟨cs', ⟨fz, fun o ho => hfz o (by rw [← e8]; exact ho), e7⟩, by show cs'.size = (ρ id).d + off + ((ρ id).S - off); omega, by show (k + m) * z ≤ (ρ id).S - off; omega, rfl, rfl, fun i v hi hv => ?_⟩
      have hv := trOf_nil ht hv
      rcases Nat.lt_or_ge i olds.length with q | q
      · rw [List.getElem?_append_left q] at hv
        obtain ⟨p1, p2⟩ := ho i v hv
        obtain ⟨v', e2, r⟩ := R.cell hb hk p1 p2
        refine ⟨v', hcell _ _ ?_, r.mono (Nat.le_succ N) hρ⟩
        rw [World.cell?_setCells_out _ _ _ _ _ (fun _ _ => by left; show i + ((ρ id).d + off) < off + (ρ id).d + k * z; omega)]
        rw [show i + ((ρ id).d + off) = off + i + (ρ id).d by omega]; exact e2
      · rw [List.getElem?_append_right q] at hv
        obtain ⟨v', e2, r⟩ := hn.get hv
        have hlt : i - olds.length < news'.length := by
          rcases Nat.lt_or_ge (i - olds.length) news'.length with q | q
          · exact q
          · rw [List.getElem?_eq_none q] at e2; cases e2
        have := World.cell?_setCells_in (ρ id).b news' (off + (ρ id).d + k * z) w hthere (i - olds.length) hlt
        rw [List.getElem?_eq_getElem hlt] at e2
        refine ⟨v', hcell _ _ ?_, r.mono (Nat.le_succ N) hρ⟩
        rw [show i + ((ρ id).d + off) = off + (ρ id).d + k * z + (i - olds.length) by omega, this]; exact e2
    · obtain ⟨q1, q2⟩ := hlive j b' e hj
      simp only [hj, if_false]
      rw [hother _ _ _ _ (R.sep j id b' b q1 hb q2)]
      exact (R.blk j b' q1).mono (Nat.le_succ N) hρ
  · intro q _ hq
    exact hother _ _ _ _ (fun e => hq id (List.mem_singleton.2 rfl) b hb e.symm)
  · intro j b' hj e
    exact ⟨b', (hlive j b' e (by omega)).1⟩
  · intro j hj hn
    rw [upd_ne _ _ (by omega), upd_ne _ _ (fun e => hn (List.mem_singleton.2 e))]
  · intro j b' e hN
    have hj : j = N := by
      by_cases hj : j = N
      · exact hj
      · have := R.lt j b' (hlive j b' e hj).1; omega
    right
    refine ⟨id, List.mem_singleton.2 rfl, b, hb, ?_⟩
    simp only [hj, if_true]
  · have := VRel.slice (ρ := fun j => if j = N then (⟨(ρ id).b, (ρ id).d + off, (ρ id).S - off, z, false⟩ : Place) else ρ j) (N := N + 1) N 0 (k + m) (k + m) c' (Nat.lt_succ_self N) (Nat.le_refl _) hroom (by simp) (by simp; omega)
    simp only [if_true, Nat.zero_add] at this
    rw [Nat.add_comm off]
    exact this
end
end Go.Proofs.Ytlapnehfjklpoaa
