/- Closed calls by reckoning: loops over strings, the bytes of strings. -/
import Derived.Test.YtlapnehfjklpoaaEvH
import Derived.Lib.ConvBytes
import Derived.Lib.AppendZeros
namespace Go.Proofs.Ytlapnehfjklpoaa
open Go.RowKit

noncomputable def kBlk (k : Kind) : Blk := ⟨0, 0, false, 0, .nil, k⟩
noncomputable def addB (s : St) (k : Kind) : Option St := match Tr.put 32 s.h s.N (some (kBlk k)) with | some h => some ⟨h, s.N + 1, s.W⟩ | none => none
noncomputable def evRange (P : Program) (s : St) (t : TypeId) (x : Value) : Option (Value × St) :=
  match P.underlying t, x with
  | some .string, .string q => (match addB s (.iter q 0) with | some s' => some (.pointer (some ⟨s.N, 0, none⟩), s') | none => none)
  | _, _ => none
noncomputable def evNext (s : St) (x : Value) (isString : Bool) : Option (Value × St) :=
  match x, isString with
  | .pointer (some ⟨id, 0, none⟩), true => (match s.h.get id with
    | some b => (match b.k with
      | .iter q pos => bif pos.blt q.size then
          (match Tr.put 32 s.h id (some (kBlk (.iter q (pos + (Utf8.decode q pos).2)))) with
            | some h => some (.tuple #[.bool true, .int .i64 pos, .int .i32 (Utf8.decode q pos).1], ⟨h, s.N, id :: s.W⟩)
            | none => none)
        else some (.tuple #[.bool false], s)
      | _ => none)
    | none => none)
  | _, _ => none

noncomputable def evClear (P : Program) (s : St) (t : TypeId) (x : Value) : Option St :=
  match P.underlying t, x with
  | some (.slice _), .slice none _ _ => some s
  | some (.slice elem), .slice (some ⟨id, off, none⟩) n _ => (match n with
    | 0 => some s
    | n + 1 => (match P.info? elem with
      | some i => (match i.zero with
        | some z => bif (Builtin.zeroCells z.cells (n + 1)).toList.all (pureV 3) then (match cget s id with
          | some b => (match wr b.n b.cs off (Builtin.zeroCells z.cells (n + 1)).toList with
            | some t => (match Tr.put 32 s.h id (some { b with cs := t }) with
              | some h => some ⟨h, s.N, id :: s.W⟩
              | none => none)
            | none => none)
          | none => none) else none
        | none => none)
      | none => none))
  | _, _ => none
noncomputable def evCopy (P : Program) (s : St) (t : TypeId) (x y : Value) : Option (Value × St) :=
  match P.underlying t with
  | some (.slice elem) => (match size? P elem with
    | some z => (match x, y with
      | .slice none _ _, .slice none _ _ => some (.int .i64 0, s)
      | .slice none _ _, .slice (some _) _ _ => some (.int .i64 0, s)
      | .slice (some _) _ _, .slice none _ _ => some (.int .i64 0, s)
      | .slice (some ⟨id, off, none⟩) n _, .slice (some ⟨id2, off2, none⟩) m _ => (match Nat.min m n with
        | 0 => some (.int .i64 0, s)
        | k + 1 => (match cget s id, cget s id2 with
          | some b, some b2 => (match rd b2 off2 ((k + 1) * z) with
            | some l => (match wr b.n b.cs off l with
              | some t => (match Tr.put 32 s.h id (some { b with cs := t }) with
                | some h => some (.int .i64 (Int.ofNat (k + 1)), ⟨h, s.N, id :: s.W⟩)
                | none => none)
              | none => none)
            | none => none)
          | _, _ => none))
      | _, _ => none)
    | none => none)
  | _ => none
/-- room for so many, behind nil -/
noncomputable def evGrow (P : Program) (s : St) (t tx : TypeId) (x y : Value) : Option (Value × St) :=
  match P.underlying t, P.underlying tx with
  | some (.slice e), some (.int _) => (match x, y with
    | .slice none _ _, .int _ (.ofNat n) => (match P.info? e with
      | some i => (match i.zero with
        | some z => bif (Builtin.zeroCells z.cells n).toList.all (pureV 3) && z.cells.size.beq i.size && Nat.ble 1 i.size && Nat.ble 1 n && n.ble 1000000 && (n * i.bytes).ble 281474976710656 then (match trOf .nil 0 (Builtin.zeroCells z.cells n).toList with
          | some tr => (match Tr.put 32 s.h s.N (some ⟨n * i.size, i.size, false, e, tr, .cells⟩) with
            | some h => some (.slice (some ⟨s.N, 0, none⟩) n n, ⟨h, s.N + 1, s.W⟩)
            | none => none)
          | none => none) else none
        | none => none)
      | none => none)
    | _, _ => none)
  | _, _ => none
noncomputable def evIface (P : Program) (t : TypeId) (v : Value) : Option Value := match P.underlying t with
  | some (.interface _) => none
  | some _ => some (.iface t v)
  | none => none
noncomputable def zeroV (P : Program) (t : TypeId) : Option Value := match P.info? t with
  | some i => (match i.zero with | some z => bif pureV 3 z then some z else none | none => none)
  | none => none
noncomputable def evAssert (P : Program) (x : Value) (asserted : TypeId) (ok : Bool) : Option Value := match P.underlying asserted with
  | some (.interface _) => none
  | none => none
  | some _ => (match x with
    | .iface t v => bif t.beq asserted then some (bif ok then .tuple #[v, .bool true] else v) else (bif ok then (match zeroV P asserted with | some z => some (.tuple #[z, .bool false]) | none => none) else none)
    | .nilIface => bif ok then (match zeroV P asserted with | some z => some (.tuple #[z, .bool false]) | none => none) else none
    | _ => none)
noncomputable def byteVals (q : ByteArray) : List Value := q.data.toList.map fun b => .int .u8 b.toNat
noncomputable def evBytes (P : Program) (s : St) (src dst : TypeId) (q : ByteArray) : Option (Value × St) :=
  match P.underlying src, P.underlying dst with
  | some _, some (.slice e) => (match P.underlying e with
    | some (.int .u8) => (match trOf .nil 0 (byteVals q) with
      | some t => (match Tr.put 32 s.h s.N (some ⟨q.size, 1, false, e, t, .cells⟩) with
        | some h => some (.slice (some ⟨s.N, 0, none⟩) q.size q.size, ⟨h, s.N + 1, s.W⟩)
        | none => none)
      | none => none)
    | _ => none)
  | _, _ => none

section
variable {P : Program} {B : Nat} {ρ ρ' : Nat → Place} {N N' : Nat} {h h' : Nat → Option Blk} {w w' : World} {W W' : List Nat} {tm : Tm} {a : Act} {s s' : St} {o : Oper}
theorem run_setObj {k : Nat} {o o' : Obj} (e : w.heap[k]? = some o) (hc : ∀ c t f, o ≠ .cells c t f) : (setObj k o').run P w = .ok () { w with heap := w.heap.setIfInBounds k o' } := by
  simp only [setObj, Sem.run, e]
theorem addB_ok (R : Rel B ρ s.N s.h.get w) {k : Kind} (e : addB s k = some s') {o : Obj} (hc : ∀ ρ' : Nat → Place, (ρ' s.N).d = 0 → (∀ i, i < s.N → ρ' i = ρ i) → BlkRel ρ' (s.N + 1) (ρ' s.N) (kBlk k) (some o)) :
    s'.N = s.N + 1 ∧ s'.W = s.W ∧ ∃ ρ', (ρ' s.N).b = w.heap.size ∧ Rel B ρ' s'.N s'.h.get { w with heap := w.heap.push o } ∧ Fr ρ s.N s.h.get w ρ' s'.N s'.h.get { w with heap := w.heap.push o } s'.W := by
  unfold addB at e
  split at e
  · rename_i h hh
    cases e
    have hu := tr_upd hh
    obtain ⟨ρ', e1, R', F'⟩ := R.newObj ⟨w.heap.size, 0, 0, 0, false⟩ rfl (kBlk k) o (fun ρ' e1 e2 => by
      have := hc ρ' (by rw [e1]) e2
      rw [e1] at this; exact this) (w' := { w with heap := w.heap.push o }) rfl rfl rfl rfl
    rw [← hu] at R' F'
    exact ⟨rfl, rfl, ρ', by rw [e1], R', F'.weaken (fun i hi => by simp at hi)⟩
  · cases e

theorem evRange_ok (R : Rel B ρ s.N s.h.get w) (T : TRel ρ s.N tm a) {t : TypeId} {x : Operand} (ho : o.op = .range t x) {u v : Value} (hx : opnd tm x = some u) (e : evRange P s t u = some (v, s')) : Yl P B ρ s w (execOp a.eval o) v s' := by
  unfold evRange at e
  split at e
  · rename_i q hu
    split at e
    · rename_i s1 h1
      cases e
      obtain ⟨n1, g1, ρ1, b1, R1, F1⟩ := addB_ok R h1 (o := .stringIter q 0) (fun ρ' e1 _ => by unfold BlkRel kBlk; exact ⟨e1, rfl⟩)
      have hd : (ρ1 s.N).d = 0 := by
        unfold addB at h1
        split at h1
        · rename_i h2 hh
          cases h1
          have hu2 := tr_upd hh
          have := R1.blk s.N (kBlk (.iter q 0)) (by show h2.get s.N = _; rw [hu2, upd_at])
          exact this.1
        · cases h1
      have hs := (T.opnd hx).string
      refine ⟨fun j hj => by rw [g1]; exact hj, ρ1, .value (.pointer (some ⟨w.heap.size, 0, none⟩)), .pointer (some ⟨w.heap.size, 0, none⟩), _, ?_, .inl rfl, ?_, R1, F1⟩
      · unfold execOp
        simp only [ho, hs]
        unfold Instr.range
        rw [Sem.run_bind, Sem.run_bind, run_underlying hu]
        rfl
      · have := VRel.ptr (ρ := ρ1) (N := s'.N) s.N 0 (by omega)
        rw [b1, hd] at this
        exact this
    · cases e
  · cases e
theorem evNext_ok (R : Rel B ρ s.N s.h.get w) (T : TRel ρ s.N tm a) {x : Operand} {isString : Bool} (ho : o.op = .next x isString) {u v : Value} (hx : opnd tm x = some u) (e : evNext s u isString = some (v, s')) : Yl P B ρ s w (execOp a.eval o) v s' := by
  unfold evNext at e
  split at e
  · rename_i id
    split at e
    · rename_i b hb
      split at e
      · rename_i q pos hk
        have hbl := R.blk id b hb
        unfold BlkRel at hbl
        rw [hk] at hbl
        obtain ⟨hd, hobj⟩ := hbl
        have hev : a.eval x = .pointer (some ⟨(ρ id).b, 0, none⟩) := by
          have hv := T.opnd hx
          generalize a.eval x = y at hv
          cases hv with
          | flat d v h => cases d <;> simp [pureV] at h
          | ptr id off h => rw [hd]
        have hget : (getObj (ρ id).b).run P w = .ok (.stringIter q pos) w := by simp [getObj, Sem.run, hobj]
        rw [cond_eq_ite] at e
        split at e
        · rename_i hlt
          rw [Nat.blt_eq] at hlt
          split at e
          · rename_i h2 hh
            cases e
            have hu2 := tr_upd hh
            obtain ⟨R', F'⟩ := R.turn (b' := kBlk (.iter q (pos + (Utf8.decode q pos).2))) hb (o := .stringIter q (pos + (Utf8.decode q pos).2)) (by unfold BlkRel kBlk; exact ⟨hd, rfl⟩)
              (w' := { w with heap := w.heap.setIfInBounds (ρ id).b (.stringIter q (pos + (Utf8.decode q pos).2)) }) rfl rfl rfl rfl
            rw [← hu2] at R' F'
            refine ⟨fun j hj => List.mem_cons_of_mem _ hj, ρ, _, _, _, ?_, .inl rfl, .flat 3 _ rfl, R', F'.weaken (fun i hi => by rw [List.mem_singleton.1 hi]; exact List.mem_cons_self)⟩
            unfold execOp
            simp only [ho, hev]
            refine run_v ?_
            unfold Instr.next
            simp only
            rw [Sem.run_bind, hget, Result.andThen_ok]
            simp only [hlt, if_true]
            rw [Sem.run_bind, run_setObj hobj (fun _ _ _ => by simp), Result.andThen_ok]
            rfl
          · cases e
        · rename_i hlt
          rw [Nat.blt_eq] at hlt
          cases e
          refine Yl.flat R ?_ (d := 3) rfl
          unfold execOp
          simp only [ho, hev]
          refine run_v ?_
          unfold Instr.next
          simp only
          rw [Sem.run_bind, hget, Result.andThen_ok]
          simp only [hlt, if_false]
          rfl
      · cases e
    · cases e
  · cases e
theorem evBytes_ok (R : Rel B ρ s.N s.h.get w) (T : TRel ρ s.N tm a) {src dst : TypeId} {x : Operand} (ho : o.op = .convert src dst x) {q : ByteArray} {v : Value} (hx : opnd tm x = some (.string q)) (e : evBytes P s src dst q = some (v, s')) : Yl P B ρ s w (execOp a.eval o) v s' := by
  unfold evBytes at e
  split at e
  · rename_i u el hs hd
    split at e
    · rename_i he
      split at e
      · rename_i t ht
        split at e
        · rename_i h hh
          cases e
          have hq := (T.opnd hx).string
          have hge := grownCap_ge w q.size 0 el
          have hsz : (Lib.bytesCells w el q).size = grownCap w q.size 0 el := by
            unfold Lib.bytesCells
            rw [Array.size_append, Array.size_map, Array.size_replicate]
            show q.size + _ = _
            omega
          have hw : (Lib.bytesWorld w el q).heap = w.heap.push (.cells (Lib.bytesCells w el q) el ((Lib.bytesCells w el q).size, (Lib.bytesCells w el q).size + 1)) := by
            apply Array.ext_getElem?
            intro k
            rw [Array.getElem?_push]
            by_cases hk : k = w.heap.size
            · rw [if_pos hk, hk]; exact Lib.bytesWorld_at_new w el q
            · rw [if_neg hk]
              rcases Nat.lt_or_ge k w.heap.size with z | z
              · exact Lib.bytesWorld_at_old w el q k z
              · rw [Array.getElem?_eq_none z, Array.getElem?_eq_none (by rw [Lib.bytesWorld_size]; omega)]
          obtain ⟨ρ', e1, R', F'⟩ := R.new ⟨q.size, 1, false, el, t, .cells⟩ rfl (Lib.bytesCells w el q) (by rw [hsz]; exact hge) (fun i v hi hv => by
            have hv := trOf_nil ht hv
            have hl : (byteVals q)[i]? = (q.data.map fun b => Value.int .u8 b.toNat)[i]? := by unfold byteVals; simp
            rw [hl] at hv
            refine ⟨v, ?_, ?_⟩
            · unfold Lib.bytesCells
              rw [Array.getElem?_append_left (by rw [Array.size_map]; exact hi)]
              exact hv
            · rw [Array.getElem?_map] at hv
              cases hb : q.data[i]? with
              | none => rw [hb] at hv; cases hv
              | some b => rw [hb] at hv; cases hv; exact .flat 3 _ rfl) (w' := Lib.bytesWorld w el q) (fun o ho h => by have h1 := h.1; omega) hw rfl rfl rfl
          have hu := tr_upd hh
          rw [← hu] at R' F'
          refine ⟨fun j hj => hj, ρ', .value (.slice (some ⟨w.heap.size, 0, none⟩) q.size (grownCap w q.size 0 el)), _, _, ?_, .inl rfl, ?_, R', F'.weaken (fun i hi => by simp at hi)⟩
          · unfold execOp
            simp only [ho, hq]
            exact run_v (Lib.run_convert_string_bytes w src dst el q hs hd he)
          · have := VRel.slice (ρ := ρ') (N := s.N + 1) s.N 0 q.size q.size (grownCap w q.size 0 el) (Nat.lt_succ_self _) (Nat.le_refl _) hge (by rw [e1]; intro z; cases z) (by rw [e1]; show 0 + grownCap w q.size 0 el * 1 ≤ (Lib.bytesCells w el q).size; omega)
            rw [e1] at this
            exact this
        · cases e
      · cases e
    · cases e
  · cases e
theorem evClear_ok (R : Rel B ρ s.N s.h.get w) (T : TRel ρ s.N tm a) {t : TypeId} {x : Operand} (ho : o.op = .call ⟨.builtin .clear, #[x], #[t]⟩) {u : Value} (hx : opnd tm x = some u) (e : evClear P s t u = some s') : Yl P B ρ s w (execOp a.eval o) (.tuple #[]) s' := by
  have hexec : ∀ w', (Builtin.clear_ #[t] o.type #[a.eval x]).run P w = .ok (.tuple #[]) w' → (execOp a.eval o).run P w = .ok (.value (.tuple #[])) w' := by
    intro w' hr
    unfold execOp
    simp only [ho]
    obtain ⟨cs, hq⟩ : ∃ cs, resolve a.eval ⟨.builtin .clear, #[x], #[t]⟩ o.type = pure { target := Target.builtin .clear #[t] o.type cs, args := #[a.eval x] } :=
      ⟨_, by unfold resolve; simp only [List.map_toArray, List.map_cons, List.map_nil]; rfl⟩
    rw [hq, Sem.run_bind, Sem.run_pure]
    exact run_v hr
  unfold evClear at e
  split at e
  · rename_i el n c hu
    cases e
    obtain ⟨_, _, h3⟩ := (T.opnd hx).slice0
    refine Yl.flat R (hexec w ?_) (d := 3) rfl
    simp [Builtin.clear_, run_underlying hu, h3]
  · rename_i el id off n c hu
    obtain ⟨_, _, h3, a', c', h4, h5, h6, h7⟩ := (T.opnd hx).slice1
    split at e
    · cases e
      refine Yl.flat R (hexec w ?_) (d := 3) rfl
      simp [Builtin.clear_, run_underlying hu, h4]
    · rename_i n
      split at e
      · rename_i i hi
        split at e
        · rename_i z hz
          rw [cond_eq_ite] at e
          split at e
          · rename_i hp
            split at e
            · rename_i b hb
              obtain ⟨hb, hk⟩ := cget_ok hb
              split at e
              · rename_i t1 ht
                split at e
                · rename_i h1 hh
                  cases e
                  obtain ⟨g1, g2, R', F'⟩ := Rel.wr _ _ b s.h.get w off t1 id R hb hk (ARel.pure hp).rels ht
                  have hu2 := tr_upd hh
                  rw [← hu2] at R' F'
                  rcases h7 with ⟨rfl, _, _⟩ | ⟨h8, _⟩
                  · have hst := run_storeCells_cells (P := P) (ρ id).b (off + (ρ id).d) (Builtin.zeroCells z.cells (n + 1)).toList 0 w (fun j hj => by rw [Nat.add_zero]; exact g2 j hj) (fun j hj => R.unfrozen hb hk (by rw [Nat.add_zero]; exact g2 j hj)) g1
                    rw [Nat.add_zero] at hst
                    refine ⟨fun j hj => List.mem_cons_of_mem _ hj, ρ, .value (.tuple #[]), .tuple #[], _, hexec _ ?_, .inl rfl, .flat 3 _ rfl, R', F'.weaken (fun i hi => by rw [List.mem_singleton.1 hi]; exact List.mem_cons_self)⟩
                    simp [Builtin.clear_, run_underlying hu, h4, zeroValue, typeInfo, hi, hz, hst]
                  · omega
                · cases e
              · cases e
            · cases e
          · cases e
        · cases e
      · cases e
  · cases e
theorem evIface_ok (R : Rel B ρ s.N s.h.get w) (T : TRel ρ s.N tm a) {t : TypeId} {x : Operand} (ho : o.op = .makeInterface t x) {u v : Value} (hx : opnd tm x = some u) (e : evIface P t u = some v) : Yl P B ρ s w (execOp a.eval o) v s := by
  unfold evIface at e
  split at e
  · cases e
  · rename_i D hne hu
    cases e
    refine Yl.same R (v' := .iface t (a.eval x)) ?_ (.iface _ _ _ (T.opnd hx))
    unfold execOp
    simp only [ho]
    refine run_v ?_
    unfold Instr.makeInterface
    rw [Sem.run_bind, run_underlying hu, Result.andThen_ok]
    cases D <;> first | exact absurd rfl (hne _) | rfl
  · cases e
theorem zeroV_run {t : TypeId} {z : Value} (e : zeroV P t = some z) (w : World) : (zeroValue t).run P w = .ok z w ∧ pureV 3 z = true := by
  unfold zeroV at e
  split at e
  · rename_i i hi
    split at e
    · rename_i z1 hz
      rw [cond_eq_ite] at e
      split at e
      · rename_i hp
        cases e
        exact ⟨by simp [zeroValue, typeInfo, hi, hz], hp⟩
      · cases e
    · cases e
  · cases e
theorem evAssert_ok (R : Rel B ρ s.N s.h.get w) (T : TRel ρ s.N tm a) {x : Operand} {xT t : TypeId} {ok : Bool} (ho : o.op = .typeAssert x xT t ok) {u v : Value} (hx : opnd tm x = some u) (e : evAssert P u t ok = some v) : Yl P B ρ s w (execOp a.eval o) v s := by
  have hexec : ∀ v', (Instr.typeAssert (a.eval x) xT t ok).run P w = .ok v' w → (execOp a.eval o).run P w = .ok (.value v') w := by
    intro v' hr
    unfold execOp
    simp only [ho]
    exact run_v hr
  have two : ∀ (v v' : Value) (b : Bool), VRel ρ s.N v v' → VRel ρ s.N (.tuple #[v, .bool b]) (.tuple #[v', .bool b]) := fun v v' b h => .tuple _ _ rfl (fun i x x' e1 e2 => by
    match i with
    | 0 => simp at e1 e2; rw [← e1, ← e2]; exact h
    | 1 => simp at e1 e2; rw [← e1, ← e2]; exact .flat 3 _ rfl
    | i + 2 => simp at e1)
  unfold evAssert at e
  split at e
  · cases e
  · cases e
  · rename_i D hne hu
    split at e
    · rename_i t1 v1
      obtain ⟨x', e1, hv⟩ := (T.opnd hx).iface_inv
      rw [cond_eq_ite] at e
      split at e
      · rename_i ht
        have ht := Nat.eq_of_beq_eq_true ht
        cases ok
        · cases e
          refine Yl.same R (v' := x') (hexec _ ?_) hv
          unfold Instr.typeAssert
          simp only [e1]
          rw [Sem.run_bind, run_underlying hu, Result.andThen_ok]
          cases D <;> first | exact absurd rfl (hne _) | (simp [ht])
        · cases e
          refine Yl.same R (v' := .tuple #[x', .bool true]) (hexec _ ?_) (two _ _ _ hv)
          unfold Instr.typeAssert
          simp only [e1]
          rw [Sem.run_bind, run_underlying hu, Result.andThen_ok]
          cases D <;> first | exact absurd rfl (hne _) | (simp [ht])
      · rename_i ht
        have ht : ¬ t1 = t := fun q => ht (by rw [q]; exact Nat.beq_refl t)
        cases ok
        · cases e
        · simp only [cond_true] at e
          split at e
          · rename_i z hz
            cases e
            obtain ⟨z1, z2⟩ := zeroV_run hz w
            refine Yl.same R (v' := .tuple #[z, .bool false]) (hexec _ ?_) (two _ _ _ (.flat 3 _ z2))
            unfold Instr.typeAssert
            simp only [e1]
            rw [Sem.run_bind, run_underlying hu, Result.andThen_ok]
            cases D <;> first | exact absurd rfl (hne _) | (simp [ht, z1])
          · cases e
    · have e1 := (T.opnd hx).flat_eq 3 rfl
      cases ok
      · cases e
      · simp only [cond_true] at e
        split at e
        · rename_i z hz
          cases e
          obtain ⟨z1, z2⟩ := zeroV_run hz w
          refine Yl.same R (v' := .tuple #[z, .bool false]) (hexec _ ?_) (two _ _ _ (.flat 3 _ z2))
          unfold Instr.typeAssert
          simp only [e1]
          rw [Sem.run_bind, run_underlying hu, Result.andThen_ok]
          cases D <;> first | exact absurd rfl (hne _) | (simp [z1])
        · cases e
    · cases e
theorem run_copy {t t2 ty elem : TypeId} {z : Nat} (hu : P.underlying t = some (.slice elem)) (hz : size? P elem = some z) {dA : Option Addr} {n c m : Nat} {Y : Value} (hlen : (Builtin.lenOf Y).run P w = .ok m w) {l : List Value}
    (hf : (Builtin.firstCells z (Nat.min m n) Y).run P w = .ok l.toArray w) (hst : (match dA with | some a => storeCells a l | none => pure ()).run P w = .ok () w') : (Builtin.copy_ #[t, t2] ty #[.slice dA n c, Y]).run P w = .ok (.int .i64 (Int.ofNat (Nat.min m n))) w' := by
  unfold Builtin.copy_
  simp only [List.getElem?_toArray, List.getElem?_cons_zero, List.getElem?_cons_succ]
  simp only [Sem.run_bind, run_underlying hu, Result.andThen_ok, hlen, run_sizeOf hz, hf]
  cases dA with
  | none =>
    have : w = w' := by
      have h := hst
      simp only [Sem.run_pure] at h
      cases h; rfl
    rw [this]; rfl
  | some a =>
    simp only at hst ⊢
    rw [Sem.run_bind, hst]; rfl
theorem evCopy_ok (R : Rel B ρ s.N s.h.get w) (T : TRel ρ s.N tm a) {t t2 : TypeId} {x y : Operand} (ho : o.op = .call ⟨.builtin .copy, #[x, y], #[t, t2]⟩) {u1 u2 v : Value} (hx : opnd tm x = some u1) (hy : opnd tm y = some u2) (e : evCopy P s t u1 u2 = some (v, s')) : Yl P B ρ s w (execOp a.eval o) v s' := by
  have hexec : ∀ r w', (Builtin.copy_ #[t, t2] o.type #[a.eval x, a.eval y]).run P w = .ok r w' → (execOp a.eval o).run P w = .ok (.value r) w' := by
    intro r w' hr
    unfold execOp
    simp only [ho]
    obtain ⟨cs, hq⟩ : ∃ cs, resolve a.eval ⟨.builtin .copy, #[x, y], #[t, t2]⟩ o.type = pure { target := Target.builtin .copy #[t, t2] o.type cs, args := #[a.eval x, a.eval y] } :=
      ⟨_, by unfold resolve; simp only [List.map_toArray, List.map_cons, List.map_nil]; rfl⟩
    rw [hq, Sem.run_bind, Sem.run_pure]
    exact run_v hr
  have hX := T.opnd hx
  have hY := T.opnd hy
  clear hx hy
  -- nothing is copied
  have h0 : ∀ (z elem : Nat) (dA : Option Addr) (n c m c' : Nat) (sA : Option Addr), P.underlying t = some (.slice elem) → size? P elem = some z → a.eval x = .slice dA n c → a.eval y = .slice sA m c' → Nat.min m n = 0 → Yl P B ρ s w (execOp a.eval o) (.int .i64 0) s := by
    intro z elem dA n c m c' sA hu hz e1 e2 hmin
    refine Yl.flat R (hexec _ w ?_) (d := 3) rfl
    rw [e1, e2]
    have hf : (Builtin.firstCells z (Nat.min m n) (.slice sA m c')).run P w = .ok ([] : List Value).toArray w := by
      rw [hmin]
      cases sA with
      | none => rfl
      | some sa => exact run_firstCells_some w z 0 sa m c' [] (by simp) (by simp)
    have := run_copy (P := P) (t2 := t2) (ty := o.type) (c := c) hu hz (dA := dA) (n := n) (m := m) (Y := .slice sA m c') (w := w) (w' := w) rfl hf (by cases dA <;> rfl)
    rw [hmin] at this
    exact this
  unfold evCopy at e
  split at e
  · rename_i elem hu
    split at e
    · rename_i z hz
      split at e
      · cases e
        obtain ⟨_, _, e1⟩ := hX.slice0
        obtain ⟨_, _, e2⟩ := hY.slice0
        exact h0 z elem _ _ _ _ _ _ hu hz e1 e2 rfl
      · rename_i ad m c
        cases e
        obtain ⟨id2, off2, sp⟩ := ad
        obtain ⟨_, _, e1⟩ := hX.slice0
        obtain ⟨_, _, _, a', c', e2, _⟩ := hY.slice1
        exact h0 z elem _ _ _ _ _ _ hu hz e1 e2 (Nat.min_zero m)
      · rename_i ad n c _ _
        cases e
        obtain ⟨id2, off2, sp⟩ := ad
        obtain ⟨_, _, e2⟩ := hY.slice0
        obtain ⟨_, _, _, a', c', e1, _⟩ := hX.slice1
        exact h0 z elem _ _ _ _ _ _ hu hz e1 e2 (Nat.zero_min n)
      · rename_i id off n c id2 off2 m c2
        obtain ⟨_, _, _, a1, c1', e1, _, _, hd⟩ := hX.slice1
        obtain ⟨_, _, _, a2, c2', e2, _, _, hs⟩ := hY.slice1
        split at e
        · rename_i hmin
          cases e
          exact h0 z elem _ _ _ _ _ _ hu hz e1 e2 hmin
        · rename_i k hmin
          have hm : m ≠ 0 := fun q => by rw [q] at hmin; simp at hmin
          have hn : n ≠ 0 := fun q => by rw [q] at hmin; simp at hmin
          split at e
          · rename_i b b2 hb hb2
            obtain ⟨hb, hk⟩ := cget_ok hb
            obtain ⟨hb2, hk2⟩ := cget_ok hb2
            split at e
            · rename_i l hl
              split at e
              · rename_i t1 ht
                split at e
                · rename_i h1 hh
                  cases e
                  obtain ⟨l', r1, r2⟩ := R.rd hb2 hk2 hl
                  have hll := (rd_at b2 _ off2 l hl).1
                  obtain ⟨g1, g2, R', F'⟩ := Rel.wr _ _ b s.h.get w off t1 id R hb hk r1 ht
                  have hu2 := tr_upd hh
                  rw [← hu2] at R' F'
                  rcases hd with ⟨rfl, _, _⟩ | ⟨q, _⟩
                  · rcases hs with ⟨rfl, _, _⟩ | ⟨q, _⟩
                    · have hst := run_storeCells_cells (P := P) (ρ id).b (off + (ρ id).d) l' 0 w (fun j hj => by rw [Nat.add_zero]; exact g2 j hj) (fun j hj => R.unfrozen hb hk (by rw [Nat.add_zero]; exact g2 j hj)) g1
                      rw [Nat.add_zero] at hst
                      have hf := run_firstCells_some (P := P) w z (Nat.min m n) ⟨(ρ id2).b, off2 + (ρ id2).d, none⟩ m c2' l' (by rw [← r1.length, hll, hmin]) (fun j v hv => by rw [Addr.add_mid]; exact r2 j v hv)
                      have := run_copy (P := P) (t2 := t2) (ty := o.type) (c := c1') hu hz (dA := some ⟨(ρ id).b, off + (ρ id).d, none⟩) (n := n) (m := m) (Y := .slice (some ⟨(ρ id2).b, off2 + (ρ id2).d, none⟩) m c2') (w := w) rfl hf hst
                      rw [hmin] at this
                      exact ⟨fun j hj => List.mem_cons_of_mem _ hj, ρ, .value (.int .i64 (Int.ofNat (k + 1))), _, _, hexec _ _ (by rw [e1, e2]; exact this), .inl rfl, .flat 3 _ rfl, R', F'.weaken (fun i hi => by rw [List.mem_singleton.1 hi]; exact List.mem_cons_self)⟩
                    · omega
                  · omega
                · cases e
              · cases e
            · cases e
          · cases e
      · cases e
    · cases e
  · cases e
theorem evGrow_ok (R : Rel B ρ s.N s.h.get w) (T : TRel ρ s.N tm a) {t tx : TypeId} {x y : Operand} (ho : o.op = .call ⟨.builtin .append, #[x, y], #[t, tx]⟩) {u1 u2 v : Value} (hx : opnd tm x = some u1) (hy : opnd tm y = some u2) (e : evGrow P s t tx u1 u2 = some (v, s')) : Yl P B ρ s w (execOp a.eval o) v s' := by
  have hX := T.opnd hx
  have hY := T.opnd hy
  clear hx hy
  unfold evGrow at e
  split at e
  · rename_i el kn ht htn
    split at e
    · rename_i n0 c0 k n
      split at e
      · rename_i i hi
        split at e
        · rename_i z hz
          rw [cond_eq_ite] at e
          split at e
          · rename_i hc
            simp only [Bool.and_eq_true, Nat.beq_eq, Nat.ble_eq] at hc
            obtain ⟨⟨⟨⟨⟨c1, c2⟩, c3⟩, c4⟩, c5⟩, c6⟩ := hc
            split at e
            · rename_i tr htr
              split at e
              · rename_i h1 hh
                cases e
                obtain ⟨_, _, e1⟩ := hX.slice0
                have e2 := hY.int
                have hrun := Lib.run_append_nil_zeros (P := P) w t tx o.type el i z k kn ht htn hi hz n (by omega) (by omega) (by omega) c6
                have hge := grownCap_ge w n 0 el
                obtain ⟨ρ', R', F', V'⟩ := grow_new (z := i.size) (el := el) (rest := Builtin.zeroCells z.cells (grownCap w n 0 el - n)) (need := n) (c' := grownCap w n 0 el) R (ARel.pure (ρ := ρ) (N := s.N) c1).rels (by rw [Array.length_toList, zeroCells_size, c2]) (by rw [zeroCells_size, c2]) hge htr
                have hu := tr_upd hh
                rw [← hu] at R' F'
                exact ⟨fun j hj => hj, ρ', _, _, _, append_exec ho (by rw [e1, e2]; exact hrun), .inl rfl, V', R', F'.weaken (fun q hq => by simp at hq)⟩
              · cases e
            · cases e
          · cases e
        · cases e
      · cases e
    · cases e
  · cases e
end
end Go.Proofs.Ytlapnehfjklpoaa
