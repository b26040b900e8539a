/- Closed calls by reckoning: literals, loads, stores, addresses. -/
import Derived.Test.YtlapnehfjklpoaaEvE
namespace Go.Proofs.Ytlapnehfjklpoaa
open Go.RowKit

section
variable {P : Program} {B : Nat} {ρ ρ' : Nat → Place} {N N' : Nat} {h h' : Nat → Option Blk} {w w' : World} {W W' : List Nat} {tm : Tm} {a : Act} {s s' : St} {o : Oper}

noncomputable def pparts (tm : Tm) : List (Nat × Operand) → Option (List (Nat × Value))
  | [] => some []
  | (i, x) :: l => match opnd tm x with
    | some v => (match pparts tm l with | some r => some ((i, v) :: r) | none => none)
    | none => none
theorem TRel.pparts (T : TRel ρ N tm a) : ∀ {l : List (Nat × Operand)} {r : List (Nat × Value)}, pparts tm l = some r → PRel ρ N r (l.map fun (i, x) => (i, a.eval x))
  | [], r, e => by cases e; trivial
  | (i, x) :: l, r, e => by
    simp only [Go.Proofs.Ytlapnehfjklpoaa.pparts] at e
    split at e
    · rename_i v hv
      split at e
      · rename_i r' hr
        cases e
        exact ⟨rfl, T.opnd hv, TRel.pparts T hr⟩
      · cases e
    · cases e

noncomputable def evBuildSlice (P : Program) (s : St) (t : TypeId) (len : Nat) (parts : List (Nat × Value)) : Option (Value × St) :=
  match P.underlying t with
  | some (.slice elem) =>
    (match size? P elem with
    | some z => bif (len * z).ble 16777216 then
        (match zrow P elem len with
        | some r => (match Instr.fill (fun i => some (i * z, z)) r parts with
          | some cs => (match newB s cs.toList z true elem with
            | some s' => some (.slice (some ⟨s.N, 0, none⟩) len len, s')
            | none => none)
          | none => none)
        | none => none) else none
    | none => none)
  | _ => none
theorem fill_size (place : Nat → Option (Nat × Nat)) : ∀ (l : List (Nat × Value)) (c r : Array Value), Instr.fill place c l = some r → r.size = c.size
  | [], c, r, e => by cases e; rfl
  | (i, v) :: l, c, r, e => by
    simp only [Instr.fill] at e
    split at e
    · cases e
    · split at e
      · cases e
      · rw [fill_size place l _ r e]
        have key : ∀ (l : List (Value × Nat)) (c : Array Value) (off : Nat), (l.foldl (fun cs (x : Value × Nat) => cs.setIfInBounds (off + x.2) x.1) c).size = c.size := by
          intro l
          induction l with
          | nil => intro c off; rfl
          | cons x l ih => intro c off; rw [List.foldl_cons, ih, Array.size_setIfInBounds]
        rw [← Array.foldl_toList]
        exact key _ _ _
theorem evBuildSlice_ok (R : Rel B ρ s.N s.h.get w) (T : TRel ρ s.N tm a) {t : TypeId} {len : Nat} {parts : Array (Nat × Operand)} (ho : o.op = .buildSlice t len parts) {ps : List (Nat × Value)} {v : Value}
    (hp : pparts tm parts.toList = some ps) (e : evBuildSlice P s t len ps = some (v, s')) : Yl P B ρ s w (execOp a.eval o) v s' := by
  simp only [evBuildSlice] at e
  split at e
  · rename_i elem hu
    split at e
    · rename_i z hz
      rw [cond_eq_ite] at e
      split at e
      · rename_i hc
        rw [Nat.ble_eq] at hc
        split at e
        · rename_i r hr
          split at e
          · rename_i cs hcs
            split at e
            · rename_i s1 h1
              cases e
              obtain ⟨i, hi, hp2, hr⟩ := zrow_eq hr
              have hzi : i.size = z := by simp only [size?, hi] at hz; cases hz; rfl
              subst hzi
              obtain ⟨cs', hcs', hA⟩ := fill_rel (ρ := ρ) (N := s.N) _ ps _ r r (T.pparts hp) (ARel.pure hp2) hcs
              have hsz : cs'.size = len * i.size := by
                rw [fill_size _ _ _ _ hcs']
                rcases hr with ⟨h0, rfl⟩ | ⟨_, q, _, rfl⟩
                · rw [h0]; rfl
                · simp
              obtain ⟨q1, q2, ρ', q3, R', F'⟩ := newB_ok R (cs := cs') (w' := { w with heap := w.heap.push (.cells cs' elem (0, 0)) }) hA.rels h1 (Thaw.none _) rfl rfl rfl rfl
              refine ⟨fun j hj => by rw [q1]; exact hj, ρ', .value (.slice (some ⟨w.heap.size, 0, none⟩) len len), .slice (some ⟨w.heap.size, 0, none⟩) len len, _, ?_, .inl rfl, ?_, R', F'⟩
              · unfold execOp
                simp only [ho]
                refine run_v ?_
                unfold Instr.buildSlice
                have g1 : ¬ (len * i.size > 2 ^ 24) := by omega
                have e1 : (parts.map fun (i, x) => (i, a.eval x)).toList = parts.toList.map fun (i, x) => (i, a.eval x) := Array.toList_map
                rcases hr with ⟨h0, rfl⟩ | ⟨h0, q, hq, rfl⟩
                · have e2 : (Array.range (len * i.size)).map (fun k => (#[] : Array Value)[k % (#[] : Array Value).size]!) = #[] := by
                    rw [h0]; apply Array.ext'; simp
                  simp only [Sem.run_bind, run_underlying hu, Result.andThen_ok, run_sizeOf hz, if_neg g1, if_pos h0, Sem.run_pure, e1]
                  rw [e2, hcs']
                  simp [newRow]
                · simp only [Sem.run_bind, run_underlying hu, Result.andThen_ok, run_sizeOf hz, if_neg g1, if_neg h0, Sem.run_pure, e1, zeroValue, typeInfo, run_program, hi, hq]
                  rw [hcs']
                  simp [newRow]
              · have := VRel.slice (ρ := ρ') (N := s'.N) s.N 0 len len len (by omega) (Nat.le_refl _) (Nat.le_refl _) (fun _ => rfl) (by rw [q3]; show 0 + len * i.size ≤ cs'.size; omega)
                rw [q3] at this
                exact this
            · cases e
          · cases e
        · cases e
      · cases e
    · cases e
  · cases e

/-! structs and arrays -/
noncomputable def evBuild (P : Program) (t : TypeId) (parts : List (Nat × Value)) : Option Value :=
  match P.info? t with
  | some i => (match i.zero with
    | some z => (bif z.cells.toList.all (pureV 3) then (match P.built t parts with | some cs => some (.agg cs) | none => none) else none)
    | none => none)
  | none => none
theorem built_rel {t : TypeId} {l l' : List (Nat × Value)} {i : TypeInfo} {z : Value} (hi : P.info? t = some i) (hz : i.zero = some z) (hp : z.cells.toList.all (pureV 3) = true) (hl : PRel ρ N l l') {r : Array Value} (e : P.built t l = some r) :
    ∃ r', P.built t l' = some r' ∧ ARel ρ N r r' := by
  unfold Program.built at e ⊢
  rw [hi] at e ⊢
  cases hu : P.underlying t with
  | none => rw [hu] at e; simp at e
  | some d =>
    rw [hu] at e
    cases d with
    | array n el =>
      simp only [hz] at e ⊢
      cases hie : P.info? el with
      | none => rw [hie] at e; simp at e
      | some ie => rw [hie] at e; simp only at e ⊢; exact fill_rel _ l l' _ _ hl (ARel.pure hp) e
    | struct fs =>
      simp only [hz] at e ⊢
      cases hpl : fs.toList.mapM (fun f => (P.info? f.type).map fun i => (f.offset, i.size)) with
      | none => rw [hpl] at e; simp at e
      | some pl => rw [hpl] at e; simp only at e ⊢; exact fill_rel _ l l' _ _ hl (ARel.pure hp) e
    | _ => simp at e
theorem evBuild_ok (R : Rel B ρ s.N s.h.get w) (T : TRel ρ s.N tm a) {t : TypeId} {parts : Array (Nat × Operand)} (ho : o.op = .build t parts) {ps : List (Nat × Value)} {v : Value}
    (hp : pparts tm parts.toList = some ps) (e : evBuild P t ps = some v) : Yl P B ρ s w (execOp a.eval o) v s := by
  simp only [evBuild, cond_eq_ite] at e
  split at e
  · rename_i i hi
    split at e
    · rename_i z hz
      split at e
      · rename_i hpz
        split at e
        · rename_i cs hcs
          cases e
          obtain ⟨r', h1, h2⟩ := built_rel (ρ := ρ) (N := s.N) hi hz hpz (T.pparts hp) hcs
          refine Yl.same R (v' := .agg r') ?_ (.agg _ _ h2.1 h2.2)
          unfold execOp
          simp only [ho]
          exact run_v (run_build w t _ r' (by rw [Array.toList_map]; exact h1))
        · cases e
      · cases e
    · cases e
  · cases e
noncomputable def evField (P : Program) (t : TypeId) (x : Value) (f : Nat) : Option Value :=
  match P.underlying t, x with
  | some (.struct fs), .agg cs => (match fs[f]? with | some fd => vpart P fd.type cs fd.offset | none => none)
  | _, _ => none
theorem evField_ok (R : Rel B ρ s.N s.h.get w) (T : TRel ρ s.N tm a) {t : TypeId} {x : Operand} {f : Nat} (ho : o.op = .field t x f) {u v : Value} (hx : opnd tm x = some u) (e : evField P t u f = some v) : Yl P B ρ s w (execOp a.eval o) v s := by
  simp only [evField] at e
  split at e
  · rename_i fs cs hu
    split at e
    · rename_i fd hf
      obtain ⟨cs', e1, h1, h2⟩ := (T.opnd hx).agg_inv
      obtain ⟨v', h3, h4⟩ := vpart_run (ρ := ρ) (N := s.N) (cs' := cs') ⟨h1, h2⟩ e w
      refine Yl.same R (v' := v') ?_ h4
      unfold execOp
      simp only [ho]
      refine run_v ?_
      simp [Instr.field, run_underlying hu, hf, e1, asAgg, h3]
    · cases e
  · cases e
noncomputable def evIndex (P : Program) (t : TypeId) (x i : Value) : Option Value :=
  match P.underlying t, x, i with
  | some (.array n el), .agg cs, .int _ (.ofNat k) => bif k.blt n then (match size? P el with | some z => vpart P el cs (k * z) | none => none) else none
  | _, _, _ => none
theorem evIndex_ok (R : Rel B ρ s.N s.h.get w) (T : TRel ρ s.N tm a) {t : TypeId} {x y : Operand} (ho : o.op = .index t x y) {u i v : Value} (hx : opnd tm x = some u) (hy : opnd tm y = some i) (e : evIndex P t u i = some v) : Yl P B ρ s w (execOp a.eval o) v s := by
  simp only [evIndex] at e
  split at e
  · rename_i n el cs k j hu
    rw [cond_eq_ite] at e
    split at e
    · rename_i hlt
      rw [Nat.blt_eq] at hlt
      split at e
      · rename_i z hz
        obtain ⟨cs', e1, h1, h2⟩ := (T.opnd hx).agg_inv
        have e2 := (T.opnd hy).int
        obtain ⟨v', h3, h4⟩ := vpart_run (ρ := ρ) (N := s.N) (cs' := cs') ⟨h1, h2⟩ e w
        refine Yl.same R (v' := v') ?_ h4
        unfold execOp
        simp only [ho]
        refine run_v ?_
        have g : (0 : Int) ≤ Int.ofNat j ∧ Int.ofNat j < (n : Int) := ⟨Int.natCast_nonneg j, Int.ofNat_lt.2 hlt⟩
        have g2 : (Int.ofNat j).toNat = j := rfl
        simp only [Instr.index, e1, e2, asIntOf, Sem.run_bind, Sem.run_pure, Result.andThen_ok, run_underlying hu, if_pos g, run_sizeOf hz, g2, h3]
      · cases e
    · cases e
  · cases e
noncomputable def evExtract (x : Value) (i : Nat) : Option Value := match x with | .tuple vs => vs[i]? | _ => none
theorem evExtract_ok (R : Rel B ρ s.N s.h.get w) (T : TRel ρ s.N tm a) {x : Operand} {i : Nat} (ho : o.op = .extract x i) {u v : Value} (hx : opnd tm x = some u) (e : evExtract u i = some v) : Yl P B ρ s w (execOp a.eval o) v s := by
  simp only [evExtract] at e
  split at e
  · rename_i vs
    obtain ⟨cs', e1, h1, h2⟩ := (T.opnd hx).tuple_inv
    have hlt : i < cs'.size := by
      rw [← h1]
      rcases Nat.lt_or_ge i vs.size with q | q
      · exact q
      · rw [Array.getElem?_eq_none q] at e; cases e
    refine Yl.same R (v' := cs'[i]) ?_ (h2 _ _ _ e (Array.getElem?_eq_getElem hlt))
    unfold execOp
    simp only [ho]
    refine run_v ?_
    simp [Instr.extract, e1, Array.getElem?_eq_getElem hlt]
  · cases e

/-! loads and stores -/
noncomputable def evLoad (P : Program) (s : St) (t : TypeId) (x : Value) : Option Value :=
  match x with
  | .pointer (some ⟨id, off, none⟩) => (match cget s id with
    | some b => (match isAgg? P t with
      | some true => (match size? P t with
        | some n => (match rd b off n with | some l => some (.agg ⟨l⟩) | none => none)
        | none => none)
      | some false => (match rd b off 1 with | some [v] => some v | _ => none)
      | none => none)
    | none => none)
  | _ => none
theorem evLoad_var (R : Rel B ρ s.N s.h.get w) {t : TypeId} {u u' v : Value} (hu : VRel ρ s.N u u') (e : evLoad P s t u = some v) : ∃ A v', u' = .pointer (some A) ∧ (loadVar t A).run P w = .ok v' w ∧ VRel ρ s.N v v' := by
  simp only [evLoad] at e
  split at e
  · rename_i id off
    split at e
    · rename_i b hb
      obtain ⟨hb, hk⟩ := cget_ok hb
      have ep := hu.pointer.2.2
      split at e
      · rename_i ha
        split at e
        · rename_i n hn
          split at e
          · rename_i l hl
            cases e
            obtain ⟨l', h1, h2⟩ := R.rd hb hk hl
            have hlen : l'.length = n := by rw [← h1.length]; exact (rd_at b n off l hl).1
            refine ⟨_, .agg ⟨l'⟩, ep, ?_, .agg _ _ h1.length fun i v v' e1 e2 => h1.at (by simpa using e1) (by simpa using e2)⟩
            have hc := run_loadCells_list (P := P) w ⟨(ρ id).b, off + (ρ id).d, none⟩ l' (fun j v hv => by rw [Addr.add_mid]; exact h2 j v hv)
            rw [hlen] at hc
            simp only [loadVar, Sem.run_bind, Sem.run_pure, Result.andThen_ok, run_isAgg ha, run_sizeOf hn, if_true, hc]
          · cases e
        · cases e
      · rename_i ha
        split at e
        · rename_i v0 hl
          cases e
          obtain ⟨l', h1, h2⟩ := R.rd hb hk hl
          cases l' with
          | nil => exact h1.elim
          | cons v' l'' =>
            have hc := h2 0 v' rfl
            refine ⟨_, v', ep, ?_, h1.1⟩
            simp only [Nat.add_zero] at hc
            simp only [loadVar, Sem.run_bind, Result.andThen_ok, run_isAgg ha, Bool.false_eq_true, if_false, run_load, hc]
        · cases e
      · cases e
    · cases e
  · cases e
theorem evLoad_ok (R : Rel B ρ s.N s.h.get w) (T : TRel ρ s.N tm a) {t : TypeId} {x : Operand} (ho : o.op = .load t x) {u v : Value} (hx : opnd tm x = some u) (e : evLoad P s t u = some v) : Yl P B ρ s w (execOp a.eval o) v s := by
  obtain ⟨A, v', e1, e2, e3⟩ := evLoad_var R (T.opnd hx) e
  refine Yl.same R (v' := v') ?_ e3
  unfold execOp
  simp only [ho]
  refine run_v ?_
  simp only [e1, Instr.loadAt, Instr.sureAddr, Sem.run_bind, Sem.run_pure, Result.andThen_ok, e2]
noncomputable def evStore (P : Program) (s : St) (t : TypeId) (x v : Value) : Option St :=
  match x with
  | .pointer (some ⟨id, off, none⟩) => (match cget s id, size? P t with
    | some b, some n => bif n.beq v.cells.size then (match wr b.n b.cs off v.cells.toList with
      | some t => (match Tr.put 32 s.h id (some { b with cs := t }) with
        | some h => some ⟨h, s.N, id :: s.W⟩
        | none => none)
      | none => none) else none
    | _, _ => none)
  | _ => none
theorem evStore_ok (R : Rel B ρ s.N s.h.get w) (T : TRel ρ s.N tm a) {t : TypeId} {x y : Operand} (ho : o.op = .store t x y) {u v : Value} (hx : opnd tm x = some u) (hy : opnd tm y = some v) (e : evStore P s t u v = some s') : Yl P B ρ s w (execOp a.eval o) undef s' := by
  simp only [evStore] at e
  split at e
  · rename_i id off
    split at e
    · rename_i b n hb hn
      obtain ⟨hb, hk⟩ := cget_ok hb
      rw [cond_eq_ite] at e
      split at e
      · rename_i hsz
        rw [Nat.beq_eq] at hsz
        split at e
        · rename_i t1 ht
          split at e
          · rename_i h1 hh
            cases e
            have ep := (T.opnd hx).pointer.2.2
            have hv := (T.opnd hy).cells
            obtain ⟨g1, g2, R', F'⟩ := Rel.wr _ _ b s.h.get w off t1 id R hb hk hv ht
            have hu : h1.get = upd s.h.get id (some { b with cs := t1 }) := by
              funext j
              rw [Tr.get_put 32 _ _ _ _ _ hh]; rfl
            rw [← hu] at R' F'
            have hst := run_storeCells_cells (P := P) (ρ id).b (off + (ρ id).d) (a.eval y).cells.toList 0 w (fun j hj => by rw [Nat.add_zero]; exact g2 j hj) (fun j hj => R.unfrozen hb hk (by rw [Nat.add_zero]; exact g2 j hj)) g1
            have hs2 : ¬ ((a.eval y).cells.size ≠ n) := by
              have := hv.length
              simp at this; omega
            refine ⟨fun j hj => List.mem_cons_of_mem _ hj, ρ, .skip, undef, _, ?_, .inr ⟨rfl, rfl⟩, .flat 1 _ rfl, R', F'.weaken (fun i hi => by rw [List.mem_singleton.1 hi]; exact List.mem_cons_self)⟩
            unfold execOp
            simp only [ho]
            refine run_u ?_
            simp only [ep, Instr.storeAt, Instr.sureAddr, storeVar, Sem.run_bind, Sem.run_pure, Result.andThen_ok, run_sizeOf hn, if_neg hs2, hst, Nat.add_zero]
          · cases e
        · cases e
      · cases e
    · cases e
  · cases e

/-! addresses -/
noncomputable def evIndexAddr (P : Program) (t : TypeId) (x i : Value) : Option Value :=
  match P.underlying t, x, i with
  | some (.slice el), .slice (some ⟨id, off, none⟩) n _, .int _ (.ofNat k) => bif k.blt n then (match size? P el with | some z => some (.pointer (some ⟨id, off + k * z, none⟩)) | none => none) else none
  | some (.array n el), .pointer (some ⟨id, off, none⟩), .int _ (.ofNat k) => bif k.blt n then (match size? P el with | some z => some (.pointer (some ⟨id, off + k * z, none⟩)) | none => none) else none
  | _, _, _ => none
theorem evIndexAddr_ok (R : Rel B ρ s.N s.h.get w) (T : TRel ρ s.N tm a) {t : TypeId} {x y : Operand} (ho : o.op = .indexAddr t x y) {u i v : Value} (hx : opnd tm x = some u) (hy : opnd tm y = some i) (e : evIndexAddr P t u i = some v) : Yl P B ρ s w (execOp a.eval o) v s := by
  simp only [evIndexAddr] at e
  split at e
  · rename_i el id off n c k j hu
    rw [cond_eq_ite] at e
    split at e
    · rename_i hlt
      rw [Nat.blt_eq] at hlt
      split at e
      · rename_i z hz
        cases e
        obtain ⟨_, hid, _, a', c', e1, _, _, ⟨rfl, _, _⟩ | ⟨h0, _⟩⟩ := (T.opnd hx).slice1
        · have e2 := (T.opnd hy).int
          have g : (0 : Int) ≤ Int.ofNat j ∧ Int.ofNat j < (n : Int) := ⟨Int.natCast_nonneg j, Int.ofNat_lt.2 hlt⟩
          have g2 : (Int.ofNat j).toNat = j := rfl
          refine Yl.same R (v' := .pointer (some ⟨(ρ id).b, off + j * z + (ρ id).d, none⟩)) ?_ (.ptr _ _ hid)
          unfold execOp
          simp only [ho]
          refine run_v ?_
          simp only [Instr.indexAt, e1, e2, asIntOf, Sem.run_bind, Sem.run_pure, Result.andThen_ok, run_underlying hu, if_pos g, run_sizeOf hz, g2, Addr.add_mid]
          rw [show off + (ρ id).d + j * z = off + j * z + (ρ id).d by omega]
        · omega
      · cases e
    · cases e
  · rename_i n el id off k j hu
    rw [cond_eq_ite] at e
    split at e
    · rename_i hlt
      rw [Nat.blt_eq] at hlt
      split at e
      · rename_i z hz
        cases e
        obtain ⟨_, hid, e1⟩ := (T.opnd hx).pointer
        have e2 := (T.opnd hy).int
        have g : (0 : Int) ≤ Int.ofNat j ∧ Int.ofNat j < (n : Int) := ⟨Int.natCast_nonneg j, Int.ofNat_lt.2 hlt⟩
        have g2 : (Int.ofNat j).toNat = j := rfl
        refine Yl.same R (v' := .pointer (some ⟨(ρ id).b, off + j * z + (ρ id).d, none⟩)) ?_ (.ptr _ _ hid)
        unfold execOp
        simp only [ho]
        refine run_v ?_
        simp only [Instr.indexAt, e1, e2, asIntOf, Sem.run_bind, Sem.run_pure, Result.andThen_ok, run_underlying hu, Instr.sureAddr, if_pos g, run_sizeOf hz, g2, Addr.add_mid]
        rw [show off + (ρ id).d + j * z = off + j * z + (ρ id).d by omega]
      · cases e
    · cases e
  · cases e
noncomputable def evFieldAddr (P : Program) (t : TypeId) (x : Value) (f : Nat) : Option Value :=
  match P.underlying t, x with
  | some (.struct fs), .pointer (some ⟨id, off, none⟩) => (match fs[f]? with
    | some fd => (match size? P fd.type with | some (_ + 1) => some (.pointer (some ⟨id, off + fd.offset, none⟩)) | _ => none)
    | none => none)
  | _, _ => none
theorem evFieldAddr_ok (R : Rel B ρ s.N s.h.get w) (T : TRel ρ s.N tm a) {t : TypeId} {x : Operand} {f : Nat} (ho : o.op = .fieldAddr t x f) {u v : Value} (hx : opnd tm x = some u) (e : evFieldAddr P t u f = some v) : Yl P B ρ s w (execOp a.eval o) v s := by
  simp only [evFieldAddr] at e
  split at e
  · rename_i fs id off hu
    split at e
    · rename_i fd hf
      split at e
      · rename_i q hq
        cases e
        obtain ⟨_, hid, e1⟩ := (T.opnd hx).pointer
        refine Yl.same R (v' := .pointer (some ⟨(ρ id).b, off + fd.offset + (ρ id).d, none⟩)) ?_ (.ptr _ _ hid)
        unfold execOp
        simp only [ho]
        refine run_v ?_
        simp only [Instr.fieldAt, e1, Sem.run_bind, Sem.run_pure, Result.andThen_ok, run_underlying hu, hf, Instr.sureAddr, fieldPlace, run_sizeOf hq, if_neg (Nat.succ_ne_zero q), Addr.add_mid]
        rw [show off + (ρ id).d + fd.offset = off + fd.offset + (ρ id).d by omega]
      · cases e
    · cases e
  · cases e
end
end Go.Proofs.Ytlapnehfjklpoaa
