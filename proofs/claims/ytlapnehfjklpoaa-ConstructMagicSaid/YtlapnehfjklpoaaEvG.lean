/- Closed calls by reckoning: slices of slices, append. -/
import Derived.Test.YtlapnehfjklpoaaEvF
import Derived.Deep.Upon
import Derived.Laws.AppendOwn
namespace Go.Proofs.Ytlapnehfjklpoaa
open Go.RowKit

section
variable {P : Program} {B : Nat} {ρ ρ' : Nat → Place} {N N' : Nat} {h h' : Nat → Option Blk} {w w' : World} {W W' : List Nat} {tm : Tm} {a : Act} {s s' : St} {o : Oper}

/-- a bound of a slice expression -/
noncomputable def bnd (x : Option Value) (d most : Nat) : Option Nat :=
  match x with
  | none => some d
  | some (.int _ (.ofNat k)) => bif k.ble most then some k else none
  | _ => none
noncomputable def opndO (tm : Tm) (x : Option Operand) : Option (Option Value) :=
  match x with
  | none => some none
  | some y => (match opnd tm y with | some v => some (some v) | none => none)
theorem bnd_run {x : Option Value} {d most k : Nat} (e : bnd x d most = some k) : (x = none ∧ k = d) ∨ (k ≤ most ∧ ∃ kd, x = some (.int kd (Int.ofNat k))) := by
  unfold bnd at e
  split at e
  · cases e; exact .inl ⟨rfl, rfl⟩
  · rename_i kd q
    rw [cond_eq_ite] at e
    split at e
    · rename_i hq; rw [Nat.ble_eq] at hq; cases e; exact .inr ⟨hq, kd, rfl⟩
    · cases e
  · cases e
theorem sliceBound_run {kd : IntKind} {k y : Nat} (hk : k ≤ y) (c : BoundsCode) (w : World) : (Instr.sliceBound (.int kd (Int.ofNat k)) y c).run P w = .ok k w := by
  have g : (0 : Int) ≤ Int.ofNat k ∧ Int.ofNat k ≤ (y : Int) := ⟨Int.natCast_nonneg k, Int.ofNat_le.2 hk⟩
  simp only [Instr.sliceBound, asIntOf, Sem.run_bind, Sem.run_pure, Result.andThen_ok, if_pos g]
  rfl
theorem TRel.opndO (T : TRel ρ N tm a) {x : Option Operand} {v : Option Value} (e : opndO tm x = some v) : (x = none ∧ v = none) ∨ ∃ y u, x = some y ∧ v = some u ∧ VRel ρ N u (a.eval y) := by
  unfold Go.Proofs.Ytlapnehfjklpoaa.opndO at e
  split at e
  · cases e; exact .inl ⟨rfl, rfl⟩
  · rename_i y
    split at e
    · rename_i u hu; cases e; exact .inr ⟨y, u, rfl, rfl, T.opnd hu⟩
    · cases e
/-- the bounds, as the world reckons them from a capacity that may be greater -/
theorem bounds_run (T : TRel ρ N tm a) {lo hi mx : Option Operand} {vlo vhi vmx : Option Value} (h1 : opndO tm lo = some vlo) (h2 : opndO tm hi = some vhi) (h3 : opndO tm mx = some vmx)
    {n c c' m k l : Nat} (hc : c ≤ c') (hn : n ≤ c) (em : bnd vmx c c = some m) (ek : bnd vhi n m = some k) (el : bnd vlo 0 k = some l) (hx : vmx = none ∨ vhi ≠ none) (w : World) :
    l ≤ k ∧ k ≤ m ∧ m ≤ c ∧ ∃ m', m ≤ m' ∧ m' ≤ c' ∧ (c' = c → m' = m) ∧ (Instr.sliceBounds true n c' (lo.map a.eval) (hi.map a.eval) (mx.map a.eval)).run P w = .ok (l, k, m') w := by
  have hml : m ≤ c ∧ ∃ m', m ≤ m' ∧ m' ≤ c' ∧ (c' = c → m' = m) ∧ (match mx.map a.eval with
    | some v => Instr.sliceBound v c' .slice3Acap
    | none => pure c' : Sem Nat).run P w = .ok m' w ∧ (vmx ≠ none → m' = m) := by
    rcases bnd_run em with ⟨e1, e2⟩ | ⟨hk, kd, e1⟩
    · rcases T.opndO h3 with ⟨e3, _⟩ | ⟨y, u, _, e4, _⟩
      · subst e3; subst e2; exact ⟨Nat.le_refl _, c', hc, Nat.le_refl _, fun e => e, rfl, fun q => absurd e1 q⟩
      · rw [e1] at e4; cases e4
    · rcases T.opndO h3 with ⟨_, e4⟩ | ⟨y, u, e3, e4, r⟩
      · rw [e1] at e4; cases e4
      · rw [e1] at e4; cases e4; subst e3
        have e5 := r.int
        refine ⟨hk, m, Nat.le_refl _, Nat.le_trans hk hc, fun _ => rfl, ?_, fun _ => rfl⟩
        simp only [Option.map_some, e5]
        exact sliceBound_run (Nat.le_trans hk hc) _ w
  obtain ⟨hmc, m', g1, g2, g3, g4, g5⟩ := hml
  have hkl : k ≤ m ∧ (match hi.map a.eval, mx.map a.eval with
    | some v, some _ => Instr.sliceBound v m' .slice3B
    | some v, none => Instr.sliceBound v m' (if true then .sliceAcap else .sliceAlen)
    | none, none => pure n
    | none, some _ => stuck "Slice: max without high" : Sem Nat).run P w = .ok k w := by
    rcases bnd_run ek with ⟨e1, e2⟩ | ⟨hk, kd, e1⟩
    · have e6 : vmx = none := hx.resolve_right (fun q => q e1)
      rcases T.opndO h2 with ⟨e3, _⟩ | ⟨y, u, _, e4, _⟩
      · rcases T.opndO h3 with ⟨e7, _⟩ | ⟨y, u, _, e8, _⟩
        · subst e3; subst e7; subst e2
          refine ⟨?_, rfl⟩
          rw [e6] at em
          cases em; exact hn
        · rw [e6] at e8; cases e8
      · rw [e1] at e4; cases e4
    · rcases T.opndO h2 with ⟨_, e4⟩ | ⟨y, u, e3, e4, r⟩
      · rw [e1] at e4; cases e4
      · rw [e1] at e4; cases e4; subst e3
        have e5 := r.int
        refine ⟨hk, ?_⟩
        simp only [Option.map_some, e5]
        cases mx.map a.eval <;> exact sliceBound_run (Nat.le_trans hk g1) _ w
  obtain ⟨hkm, g6⟩ := hkl
  have hll : l ≤ k ∧ (match lo.map a.eval with
    | some v => Instr.sliceBound v k (if (mx.map a.eval).isSome then .slice3C else .sliceB)
    | none => pure 0 : Sem Nat).run P w = .ok l w := by
    rcases bnd_run el with ⟨e1, e2⟩ | ⟨hk, kd, e1⟩
    · rcases T.opndO h1 with ⟨e3, _⟩ | ⟨y, u, _, e4, _⟩
      · subst e3; subst e2; exact ⟨Nat.zero_le _, rfl⟩
      · rw [e1] at e4; cases e4
    · rcases T.opndO h1 with ⟨_, e4⟩ | ⟨y, u, e3, e4, r⟩
      · rw [e1] at e4; cases e4
      · rw [e1] at e4; cases e4; subst e3
        have e5 := r.int
        refine ⟨hk, ?_⟩
        simp only [Option.map_some, e5]
        exact sliceBound_run hk _ w
  refine ⟨hll.1, hkm, hmc, m', g1, g2, g3, ?_⟩
  unfold Instr.sliceBounds
  simp only [if_true] at g6 ⊢
  replace hll := hll.2
  clear em ek el h1 h2 h3 hx g5
  generalize mx.map a.eval = M at *
  generalize hi.map a.eval = H at *
  generalize lo.map a.eval = L at *
  cases M with
  | none =>
    have g4 : m' = c' := by injection g4 with q _; exact q.symm
    subst g4
    cases H with
    | none =>
      have g6 : k = n := by injection g6 with q _; exact q.symm
      subst g6
      cases L with
      | none =>
        have hll : l = 0 := by injection hll with q _; exact q.symm
        subst hll; rfl
      | some y => simp only [Option.isSome_none, Bool.false_eq_true, if_false] at hll; simp only [Sem.run_bind, Sem.run_pure, Result.andThen_ok, Option.isSome_none, Bool.false_eq_true, if_false, hll]
    | some x =>
      cases L with
      | none =>
        have hll : l = 0 := by injection hll with q _; exact q.symm
        subst hll; simp only [Sem.run_bind, Sem.run_pure, Result.andThen_ok, g6]
      | some y => simp only [Option.isSome_none, Bool.false_eq_true, if_false] at hll; simp only [Sem.run_bind, Sem.run_pure, Result.andThen_ok, Option.isSome_none, Bool.false_eq_true, if_false, hll, g6]
  | some z =>
    simp only at g4
    cases H with
    | none => cases g6
    | some x =>
      cases L with
      | none =>
        have hll : l = 0 := by injection hll with q _; exact q.symm
        subst hll; simp only [Sem.run_bind, Sem.run_pure, Result.andThen_ok, g6, g4]
      | some y => simp only [Option.isSome_some, if_true] at hll; simp only [Sem.run_bind, Sem.run_pure, Result.andThen_ok, Option.isSome_some, if_true, hll, g6, g4]

noncomputable def evSlice (P : Program) (s : St) (t : TypeId) (x : Value) (lo hi mx : Option Value) : Option Value :=
  match P.underlying t, x with
  | some (.slice el), .slice (some ⟨id, off, none⟩) n c => (match size? P el, cget s id with
    | some z, some b => bif z.beq b.z && (mx.isNone || hi.isSome) then (match bnd mx c c with
      | some m => (match bnd hi n m with
        | some k => (match bnd lo 0 k with
          | some l => some (.slice (some ⟨id, off + l * z, none⟩) (k - l) (m - l))
          | none => none)
        | none => none)
      | none => none) else none
    | _, _ => none)
  | _, _ => none
theorem evSlice_ok (R : Rel B ρ s.N s.h.get w) (T : TRel ρ s.N tm a) {t : TypeId} {x : Operand} {lo hi mx : Option Operand} (ho : o.op = .slice t x lo hi mx) {u v : Value} {vlo vhi vmx : Option Value} (hx : opnd tm x = some u)
    (h1 : opndO tm lo = some vlo) (h2 : opndO tm hi = some vhi) (h3 : opndO tm mx = some vmx) (e : evSlice P s t u vlo vhi vmx = some v) : Yl P B ρ s w (execOp a.eval o) v s := by
  simp only [evSlice] at e
  split at e
  · rename_i el id off n c hu
    split at e
    · rename_i z b hz hb
      obtain ⟨hb, hk⟩ := cget_ok hb
      rw [cond_eq_ite] at e
      split at e
      · rename_i hc
        simp only [Bool.and_eq_true, Bool.or_eq_true, Nat.beq_eq] at hc
        split at e
        · rename_i m em
          split at e
          · rename_i k ek
            split at e
            · rename_i l el2
              cases e
              obtain ⟨_, hid, hnc, a', c', e1, hcc, hsp, hcase⟩ := (T.opnd hx).slice1
              have hxx : vmx = none ∨ vhi ≠ none := by
                rcases hc.2 with q | q
                · left; cases vmx with
                  | none => rfl
                  | some _ => cases q
                · right; intro q2; rw [q2] at q; cases q
              obtain ⟨g1, g2, g3, m', g4, g5, g6, g7⟩ := bounds_run (P := P) T h1 h2 h3 hcc hnc em ek el2 hxx w
              have hrun : (execOp a.eval o).run P w = .ok (.value (.slice (if m' = l then some a' else some (a'.add (l * z))) (k - l) (m' - l))) w := by
                unfold execOp
                simp only [ho]
                refine run_v ?_
                simp only [Instr.sliceAt, Instr.slice, Sem.run_bind, run_underlying hu, Result.andThen_ok, e1, g7, run_sizeOf hz, Sem.run_pure, Option.map_some]
              by_cases hm : m' = l
              · rw [if_pos hm] at hrun
                have e2 : k - l = 0 := by omega
                have e3 : m - l = 0 := by omega
                have e4 : m' - l = 0 := by omega
                rw [e2, e4] at hrun
                rw [e2, e3]
                obtain ⟨b', off', sp'⟩ := a'
                simp only at hsp
                subst hsp
                exact Yl.same R hrun (.sliceE id (off + l * z) hid b' off')
              · rw [if_neg hm] at hrun
                rcases hcase with ⟨rfl, q1, q2⟩ | ⟨q1, q2, q3⟩
                · rw [Addr.add_mid, show off + (ρ id).d + l * z = off + l * z + (ρ id).d by omega] at hrun
                  obtain ⟨_, _, _, _, p4, _⟩ := R.cb hb hk
                  have hzz : (ρ id).z = z := by rw [p4, hc.1]
                  refine Yl.same R hrun (.slice id (off + l * z) (k - l) (m - l) (m' - l) hid (by omega) (by omega) (fun q => by rw [g6 (q1 q)]) ?_)
                  rw [hzz] at q2 ⊢
                  have s1 : l * z + (m' - l) * z = m' * z := by rw [← Nat.add_mul, show l + (m' - l) = m' by omega]
                  have s2 : m' * z ≤ c' * z := Nat.mul_le_mul_right _ g5
                  omega
                · omega
            · cases e
          · cases e
        · cases e
      · cases e
    · cases e
  · cases e

/-- a slice of the whole of an array in memory -/
noncomputable def evSliceA (P : Program) (s : St) (t : TypeId) (x : Value) : Option Value :=
  match P.underlying t, x with
  | some (.array n el), .pointer (some ⟨id, off, none⟩) => (match size? P el, cget s id with
    | some z, some b => bif z.beq b.z && (off + n * z).ble b.n then some (.slice (some ⟨id, off, none⟩) n n) else none
    | _, _ => none)
  | _, _ => none
theorem evSliceA_ok (R : Rel B ρ s.N s.h.get w) (T : TRel ρ s.N tm a) {t : TypeId} {x : Operand} (ho : o.op = .slice t x none none none) {u v : Value} (hx : opnd tm x = some u) (e : evSliceA P s t u = some v) : Yl P B ρ s w (execOp a.eval o) v s := by
  unfold evSliceA at e
  split at e
  · rename_i n el id off hu
    split at e
    · rename_i z b hz hb
      obtain ⟨hb, hk⟩ := cget_ok hb
      rw [cond_eq_ite] at e
      split at e
      · rename_i hc
        simp only [Bool.and_eq_true, Nat.beq_eq, Nat.ble_eq] at hc
        cases e
        obtain ⟨_, hid, e1⟩ := (T.opnd hx).pointer
        obtain ⟨_, _, hS, hn, p4, _⟩ := R.cb hb hk
        have hrun : (execOp a.eval o).run P w = .ok (.value (.slice (some ⟨(ρ id).b, off + (ρ id).d, none⟩) n n)) w := by
          unfold execOp
          simp only [ho]
          refine run_v ?_
          have h1 : (Instr.sliceBounds false n n none none none).run P w = .ok (0, n, n) w := rfl
          simp only [Instr.sliceAt, Sem.run_bind, run_underlying hu, Result.andThen_ok, e1, Option.map_none]
          show (((pure ⟨(ρ id).b, off + (ρ id).d, none⟩ : Sem Addr).run P w)).andThen _ = _
          rw [Sem.run_pure, Result.andThen_ok, h1, Result.andThen_ok]
          simp only
          rw [run_sizeOf hz, Result.andThen_ok, Sem.run_pure]
          by_cases hn0 : n = 0
          · simp [hn0]
          · rw [if_neg hn0]
            simp [Addr.add]
        refine Yl.same R hrun (.slice id off n n n hid (Nat.le_refl _) (Nat.le_refl _) (fun _ => rfl) ?_)
        rw [p4, ← hc.1]
        omega
      · cases e
    · cases e
  · cases e

/-! append -/
noncomputable def evSrc (P : Program) (s : St) (z : Nat) (tx : TypeId) (x : Value) : Option (Nat × List Value) :=
  match P.underlying tx, x with
  | some (.slice _), .slice none _ _ => some (0, [])
  | some (.slice _), .slice (some ⟨id, off, none⟩) m _ => (match m with
    | 0 => some (0, [])
    | _ => (match cget s id with
    | some b => (match rd b off (m * z) with | some l => bif l.all (·.oneCell') then some (m, l) else none | none => none)
    | none => none))
  | some .string, .string q => bif z.beq 1 then some (q.size, q.data.toList.map fun b => Value.int .u8 b.toNat) else none
  | _, _ => none
theorem evSrc_ok (R : Rel B ρ s.N s.h.get w) {z : Nat} {tx : TypeId} {x x' : Value} (hx : VRel ρ s.N x x') {m : Nat} {news : List Value} (e : evSrc P s z tx x = some (m, news)) :
    ∃ news', VRels ρ s.N news news' ∧ Src P z tx x' m news' w ∧ news.length = m * z := by
  simp only [evSrc] at e
  split at e
  · rename_i el n c hu
    cases e
    obtain ⟨rfl, rfl, rfl⟩ := hx.slice0
    exact ⟨[], trivial, Src.ofNil w hu 0, by simp⟩
  · rename_i el id off n c hu
    obtain ⟨_, hid, hnc, a', c', e1, hcc, hsp, hcase⟩ := hx.slice1
    split at e
    · cases e
      refine ⟨[], trivial, ?_, by simp⟩
      rw [e1]
      exact Src.ofSlice w hu a' 0 c' [] (by simp) (fun j u h => by simp at h) (fun u h => by simp at h)
    · rename_i hn0
      split at e
      · rename_i b hb
        obtain ⟨hb, hk⟩ := cget_ok hb
        split at e
        · rename_i l hl
          rw [cond_eq_ite] at e
          split at e
          · rename_i h1
            cases e
            obtain ⟨l', r1, r2⟩ := R.rd hb hk hl
            have hlen := (rd_at b _ off _ hl).1
            refine ⟨l', r1, ?_, hlen⟩
            rcases hcase with ⟨rfl, _, _⟩ | ⟨q, _, _⟩
            · rw [e1]
              exact Src.ofSlice w hu _ m c' l' (by rw [← r1.length]; exact hlen) (fun j u h => by rw [Addr.add_mid]; exact r2 j u h) (r1.oneCell (fun v hv => List.all_eq_true.1 h1 v hv))
            · exact absurd q hn0
          · cases e
        · cases e
      · cases e
  · rename_i q hu
    rw [cond_eq_ite] at e
    split at e
    · rename_i hz
      rw [Nat.beq_eq] at hz
      cases e
      subst hz
      have e1 := hx.string
      refine ⟨byteCells q, .of rfl fun i v v' h1 h2 => ?_, by rw [e1]; exact Src.ofString w hu q, by rw [Nat.mul_one]; exact byteCells_length q⟩
      unfold byteCells at h2
      rw [h1] at h2
      cases h2
      obtain ⟨b, _, rfl⟩ := List.mem_map.1 (List.mem_of_getElem? h1)
      exact .flat 0 _ rfl
    · cases e
  · cases e

noncomputable def evAppend (P : Program) (s : St) (t tx : TypeId) (x y : Value) : Option (Value × St) :=
  match P.underlying t with
  | some (.slice el) => (match P.info? el with
    | some i => (match i.zero with
      | some zv => bif zv.cells.size.beq i.size && i.bytes.ble 1000000 then (match evSrc P s i.size tx y with
        | some (m, news) => (match x with
          | .slice none 0 0 => (match m with
            | 0 => some (.slice none 0 0, s)
            | _ => bif m.ble 1000000 then (match newB s news i.size false el with
              | some s' => some (.slice (some ⟨s.N, 0, none⟩) m m, s')
              | none => none) else none)
          | .slice (some ⟨id, off, none⟩) k c => bif (k + m).ble c then
              (match m with
              | 0 => some (.slice (some ⟨id, off, none⟩) k c, s)
              | _ => (match cget s id with
                | some b => bif b.z.beq i.size then (match wr b.n b.cs (off + k * i.size) news with
                  | some t => (match Tr.put 32 s.h id (some { b with cs := t }) with
                    | some h => some (.slice (some ⟨id, off, none⟩) (k + m) c, ⟨h, s.N, id :: s.W⟩)
                    | none => none)
                  | none => none) else none
                | none => none))
            else (match cget s id with
              | some b => bif b.z.beq i.size && (k + m).ble 1000000 && b.elem.beq el then (match rd b off (k * i.size) with
                | some olds => bif b.ex then (match newB s (olds ++ news) i.size false el with
                    | some s' => some (.slice (some ⟨s.N, 0, none⟩) (k + m) (k + m), s')
                    | none => none)
                  else (match trOf .nil 0 (olds ++ news) with
                    | some t => (match Tr.put 32 s.h id none with
                      | some h1 => (match Tr.put 32 h1 s.N (some ⟨(k + m) * i.size, i.size, false, el, t, .cells⟩) with
                        | some h2 => some (.slice (some ⟨s.N, 0, none⟩) (k + m) (k + m), ⟨h2, s.N + 1, id :: s.W⟩)
                        | none => none)
                      | none => none)
                    | none => none)
                | none => none) else none
              | none => none)
          | _ => none)
        | none => none) else none
      | none => none)
    | none => none)
  | _ => none
end
end Go.Proofs.Ytlapnehfjklpoaa
