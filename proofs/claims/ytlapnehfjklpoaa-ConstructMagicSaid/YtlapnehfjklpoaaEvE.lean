/- Closed calls by reckoning: the operations that make, read and write. -/
import Derived.Test.YtlapnehfjklpoaaEvD
namespace Go.Proofs.Ytlapnehfjklpoaa
open Go.RowKit

section
variable {P : Program} {B : Nat} {ρ ρ' : Nat → Place} {N N' : Nat} {h h' : Nat → Option Blk} {w w' : World} {W W' : List Nat} {tm : Tm} {a : Act} {s s' : St} {o : Oper}

/-- a new block -/
noncomputable def newB (s : St) (cells : List Value) (z : Nat) (ex : Bool) (elem : TypeId) : Option St :=
  match trOf .nil 0 cells with
  | some t => (match Tr.put 32 s.h s.N (some ⟨cells.length, z, ex, elem, t, .cells⟩) with
    | some h => some ⟨h, s.N + 1, s.W⟩
    | none => none)
  | none => none
theorem newB_ok (R : Rel B ρ s.N s.h.get w) {cells : List Value} {cs : Array Value} {z : Nat} {ex : Bool} {elem : TypeId} (hc : VRels ρ s.N cells cs.toList) (e : newB s cells z ex elem = some s')
    {fz : Nat × Nat} (hf : Thaw cs fz) (hw : w'.heap = w.heap.push (.cells cs elem fz)) (h1 : w'.os = w.os) (h2 : w'.tape = w.tape) (h3 : w'.output = w.output) :
    s'.W = s.W ∧ s'.N = s.N + 1 ∧ ∃ ρ', ρ' s.N = ⟨w.heap.size, 0, cs.size, z, ex⟩ ∧ Rel B ρ' s'.N s'.h.get w' ∧ Fr ρ s.N s.h.get w ρ' s'.N s'.h.get w' s'.W := by
  simp only [newB] at e
  split at e
  · rename_i t ht
    split at e
    · rename_i h hh
      cases e
      have hl : cells.length = cs.size := by simpa using hc.length
      obtain ⟨ρ', e1, R', F'⟩ := R.new ⟨cells.length, z, ex, elem, t, .cells⟩ rfl cs (by show cells.length ≤ _; omega) (fun i v hi hv => by
        have hv := trOf_nil ht hv
        obtain ⟨v', e2, r⟩ := hc.get hv
        exact ⟨v', by simpa using e2, r⟩) hf hw h1 h2 h3
      have hu : h.get = upd s.h.get s.N (some ⟨cells.length, z, ex, elem, t, .cells⟩) := by
        funext j
        rw [Tr.get_put 32 _ _ _ _ _ hh]
        rfl
      rw [← hu] at R' F'
      exact ⟨rfl, rfl, ρ', e1, R', F'.weaken (fun i hi => by simp at hi)⟩
    · cases e
  · cases e

/-- a row of zero values -/
noncomputable def zrow (P : Program) (elem : TypeId) (n : Nat) : Option (Array Value) :=
  match P.info? elem with
  | some i => bif (n * i.size).beq 0 then some #[] else (match i.zero with
    | some z => (bif ((Array.range (n * i.size)).map (z.cells[· % z.cells.size]!)).toList.all (pureV 3) then some ((Array.range (n * i.size)).map (z.cells[· % z.cells.size]!)) else none)
    | none => none)
  | none => none
theorem zrow_eq {elem : TypeId} {n : Nat} {r : Array Value} (e : zrow P elem n = some r) : ∃ i, P.info? elem = some i ∧ r.toList.all (pureV 3) = true ∧
    ((n * i.size = 0 ∧ r = #[]) ∨ (n * i.size ≠ 0 ∧ ∃ z, i.zero = some z ∧ r = (Array.range (n * i.size)).map (z.cells[· % z.cells.size]!))) := by
  unfold zrow at e
  split at e
  · rename_i i hi
    refine ⟨i, hi, ?_⟩
    rw [cond_eq_ite] at e
    split at e
    · rename_i h0
      rw [Nat.beq_eq] at h0
      cases e
      exact ⟨rfl, .inl ⟨h0, rfl⟩⟩
    · rename_i h0
      rw [Nat.beq_eq] at h0
      split at e
      · rename_i z hz
        rw [cond_eq_ite] at e
        split at e
        · rename_i hp
          cases e
          exact ⟨hp, .inr ⟨h0, z, hz, rfl⟩⟩
        · cases e
      · cases e
  · cases e

/-! alloc, box -/
noncomputable def evAlloc (P : Program) (s : St) (elem : TypeId) : Option (Value × St) :=
  match P.info? elem with
  | some i => (match i.zero with
    | some z => (bif z.cells.toList.all (pureV 3) then (match newB s z.cells.toList 1 true elem with
        | some s' => some (.pointer (some ⟨s.N, 0, none⟩), s')
        | none => none) else none)
    | none => none)
  | none => none
theorem evAlloc_ok (R : Rel B ρ s.N s.h.get w) {elem : TypeId} (ho : o.op = .alloc elem) {v : Value} (e : evAlloc P s elem = some (v, s')) : Yl P B ρ s w (execOp a.eval o) v s' := by
  simp only [evAlloc, cond_eq_ite] at e
  split at e
  · rename_i i hi
    split at e
    · rename_i z hz
      split at e
      · rename_i hp
        split at e
        · rename_i s1 h1
          cases e
          obtain ⟨q1, q2, ρ', q3, R', F'⟩ := newB_ok R (cs := z.cells) (w' := { w with heap := w.heap.push (.cells z.cells elem (0, 0)) }) (ARel.pure hp).rels h1 (Thaw.none _) rfl rfl rfl rfl
          refine ⟨fun j hj => by rw [q1]; exact hj, ρ', .value (.pointer (some ⟨w.heap.size, 0, none⟩)), .pointer (some ⟨w.heap.size, 0, none⟩), _, ?_, .inl rfl, ?_, R', F'⟩
          · unfold execOp
            simp [ho, Instr.alloc, zeroValue, typeInfo, hi, hz, newVar, newRow]
          · have := VRel.ptr (ρ := ρ') (N := s'.N) s.N 0 (by omega)
            rw [q3] at this
            exact this
        · cases e
      · cases e
    · cases e
  · cases e
noncomputable def evBox (s : St) (elem : TypeId) (v : Value) : Option (Value × St) :=
  match newB s v.cells.toList 1 true elem with
  | some s' => some (.pointer (some ⟨s.N, 0, none⟩), s')
  | none => none
theorem evBox_ok (R : Rel B ρ s.N s.h.get w) (T : TRel ρ s.N tm a) {elem : TypeId} {x : Operand} (ho : o.op = .box elem x) {u v : Value} (hx : opnd tm x = some u) (e : evBox s elem u = some (v, s')) : Yl P B ρ s w (execOp a.eval o) v s' := by
  simp only [evBox] at e
  split at e
  · rename_i s1 h1
    cases e
    have hv := T.opnd hx
    obtain ⟨q1, q2, ρ', q3, R', F'⟩ := newB_ok R (cs := (a.eval x).cells) (w' := { w with heap := w.heap.push (.cells (a.eval x).cells elem (0, 0)) }) hv.cells h1 (Thaw.none _) rfl rfl rfl rfl
    refine ⟨fun j hj => by rw [q1]; exact hj, ρ', .value (.pointer (some ⟨w.heap.size, 0, none⟩)), .pointer (some ⟨w.heap.size, 0, none⟩), _, ?_, .inl rfl, ?_, R', F'⟩
    · unfold execOp
      simp [ho, Instr.box, newVar, newRow]
    · have := VRel.ptr (ρ := ρ') (N := s'.N) s.N 0 (by omega)
      rw [q3] at this
      exact this
  · cases e

/-! makeSlice, buildSlice, build -/
noncomputable def evMake (P : Program) (s : St) (t : TypeId) (l c : Value) : Option (Value × St) :=
  match P.underlying t, l, c with
  | some (.slice elem), .int _ (.ofNat n), .int _ (.ofNat m) =>
    (match P.info? elem with
    | some i => bif n.ble m && m.ble 1000000 && (i.bytes * m).ble 281474976710656 then
        (match zrow P elem m with
        | some r => (match newB s r.toList i.size true elem with
          | some s' => some (.slice (some ⟨s.N, 0, none⟩) n m, s')
          | none => none)
        | none => none) else none
    | none => none)
  | _, _, _ => none
theorem wrap_nat {n : Nat} (h : n ≤ 1000000) : IntKind.i64.wrap (Int.ofNat n) = Int.ofNat n := by
  show IntKind.i64.wrap (n : Int) = (n : Int)
  rw [IntKind.wrap_i64]
  omega
theorem p48 : (2 : Int) ^ 48 = 281474976710656 := by decide
theorem evMake_ok (R : Rel B ρ s.N s.h.get w) (T : TRel ρ s.N tm a) {t : TypeId} {x y : Operand} (ho : o.op = .makeSlice t x y) {l c v : Value} (hx : opnd tm x = some l) (hy : opnd tm y = some c) (e : evMake P s t l c = some (v, s')) : Yl P B ρ s w (execOp a.eval o) v s' := by
  simp only [evMake] at e
  split at e
  · rename_i elem k1 n k2 m hu
    split at e
    · rename_i i hi
      rw [cond_eq_ite] at e
      split at e
      · rename_i hc
        simp only [Bool.and_eq_true, Nat.ble_eq] at hc
        split at e
        · rename_i r hr
          split at e
          · rename_i s1 h1
            cases e
            obtain ⟨i', hi', hp, hr⟩ := zrow_eq hr
            rw [hi] at hi'; cases hi'
            have hl := (T.opnd hx).int
            have hm := (T.opnd hy).int
            have hsz : r.size = m * i.size := by
              rcases hr with ⟨h0, rfl⟩ | ⟨_, z, _, rfl⟩
              · rw [h0]; rfl
              · simp
            obtain ⟨q1, q2, ρ', q3, R', F'⟩ := newB_ok R (cs := r) (w' := { w with heap := w.heap.push (.cells r elem (0, 0)) }) (ARel.pure hp).rels h1 (Thaw.none _) rfl rfl rfl rfl
            refine ⟨fun j hj => by rw [q1]; exact hj, ρ', .value (.slice (some ⟨w.heap.size, 0, none⟩) n m), .slice (some ⟨w.heap.size, 0, none⟩) n m, _, ?_, .inl rfl, ?_, R', F'⟩
            · unfold execOp
              simp only [ho, hl, hm]
              refine run_v ?_
              have b1 := wrap_nat (n := n) (by omega)
              have b2 := wrap_nat (n := m) (by omega)
              have g1 : ¬ (Int.ofNat m < 0) := Int.not_lt.2 (Int.natCast_nonneg m)
              have g2 : ¬ ((i.bytes : Int) * Int.ofNat m > 2 ^ 48) := by
                have e : ((i.bytes * m : Nat) : Int) = (i.bytes : Int) * (m : Int) := Int.natCast_mul _ _
                have h2 := hc.2
                rw [p48]
                show ¬ ((i.bytes : Int) * (m : Int) > 281474976710656)
                rw [← e]
                generalize i.bytes * m = q at *
                omega
              have g3 : ¬ (Int.ofNat n < 0) := Int.not_lt.2 (Int.natCast_nonneg n)
              have g4 : ¬ (Int.ofNat n > Int.ofNat m) := Int.not_lt.2 (Int.ofNat_le.2 hc.1.1)
              have g5 : (Int.ofNat m).toNat = m := rfl
              have g6 : (Int.ofNat n).toNat = n := rfl
              unfold Instr.makeSlice
              simp only [Sem.run_bind, run_underlying hu, Result.andThen_ok, asInt, asIntOf, Sem.run_pure, typeInfo, run_program, hi, b1, b2, g1, g2, g3, g4, decide_false, Bool.or_self, Bool.or_false, Bool.false_or, Bool.false_eq_true, if_false, run_askRoom, sizeOf, g5, g6]
              rcases hr with ⟨h0, rfl⟩ | ⟨h0, z, hz, rfl⟩
              · rw [if_pos h0]; simp [newRow, h0]; congr 2; apply Array.ext'; simp
              · rw [if_neg h0]; simp [zeroValue, typeInfo, hi, hz, newRow]
            · have := VRel.slice (ρ := ρ') (N := s'.N) s.N 0 n m m (by omega) (by omega) (Nat.le_refl _) (fun _ => rfl) (by rw [q3]; show 0 + m * i.size ≤ r.size; omega)
              rw [q3] at this
              exact this
          · cases e
        · cases e
      · cases e
    · cases e
  · cases e
end
end Go.Proofs.Ytlapnehfjklpoaa
