/- Closed calls by reckoning: regions that draw their order, once more: the quick form. -/
import Derived.Test.YtlapnehfjklpoaaEvZ
namespace Go.Proofs.Ytlapnehfjklpoaa
open Go.RowKit

abbrev GT := List (Nat × List Nat) × List Nat × List (Tr Blk) × Tm
abbrev GC := Nat → Nat → List Nat → List (Tr Blk) → Tm → Option GT
noncomputable def gAl (N0 : Nat) (o : Oper) (ih : GC) : GC := fun i ia hs sn tm => @Option.rec Tm (fun _ => Option GT) none (fun tm' => ih (Nat.succ i) (Nat.succ ia) hs sn tm') (putF tm o.dst (.pointer (some ⟨N0 + ia, 0, none⟩)))
noncomputable def gWr (o : Oper) (ih : GC) (i ia : Nat) (hs : List Nat) (sn : List (Tr Blk)) (H : Tr Blk) (x : Value × St) (tm : Tm) (ck : St → List Nat → Bool) : Option GT :=
  @Prod.rec Value St (fun _ => Option GT) (fun v s1 => @St.rec (fun _ => Option GT) (fun h1 N1 W1 => @Option.rec Tm (fun _ => Option GT) none (fun tm' => @List.rec Nat (fun _ => Option GT) (ih (Nat.succ i) ia hs sn tm') (fun y W _ => @Bool.rec (fun _ => Option GT) none (@Option.rec GT (fun _ => Option GT) none (fun g => some ((i, y :: W) :: g.1, g.2)) (ih (Nat.succ i) ia (hs ++ [i]) (sn ++ [layH H h1 (y :: W)]) tm')) (ck ⟨h1, N1, W1⟩ (y :: W))) W1) (putF tm o.dst v)) s1) x
noncomputable def gSt (P : Program) (rec : RecT) (all : List Oper) (ms : List Nat) (G : List (Nat × List Nat)) (chk : Bool) (N0 N1 : Nat) (o : Oper) (ih : GC) (i ia : Nat) (hs : List Nat) (sn : List (Tr Blk)) (tm : Tm) (p : Nat) (X : List Nat) : Option GT :=
  @Option.rec (Tr Blk) (fun _ => Option GT) none (fun H => @Tm.rec (fun _ => Option GT) (fun t n ds => @Bool.rec (fun _ => Option GT) none (@Option.rec (Value × St) (fun _ => Option GT) none (fun x => @Bool.rec (fun _ => Option GT) none (gWr o ih i ia hs sn H x ⟨t, n, ds⟩ (fun sO W => p.beq hs.length && gChk chk N0 N1 G p i sO X W)) (idsLt N0 4 x.1)) (valW P rec all ⟨.only (reads all o) t, n, ds⟩ ⟨dropH H X, N1, []⟩ o)) (prefOK (ms.getD i 0) p hs 0)) tm) (nthF sn p)
noncomputable def gF (P : Program) (rec : RecT) (all : List Oper) (ms al : List Nat) (G : List (Nat × List Nat)) (chk : Bool) (N0 N1 : Nat) (l : List Oper) : GC :=
  @List.rec Oper (fun _ => GC) (fun _ _ hs sn tm => some ([], hs, sn, tm)) (fun o _ ih i ia hs sn tm => @Option.rec TypeId (fun _ => Option GT)
    (gSt P rec all ms G chk N0 N1 o ih i ia hs sn tm (countP (ms.getD i 0) hs) (xA (ms.getD i 0) N0 al 0 ++ xW ms i (G.drop (countP (ms.getD i 0) hs))))
    (fun _ => gAl N0 o ih i ia hs sn tm) (allocT o)) l
noncomputable def outG (i : Nat) (x : Option GOut) : Option GT := match x with | some g => some (guessW g.recs i, g.hs, g.sn, g.tm) | none => none
theorem gF_eq (P : Program) (rec : RecT) (all : List Oper) (ms al : List Nat) (G : List (Nat × List Nat)) (chk : Bool) (N0 N1 : Nat) : ∀ (l : List Oper) (i ia : Nat) (hs : List Nat) (sn : List (Tr Blk)) (tm : Tm),
    gF P rec all ms al G chk N0 N1 l i ia hs sn tm = outG i (gE P rec all ms al G chk N0 N1 l i ia hs sn tm)
  | [], i, ia, hs, sn, tm => rfl
  | o :: l, i, ia, hs, sn, ⟨tmt, tmn, tmds⟩ => by
    have ih := fun i ia hs sn tm => gF_eq P rec all ms al G chk N0 N1 l i ia hs sn tm
    show @Option.rec TypeId (fun _ => Option GT) (gSt P rec all ms G chk N0 N1 o (gF P rec all ms al G chk N0 N1 l) i ia hs sn ⟨tmt, tmn, tmds⟩ (countP (ms.getD i 0) hs) (xA (ms.getD i 0) N0 al 0 ++ xW ms i (G.drop (countP (ms.getD i 0) hs)))) (fun _ => gAl N0 o (gF P rec all ms al G chk N0 N1 l) i ia hs sn ⟨tmt, tmn, tmds⟩) (allocT o) = _
    simp only [gE]
    cases allocT o with
    | some t =>
      simp only
      unfold gAl
      rw [putF_eq]
      cases (⟨tmt, tmn, tmds⟩ : Tm).put o.dst (.pointer (some ⟨N0 + ia, 0, none⟩)) with
      | none => rfl
      | some tm' =>
        simp only [ih]
        show outG (i + 1) (gE P rec all ms al G chk N0 N1 l (i + 1) (ia + 1) hs sn tm') = _
        cases gE P rec all ms al G chk N0 N1 l (i + 1) (ia + 1) hs sn tm' <;> rfl
    | none =>
      simp only
      unfold gSt
      generalize countP (ms.getD i 0) hs = p
      generalize xA (ms.getD i 0) N0 al 0 ++ xW ms i (G.drop p) = X
      rw [nthF_eq]
      cases sn[p]? with
      | none => rfl
      | some H =>
        simp only
        cases prefOK (ms.getD i 0) p hs 0 with
        | false => rfl
        | true =>
          simp only [cond_true]
          rw [valW_eq]
          cases oneE P rec all ⟨.only (reads all o) tmt, tmn, tmds⟩ ⟨dropH H X, N1, []⟩ o with
          | none => rfl
          | some x =>
            obtain ⟨w, v, sO⟩ := x
            obtain ⟨hO, NO, WO⟩ := sO
            simp only [snd3]
            show @Bool.rec (fun _ => Option GT) none _ (idsLt N0 4 v) = _
            cases idsLt N0 4 v with
            | false => rfl
            | true =>
              simp only [cond_true]
              unfold gWr
              simp only [putF_eq]
              cases (⟨tmt, tmn, tmds⟩ : Tm).put o.dst v with
              | none => rfl
              | some tm' =>
                simp only
                cases WO with
                | nil =>
                  simp only [ih]
                  show outG (i + 1) (gE P rec all ms al G chk N0 N1 l (i + 1) ia hs sn tm') = _
                  cases gE P rec all ms al G chk N0 N1 l (i + 1) ia hs sn tm' <;> rfl
                | cons y W =>
                  simp only
                  cases (p.beq hs.length && gChk chk N0 N1 G p i ⟨hO, NO, y :: W⟩ X (y :: W)) with
                  | false => rfl
                  | true =>
                    simp only [ih, cond_true]
                    show @Option.rec GT (fun _ => Option GT) none _ (outG (i + 1) (gE P rec all ms al G chk N0 N1 l (i + 1) ia (hs ++ [i]) (sn ++ [layH H hO (y :: W)]) tm')) = _
                    cases gE P rec all ms al G chk N0 N1 l (i + 1) ia (hs ++ [i]) (sn ++ [layH H hO (y :: W)]) tm' <;> rfl
/-- the longer way -/
noncomputable def regF (P : Program) (rec : RecT) (l : List Oper) (tm : Tm) (s : St) : Option Res :=
  @Option.rec (Tr Blk) (fun _ => Option Res) none (fun H => @Option.rec GT (fun _ => Option Res) none (fun g => @Option.rec GT (fun _ => Option Res) none (fun r => @Option.rec (Tr Blk) (fun _ => Option Res) none (fun h => some ⟨.normal, r.2.2.2, undef, ⟨h, s.N + (allocs l 0).length, (g.1.map (·.2)).flatten ++ s.W⟩⟩) (nthF r.2.2.1 r.2.1.length)) (gF P rec l (masks l []) (allocs l 0) g.1 true s.N (s.N + (allocs l 0).length) l 0 0 [] [H] tm)) (gF P rec l (masks l []) (allocs l 0) [] false s.N (s.N + (allocs l 0).length) l 0 0 [] [H] tm)) (allocH P s.N l s.h s.N)
theorem regF_eq (P : Program) (rec : RecT) (l : List Oper) (tm : Tm) (s : St) : regF P rec l tm s = (match regG P rec l tm s with | some p => some ⟨.normal, p.1, undef, p.2⟩ | none => none) := by
  unfold regF regG
  cases allocH P s.N l s.h s.N with
  | none => rfl
  | some H =>
    simp only [gF_eq]
    cases gE P rec l (masks l []) (allocs l 0) [] false s.N (s.N + (allocs l 0).length) l 0 0 [] [H] tm with
    | none => rfl
    | some g =>
      simp only [outG]
      cases gE P rec l (masks l []) (allocs l 0) (guessW g.recs 0) true s.N (s.N + (allocs l 0).length) l 0 0 [] [H] tm with
      | none => rfl
      | some out =>
        simp only [nthF_eq]
        cases out.sn[out.hs.length]? <;> rfl
/-- regions that make several blocks go the longer way at once -/
noncomputable def manyA (l : List Oper) : Bool := Nat.ble 2 (allocs l 0).length
end Go.Proofs.Ytlapnehfjklpoaa
