/- Closed calls by reckoning: the quick form of the whole, and that it is right. -/
import Derived.Test.YtlapnehfjklpoaaEvR
namespace Go.Proofs.Ytlapnehfjklpoaa
open Go.RowKit

/-! operations in their order -/
noncomputable def opsF (P : Program) (rec : RecT) (all : List Oper) (l : List Oper) : Tm → St → Option Res :=
  @List.rec Oper (fun _ => Tm → St → Option Res) (fun tm s => some ⟨.normal, tm, undef, s⟩)
    (fun o _ ih tm s => @Option.rec (Value × St) (fun _ => Option Res) none (fun p => @Prod.rec Value St (fun _ => Option Res) (fun v s' => @Option.rec Tm (fun _ => Option Res) none (fun tm' => ih tm' s') (putF tm o.dst v)) p) (valW P rec all tm s o)) l

/-! regions that draw their order -/
noncomputable def lightF (P : Program) (all : List Oper) (tm : Tm) (N : Nat) (o : Oper) : Option (Value × St) :=
  @Option.rec (Value × St) (fun _ => Option (Value × St)) none (fun p => @Prod.rec Value St (fun _ => Option (Value × St)) (fun v s => @St.rec (fun _ => Option (Value × St)) (fun h N' W => @List.rec Nat (fun _ => Option (Value × St)) (@Bool.rec (fun _ => Option (Value × St)) none (some (v, ⟨h, N', W⟩)) (Nat.beq N' N)) (fun _ _ _ => none) W) s) p) (valW P (fun _ _ _ => none) all tm ⟨.nil, N, []⟩ o)
theorem lightF_eq (P : Program) (all : List Oper) (tm : Tm) (N : Nat) (o : Oper) : lightF P all tm N o = snd3 (lightE P all tm N o) := by
  unfold lightF lightE
  rw [valW_eq]
  cases oneE P (fun _ _ _ => none) all tm ⟨.nil, N, []⟩ o with
  | none => rfl
  | some x =>
    obtain ⟨w, v, sO⟩ := x
    obtain ⟨h, N2, W⟩ := sO
    cases W with
    | cons y W => rfl
    | nil =>
      show @Bool.rec (fun _ => Option (Value × St)) none _ (N2.beq N) = snd3 (bif N2.beq N then _ else none)
      cases N2.beq N <;> rfl
abbrev DT := Nat → Nat → List Nat → List St → Nat → Tr Nat → Tm → Option (Tm × St)
noncomputable def lvF (lv : Tr Nat) (p : Nat) (l : List Tmp) : Bool := @Tr.rec Nat (fun _ => Bool) true (fun _ _ _ _ _ => lvOK lv p l) (fun _ _ _ => lvOK lv p l) (fun _ _ _ _ => lvOK lv p l) lv
theorem lvOK_nil (p : Nat) : ∀ (l : List Tmp), lvOK .nil p l = true
  | [] => rfl
  | t :: l => by show (true && lvOK .nil p l) = true; rw [lvOK_nil p l]; rfl
theorem lvF_eq (lv : Tr Nat) (p : Nat) (l : List Tmp) : lvF lv p l = lvOK lv p l := by
  cases lv with
  | nil => exact (lvOK_nil p l).symm
  | _ => rfl
/-- behind a light operation -/
noncomputable def dLight (o : Oper) (ih : DT) (i nm : Nat) (hs : List Nat) (sn : List St) (dq : Nat) (lv : Tr Nat) (tm : Tm) (p : Nat) (x : Value × St) : Option (Tm × St) :=
  @Prod.rec Value St (fun _ => Option (Tm × St)) (fun v _ => @Option.rec Tm (fun _ => Option (Tm × St)) none (fun tm' => @Option.rec (Tr Nat) (fun _ => Option (Tm × St)) none (fun lv' => ih (Nat.succ i) nm hs sn dq lv' tm') (setLv lv o.dst p)) (putF tm o.dst v)) x
/-- behind another one -/
noncomputable def dHeavy (o : Oper) (ih : DT) (i nm : Nat) (hs : List Nat) (sn : List St) (dq : Nat) (lv : Tr Nat) (tm : Tm) (p m : Nat) (s : St) (x : Value × St) : Option (Tm × St) :=
  @Prod.rec Value St (fun _ => Option (Tm × St)) (fun v s1 => @St.rec (fun _ => Option (Tm × St)) (fun h1 N1 W1 => @Option.rec Tm (fun _ => Option (Tm × St)) none (fun tm' => @List.rec Nat (fun _ => Option (Tm × St))
      (@Bool.rec (fun _ => Option (Tm × St))
        (@Bool.rec (fun _ => Option (Tm × St)) none (@Option.rec (Tr Nat) (fun _ => Option (Tm × St)) none (fun lv' => ih (Nat.succ i) (nm ||| 2 ^ i) (hs ++ [i]) (sn ++ [⟨h1, N1, s.W⟩]) dq lv' tm') (setLv lv o.dst (p + 1))) (p.beq hs.length))
        (@Option.rec (Tr Nat) (fun _ => Option (Tm × St)) none (fun lv' => ih (Nat.succ i) (nm ||| 2 ^ i) hs sn dq lv' tm') (setLv lv o.dst p)) (N1.beq s.N))
      (fun y W _ => @Bool.rec (fun _ => Option (Tm × St)) none (@Option.rec (Tr Nat) (fun _ => Option (Tm × St)) none (fun lv' => ih (Nat.succ i) (nm ||| 2 ^ i) (hs ++ [i]) (sn ++ [⟨h1, N1, y :: W ++ s.W⟩]) (hs.length + 1) lv' tm') (setLv lv o.dst (p + 1))) (p.beq hs.length && (m &&& nm).beq nm)) W1) (putF tm o.dst v)) s1) x
noncomputable def dStep (P : Program) (rec : RecT) (all : List Oper) (o : Oper) (ih : DT) (i nm : Nat) (hs : List Nat) (sn : List St) (dq : Nat) (lv : Tr Nat) (tm : Tm) (p m : Nat) (ok : Bool) : Option (Tm × St) :=
  @Option.rec St (fun _ => Option (Tm × St)) none (fun s => @Tm.rec (fun _ => Option (Tm × St)) (fun t n ds => @St.rec (fun _ => Option (Tm × St)) (fun h N W => @Bool.rec (fun _ => Option (Tm × St)) none
    (@Option.rec (Value × St) (fun _ => Option (Tm × St))
      (@Bool.rec (fun _ => Option (Tm × St)) none (@Option.rec (Value × St) (fun _ => Option (Tm × St)) none (dHeavy o ih i nm hs sn dq lv ⟨t, n, ds⟩ p m ⟨h, N, W⟩) (valW P rec all ⟨.only (reads all o) t, n, ds⟩ ⟨h, N, []⟩ o)) (Nat.ble dq p))
      (dLight o ih i nm hs sn dq lv ⟨t, n, ds⟩ p) (lightF P all ⟨.only (reads all o) t, n, ds⟩ N o)) ok) s) tm) (nthF sn p)
noncomputable def drawF (P : Program) (rec : RecT) (all : List Oper) (ms : List Nat) (l : List Oper) : DT :=
  @List.rec Oper (fun _ => DT) (fun _ _ hs sn _ _ tm => @Option.rec St (fun _ => Option (Tm × St)) none (fun s => some (tm, s)) (nthF sn hs.length))
    (fun o _ ih i nm hs sn dq lv tm => @List.rec Nat (fun _ => Option (Tm × St)) (dStep P rec all o ih i nm [] sn dq lv tm 0 (ms.getD i 0) (lvF lv 0 (reads all o)))
      (fun x l _ => dStep P rec all o ih i nm (x :: l) sn dq lv tm (countP (ms.getD i 0) (x :: l)) (ms.getD i 0) (prefOK (ms.getD i 0) (countP (ms.getD i 0) (x :: l)) (x :: l) 0 && lvOK lv (countP (ms.getD i 0) (x :: l)) (reads all o))) hs) l

def outD (x : Option DOut) : Option (Tm × St) := match x with | some out => (match out.sn[out.hs.length]? with | some s => some (out.tm, s) | none => none) | none => none
theorem optB {α β : Type} (x : Option α) (f : α → Option β) : @Option.rec α (fun _ => Option β) none f x = (match x with | some a => f a | none => none) := by cases x <;> rfl
theorem dStep_eq (P : Program) (rec : RecT) (all : List Oper) (ms : List Nat) (o : Oper) (l : List Oper) (ih : ∀ i nm hs sn dq lv tm, drawF P rec all ms l i nm hs sn dq lv tm = outD (drawE P rec all ms l i nm hs sn dq lv tm)) (i nm : Nat) (hs : List Nat) (sn : List St) (dq : Nat) (lv : Tr Nat) (tm : Tm) :
    dStep P rec all o (drawF P rec all ms l) i nm hs sn dq lv tm (countP (ms.getD i 0) hs) (ms.getD i 0) (prefOK (ms.getD i 0) (countP (ms.getD i 0) hs) hs 0 && lvOK lv (countP (ms.getD i 0) hs) (reads all o)) = outD (drawE P rec all ms (o :: l) i nm hs sn dq lv tm) := by
  unfold dStep
  obtain ⟨tmt, tmn, tmds⟩ := tm
  simp only [drawE, restr]
  generalize countP (ms.getD i 0) hs = p
  rw [nthF_eq]
  cases hsn : sn[p]? with
  | none => rfl
  | some s =>
    obtain ⟨sh0, sN0, sW0⟩ := s
    simp only
    generalize (prefOK (ms.getD i 0) p hs 0 && lvOK lv p (reads all o)) = ok
    cases ok with
    | false => rfl
    | true =>
      simp only [cond_true]
      rw [lightF_eq]
      cases lightE P all ⟨.only (reads all o) tmt, tmn, tmds⟩ sN0 o with
      | some x =>
        obtain ⟨w, v, sO⟩ := x
        simp only [snd3]
        show dLight o _ i nm hs sn dq lv ⟨tmt, tmn, tmds⟩ p (v, sO) = _
        unfold dLight
        simp only [putF_eq, optB]
        cases (⟨tmt, tmn, tmds⟩ : Tm).put o.dst v with
        | none => rfl
        | some tm' =>
          simp only
          cases setLv lv o.dst p with
          | none => rfl
          | some lv' =>
            simp only [ih]
            show outD (drawE P rec all ms l (i + 1) nm hs sn dq lv' tm') = _
            cases drawE P rec all ms l (i + 1) nm hs sn dq lv' tm' <;> rfl
      | none =>
        simp only [snd3]
        show @Bool.rec (fun _ => Option (Tm × St)) none _ (dq.ble p) = _
        cases dq.ble p with
        | false => rfl
        | true =>
          simp only [cond_true]
          rw [valW_eq]
          cases oneE P rec all ⟨.only (reads all o) tmt, tmn, tmds⟩ ⟨sh0, sN0, []⟩ o with
          | none => rfl
          | some x =>
            obtain ⟨w, v, sO⟩ := x
            obtain ⟨h2, N2, W2⟩ := sO
            simp only [snd3]
            show dHeavy o _ i nm hs sn dq lv ⟨tmt, tmn, tmds⟩ p (ms.getD i 0) ⟨sh0, sN0, sW0⟩ (v, ⟨h2, N2, W2⟩) = _
            unfold dHeavy
            simp only [putF_eq, optB]
            cases (⟨tmt, tmn, tmds⟩ : Tm).put o.dst v with
            | none => rfl
            | some tm' =>
              simp only
              cases W2 with
              | nil =>
                simp only
                cases N2.beq sN0 with
                | true =>
                  simp only [cond_true]
                  cases setLv lv o.dst p with
                  | none => rfl
                  | some lv' =>
                    simp only [ih]
                    show outD (drawE P rec all ms l (i + 1) _ hs sn dq lv' tm') = _
                    cases drawE P rec all ms l (i + 1) (nm ||| 2 ^ i) hs sn dq lv' tm' <;> rfl
                | false =>
                  simp only [cond_false]
                  cases p.beq hs.length with
                  | false => rfl
                  | true =>
                    simp only [cond_true]
                    cases setLv lv o.dst (p + 1) with
                    | none => rfl
                    | some lv' =>
                      simp only [ih]
                      show outD (drawE P rec all ms l (i + 1) _ _ _ dq lv' tm') = _
                      cases drawE P rec all ms l (i + 1) (nm ||| 2 ^ i) (hs ++ [i]) (sn ++ [⟨h2, N2, sW0⟩]) dq lv' tm' <;> rfl
              | cons y W =>
                simp only
                cases (p.beq hs.length && (ms.getD i 0 &&& nm).beq nm) with
                | false => rfl
                | true =>
                  simp only [cond_true]
                  cases setLv lv o.dst (p + 1) with
                  | none => rfl
                  | some lv' =>
                    simp only [ih]
                    show outD (drawE P rec all ms l (i + 1) _ _ _ _ lv' tm') = _
                    cases drawE P rec all ms l (i + 1) (nm ||| 2 ^ i) (hs ++ [i]) (sn ++ [⟨h2, N2, y :: W ++ sW0⟩]) (hs.length + 1) lv' tm' <;> rfl
theorem drawF_eq (P : Program) (rec : RecT) (all : List Oper) (ms : List Nat) : ∀ (l : List Oper) (i nm : Nat) (hs : List Nat) (sn : List St) (dq : Nat) (lv : Tr Nat) (tm : Tm), drawF P rec all ms l i nm hs sn dq lv tm = outD (drawE P rec all ms l i nm hs sn dq lv tm)
  | [], i, nm, hs, sn, dq, lv, tm => by
    show @Option.rec St (fun _ => Option (Tm × St)) none (fun s => some (tm, s)) (nthF sn hs.length) = outD (some ⟨[], hs, sn, tm⟩)
    rw [nthF_eq]
    unfold outD
    simp only
    cases sn[hs.length]? <;> rfl
  | o :: l, i, nm, hs, sn, dq, lv, tm => by
    rw [← dStep_eq P rec all ms o l (fun i nm hs sn dq lv tm => drawF_eq P rec all ms l i nm hs sn dq lv tm) i nm hs sn dq lv tm]
    cases hs with
    | nil =>
      show dStep P rec all o (drawF P rec all ms l) i nm [] sn dq lv tm 0 (ms.getD i 0) (lvF lv 0 (reads all o)) = _
      rw [lvF_eq]
      show _ = dStep P rec all o (drawF P rec all ms l) i nm [] sn dq lv tm 0 (ms.getD i 0) (true && lvOK lv 0 (reads all o))
      rw [Bool.true_and]
    | cons x hs => rfl
end Go.Proofs.Ytlapnehfjklpoaa
