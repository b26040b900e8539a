/- The statement on ConstructMagic: the function's body in pieces. -/
import Derived.Test.YtlapnehfjklpoaaEvPc
import Derived.Test.YtlapnehfjklpoaaProg
import Derived.KernelRfl
namespace Go.Proofs.Ytlapnehfjklpoaa
open Go.RowKit

noncomputable def cmO : OraT := awO 12
noncomputable def cmB : Code := bodyOf Try.f6
noncomputable def cm0 : Code := fstC cmB
noncomputable def cm1 : Code := fstC (sndC cmB)
noncomputable def cmR : Code := sndC (sndC cmB)
theorem cm_split : Try.f6.body = some (.seq cm0 (.seq cm1 cmR)) := by kernel_rfl
noncomputable def cmT (n : Nat) : Tm := ⟨one 3 (.int .i64 (.ofNat n)), 104, []⟩
/-- what is left behind the first two regions, at the order n -/
noncomputable def cmE (n : Nat) : Bool := endT 104 2 (evF Try.prog cmO 1000000 (.code none cmR) (cmT n) ⟨.nil, 0, []⟩)
noncomputable def cmP (o : Nat) : Bool := endU 104 0 o (evF Try.prog cmO 1000 (.code none cm0) ⟨one 0 (.int .u8 (.ofNat o)), 104, []⟩ ⟨.nil, 0, []⟩) && endN 104 3 (o % 16 + 1) (evF Try.prog cmO 1000 (.code none cm1) ⟨one 0 (.int .u8 (.ofNat o)), 104, []⟩ ⟨.nil, 0, []⟩)
noncomputable def allB (f : Nat → Bool) (n : Nat) : Bool := @Nat.rec (fun _ => Bool) true (fun k ih => @Bool.rec (fun _ => Bool) false ih (f k)) n
theorem allB_at {f : Nat → Bool} : ∀ {n : Nat}, allB f n = true → ∀ k, k < n → f k = true
  | n + 1, h, k, hk => by
    have h : @Bool.rec (fun _ => Bool) false (allB f n) (f n) = true := h
    cases hf : f n with
    | false => rw [hf] at h; cases h
    | true =>
      rw [hf] at h
      by_cases hkn : k = n
      · rw [hkn]; exact hf
      · exact allB_at h k (by omega)
theorem cm_head : allB cmP 256 = true := by kernel_rfl
end Go.Proofs.Ytlapnehfjklpoaa
