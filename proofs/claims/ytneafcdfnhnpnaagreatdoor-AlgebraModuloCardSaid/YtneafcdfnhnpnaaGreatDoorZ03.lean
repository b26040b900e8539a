/- Contracts: matrices over the residues: width, nextPivot. -/
import Derived.Test.YtneafcdfnhnpnaaGreatDoorZ02
import Derived.Deep.RegionWith
import Derived.Deep.LoopGhost
import Derived.WalkMore
import Derived.Lib.Hide
import Derived.Laws.AppendOwn
import Derived.Test.YtneafcdfnhnpnaaGreatDoorZ01
namespace Go.Proofs.YtneafcdfnhnpnaaGreatDoor
open Go.RowKit

/-- a row of a matrix: its block, its capacity, its numbers -/
abbrev RowI := Nat × Nat × List Int
def rowV (n : Nat) (r : RowI) : Value := .slice (some ⟨r.1, 0, none⟩) n r.2.1
/-- a matrix with n columns: block g holds its rows, each of which has a block of its own -/
structure MxI (w : World) (g : Nat) (R : List RowI) (n : Nat) : Prop where
  own : Own w g 192 (R.map (rowV n))
  row : ∀ r ∈ R, Own w r.1 2 (icells r.2.2) ∧ r.2.2.length = n ∧ n ≤ r.2.1 ∧ r.2.1 ≤ 1000000
  apart : (R.map (·.1)).Nodup
theorem Own.apart {w : World} {g h : Nat} {s t : TypeId} {cs ds : List Value} (a : Own w g s cs) (b : Own w h t ds) (hst : s ≠ t) : g ≠ h := by
  intro e; subst e
  unfold Own at a b
  rw [a] at b
  injection b with b
  injection b with _ b
  exact hst b
theorem MxI.below {w w' : World} {g : Nat} {R : List RowI} {n : Nat} (h : MxI w g R n) (hb : Below w.heap.size w w') : MxI w' g R n :=
  ⟨h.own.below hb h.own.lt, fun r hr => ⟨(h.row r hr).1.below hb (h.row r hr).1.lt, (h.row r hr).2⟩, h.apart⟩
/-- a row's value, and one of its numbers -/
theorem MxI.cellRow {w : World} {g : Nat} {R : List RowI} {n : Nat} (h : MxI w g R n) {i : Nat} {r : RowI} (hr : R[i]? = some r) : w.cell? ⟨g, i, none⟩ = some (rowV n r) := by
  rw [h.own.cell i, List.getElem?_map, hr]; rfl
theorem MxI.cellNum {w : World} {g : Nat} {R : List RowI} {n : Nat} (h : MxI w g R n) {i j : Nat} {r : RowI} (hr : R[i]? = some r) (hj : j < n) : w.cell? ⟨r.1, j, none⟩ = some (.int .i64 (r.2.2[j]?.getD 0)) := by
  have := h.row r (List.mem_of_getElem? hr)
  exact (this.1.cell j).trans (icells_at _ _ (by omega))

set_option maxHeartbeats 400000 in
theorem widthI_c (g c n : Nat) (R : List RowI) (w : World) (hM : MxI w g R n) :
    Calls Tryz.prog 215 #[.slice (some ⟨g, 0, none⟩) R.length c] w fun e w' => e = .returned (.int .i64 ((if R = [] then 0 else n : Nat) : Int)) ∧ w = w' := by
  rcases R with _ | ⟨r, R⟩
  · go_enter Tryz.func215, Tryz.ntmps215
    go_wp2
    go_ret
    exact ⟨rfl, rfl⟩
  · have hck := hM.cellRow (i := 0) (r := r) rfl
    have hl : ((((r :: R).length : Nat) : Int) == 0) = false := by simp; omega
    unfold rowV at hck
    have hpos : 0 < (r :: R).length := by simp
    clear hM
    generalize (r :: R).length = m at *
    go_enter Tryz.func215, Tryz.ntmps215
    go_wp2
    go_ret
    exact ⟨rfl, rfl⟩

/-- the number in row i and column j -/
def numI (R : List RowI) (i j : Nat) : Int := ((R[i]?.map (·.2.2)).getD [])[j]?.getD 0
theorem numI_eq {R : List RowI} {i j : Nat} {r : RowI} (hr : R[i]? = some r) : numI R i j = r.2.2[j]?.getD 0 := by unfold numI; rw [hr]; rfl
/-- no number but 0 from row t on in the columns from a up to c, nor in column c in the rows up to r -/
def Clean (R : List RowI) (t a c : Nat) : Prop := ∀ j, a ≤ j → j < c → ∀ i, t ≤ i → i < R.length → numI R i j = 0
def pivPost (R : List RowI) (n top from_ : Nat) (w : World) (e : Ending) (w' : World) : Prop :=
  Below w.heap.size w w' ∧ ((∃ i j : Nat, e = .returned (.tuple #[.int .i64 i, .int .i64 j, .bool true]) ∧ top ≤ i ∧ i < R.length ∧ from_ ≤ j ∧ j < n ∧ numI R i j ≠ 0 ∧ (∀ k, top ≤ k → k < i → numI R k j = 0) ∧ Clean R top from_ j)
    ∨ (∃ i j : Int, e = .returned (.tuple #[.int .i64 i, .int .i64 j, .bool false]) ∧ Clean R top from_ n))

set_option maxRecDepth 100000 in
set_option maxHeartbeats 4000000 in
theorem nextPivotI_c (p : Int) (g c n : Nat) (R : List RowI) (w : World) (top from_ : Nat) (hM : MxI w g R n) (hR : R ≠ []) (hc : R.length ≤ c) (hc2 : c ≤ 1000000) (ht : top ≤ R.length) (hf : from_ ≤ n) (hn : n ≤ 1000000) :
    Calls Tryz.prog 211 #[.iface 197 (.agg #[.int .i64 p]), .slice (some ⟨g, 0, none⟩) R.length c, .int .i64 top, .int .i64 from_] w (pivPost R n top from_ w) := by
  have hZ := isZero_meth p
  have hZn := isZero_nil p
  have hmf : ∀ (fn : Fn) (first cap : Array Value) (w : World), (Instr.makeFunc fn first cap).run Tryz.prog w = .ok (.func fn first cap) w := fun _ _ _ _ => rfl
  have HZ := Lib.hid (fun (x : Int) W => resIsZero_c p x W)
  have HW := Lib.hid (fun W (h : MxI W g R n) => by have := widthI_c g c n R W h; rw [if_neg hR] at this; exact this)
  have HR := Lib.hid hR
  have HM := Lib.hid hM
  clear hR hM
  go_enter Tryz.func211, Tryz.ntmps211
  go_wp2_with fail
  go_step3
  go_wp2_with fail
  try go_step3
  try go_wp2_with fail
  go_loopg [8, 9, 10] (n - from_) (fun gh r j f wr => ∃ (rr : Int) (k : Nat), r = .int .i64 rr ∧ j = .int .i64 k ∧ f = .bool false ∧ from_ ≤ k ∧ k + gh = n ∧ Hid (Clean R top from_ k) ∧ Hid (MxI wr g R n) ∧ Below w.heap.size w wr)
  case atStart => exact ⟨0, from_, rfl, rfl, rfl, by omega, by omega, Lib.hid (fun j h1 h2 => by omega), HM, Below.refl _ _⟩
  case round =>
    clear HM
    obtain ⟨rr, k, rfl, rfl, rfl, hk1, hk2, hC, hMr, hB⟩ := hrel
    cases gk with
    | zero =>
      have hkn : k = n := by omega
      subst hkn
      go_wp2_with (go_at_call 215; refine (HW.out _ hMr.out).mono ?_; rintro e w2 ⟨rfl, rfl⟩)
      rw [Exit.noGoto_ret]
      go_ret3
      exact ⟨hB, Or.inr ⟨_, _, rfl, hC.out⟩⟩
    | succ gh =>
      have hlt : k < n := by omega
      go_wp2_with (go_at_call 215; refine (HW.out _ hMr.out).mono ?_; rintro e w2 ⟨rfl, rfl⟩)
      go_loopg [8, 10] (R.length - top) (fun h r f wx => ∃ i : Nat, r = .int .i64 i ∧ f = .bool false ∧ top ≤ i ∧ i + h = R.length ∧ Hid (∀ t, top ≤ t → t < i → numI R t k = 0) ∧ Hid (MxI wx g R n) ∧ Below w.heap.size w wx)
      case atStart => exact ⟨top, rfl, rfl, by omega, by omega, Lib.hid (fun t h1 h2 => by omega), hMr, hB⟩
      case round =>
        clear hMr hB
        obtain ⟨i, rfl, rfl, hi1, hi2, hT, hMx, hBx⟩ := hrel
        cases gk with
        | zero =>
          have hin : ¬ ((i : Int) < (R.length : Int)) := by omega
          have hie : i = R.length := by omega
          have HT := Lib.hid hT.out
          rw [hie] at HT
          have Hcl : Hid (Clean R top from_ (k + 1)) := Lib.hid (by
            intro j h1 h2 t h3 h4
            rcases Nat.lt_or_ge j k with h5 | h5
            · exact hC.out j h1 h5 t h3 h4
            · have : j = k := by omega
              subst this; exact HT.out t h3 h4)
          clear hie
          go_wp2
          go_roundg gh
          case rel => exact ⟨i, k + 1, rfl, by go_num, rfl, by omega, by omega, Hcl, hMx, hBx⟩
          case measure => omega
        | succ h =>
          have hin : (i : Int) < (R.length : Int) := by omega
          have hil : i < R.length := by omega
          obtain ⟨r, hr⟩ : ∃ r, R[i]? = some r := ⟨R[i], List.getElem?_eq_getElem hil⟩
          have hc1 := hMx.out.cellRow hr
          have hc3 := hMx.out.cellNum hr hlt
          have hcap := (hMx.out.row r (List.mem_of_getElem? hr)).2.2
          have hblk := (hMx.out.row r (List.mem_of_getElem? hr)).1.lt
          have Hnum := Lib.hid (numI_eq (j := k) hr)
          unfold rowV at hc1
          obtain ⟨rb, rc, rl⟩ := r
          dsimp only at hc1 hc3 hcap hblk Hnum
          have Hr := Lib.hid hr
          clear hr
          generalize rl[k]?.getD 0 = x at *
          go_wp2
          have HMr := Lib.hid (fun (w4 : World) (hb : Below wr.drew.heap.size wr.drew w4) => (hMx.out.below (But.dr hb)))
          have HBr := Lib.hid (fun (w4 : World) (hb : Below wr.drew.heap.size wr.drew w4) => (hBx.trans ((But.dr hb).mono hBx.size)))

          by_cases h0 : (x == 0) = true
          · have Hnext : Hid (∀ t, top ≤ t → t < i + 1 → numI R t k = 0) := Lib.hid (by
              intro t h1 h2
              rcases Nat.lt_or_ge t i with h3 | h3
              · exact hT.out t h1 h3
              · have : t = i := by omega
                subst this; rw [Hnum.out]; simpa using h0)
            go_region_with (go_at_call 319; go_split_ands; refine (HZ.out x _).mono ?_; rintro e w4 ⟨rfl, hB4⟩)
            all_goals (
              have HM4 := Lib.hid (HMr.out _ hB4)
              have HB4 := HBr.out _ hB4
              clear hB4
              go_wp2
              go_roundg h
              case rel => exact ⟨i + 1, by go_num, rfl, by omega, by omega, Hnext, HM4, HB4⟩
              case measure => omega)
          · have h0' : (x == 0) = false := by simpa using h0
            have Hx : Hid (numI R i k ≠ 0) := Lib.hid (by rw [Hnum.out]; simpa using h0)
            clear h0
            go_region_with (go_at_call 319; go_split_ands; refine (HZ.out x _).mono ?_; rintro e w4 ⟨rfl, hB4⟩)
            all_goals (
              have HB4 := HBr.out _ hB4
              clear hB4
              go_wp2
              rw [Exit.noGoto_ret]
              go_ret3
              exact ⟨HB4, Or.inl ⟨i, k, rfl, hi1, hil, hk1, hlt, Hx.out, fun t h1 h2 => hT.out t h1 h2, hC.out⟩⟩)

end Go.Proofs.YtneafcdfnhnpnaaGreatDoor
/- Plain mathematics: elimination, step by step, over whatever numbers. -/
namespace Go.Proofs.YtneafcdfnhnpnaaGreatDoor

/-- numbers that one can eliminate with -/
structure Fd (T : Type) where
  z : T
  isZ : T → Bool
  sub : T → T → T
  mul : T → T → T
  div : T → T → T
/-- a row of a matrix: its block, its capacity, its numbers -/
abbrev RowT (T : Type) := Nat × Nat × List T
section
variable {T : Type} (F : Fd T)
def rowOf (R : List (RowT T)) (i : Nat) : List T := (R[i]?.map (·.2.2)).getD []
def numT (R : List (RowT T)) (i j : Nat) : T := (rowOf R i)[j]?.getD F.z
def setRow (R : List (RowT T)) (i : Nat) (L : List T) : List (RowT T) := R.modify i fun r => (r.1, r.2.1, L)
def swapR {α : Type} (R : List α) (i j : Nat) : List α :=
  match R[i]?, R[j]? with
  | some a, some b => (R.set i b).set j a
  | _, _ => R
def divRow (d : T) (o : Nat) (L : List T) : List T := L.mapIdx fun j x => if o ≤ j then (if F.isZ x = true then x else F.div x d) else x
def clrRow (o : Nat) (L P : List T) : List T :=
  if F.isZ (L[o]?.getD F.z) = true then L else L.mapIdx fun j y => if o ≤ j then (if F.isZ (P[j]?.getD F.z) = true then y else F.sub y (F.mul (L[o]?.getD F.z) (P[j]?.getD F.z))) else y
def clrTo (top o : Nat) (P : List T) (R : List (RowT T)) (k : Nat) : List (RowT T) := R.mapIdx fun i r => if i < k ∧ i ≠ top then (r.1, r.2.1, clrRow F o r.2.2 P) else r
def firstRow (R : List (RowT T)) (j : Nat) : Nat → Nat → Option Nat
  | 0, _ => none
  | k + 1, i => if F.isZ (numT F R i j) = true then firstRow R j k (i + 1) else some i
def pivF (R : List (RowT T)) (top : Nat) : Nat → Nat → Option (Nat × Nat)
  | 0, _ => none
  | k + 1, j => match firstRow F R j (R.length - top) top with
    | some i => some (i, j)
    | none => pivF R top k (j + 1)
structure ElS (T : Type) where
  rows : List (RowT T)
  cols : List Nat
  piv : List T
  odd : Bool
def elSwap (row : Nat) (S : ElS T) : List (RowT T) := if row = S.cols.length then S.rows else swapR S.rows row S.cols.length
def elPiv (row col : Nat) (S : ElS T) : T := numT F (elSwap row S) S.cols.length col
def elDiv (row col : Nat) (S : ElS T) : List (RowT T) := setRow (elSwap row S) S.cols.length (divRow F (elPiv F row col S) col (rowOf (elSwap row S) S.cols.length))
def elStep (row col : Nat) (S : ElS T) : ElS T :=
  ⟨clrTo F S.cols.length col (rowOf (elDiv F row col S) S.cols.length) (elDiv F row col S) (elDiv F row col S).length, S.cols ++ [col], S.piv ++ [elPiv F row col S], if row = S.cols.length then S.odd else !S.odd⟩
def elGo (n : Nat) : Nat → Nat → ElS T → ElS T
  | 0, _, S => S
  | k + 1, from_, S => match pivF F S.rows S.cols.length (n - from_) from_ with
    | none => S
    | some (row, col) => elGo n k (col + 1) (elStep F row col S)
end
section
variable {T : Type} {F : Fd T} {R : List (RowT T)}
theorem firstRow_some {j i : Nat} (k s : Nat) (h1 : s ≤ i) (h2 : i < s + k) (h3 : F.isZ (numT F R i j) = false) (h4 : ∀ t, s ≤ t → t < i → F.isZ (numT F R t j) = true) : firstRow F R j k s = some i := by
  induction k generalizing s with
  | zero => omega
  | succ k ih =>
    unfold firstRow
    by_cases hs : s = i
    · subst hs; rw [if_neg (by rw [h3]; simp)]
    · rw [if_pos (h4 s (Nat.le_refl _) (by omega))]
      exact ih (s + 1) (by omega) (by omega) (fun t a b => h4 t (by omega) b)
theorem firstRow_none {j : Nat} (k s : Nat) (h4 : ∀ t, s ≤ t → t < s + k → F.isZ (numT F R t j) = true) : firstRow F R j k s = none := by
  induction k generalizing s with
  | zero => rfl
  | succ k ih =>
    unfold firstRow
    rw [if_pos (h4 s (Nat.le_refl _) (by omega))]
    exact ih (s + 1) (fun t a b => h4 t (by omega) (by omega))
theorem pivF_some {top i j : Nat} (k s : Nat) (h1 : s ≤ j) (h2 : j < s + k) (ht : top ≤ i) (hi : i < R.length) (h3 : F.isZ (numT F R i j) = false) (h4 : ∀ t, top ≤ t → t < i → F.isZ (numT F R t j) = true)
    (h5 : ∀ c, s ≤ c → c < j → ∀ t, top ≤ t → t < R.length → F.isZ (numT F R t c) = true) : pivF F R top k s = some (i, j) := by
  induction k generalizing s with
  | zero => omega
  | succ k ih =>
    unfold pivF
    by_cases hs : s = j
    · subst hs; rw [firstRow_some _ _ ht (by omega) h3 h4]
    · rw [firstRow_none _ _ (fun t a b => h5 s (Nat.le_refl _) (by omega) t a (by omega))]
      exact ih (s + 1) (by omega) (by omega) (fun c a b => h5 c (by omega) b)
theorem pivF_none {top : Nat} (k s : Nat) (h5 : ∀ c, s ≤ c → c < s + k → ∀ t, top ≤ t → t < R.length → F.isZ (numT F R t c) = true) : pivF F R top k s = none := by
  induction k generalizing s with
  | zero => rfl
  | succ k ih =>
    unfold pivF
    rw [firstRow_none _ _ (fun t a b => h5 s (Nat.le_refl _) (by omega) t a (by omega))]
    exact ih (s + 1) (fun c a b => h5 c (by omega) (by omega))

theorem swapR_some {α : Type} {R : List α} {i j : Nat} {a b : α} (hi : R[i]? = some a) (hj : R[j]? = some b) : swapR R i j = (R.set i b).set j a := by
  unfold swapR; rw [hi, hj]
theorem swapR_length {α : Type} (R : List α) (i j : Nat) : (swapR R i j).length = R.length := by
  unfold swapR; split <;> simp
theorem swapR_mem {α : Type} {R : List α} {i j : Nat} {x : α} (h : x ∈ swapR R i j) : x ∈ R := by
  unfold swapR at h
  split at h
  · rename_i a b ha hb
    rcases List.mem_or_eq_of_mem_set h with h | rfl
    · rcases List.mem_or_eq_of_mem_set h with h | rfl
      · exact h
      · exact List.mem_of_getElem? hb
    · exact List.mem_of_getElem? ha
  · exact h
theorem swapR_perm {α : Type} (R : List α) (i j : Nat) : List.Perm (swapR R i j) R := by
  unfold swapR
  split
  · rename_i a b ha hb
    obtain ⟨hi, rfl⟩ := List.getElem?_eq_some_iff.1 ha
    obtain ⟨hj, rfl⟩ := List.getElem?_eq_some_iff.1 hb
    exact List.set_set_perm hi hj
  · exact List.Perm.refl _
theorem swapR_top {α : Type} {R : List α} {i j : Nat} {a b : α} (hi : R[i]? = some a) (hj : R[j]? = some b) : (swapR R i j)[j]? = some a := by
  rw [swapR_some hi hj, List.getElem?_set_self (by rw [List.length_set]; exact (List.getElem?_eq_some_iff.1 hj).1)]
theorem setRow_length (i : Nat) (L : List T) : (setRow R i L).length = R.length := by simp [setRow]
theorem setRow_at {i : Nat} {r : RowT T} (h : R[i]? = some r) (L : List T) : (setRow R i L)[i]? = some (r.1, r.2.1, L) := by simp [setRow, h]
theorem setRow_other {i k : Nat} (h : i ≠ k) (L : List T) : (setRow R i L)[k]? = R[k]? := by simp [setRow, h]
theorem setRow_blocks (i : Nat) (L : List T) : (setRow R i L).map (·.1) = R.map (·.1) := by
  apply List.ext_getElem?
  intro k
  simp only [setRow, List.getElem?_map, List.getElem?_modify]
  cases R[k]? with
  | none => rfl
  | some r => by_cases h : i = k <;> simp [h]
theorem setRow_values (i : Nat) (L : List T) {β : Type} (f : Nat → Nat → β) : (setRow R i L).map (fun r => f r.1 r.2.1) = R.map (fun r => f r.1 r.2.1) := by
  apply List.ext_getElem?
  intro k
  simp only [setRow, List.getElem?_map, List.getElem?_modify]
  cases R[k]? with
  | none => rfl
  | some r => by_cases h : i = k <;> simp [h]
theorem setRow_mem {i : Nat} {L : List T} {x : RowT T} (h : x ∈ setRow R i L) : (x ∈ R) ∨ (∃ r ∈ R, R[i]? = some r ∧ x = (r.1, r.2.1, L)) := by
  obtain ⟨k, hk⟩ := List.mem_iff_getElem?.1 h
  by_cases h : i = k
  · subst h
    cases hr : R[i]? with
    | none => simp [setRow, hr] at hk
    | some r => rw [setRow_at hr] at hk; exact .inr ⟨r, List.mem_of_getElem? hr, rfl, (Option.some.inj hk).symm⟩
  · rw [setRow_other h] at hk; exact .inl (List.mem_of_getElem? hk)
theorem setRow_same {i : Nat} {r : RowT T} (h : R[i]? = some r) : setRow R i r.2.2 = R := by
  apply List.ext_getElem?
  intro k
  by_cases hk : i = k
  · subst hk; rw [setRow_at h, h]
  · rw [setRow_other hk]
theorem rowOf_eq {i : Nat} {r : RowT T} (h : R[i]? = some r) : rowOf R i = r.2.2 := by unfold rowOf; rw [h]; rfl

variable {top o : Nat} {P : List T}
theorem clrTo_length (k : Nat) : (clrTo F top o P R k).length = R.length := by simp [clrTo]
theorem clrTo_zero : clrTo F top o P R 0 = R := by
  apply List.ext_getElem?
  intro k
  simp only [clrTo, List.getElem?_mapIdx, Nat.not_lt_zero, false_and, if_false]
  cases R[k]? <;> rfl
theorem clrTo_next (k : Nat) : (clrTo F top o P R k)[k]? = R[k]? := by
  simp only [clrTo, List.getElem?_mapIdx, Nat.lt_irrefl, false_and, if_false]
  cases R[k]? <;> rfl
theorem clrTo_top (k : Nat) : (clrTo F top o P R k)[top]? = R[top]? := by
  simp only [clrTo, List.getElem?_mapIdx, ne_eq, not_true, and_false, if_false]
  cases R[top]? <;> rfl
theorem clrTo_skip : clrTo F top o P R (top + 1) = clrTo F top o P R top := by
  apply List.ext_getElem?
  intro k
  simp only [clrTo, List.getElem?_mapIdx]
  cases R[k]? with
  | none => rfl
  | some r =>
    simp only [Option.map_some, Option.some.injEq]
    by_cases h : k < top
    · rw [if_pos ⟨by omega, by omega⟩, if_pos ⟨h, by omega⟩]
    · rw [if_neg (by omega), if_neg (by omega)]
theorem clrTo_succ {k : Nat} (hk : k ≠ top) {r : RowT T} (hr : R[k]? = some r) : setRow (clrTo F top o P R k) k (clrRow F o r.2.2 P) = clrTo F top o P R (k + 1) := by
  apply List.ext_getElem?
  intro j
  by_cases hj : k = j
  · subst hj
    rw [setRow_at (clrTo_next k ▸ hr)]
    simp only [clrTo, List.getElem?_mapIdx, hr, Option.map_some, Option.some.injEq]
    rw [if_pos ⟨by omega, hk⟩]
  · rw [setRow_other hj]
    simp only [clrTo, List.getElem?_mapIdx]
    cases R[j]? with
    | none => rfl
    | some q =>
      simp only [Option.map_some, Option.some.injEq]
      by_cases h : j < k ∧ j ≠ top
      · rw [if_pos h, if_pos ⟨by omega, h.2⟩]
      · rw [if_neg h, if_neg (by omega)]
theorem divRow_length (d : T) (o : Nat) (L : List T) : (divRow F d o L).length = L.length := by simp [divRow]
theorem clrRow_length (o : Nat) (L P : List T) : (clrRow F o L P).length = L.length := by unfold clrRow; split <;> simp
end
/-- f at the first k rows -/
def mapTo {T : Type} (f : List T → List T) (R : List (RowT T)) (k : Nat) : List (RowT T) := R.mapIdx fun i r => if i < k then (r.1, r.2.1, f r.2.2) else r
section
variable {T : Type} {f : List T → List T} {R : List (RowT T)}
theorem mapTo_length (k : Nat) : (mapTo f R k).length = R.length := by simp [mapTo]
theorem mapTo_zero : mapTo f R 0 = R := by
  apply List.ext_getElem?
  intro k
  simp only [mapTo, List.getElem?_mapIdx, Nat.not_lt_zero, if_false]
  cases R[k]? <;> rfl
theorem mapTo_next (k : Nat) : (mapTo f R k)[k]? = R[k]? := by
  simp only [mapTo, List.getElem?_mapIdx, Nat.lt_irrefl, if_false]
  cases R[k]? <;> rfl
theorem mapTo_succ {k : Nat} {r : RowT T} (hr : R[k]? = some r) : setRow (mapTo f R k) k (f r.2.2) = mapTo f R (k + 1) := by
  apply List.ext_getElem?
  intro j
  by_cases hj : k = j
  · subst hj
    rw [setRow_at (mapTo_next k ▸ hr)]
    simp only [mapTo, List.getElem?_mapIdx, hr, Option.map_some, Option.some.injEq]
    rw [if_pos (by omega)]
  · rw [setRow_other hj]
    simp only [mapTo, List.getElem?_mapIdx]
    cases R[j]? with
    | none => rfl
    | some q =>
      simp only [Option.map_some, Option.some.injEq]
      by_cases h : j < k
      · rw [if_pos h, if_pos (by omega)]
      · rw [if_neg h, if_neg (by omega)]
theorem mapTo_all : mapTo f R R.length = R.map fun r => (r.1, r.2.1, f r.2.2) := by
  apply List.ext_getElem?
  intro j
  simp only [mapTo, List.getElem?_mapIdx, List.getElem?_map]
  rcases Nat.lt_or_ge j R.length with h | h
  · rw [List.getElem?_eq_getElem h]; simp [h]
  · rw [List.getElem?_eq_none h]; rfl
theorem mapTo_blocks (k : Nat) : (mapTo f R k).map (·.1) = R.map (·.1) := by
  apply List.ext_getElem?
  intro j
  simp only [mapTo, List.getElem?_map, List.getElem?_mapIdx]
  cases R[j]? with
  | none => rfl
  | some r => by_cases h : j < k <;> simp [h]
/-- the list of the null space that has 1 in a column, where there is no pivot -/
def nsSet (F : Fd T) (zero : T) (S : ElS T) (col k : Nat) (L : List T) : List T := (List.range k).foldl (fun l i => l.set (S.cols[i]?.getD 0) (F.sub zero (numT F S.rows i col))) L
def nsList (F : Fd T) (zero one : T) (n : Nat) (S : ElS T) (col : Nat) : List T := (nsSet F zero S col S.cols.length ((List.replicate n zero).set col one)).reverse
def nsBasis (F : Fd T) (zero one : T) (n : Nat) (S : ElS T) : Nat → List (List T)
  | 0 => []
  | k + 1 => nsBasis F zero one n S k ++ (if S.cols.contains (n - 1 - k) = true then [] else [nsList F zero one n S (n - 1 - k)])
theorem nsSet_length (F : Fd T) (zero : T) (S : ElS T) (col k : Nat) (L : List T) : (nsSet F zero S col k L).length = L.length := by
  induction k with
  | zero => rfl
  | succ k ih => unfold nsSet at *; rw [List.range_succ, List.foldl_append]; simp [ih]
theorem nsSet_succ (F : Fd T) (zero : T) (S : ElS T) (col k : Nat) (L : List T) : nsSet F zero S col (k + 1) L = (nsSet F zero S col k L).set (S.cols[k]?.getD 0) (F.sub zero (numT F S.rows k col)) := by
  unfold nsSet; rw [List.range_succ, List.foldl_append]; rfl
end
section
variable {T : Type} {F : Fd T} {R : List (RowT T)}
theorem firstRow_bounds {j i : Nat} (k s : Nat) (h : firstRow F R j k s = some i) : s ≤ i ∧ i < s + k ∧ F.isZ (numT F R i j) = false := by
  induction k generalizing s with
  | zero => cases h
  | succ k ih =>
    unfold firstRow at h
    split at h
    · have := ih (s + 1) h; exact ⟨by omega, by omega, this.2.2⟩
    · rename_i hz
      obtain rfl := Option.some.inj h
      exact ⟨Nat.le_refl _, by omega, by simpa using hz⟩
theorem pivF_bounds {top i j : Nat} (k s : Nat) (h : pivF F R top k s = some (i, j)) : s ≤ j ∧ j < s + k ∧ top ≤ i ∧ i < R.length ∧ F.isZ (numT F R i j) = false := by
  induction k generalizing s with
  | zero => cases h
  | succ k ih =>
    unfold pivF at h
    split at h
    · rename_i x hx
      simp only [Option.some.injEq, Prod.mk.injEq] at h
      obtain ⟨rfl, rfl⟩ := h
      have := firstRow_bounds _ _ hx
      exact ⟨Nat.le_refl _, by omega, this.1, by omega, this.2.2⟩
    · have := ih (s + 1) h; exact ⟨by omega, by omega, this.2.2⟩
theorem elGo_cols {n : Nat} (k fr : Nat) (S : ElS T) (hfr : fr ≤ n) (h : ∀ c ∈ S.cols, c < fr) : ∀ c ∈ (elGo F n k fr S).cols, c < n := by
  induction k generalizing fr S with
  | zero => exact fun c hc => Nat.lt_of_lt_of_le (h c hc) hfr
  | succ k ih =>
    unfold elGo
    split
    · exact fun c hc => Nat.lt_of_lt_of_le (h c hc) hfr
    · rename_i row col hp
      have hb := pivF_bounds _ _ hp
      refine ih (col + 1) _ (by omega) ?_
      intro c hc
      simp only [elStep, List.mem_append, List.mem_singleton] at hc
      rcases hc with hc | rfl
      · have := h c hc; omega
      · omega
end
end Go.Proofs.YtneafcdfnhnpnaaGreatDoor
/- Matrices over the residues: how they stand while elimination works on them. -/
namespace Go.Proofs.YtneafcdfnhnpnaaGreatDoor
open Go.RowKit

noncomputable def resF (p : Int) : Fd Int := ⟨0, fun x => x == 0, fun a b => (a - b) % p, fun a b => a * b % p, overI p⟩
theorem numI_numT (p : Int) (R : List RowI) (i j : Nat) : numT (resF p) R i j = numI R i j := rfl
theorem divI_row (p d : Int) (o n : Nat) (L : List Int) (h : o + n = L.length) : mapFrom (divI p d) o n L = divRow (resF p) d o L := by
  unfold mapFrom divRow
  apply List.ext_getElem?
  intro j
  simp only [List.getElem?_mapIdx]
  rcases Nat.lt_or_ge j L.length with hl | hl
  · rw [List.getElem?_eq_getElem hl]
    simp only [Option.map_some, Option.some.injEq]
    by_cases h2 : o ≤ j
    · rw [if_pos ⟨h2, by omega⟩, if_pos h2]; simp [divI, resF]
    · rw [if_neg (by omega), if_neg h2]
  · rw [List.getElem?_eq_none hl]; rfl
theorem clearI_row (p : Int) (o n : Nat) (L P : List Int) (h : o + n = L.length) : clearI p o n L o P = clrRow (resF p) o L P := by
  unfold clearI clrRow
  have hz : (resF p).z = 0 := rfl
  have hi : ∀ x, ((resF p).isZ x = true) = (x = 0) := fun x => by simp [resF]
  rw [hz]
  simp only [hi]
  split
  · rfl
  · unfold zipFrom
    apply List.ext_getElem?
    intro j
    simp only [List.getElem?_mapIdx]
    rcases Nat.lt_or_ge j L.length with hl | hl
    · rw [List.getElem?_eq_getElem hl]
      simp only [Option.map_some, Option.some.injEq]
      by_cases h2 : o ≤ j
      · rw [if_pos ⟨h2, by omega⟩, if_pos h2, show o + (j - o) = j by omega]; simp [subI, resF]
      · rw [if_neg (by omega), if_neg h2]
    · rw [List.getElem?_eq_none hl]; rfl

/-- all blocks that were there, but some, are as they were -/
structure ButS (s : List Nat) (w w' : World) : Prop where
  os : w'.os = w.os
  tape : w'.tape = w.tape
  output : w'.output = w.output
  size : w.heap.size ≤ w'.heap.size
  block : ∀ k, k < w.heap.size → k ∉ s → w'.heap[k]? = w.heap[k]?
section
variable {s : List Nat} {a b c : World}
theorem ButS.refl (s : List Nat) (w : World) : ButS s w w := ⟨rfl, rfl, rfl, Nat.le_refl _, fun _ _ _ => rfl⟩
theorem ButS.trans (h : ButS s a b) (k : ButS s b c) : ButS s a c :=
  ⟨k.os.trans h.os, k.tape.trans h.tape, k.output.trans h.output, Nat.le_trans h.size k.size, fun i hi hg => (k.block i (Nat.lt_of_lt_of_le hi h.size) hg).trans (h.block i hi hg)⟩
theorem ButS.of_below (h : Below a.heap.size a b) : ButS s a b := ⟨h.os, h.tape, h.output, h.size, fun i hi _ => h.block i hi⟩
theorem ButS.of_but {g : Nat} (h : But g a b) (hg : g ∈ s) : ButS s a b := ⟨h.os, h.tape, h.output, h.size, fun i hi hn => h.block i hi (fun e => hn (e ▸ hg))⟩
theorem ButS.below (h : ButS s a b) (k : Below b.heap.size b c) : ButS s a c := h.trans (ButS.of_below k)
theorem ButS.but {g : Nat} (h : ButS s a b) (k : But g b c) (hg : g ∈ s) : ButS s a c := h.trans (ButS.of_but k hg)
theorem ButS.setCell (h : ButS s a b) (p : Addr) (hp : p.block ∈ s) (u : Value) : ButS s a (b.setCell p u) :=
  h.trans ⟨rfl, rfl, rfl, by simp [World.setCell], fun k _ hg => Below.heap_setCell _ _ _ _ (fun e => hg (e ▸ hp))⟩
theorem ButS.setNew (h : ButS s a b) (p : Addr) (hp : a.heap.size ≤ p.block) (u : Value) : ButS s a (b.setCell p u) :=
  ⟨h.os, h.tape, h.output, Nat.le_trans h.size (by simp [World.setCell]), fun k hk hg => (Below.heap_setCell _ _ _ _ (by omega)).trans (h.block k hk hg)⟩
theorem ButS.drew (h : ButS s a b) : ButS s a b.drew := ⟨h.os, h.tape, h.output, h.size, h.block⟩
theorem ButS.drewN (h : ButS s a b) (n : Nat) : ButS s a (b.drewN n) := ⟨h.os, h.tape, h.output, h.size, h.block⟩
theorem ButS.alloc (h : ButS s a b) (o : Obj) : ButS s a (b.alloc o) := h.below ((Below.refl _ _).alloc (Nat.le_refl _) _)
theorem ButS.grown (h : ButS s a b) {row : Option Nat} (hg : b.grownBy c row) (hr : ∀ k, row = some k → a.heap.size ≤ k) : ButS s a c :=
  ⟨hg.os.trans h.os, hg.tape.trans h.tape, hg.output.trans h.output, Nat.le_trans h.size hg.size,
    fun i hi hs => (hg.block i (Nat.lt_of_lt_of_le hi h.size) (fun e => by have := hr i e.symm; omega)).trans (h.block i hi hs)⟩
theorem Own.grown {g : Nat} {t : TypeId} {cs : List Value} {row : Option Nat} (o : Own a g t cs) (hg : a.grownBy b row) (hr : row ≠ some g) : Own b g t cs :=
  (hg.block g o.lt (fun e => hr e.symm)).trans o
theorem oKeep {base : Nat} {e : TypeId} {size : Nat} {v : Value} {n : Nat} {xs : List Value} (h : a.ownsRow base e size v n xs) (hk : ∀ k, k < a.heap.size → v.ownBlock = some k → b.heap[k]? = a.heap[k]?) : b.ownsRow base e size v n xs := by
  refine ⟨h.1, ?_⟩
  rcases h.2 with hn | ⟨g, cap, cur, rfl, hb, hgg, rest⟩
  · exact .inl hn
  · exact .inr ⟨g, cap, cur, rfl, hb, (hk g (Array.getElem?_eq_some_iff.1 hgg).1 rfl).trans hgg, rest⟩
theorem oBelow {base : Nat} {e : TypeId} {size : Nat} {v : Value} {n : Nat} {xs : List Value} (h : a.ownsRow base e size v n xs) (hb : Below a.heap.size a b) : b.ownsRow base e size v n xs :=
  oKeep h fun k hk _ => hb.block k hk
theorem oBut {base : Nat} {e : TypeId} {size : Nat} {v : Value} {n : Nat} {xs : List Value} (h : a.ownsRow base e size v n xs) {g : Nat} (hb : But g a b) (hg : g < base) : b.ownsRow base e size v n xs :=
  oKeep h fun k hk hv => hb.block k hk (by have := (h.lt k hv).1; omega)
theorem oSet {base : Nat} {e : TypeId} {size : Nat} {v : Value} {n : Nat} {xs : List Value} (h : a.ownsRow base e size v n xs) (p : Addr) (hp : p.block < base) (u : Value) : (a.setCell p u).ownsRow base e size v n xs :=
  oKeep h fun k _ hv => Below.heap_setCell _ _ _ _ (by have := (h.lt k hv).1; omega)
end

theorem nodup_block {R : List RowI} (h : (R.map (·.1)).Nodup) {i j : Nat} {a b : RowI} (hi : R[i]? = some a) (hj : R[j]? = some b) (hij : i ≠ j) : a.1 ≠ b.1 := by
  intro e
  have h1 : (R.map (·.1))[i]? = some a.1 := by rw [List.getElem?_map, hi]; rfl
  have h2 : (R.map (·.1))[j]? = some a.1 := by rw [List.getElem?_map, hj, e]; rfl
  exact hij ((List.getElem?_inj (List.getElem?_eq_some_iff.1 h1).1 h).1 (h1.trans h2.symm))
section
variable {w w' : World} {g n : Nat} {R : List RowI}
theorem MxI.gne (h : MxI w g R n) {r : RowI} (hr : r ∈ R) : g ≠ r.1 := h.own.apart (h.row r hr).1 (by decide)
theorem MxI.setRow (h : MxI w g R n) {i : Nat} {r : RowI} (hr : R[i]? = some r) {L : List Int} (hO : Own w' r.1 2 (icells L)) (hl : L.length = n) (hb : But r.1 w w') : MxI w' g (setRow R i L) n := by
  refine ⟨?_, ?_, ?_⟩
  · have e : (Go.Proofs.YtneafcdfnhnpnaaGreatDoor.setRow R i L).map (rowV n) = R.map (rowV n) := setRow_values i L (fun b c => Value.slice (some ⟨b, 0, none⟩) n c)
    rw [e]
    exact h.own.but hb (h.gne (List.mem_of_getElem? hr))
  · intro x hx
    obtain ⟨k, hk⟩ := List.mem_iff_getElem?.1 hx
    by_cases hik : i = k
    · subst hik
      rw [setRow_at hr] at hk
      obtain rfl := Option.some.inj hk
      have := h.row r (List.mem_of_getElem? hr)
      exact ⟨hO, hl, this.2.2.1, this.2.2.2⟩
    · rw [setRow_other hik] at hk
      have := h.row x (List.mem_of_getElem? hk)
      exact ⟨this.1.but hb (nodup_block h.apart hk hr (fun e => hik e.symm)), this.2⟩
  · rw [setRow_blocks]; exact h.apart
theorem MxI.swap (h : MxI w g R n) {i j : Nat} {a b : RowI} (hi : R[i]? = some a) (hj : R[j]? = some b) : MxI ((w.setCell ⟨g, i, none⟩ (rowV n b)).setCell ⟨g, j, none⟩ (rowV n a)) g (swapR R i j) n := by
  refine ⟨?_, ?_, ?_⟩
  · rw [swapR_some hi hj, List.map_set, List.map_set]
    exact (h.own.put _ _).put _ _
  · intro x hx
    have hx := swapR_mem hx
    have := h.row x hx
    exact ⟨(this.1.other (p := ⟨g, i, none⟩) (fun e => h.gne hx e.symm) _).other (p := ⟨g, j, none⟩) (fun e => h.gne hx e.symm) _, this.2⟩
  · exact ((swapR_perm R i j).map _).nodup_iff.2 h.apart
theorem MxI.keep (h : MxI w g R n) (hk : ∀ k, k = g ∨ k ∈ R.map (·.1) → w'.heap[k]? = w.heap[k]?) : MxI w' g R n :=
  ⟨(hk g (.inl rfl)).trans h.own, fun r hr => ⟨(hk r.1 (.inr (List.mem_map_of_mem hr))).trans (h.row r hr).1, (h.row r hr).2⟩, h.apart⟩
theorem MxI.lt (h : MxI w g R n) {k : Nat} (hk : k = g ∨ k ∈ R.map (·.1)) : k < w.heap.size := by
  rcases hk with rfl | hk
  · exact h.own.lt
  · obtain ⟨r, hr, rfl⟩ := List.mem_map.1 hk
    exact (h.row r hr).1.lt
end
/-- all numbers of a matrix are residues -/
def InP (p : Int) (R : List RowI) : Prop := ∀ r ∈ R, ∀ x ∈ r.2.2, 0 ≤ x ∧ x < p
theorem InP.swap {p : Int} {R : List RowI} (h : InP p R) (i j : Nat) : InP p (swapR R i j) := fun r hr => h r (swapR_mem hr)
theorem InP.set {p : Int} {R : List RowI} (h : InP p R) (i : Nat) {L : List Int} (hL : ∀ x ∈ L, 0 ≤ x ∧ x < p) : InP p (setRow R i L) := by
  intro r hr
  rcases setRow_mem hr with hr | ⟨q, _, _, rfl⟩
  · exact h r hr
  · exact hL
theorem mapIdx_all {α : Type} {Q : α → Prop} {f : Nat → α → α} {L : List α} (h : ∀ j x, x ∈ L → Q (f j x)) : ∀ x ∈ L.mapIdx f, Q x := by
  intro x hx
  obtain ⟨k, hk⟩ := List.mem_iff_getElem?.1 hx
  rw [List.getElem?_mapIdx] at hk
  cases hL : L[k]? with
  | none => rw [hL] at hk; cases hk
  | some y => rw [hL] at hk; obtain rfl := Option.some.inj hk; exact h k y (List.mem_of_getElem? hL)
theorem divRow_in {p : Int} (hp : 0 < p) (d : Int) (o : Nat) {L : List Int} (h : ∀ x ∈ L, 0 ≤ x ∧ x < p) : ∀ x ∈ divRow (resF p) d o L, 0 ≤ x ∧ x < p := by
  refine mapIdx_all fun j x hx => ?_
  split
  · split
    · exact h x hx
    · exact ⟨Int.emod_nonneg _ (by omega), Int.emod_lt_of_pos _ hp⟩
  · exact h x hx
theorem clrRow_in {p : Int} (hp : 0 < p) (o : Nat) {L P : List Int} (h : ∀ x ∈ L, 0 ≤ x ∧ x < p) : ∀ x ∈ clrRow (resF p) o L P, 0 ≤ x ∧ x < p := by
  unfold clrRow
  split
  · exact h
  · refine mapIdx_all fun j x hx => ?_
    split
    · split
      · exact h x hx
      · exact ⟨Int.emod_nonneg _ (by omega), Int.emod_lt_of_pos _ hp⟩
    · exact h x hx
theorem oForm {w : World} {base : Nat} {e : TypeId} {size : Nat} {v : Value} {n : Nat} {xs : List Value} (h : w.ownsRow base e size v n xs) : ∃ A c, v = .slice A n c ∧ n ≤ c ∧ c ≤ maxLen := by
  rcases h.2 with ⟨rfl, rfl⟩ | ⟨g, cap, cur, rfl, _, _, h1, h2, _⟩
  · exact ⟨none, 0, rfl, Nat.le_refl _, by unfold maxLen; omega⟩
  · exact ⟨_, _, rfl, h1, h2⟩
theorem Own.four {w : World} {g : Nat} {t : TypeId} {a b c d : Value} (h : Own w g t [a, b, c, d]) :
    w.cell? ⟨g, 0, none⟩ = some a ∧ w.cell? ⟨g, 1, none⟩ = some b ∧ w.cell? ⟨g, 2, none⟩ = some c ∧ w.cell? ⟨g, 3, none⟩ = some d ∧ w.frozen? ⟨g, 0, none⟩ = false ∧ w.frozen? ⟨g, 1, none⟩ = false ∧ w.frozen? ⟨g, 2, none⟩ = false ∧ w.frozen? ⟨g, 3, none⟩ = false :=
  ⟨h.cell 0, h.cell 1, h.cell 2, h.cell 3, h.free 0, h.free 1, h.free 2, h.free 3⟩
end Go.Proofs.YtneafcdfnhnpnaaGreatDoor
/- Contracts: compositions and inverses of permutations. -/
namespace Go.Proofs.YtneafcdfnhnpnaaGreatDoor
open Go.RowKit

theorem firstErr_two (a b : Int) : firstErr [a, b] = if a = 0 then b else a := by
  unfold firstErr firstErr firstErr
  by_cases h : a = 0
  · rw [if_pos h, if_pos h]; split <;> omega
  · rw [if_neg h, if_neg h]
theorem firstErr_three (a b c : Int) : firstErr [a, b, c] = if firstErr [a, b] = 0 then c else firstErr [a, b] := by
  simp only [firstErr]
  by_cases h : a = 0
  · by_cases h2 : b = 0
    · simp [h, h2]; exact fun h => h.symm
    · simp [h, h2]
  · simp [h]
/-- the error of a composition -/
def compErr (p q : List Int) : Int := if firstErr [permErr p, permErr q] = 0 then (if p.length = q.length then 0 else 2) else firstErr [permErr p, permErr q]
def comp (p q : List Int) : List Int := q.map fun x => p[x.toNat]?.getD 0
/-- the elements of a list from the first k of another one -/
def MapInv (f : Int → Int) (q L : List Int) (k : Nat) : Prop := L.length = q.length ∧ L.take k = (q.take k).map f
theorem MapInv.start (f : Int → Int) (q : List Int) (n : Nat) (h : n = q.length) : MapInv f q (List.replicate n 0) 0 := ⟨by simp [h], by simp⟩
theorem MapInv.step {f : Int → Int} {q L : List Int} {k : Nat} {y : Int} (h : MapInv f q L k) (hk : k < q.length) (hy : y = f (q[k]?.getD 0)) : MapInv f q (L.set k y) (k + 1) := by
  obtain ⟨h1, h2⟩ := h
  refine ⟨by simp [h1], ?_⟩
  rw [take_succ_int q k hk, List.map_append, ← h2, take_succ_int _ k (by simp; omega), List.take_set_of_le (Nat.le_refl _)]
  congr 1
  simp [h1, hk, hy]
theorem MapInv.last {f : Int → Int} {q L : List Int} (h : MapInv f q L q.length) : L = q.map f := by
  obtain ⟨h1, h2⟩ := h
  rw [← h1, List.take_of_length_le (Nat.le_refl _), h1, List.take_of_length_le (Nat.le_refl _)] at h2
  exact h2

def listPost (c : Int) (l : List Int) (w : World) (e : Ending) (w' : World) : Prop :=
  (if c = 0 then ∃ v, e = .returned (.tuple #[v, .int .i64 0]) ∧ Sl w' 1 v (icells l) else e = .returned (.tuple #[.slice none 0 0, .int .i64 c])) ∧ Below w.heap.size w w'

set_option maxRecDepth 100000 in
set_option maxHeartbeats 2000000 in
theorem Compose_c (v u : Value) (p q : List Int) (w : World) (hv : Sl w 1 v (icells p)) (hu : Sl w 1 u (icells q)) :
    Calls Tryz.prog 46 #[v, u] w (listPost (compErr p q) (comp p q) w) := by
  obtain ⟨A, c, rfl, hc1, hc2⟩ := hv.form
  obtain ⟨B, d, rfl, gc1, gc2⟩ := hu.form
  simp only [icells_length] at hc1 hv gc1 hu ⊢
  have hcode : compErr p q = compErr p q := rfl
  conv at hcode => rhs; unfold compErr
  have CP := Lib.hid (fun W h => CheckPerm_c (.slice A p.length c) p W h)
  have CQ := Lib.hid (fun W h => CheckPerm_c (.slice B q.length d) q W h)
  by_cases he : firstErr [permErr p, permErr q] = 0
  · have hp0 : permErr p = 0 ∧ permErr q = 0 := by rw [firstErr_two] at he; split at he <;> omega
    have hPp : PermL p ∧ p.length ≤ 256 := by have := hp0.1; unfold permErr at this; split at this; omega; split at this; exact ⟨by assumption, by omega⟩; omega
    have hPq : PermL q ∧ q.length ≤ 256 := by have := hp0.2; unfold permErr at this; split at this; omega; split at this; exact ⟨by assumption, by omega⟩; omega
    rw [if_pos he] at hcode
    have He := Lib.hid he
    by_cases hl : p.length = q.length
    · rw [if_pos hl] at hcode
      have Hcode := Lib.hid hcode
      have hb : ((p.length : Int) != (q.length : Int)) = false := by rw [hl]; simp
      have Hl := Lib.hid hl
      clear hcode he hp0 hl
      have hmk := fun W => make_ints W p.length (by omega)
      go_enter Tryz.func46, Tryz.ntmps46
      go_wp2_with fail
      refine (CP.out _ hv).mono ?_
      rintro e w1 ⟨rfl, hB1⟩
      go_wp2_with fail
      refine (CQ.out _ (hu.below hB1)).mono ?_
      rintro e w2 ⟨rfl, hB2⟩
      have hW2 := (hB1.trans (hB2.mono hB1.size)).alloc (Nat.le_trans hB1.size hB2.size) (.cells #[.int .i64 (permErr p), .int .i64 (permErr q)] 24)
      have hv2 := hv.below hW2
      have hu2 := hu.below hW2
      have HW2 := Lib.hid hW2
      go_wp2_with (go_at_call 111; refine (first2_c _ _ _ _).mono ?_; rintro e w' ⟨rfl, rfl⟩; rw [He.out])
      have hg : w.heap.size ≤ w2.heap.size := Nat.le_trans hB1.size hB2.size
      have hO0 := Own.make (w2.alloc (.cells #[.int .i64 (permErr p), .int .i64 (permErr q)] 24)) 3 (icells (List.replicate p.length 0))
      simp only [World.size_alloc] at hO0
      have hB0 := HW2.out.alloc (by simp; omega) (.cells (icells (List.replicate p.length 0)).toArray 3)
      clear hv2 hu2 hW2
      go_loopw [8, 9, 29] (fun _ _ i wr => ∃ (k : Nat) (L : List Int), i = .int .i64 k ∧ k ≤ q.length ∧ Hid (MapInv (fun x => p[x.toNat]?.getD 0) q L k) ∧ Own wr (w2.heap.size + 1) 3 (icells L) ∧ Below w.heap.size w wr) (fun _ _ i _ => q.length - (intOf i).toNat)
      case atStart => exact ⟨0, _, rfl, by omega, Lib.hid (MapInv.start _ q _ Hl.out), hO0, hB0⟩
      case round =>
        clear hO0 hB0
        obtain ⟨k, L, rfl, hk, hI, hO, hB⟩ := hrel
        have hLl : L.length = q.length := hI.out.1
        by_cases hlt : k < q.length
        · obtain ⟨b1, off1, rfl, hbb1, hcell1⟩ := hu.at_ (k := k) (by rw [icells_length]; omega)
          have hck1 := (hB.cell (p := ⟨b1, off1 + k, none⟩) hbb1).trans ((hcell1 k (by rw [icells_length]; omega)).trans (icells_at q k hlt))
          have hx := hPq.1.1 (q[k]?.getD 0) (by rw [List.getElem?_eq_getElem hlt]; exact List.getElem_mem hlt)
          have hst := fun y hy => Lib.hid (hI.out.step (y := y) hlt hy)
          generalize q[k]?.getD 0 = x at *
          obtain ⟨j, rfl⟩ := Int.eq_ofNat_of_zero_le hx.1
          have hjp : j < p.length := by have := Hl.out; omega
          obtain ⟨b0, off, rfl, hbb, hcell⟩ := hv.at_ (k := j) (by rw [icells_length]; omega)
          have hck := (hB.cell (p := ⟨b0, off + j, none⟩) hbb).trans ((hcell j (by rw [icells_length]; omega)).trans (icells_at p j hjp))
          have hs2 := hst (p[j]?.getD 0) (by simp)
          generalize p[j]?.getD 0 = y at *
          have hck2 := (hO.cell k).trans (icells_at L k (by omega))
          have hfr := hO.free k
          have hkp : k < p.length := by have := Hl.out; omega
          clear hcell hcell1 hx hst hLl hv hu
          go_wp2
          refine ⟨⟨k + 1, _, by go_num, by omega, hs2, ?_, hB.setCell (by simp; omega) _⟩, by simp [intOf]; omega⟩
          rw [← icells_set]; exact hO.put k _
        · have hkk : k = q.length := by omega
          subst hkk
          have hval := Lib.hid hI.out.last
          have hsl := Lib.hid (hO.sl p.length (by rw [icells_length, hLl, Hl.out]) (by omega))
          clear hLl
          go_wp2
          go_ret2
          refine ⟨?_, hB⟩
          rw [if_pos Hcode.out]
          refine ⟨_, rfl, ?_⟩
          rw [show icells (comp p q) = icells L from by rw [hval.out]; rfl]
          exact hsl.out
    · rw [if_neg hl] at hcode
      have Hcode := Lib.hid hcode
      have hb : ((p.length : Int) != (q.length : Int)) = true := by simpa using (by omega : ¬ (p.length : Int) = q.length)
      clear hcode he hp0 hl
      go_enter Tryz.func46, Tryz.ntmps46
      go_wp2_with fail
      refine (CP.out _ hv).mono ?_
      rintro e w1 ⟨rfl, hB1⟩
      go_wp2_with fail
      refine (CQ.out _ (hu.below hB1)).mono ?_
      rintro e w2 ⟨rfl, hB2⟩
      go_wp2_with (go_at_call 111; refine (first2_c _ _ _ _).mono ?_; rintro e w' ⟨rfl, rfl⟩; rw [He.out])
      go_ret2
      refine ⟨by rw [Hcode.out]; rfl, (hB1.trans (hB2.mono hB1.size)).alloc (Nat.le_trans hB1.size hB2.size) _⟩
  · rw [if_neg he] at hcode
    have Hcode := Lib.hid hcode
    clear hcode
    have hb : (firstErr [permErr p, permErr q] != 0) = true := by simpa using he
    generalize hE : firstErr [permErr p, permErr q] = E at *
    have HE := Lib.hid hE
    have Hne := Lib.hid he
    clear hE he
    go_enter Tryz.func46, Tryz.ntmps46
    go_wp2_with fail
    refine (CP.out _ hv).mono ?_
    rintro e w1 ⟨rfl, hB1⟩
    go_wp2_with fail
    refine (CQ.out _ (hu.below hB1)).mono ?_
    rintro e w2 ⟨rfl, hB2⟩
    go_wp2_with (go_at_call 111; refine (first2_c _ _ _ _).mono ?_; rintro e w' ⟨rfl, rfl⟩; rw [HE.out])
    go_ret2
    refine ⟨by rw [Hcode.out, if_neg Hne.out]; rfl, (hB1.trans (hB2.mono hB1.size)).alloc (Nat.le_trans hB1.size hB2.size) _⟩

end Go.Proofs.YtneafcdfnhnpnaaGreatDoor
