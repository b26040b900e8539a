/- Plain mathematics of numbers as lists of words of 64 bits, the lowest word first. -/
import Derived.IntWalk
import Derived.Test.YtneafcdfnhnpnaaGreatDoorProg
import Derived.WalkKit
import Derived.WalkSpells
import Derived.WalkLawsBesides
import Derived.Deep.QuietTactic
import Derived.BigQuiet
import Derived.Deep.Draws
import Derived.WalkSmall
import Derived.Laws.OwnMore
import Derived.Lib.Hide
import Derived.Shelf.Spec.BitsCarry
import Derived.Deep.OwnRows
import Derived.Laws.Rows
import Derived.Deep.LoopGhost
import Derived.Deep.RegionWith
namespace Go.Proofs.YtneafcdfnhnpnaaGreatDoor

/-- one more than the greatest word -/
abbrev WB : Nat := 18446744073709551616
def wval : List Nat → Nat
  | [] => 0
  | x :: r => x + WB * wval r
def wok (ws : List Nat) : Prop := ∀ x ∈ ws, x < WB
/-- the words without zeros at the end -/
def wtrim (ws : List Nat) : List Nat := (ws.reverse.dropWhile (· == 0)).reverse
def wnorm (ws : List Nat) : Prop := wtrim ws = ws

theorem wtrim_concat_zero (l : List Nat) : wtrim (l ++ [0]) = wtrim l := by simp [wtrim]
theorem wtrim_concat (l : List Nat) (x : Nat) (h : x ≠ 0) : wtrim (l ++ [x]) = l ++ [x] := by simp [wtrim, h]
theorem wtrim_nil : wtrim [] = [] := rfl
theorem take_succ_nat (ws : List Nat) (k : Nat) (hk : k < ws.length) : ws.take (k + 1) = ws.take k ++ [ws[k]?.getD 0] := by
  rw [List.take_add_one, List.getElem?_eq_getElem hk]; rfl
theorem snoc_ind {P : List Nat → Prop} (h0 : P []) (h1 : ∀ l x, P l → P (l ++ [x])) (l : List Nat) : P l := by
  rw [← List.reverse_reverse l]
  induction l.reverse with
  | nil => exact h0
  | cons x r ih => rw [List.reverse_cons]; exact h1 _ _ ih
theorem wval_append (a b : List Nat) : wval (a ++ b) = wval a + WB ^ a.length * wval b := by
  induction a with
  | nil => simp [wval]
  | cons x r ih =>
    simp only [List.cons_append, wval, ih, List.length_cons, Nat.pow_succ]
    rw [Nat.mul_add, ← Nat.mul_assoc, Nat.mul_comm WB (_ ^ _), Nat.add_assoc]
theorem wval_concat (l : List Nat) (x : Nat) : wval (l ++ [x]) = wval l + WB ^ l.length * x := by rw [wval_append]; simp [wval]
theorem wtrim_val (ws : List Nat) : wval (wtrim ws) = wval ws := by
  refine snoc_ind (P := fun ws => wval (wtrim ws) = wval ws) rfl (fun l x ih => ?_) ws
  by_cases h : x = 0
  · subst h; rw [wtrim_concat_zero, ih, wval_append]; simp [wval]
  · rw [wtrim_concat l x h]
theorem wtrim_norm (ws : List Nat) : wnorm (wtrim ws) := by
  refine snoc_ind (P := fun ws => wnorm (wtrim ws)) rfl (fun l x ih => ?_) ws
  by_cases h : x = 0
  · subst h; rw [wtrim_concat_zero]; exact ih
  · unfold wnorm; rw [wtrim_concat l x h, wtrim_concat l x h]
theorem wok_append {a b : List Nat} : wok (a ++ b) ↔ wok a ∧ wok b := by
  unfold wok; simp only [List.mem_append]
  exact ⟨fun h => ⟨fun x hx => h x (.inl hx), fun x hx => h x (.inr hx)⟩, fun h x hx => hx.elim (h.1 x) (h.2 x)⟩
theorem wok_nil : wok [] := by unfold wok; simp
theorem wok_single {x : Nat} : wok [x] ↔ x < WB := by unfold wok; simp
theorem wok_take {ws : List Nat} (h : wok ws) (k : Nat) : wok (ws.take k) := fun x hx => h x (List.mem_of_mem_take hx)
theorem wok_get {ws : List Nat} (h : wok ws) (k : Nat) : ws[k]?.getD 0 < WB := by
  rcases Nat.lt_or_ge k ws.length with hk | hk
  · rw [List.getElem?_eq_getElem hk]; exact h _ (List.getElem_mem hk)
  · rw [List.getElem?_eq_none hk]; simp
theorem wtrim_ok {ws : List Nat} (h : wok ws) : wok (wtrim ws) := by
  intro x hx
  apply h
  unfold wtrim at hx
  rw [List.mem_reverse] at hx
  exact List.mem_reverse.1 ((List.dropWhile_sublist _).mem hx)
theorem wtrim_length_le (ws : List Nat) : (wtrim ws).length ≤ ws.length := by
  unfold wtrim
  rw [List.length_reverse]
  have := (List.dropWhile_sublist (fun x => x == 0) (l := ws.reverse)).length_le
  simpa using this
theorem wval_lt {ws : List Nat} (h : wok ws) : wval ws < WB ^ ws.length := by
  induction ws with
  | nil => simp [wval]
  | cons x r ih =>
    have hx := h x (by simp)
    have hr := ih (fun y hy => h y (by simp [hy]))
    simp only [wval, List.length_cons, Nat.pow_succ]
    have : WB * (wval r + 1) ≤ WB * WB ^ r.length := Nat.mul_le_mul_left _ hr
    rw [Nat.mul_comm (_ ^ _) WB]
    rw [Nat.mul_add, Nat.mul_one] at this
    omega
theorem wnorm_last {ws : List Nat} (h : wnorm ws) (hne : ws ≠ []) : WB ^ (ws.length - 1) ≤ wval ws := by
  revert h hne
  refine snoc_ind (P := fun ws => wnorm ws → ws ≠ [] → WB ^ (ws.length - 1) ≤ wval ws) (fun _ h => absurd rfl h) (fun l x _ h _ => ?_) ws
  by_cases hx : x = 0
  · subst hx
    unfold wnorm at h
    rw [wtrim_concat_zero] at h
    have := wtrim_length_le l
    rw [h] at this
    simp at this
    omega
  · rw [wval_concat]
    have : WB ^ l.length * 1 ≤ WB ^ l.length * x := Nat.mul_le_mul_left _ (by omega)
    simp; omega
theorem wnorm_pos {ws : List Nat} (h : wnorm ws) : wval ws = 0 ↔ ws = [] := by
  constructor
  · intro h0
    rcases List.eq_nil_or_concat ws with rfl | ⟨l, x, rfl⟩
    · rfl
    · have := wnorm_last h (by simp)
      have hp : 0 < WB ^ ((l.concat x).length - 1) := Nat.pow_pos (by decide)
      omega
  · rintro rfl; rfl
theorem wnorm_length {ws : List Nat} (h : wnorm ws) {n : Nat} (hv : wval ws < WB ^ n) : ws.length ≤ n := by
  rcases Nat.lt_or_ge n ws.length with hl | hl
  · have hne : ws ≠ [] := by intro e; subst e; simp at hl
    have := wnorm_last h hne
    have h2 : WB ^ n ≤ WB ^ (ws.length - 1) := Nat.pow_le_pow_right (by decide) (by omega)
    omega
  · exact hl
theorem wval_lt_of_length {a b : List Nat} (ha : wok a) (hb : wnorm b) (h : a.length < b.length) : wval a < wval b := by
  have h1 := wval_lt ha
  have h2 := wnorm_last hb (by intro e; subst e; simp at h)
  have h3 : WB ^ a.length ≤ WB ^ (b.length - 1) := Nat.pow_le_pow_right (by decide) (by omega)
  omega
theorem wval_split (ws : List Nat) (k : Nat) (hk : k < ws.length) : wval ws = wval (ws.take k) + WB ^ k * (ws[k]?.getD 0 + WB * wval (ws.drop (k + 1))) := by
  have h : ws = ws.take k ++ (ws[k]?.getD 0 :: ws.drop (k + 1)) := by
    rw [List.getElem?_eq_getElem hk]
    simp
  conv => lhs; rw [h]
  rw [wval_append]
  simp only [wval, List.length_take]
  rw [Nat.min_eq_left (by omega)]
theorem wval_lt_at {a b : List Nat} (ha : wok a) (hl : a.length = b.length) (k : Nat) (hk : k < a.length) (hd : a.drop (k + 1) = b.drop (k + 1)) (hlt : a[k]?.getD 0 < b[k]?.getD 0) : wval a < wval b := by
  rw [wval_split a k hk, wval_split b k (by omega), hd]
  have h1 := wval_lt (wok_take ha k)
  rw [List.length_take, Nat.min_eq_left (by omega)] at h1
  generalize wval (b.drop (k + 1)) = D at *
  generalize a[k]?.getD 0 = x at *
  generalize b[k]?.getD 0 = y at *
  have h2 : WB ^ k * (x + WB * D) + WB ^ k * 1 ≤ WB ^ k * (y + WB * D) := by rw [← Nat.mul_add]; exact Nat.mul_le_mul_left _ (by omega)
  omega
theorem wval_inj {a b : List Nat} (ha : wok a) (hb : wok b) (na : wnorm a) (nb : wnorm b) (h : wval a = wval b) : a = b := by
  have hl : a.length = b.length := by
    rcases Nat.lt_trichotomy a.length b.length with h1 | h1 | h1
    · have := wval_lt_of_length ha nb h1; omega
    · exact h1
    · have := wval_lt_of_length hb na h1; omega
  clear na nb
  induction a generalizing b with
  | nil => simp at hl; exact (List.length_eq_zero_iff.1 hl.symm).symm
  | cons x r ih =>
    match b, hl with
    | y :: s, hl =>
      have hx := ha x (by simp)
      have hy := hb y (by simp)
      simp only [wval] at h
      have h1 : x = y := by
        have := congrArg (· % WB) h
        simp only [Nat.add_mul_mod_self_left] at this
        rw [Nat.mod_eq_of_lt hx, Nat.mod_eq_of_lt hy] at this
        exact this
      subst h1
      have h2 : wval r = wval s := by
        have : WB * wval r = WB * wval s := by omega
        exact Nat.eq_of_mul_eq_mul_left (by decide) this
      rw [ih (fun z hz => ha z (by simp [hz])) (fun z hz => hb z (by simp [hz])) h2 (by simpa using hl)]

end Go.Proofs.YtneafcdfnhnpnaaGreatDoor
/- Slices that read as lists of cells, and how they stay readable while memory grows. -/
namespace Go.Proofs.YtneafcdfnhnpnaaGreatDoor
open Go.RowKit

theorem ret2_int {k k2 : IntKind} {a b c d : Int} (h : a = b) (h2 : c = d) : Ending.returned (.tuple #[.int k a, .int k2 c]) = .returned (.tuple #[.int k b, .int k2 d]) := by rw [h, h2]
theorem ret_int {k : IntKind} {a b : Int} (h : a = b) : Ending.returned (.int k a) = .returned (.int k b) := by rw [h]

theorem quietSame {P : Program} {f : FuncId} {args : Array Value} {w : World} {n : Nat} {v : Value}
    (h : Calls P f args (w.drewN n) fun e w' => e = .returned v ∧ w.drewN n = w') : Calls P f args (w.drewN n) fun e w'' => e = .returned v ∧ ∃ m, w'' = w.drewN m :=
  h.mono fun _ _ ⟨he, hm⟩ => ⟨he, n, hm.symm⟩

/-- the slice v has elements of z cells each; together these cells hold xs -/
def Sl (w : World) (z : Nat) (v : Value) (xs : List Value) : Prop :=
  ∃ A n c, v = .slice A n c ∧ n ≤ c ∧ c ≤ 140737488355328 ∧ xs.length = n * z ∧
    (0 < n → ∃ b off, A = some ⟨b, off, none⟩ ∧ b < w.heap.size ∧ ∀ j u, xs[j]? = some u → w.cell? ⟨b, off + j, none⟩ = some u)

section
variable {w w' : World} {z : Nat} {v : Value} {xs : List Value}

theorem Sl.keep (h : Sl w z v xs) (hs : w.heap.size ≤ w'.heap.size) (hk : ∀ b o, b < w.heap.size → w'.cell? ⟨b, o, none⟩ = w.cell? ⟨b, o, none⟩) : Sl w' z v xs := by
  obtain ⟨A, n, c, hv, h1, h2, h3, h4⟩ := h
  refine ⟨A, n, c, hv, h1, h2, h3, fun hn => ?_⟩
  obtain ⟨b, off, hA, hb, hc⟩ := h4 hn
  exact ⟨b, off, hA, by omega, fun j u hu => by rw [hk _ _ hb]; exact hc j u hu⟩
theorem Sl.below (h : Sl w z v xs) (hb : Below w.heap.size w w') : Sl w' z v xs :=
  h.keep hb.size fun b o hlt => hb.cell (p := ⟨b, o, none⟩) hlt
theorem Sl.drew (h : Sl w z v xs) : Sl w.drew z v xs := h
theorem Sl.drewN (h : Sl w z v xs) (k : Nat) : Sl (w.drewN k) z v xs := h
theorem Sl.alloc (h : Sl w z v xs) (o : Obj) : Sl (w.alloc o) z v xs := h.below ((Below.refl _ _).alloc (Nat.le_refl _) o)
theorem Sl.nil : Sl w z (.slice none 0 0) [] := ⟨none, 0, 0, rfl, by omega, by omega, by simp, fun h => by omega⟩
theorem Sl.new (w : World) (t : TypeId) (cs : Array Value) (hs : cs.size ≤ 140737488355328) : Sl (w.alloc (.cells cs t)) 1 (.slice (some ⟨w.heap.size, 0, none⟩) cs.size cs.size) cs.toList := by
  refine ⟨_, _, _, rfl, by omega, hs, by simp, fun _ => ⟨w.heap.size, 0, rfl, by simp, fun j u hu => ?_⟩⟩
  rw [World.cell?_alloc_at _ _ _ _ rfl, Nat.zero_add]
  simpa using hu
theorem Sl.lit (w : World) (t : TypeId) (cs : Array Value) (n : Nat) (hn : cs.size = n) (hs : n ≤ 140737488355328) : Sl (w.alloc (.cells cs t)) 1 (.slice (some ⟨w.heap.size, 0, none⟩) n n) cs.toList := by
  subst hn; exact Sl.new w t cs hs
theorem Sl.form (h : Sl w 1 v xs) : ∃ A c, v = .slice A xs.length c ∧ xs.length ≤ c ∧ c ≤ 140737488355328 := by
  obtain ⟨A, n, c, hv, h1, h2, h3, h4⟩ := h
  have : n = xs.length := by omega
  subst this
  exact ⟨A, c, hv, h1, h2⟩
theorem Sl.at_ {A : Option Addr} {n c : Nat} (h : Sl w 1 (.slice A n c) xs) {k : Nat} (hk : k < xs.length) :
    ∃ b off, A = some ⟨b, off, none⟩ ∧ b < w.heap.size ∧ ∀ j, j < xs.length → w.cell? ⟨b, off + j, none⟩ = xs[j]? := by
  obtain ⟨A', n', c', hv, h1, h2, h3, h4⟩ := h
  obtain ⟨rfl, rfl, rfl⟩ : A = A' ∧ n = n' ∧ c = c' := by simpa using hv
  obtain ⟨b, off, hA, hb, hc⟩ := h4 (by omega)
  exact ⟨b, off, hA, hb, fun j hj => by rw [List.getElem?_eq_getElem hj]; exact hc j _ (List.getElem?_eq_getElem hj)⟩
theorem Sl.take {A : Option Addr} {n c k : Nat} (h : Sl w 1 (.slice A n c) xs) (hk : k ≤ n) : Sl w 1 (.slice A k c) (xs.take k) := by
  obtain ⟨A', n', c', hv, h1, h2, h3, h4⟩ := h
  obtain ⟨rfl, rfl, rfl⟩ : A = A' ∧ n = n' ∧ c = c' := by simpa using hv
  refine ⟨A, k, c, rfl, by omega, h2, by simp; omega, fun hn => ?_⟩
  obtain ⟨b, off, hA, hb, hc⟩ := h4 (by omega)
  refine ⟨b, off, hA, hb, fun j u hu => hc j u ?_⟩
  rw [List.getElem?_take] at hu
  split at hu
  · exact hu
  · cases hu
end

/-- words of 64 bits as cells -/
def wcells (ws : List Nat) : List Value := ws.map fun (x : Nat) => Value.int .u64 (x : Int)
end Go.Proofs.YtneafcdfnhnpnaaGreatDoor
/- Contracts of the functions of package algebra that compute with machine integers alone. -/
namespace Go.Proofs.YtneafcdfnhnpnaaGreatDoor
open Go.RowKit


theorem tmod_bounds (a n : Int) (hn : 1 ≤ n) : -n < a.tmod n ∧ a.tmod n < n := by
  have h1 := Int.tmod_lt_of_pos a (show 0 < n by omega)
  have h2 := Int.lt_tmod_of_pos a (show 0 < n by omega)
  omega
theorem rem_eq (a n : Int) (hn : 1 ≤ n) (hn2 : n ≤ 4000000000000000000) : (wrap64 (a.tmod n + n)).tmod n = a % n := by
  have hb := tmod_bounds a n hn
  rw [IntWalk.wrap64_in _ (by omega), Int.tmod_eq_emod_of_nonneg (by omega), Int.add_emod_right]
  have h := Int.mul_tdiv_add_tmod a n
  have : a % n = (n * a.tdiv n + a.tmod n) % n := by rw [h]
  rw [this, Int.mul_add_emod_self_left]

set_option maxHeartbeats 400000 in
theorem remainder_c (a n : Int) (w : World) (hn : 1 ≤ n) (hn2 : n ≤ 4000000000000000000) :
    Calls Tryz.prog 190 #[.int .i64 a, .int .i64 n] w fun e w' => e = .returned (.int .i64 (a % n)) ∧ w = w' := by
  go_enter Tryz.func190, Tryz.ntmps190
  go_wp2
  go_ret
  exact ⟨ret_int (rem_eq a n hn hn2), rfl⟩

set_option maxHeartbeats 400000 in
theorem wordGcd_c (a b : Nat) (w : World) :
    Calls Tryz.prog 130 #[.int .u64 a, .int .u64 b] w fun e w' => e = .returned (.int .u64 (Nat.gcd a b)) ∧ ∃ n, w' = w.drewN n := by
  go_enter Tryz.func130, Tryz.ntmps130
  go_wp2
  go_loopw [0, 1] (fun u v wr => ∃ x y n : Nat, u = .int .u64 x ∧ v = .int .u64 y ∧ Nat.gcd x y = Nat.gcd a b ∧ wr = w.drewN n) (fun _ v _ => (intOf v).toNat)
  case atStart => exact ⟨a, b, 0, rfl, rfl, rfl, rfl⟩
  case round =>
    obtain ⟨x, y, n, rfl, rfl, hg, rfl⟩ := hrel
    by_cases hy : y = 0
    · subst hy
      go_wp2
      go_ret
      exact ⟨ret_int (by rw [← hg, Nat.gcd_zero_right]), n, rfl⟩
    · have hb : ((y : Int) != 0) = true := by simpa using hy
      go_wp2
      go_quiet (fail)
      go_wp2
      go_roundw
      case rel => exact ⟨y, x % y, n + nq, rfl, by simp, by rw [← hg, Nat.gcd_comm x y, Nat.gcd_rec y x, Nat.gcd_comm], by rw [World.drewN_drewN]⟩
      case measure => simp [intOf]; exact Nat.mod_lt _ (by omega)

set_option maxHeartbeats 400000 in
theorem magnitude_c (a : Int) (w : World) (h1 : -9223372036854775808 ≤ a) (h2 : a ≤ 9223372036854775807) :
    Calls Tryz.prog 131 #[.int .i64 a] w fun e w' => e = .returned (.int .u64 a.natAbs) ∧ w = w' := by
  by_cases h : a < 0
  · go_enter Tryz.func131, Tryz.ntmps131
    go_wp2
    go_ret
    exact ⟨ret_int (by rw [IntKind.wrap_u64, IntKind.wrap_u64]; omega), rfl⟩
  · go_enter Tryz.func131, Tryz.ntmps131
    go_wp2
    go_ret
    exact ⟨ret_int (by omega), rfl⟩

set_option maxHeartbeats 400000 in
theorem within_ok (a l h : Int) (w : World) (h1 : l ≤ a) (h2 : a ≤ h) :
    Calls Tryz.prog 132 #[.int .i64 a, .int .i64 l, .int .i64 h] w fun e w' => e = .returned (.int .i64 0) ∧ w = w' := by
  go_enter Tryz.func132, Tryz.ntmps132
  go_wp2
  go_ret
  exact ⟨rfl, rfl⟩

set_option maxHeartbeats 400000 in
theorem within_bad (a l h : Int) (w : World) (h1 : a < l ∨ h < a) :
    Calls Tryz.prog 132 #[.int .i64 a, .int .i64 l, .int .i64 h] w fun e w' => e = .returned (.int .i64 3) ∧ w = w' := by
  by_cases h2 : a < l
  · go_enter Tryz.func132, Tryz.ntmps132
    go_wp2
    go_ret
    exact ⟨rfl, rfl⟩
  · have h3 : h < a := by omega
    go_enter Tryz.func132, Tryz.ntmps132
    go_wp2
    go_ret
    exact ⟨rfl, rfl⟩

set_option maxHeartbeats 400000 in
theorem bounded_ok (a : Int) (w : World) (h1 : -999999999 ≤ a) (h2 : a ≤ 999999999) :
    Calls Tryz.prog 129 #[.int .i64 a] w fun e w' => e = .returned (.int .i64 0) ∧ w = w' := by
  go_enter Tryz.func129, Tryz.ntmps129
  go_wp2_with (go_at_call 132; refine (within_ok _ _ _ _ h1 h2).mono ?_; rintro e w' ⟨rfl, rfl⟩)
  go_ret
  exact ⟨rfl, rfl⟩

set_option maxHeartbeats 400000 in
theorem bounded_bad (a : Int) (w : World) (h : a < -999999999 ∨ 999999999 < a) :
    Calls Tryz.prog 129 #[.int .i64 a] w fun e w' => e = .returned (.int .i64 3) ∧ w = w' := by
  go_enter Tryz.func129, Tryz.ntmps129
  go_wp2_with (go_at_call 132; refine (within_bad _ _ _ _ h).mono ?_; rintro e w' ⟨rfl, rfl⟩)
  go_ret
  exact ⟨rfl, rfl⟩

end Go.Proofs.YtneafcdfnhnpnaaGreatDoor
/- Contracts: the inverse modulo n, the test for primes, the first error of a list. -/
namespace Go.Proofs.YtneafcdfnhnpnaaGreatDoor
open Go.RowKit

/-- the state of Euclid's algorithm with the factors of a -/
def EI (a n r x f g : Int) : Prop := 0 ≤ x ∧ x < r ∧ r ≤ n ∧ Int.gcd r x = Int.gcd a n ∧ n ∣ (f * a - r) ∧ n ∣ (g * a - x) ∧
  (∃ F G : Nat, ((f = -(F : Int) ∧ g = (G : Int)) ∨ (f = (F : Int) ∧ g = -(G : Int))) ∧ (G : Int) * r + F * x = n)

theorem EI.start (a n : Int) (hn : 1 ≤ n) : EI a n n (a % n) 0 1 := by
  refine ⟨Int.emod_nonneg _ (by omega), Int.emod_lt_of_pos _ (by omega), by omega, ?_, ?_, ?_, 0, 1, .inl ⟨by simp, by simp⟩, by simp⟩
  · rw [Int.emod_def, Int.gcd_sub_mul_left_right, Int.gcd_comm]
  · simp
  · rw [Int.one_mul]; exact Int.dvd_self_sub_emod
theorem EI.step {a n r x f g : Int} (h : EI a n r x f g) (hx : x ≠ 0) : EI a n x (r - r / x * x) g (f - r / x * g) := by
  obtain ⟨h0, h1, h2, h3, h4, h5, F, G, hs, hn⟩ := h
  have hm : r - r / x * x = r % x := by rw [Int.emod_def, Int.mul_comm]
  have hq : 0 ≤ r / x := Int.ediv_nonneg (by omega) h0
  obtain ⟨q, hq'⟩ := Int.eq_ofNat_of_zero_le hq
  rw [hm]
  refine ⟨Int.emod_nonneg _ hx, Int.emod_lt_of_pos _ (by omega), by omega, ?_, h5, ?_, G, F + q * G, ?_, ?_⟩
  · rw [← hm, Int.gcd_sub_mul_right_right, Int.gcd_comm, h3]
  · rw [← hm]
    have e : (f - r / x * g) * a - (r - r / x * x) = (f * a - r) - r / x * (g * a - x) := by
      simp only [Int.sub_mul, Int.mul_sub, Int.mul_assoc]; omega
    rw [e]; exact Int.dvd_sub h4 (Int.dvd_mul_of_dvd_right h5)
  · rw [hq']
    rcases hs with ⟨rfl, rfl⟩ | ⟨rfl, rfl⟩
    · right; refine ⟨rfl, ?_⟩; simp only [Int.natCast_add, Int.natCast_mul]; omega
    · left; refine ⟨rfl, ?_⟩; simp only [Int.natCast_add, Int.natCast_mul, Int.mul_neg]; omega
  · rw [← hm, hq']
    simp only [Int.natCast_add, Int.natCast_mul, Int.add_mul, Int.mul_sub]
    rw [← hn, Int.mul_assoc, Int.mul_left_comm (G : Int) q x]
    omega
theorem EI.bounds {a n r x f g : Int} (h : EI a n r x f g) (hx : x ≠ 0) : 0 ≤ r / x ∧ 0 ≤ r / x * x ∧ r / x * x ≤ n ∧ -n ≤ r / x * g ∧ r / x * g ≤ n ∧ -n ≤ f ∧ f ≤ n ∧ -n ≤ g ∧ g ≤ n := by
  obtain ⟨h0, h1, h2, h3, h4, h5, F, G, hs, hn⟩ := h
  have hq : 0 ≤ r / x := Int.ediv_nonneg (by omega) h0
  have hqx : r / x * x ≤ r := Int.ediv_mul_le r hx
  have hqr : r / x ≤ r := by
    have := Int.ediv_le_self (b := x) (show (0:Int) ≤ r by omega); omega
  have hG : (G : Int) * (r / x) ≤ G * r := Int.mul_le_mul_of_nonneg_left hqr (by omega)
  have hF0 : (0 : Int) ≤ F * x := Int.mul_nonneg (by omega) h0
  have hG0 : (0 : Int) ≤ G * (r / x) := Int.mul_nonneg (by omega) hq
  have hF1 : (F : Int) ≤ F * x := by have := Int.mul_le_mul_of_nonneg_left (show (1:Int) ≤ x by omega) (show (0:Int) ≤ F by omega); omega
  have hG1 : (G : Int) ≤ G * r := by have := Int.mul_le_mul_of_nonneg_left (show (1:Int) ≤ r by omega) (show (0:Int) ≤ G by omega); omega
  have hGr : (0 : Int) ≤ G * r := by omega
  rcases hs with ⟨rfl, rfl⟩ | ⟨rfl, rfl⟩
  · rw [Int.mul_comm (r / x) (G : Int)]
    refine ⟨hq, Int.mul_nonneg hq h0, ?_, ?_, ?_, ?_, ?_, ?_, ?_⟩ <;> omega
  · rw [Int.mul_neg, Int.mul_comm (r / x) (G : Int)]
    refine ⟨hq, Int.mul_nonneg hq h0, ?_, ?_, ?_, ?_, ?_, ?_, ?_⟩ <;> omega
theorem EI.last {a n r f g : Int} (h : EI a n r 0 f g) : r = Int.gcd a n ∧ n ∣ (f * a - Int.gcd a n) := by
  obtain ⟨h0, h1, h2, h3, h4, h5, h6⟩ := h
  have : r = Int.gcd a n := by rw [← h3, Int.gcd_zero_right]; omega
  rw [← this]; exact ⟨rfl, h4⟩

theorem mod_dvd {a n f : Int} (h : n ∣ (f * a - (1 : Nat))) : n ∣ (f % n * a - 1) := by
  rw [Int.emod_def, Int.sub_mul, Int.mul_assoc]
  have : f * a - n * (f / n * a) - 1 = (f * a - (1 : Nat)) - n * (f / n * a) := by omega
  rw [this]
  exact Int.dvd_sub h (Int.dvd_mul_right ..)

set_option maxHeartbeats 400000 in
theorem inverseModulo_c (a n : Int) (w : World) (hn : 1 ≤ n) (hn2 : n ≤ 1000000000000000000) :
    Calls Tryz.prog 133 #[.int .i64 a, .int .i64 n] w fun e w' => (∃ k, w' = w.drewN k) ∧
      ((Int.gcd a n = 1 ∧ ∃ x : Int, e = .returned (.tuple #[.int .i64 x, .bool true]) ∧ 0 ≤ x ∧ x < n ∧ n ∣ (x * a - 1)) ∨
       (Int.gcd a n ≠ 1 ∧ e = .returned (.tuple #[.int .i64 0, .bool false]))) := by
  have hst := Lib.hid (EI.start a n hn)
  go_enter Tryz.func133, Tryz.ntmps133
  go_wp2_with (go_at_call 190; refine (remainder_c _ _ _ hn (by omega)).mono ?_; rintro e w' ⟨rfl, rfl⟩)
  go_loopw [6, 7, 8, 9] (fun u v p q wr => ∃ (r x f g : Int) (k : Nat), u = .int .i64 r ∧ v = .int .i64 x ∧ p = .int .i64 f ∧ q = .int .i64 g ∧ Hid (EI a n r x f g) ∧ wr = w.drewN k) (fun _ v _ _ _ => (intOf v).toNat)
  case atStart => exact ⟨n, a % n, 0, 1, 0, rfl, rfl, rfl, rfl, hst, rfl⟩
  case round =>
    obtain ⟨r, x, f, g, k, rfl, rfl, rfl, rfl, hE, rfl⟩ := hrel
    have hx0 : 0 ≤ x := hE.out.1
    have hrx : x < r := hE.out.2.1
    have hrn : r ≤ n := hE.out.2.2.1
    by_cases hx : x = 0
    · subst hx
      obtain ⟨he, hd⟩ := hE.out.last
      have He := Lib.hid he; clear he
      by_cases hr : r = 1
      · subst hr
        go_wp2_with (go_at_call 190; refine (remainder_c _ _ _ hn (by omega)).mono ?_; rintro e w' ⟨rfl, rfl⟩)
        go_ret2
        have h1 : Int.gcd a n = 1 := by have := He.out; omega
        refine ⟨⟨k, rfl⟩, .inl ⟨h1, f % n, rfl, Int.emod_nonneg _ (by omega), Int.emod_lt_of_pos _ (by omega), ?_⟩⟩
        rw [h1] at hd
        exact mod_dvd hd
      · have hb : (r != 1) = true := by simpa using hr
        go_wp2
        go_ret2
        exact ⟨⟨k, rfl⟩, .inr ⟨fun h1 => hr (by have := He.out; omega), rfl⟩⟩
    · have hb : (x != 0) = true := by simpa using hx
      obtain ⟨b1, b2, b3, b4, b5, b6, b7, b8, b9⟩ := hE.out.bounds hx
      go_wp2
      have hs := hE.out.step hx
      refine ⟨⟨x, r - r / x * x, g, f - r / x * g, k, rfl, rfl, rfl, rfl, Lib.hid hs, rfl⟩, ?_⟩
      have := hs.1
      have := hs.2.1
      simp [intOf]; omega

theorem no_small {m d : Int} (hd : 2 ≤ d) (hle : m / d < d) (h : ∀ e : Int, 2 ≤ e → e < d → m % e ≠ 0) (x : Int) (hx : 2 ≤ x) (hxm : x < m) : m % x ≠ 0 := by
  intro hz
  by_cases hxd : x < d
  · exact h x hx hxd hz
  · obtain ⟨q, hq⟩ := Int.dvd_of_emod_eq_zero hz
    have hq1 : 1 < q := by
      rcases Int.lt_or_le 1 q with h1 | h1
      · exact h1
      · have := Int.mul_le_mul_of_nonneg_left h1 (show (0:Int) ≤ x by omega); omega
    have hqd : q < d := by
      rcases Int.lt_or_le q d with h1 | h1
      · exact h1
      · have h2 : d ≤ m / d := by
          rw [Int.le_ediv_iff_mul_le (by omega)]
          have a1 := Int.mul_le_mul_of_nonneg_left h1 (show (0:Int) ≤ x by omega)
          have a2 := Int.mul_le_mul_of_nonneg_right (show d ≤ x by omega) (show (0:Int) ≤ d by omega)
          omega
        omega
    refine h q (by omega) hqd ?_
    rw [hq]; exact Int.mul_emod_left x q

/-- m is at least 2 and nothing between 1 and m divides it -/
def IsPr (m : Int) : Prop := 2 ≤ m ∧ ∀ d : Int, 2 ≤ d → d < m → m % d ≠ 0

def prPost (m : Int) (w : World) (e : Ending) (w' : World) : Prop := ∃ b : Bool, e = .returned (.bool b) ∧ (b = true ↔ IsPr m) ∧ w = w'

set_option maxHeartbeats 400000 in
theorem hasNoDivisor_c (m : Int) (w : World) (h1 : 0 ≤ m) (h2 : m ≤ 999999999) :
    Calls Tryz.prog 135 #[.int .i64 m] w (prPost m w) := by
  by_cases hm : m < 2
  · go_enter Tryz.func135, Tryz.ntmps135
    go_wp2
    go_ret
    exact ⟨false, rfl, by unfold IsPr; simp; omega, rfl⟩
  · go_enter Tryz.func135, Tryz.ntmps135
    go_wp2
    go_loop [3] (fun u => ∃ d : Int, u = .int .i64 d ∧ 2 ≤ d ∧ d ≤ m ∧ Hid (∀ e : Int, 2 ≤ e → e < d → m % e ≠ 0)) (fun u => (m - intOf u).toNat)
    case atStart => exact ⟨2, rfl, by omega, by omega, Lib.hid (fun e h3 h4 => by omega)⟩
    case round =>
      obtain ⟨d, rfl, h3, h4, h5⟩ := hrel
      have hdd := Int.mul_ediv_self_le (x := m) (k := d) (by omega)
      by_cases hle : d ≤ m / d
      · have hdm : d < m := by
          have := Int.mul_le_mul_of_nonneg_left hle (show (0:Int) ≤ d by omega)
          have := Int.mul_le_mul_of_nonneg_left h3 (show (0:Int) ≤ d by omega)
          omega
        by_cases hz : m % d = 0
        · have hb : (m % d == 0) = true := by simpa using hz
          have Hz := Lib.hid hz; clear hz
          go_wp2
          go_ret
          exact ⟨false, rfl, by simp; intro hp; exact hp.2 d h3 hdm Hz.out, rfl⟩
        · go_wp2
          refine ⟨⟨d + 1, rfl, by omega, by omega, Lib.hid fun e he1 he2 => ?_⟩, by simp [intOf]; omega⟩
          by_cases e = d
          · subst e; exact hz
          · exact h5.out e he1 (by omega)
      · go_wp2
        go_ret
        exact ⟨true, rfl, by simp; exact ⟨by omega, fun x hx hxm => no_small h3 (by omega) h5.out x hx hxm⟩, rfl⟩

/-- the first number of a list that is not 0 -/
def firstErr : List Int → Int
  | [] => 0
  | x :: r => if x = 0 then firstErr r else x
def icells (xs : List Int) : List Value := xs.map fun x => Value.int .i64 x

set_option maxHeartbeats 400000 in
theorem first_c (v : Value) (xs : List Int) (w : World) (hv : Sl w 1 v (icells xs)) :
    Calls Tryz.prog 111 #[v] w fun e w' => e = .returned (.int .i64 (firstErr xs)) ∧ w = w' := by
  obtain ⟨A, c, rfl, hc1, hc2⟩ := hv.form
  have hl : (icells xs).length = xs.length := by simp [icells]
  rw [hl] at hc1 hv ⊢
  go_enter Tryz.func111, Tryz.ntmps111
  go_wp2
  go_loop [4, 7] (fun _ u => ∃ k : Nat, u = .int .i64 k ∧ k ≤ xs.length ∧ Hid (firstErr (xs.drop k) = firstErr xs)) (fun _ u => xs.length - (intOf u).toNat)
  case atStart => exact ⟨0, rfl, by omega, Lib.hid rfl⟩
  case round =>
    obtain ⟨k, rfl, hk, hf⟩ := hrel
    by_cases hlt : k < xs.length
    · obtain ⟨b, off, rfl, hb, hcell⟩ := hv.at_ (k := k) (by omega)
      have hck := hcell k (by omega)
      rw [icells, List.getElem?_map, List.getElem?_eq_getElem hlt] at hck
      simp only [Option.map_some] at hck
      clear hcell hv
      have hd : xs.drop k = xs[k] :: xs.drop (k + 1) := List.drop_eq_getElem_cons hlt
      have Hd := Lib.hid hd; clear hd
      by_cases hz : xs[k] = 0
      · have hz' : (xs[k] != 0) = false := by simpa using hz
        have Hz := Lib.hid hz; clear hz
        go_wp2
        refine ⟨⟨k + 1, by go_num, by omega, Lib.hid ?_⟩, by simp [intOf]; omega⟩
        rw [← hf.out, Hd.out]; simp [firstErr, Hz.out]
      · have hz' : (xs[k] != 0) = true := by simpa using hz
        go_wp2
        go_ret
        refine ⟨ret_int ?_, rfl⟩
        rw [← hf.out, Hd.out]; simp [firstErr, hz]
    · have : k = xs.length := by omega
      subst this
      go_wp2
      go_ret
      exact ⟨ret_int (by rw [← hf.out]; simp [firstErr]), rfl⟩

end Go.Proofs.YtneafcdfnhnpnaaGreatDoor
/- Contracts: Gcd, Inverse, IsPrime. -/
namespace Go.Proofs.YtneafcdfnhnpnaaGreatDoor
open Go.RowKit

def far (a : Int) : Prop := a < -999999999 ∨ 999999999 < a
instance (a : Int) : Decidable (far a) := by unfold far; infer_instance
/-- the error of a range as a number -/
def inRange (a l h : Int) : Int := if l ≤ a ∧ a ≤ h then 0 else 3
theorem within_c (a l h : Int) (w : World) : Calls Tryz.prog 132 #[.int .i64 a, .int .i64 l, .int .i64 h] w fun e w' => e = .returned (.int .i64 (inRange a l h)) ∧ w = w' := by
  unfold inRange
  split
  · exact within_ok _ _ _ _ (by omega) (by omega)
  · exact within_bad _ _ _ _ (by omega)
theorem bounded_c (a : Int) (w : World) : Calls Tryz.prog 129 #[.int .i64 a] w fun e w' => e = .returned (.int .i64 (inRange a (-999999999) 999999999)) ∧ w = w' := by
  unfold inRange
  split
  · exact bounded_ok _ _ (by omega) (by omega)
  · exact bounded_bad _ _ (by omega)

def gcdPost (a b : Int) (w : World) (e : Ending) (w' : World) : Prop :=
  e = (if far a ∨ far b then .returned (.tuple #[.int .i64 0, .int .i64 3]) else .returned (.tuple #[.int .i64 (Int.gcd a b), .int .i64 0])) ∧ Below w.heap.size w w'



theorem first2_c (x y : Int) (w : World) (t : TypeId) :
    Calls Tryz.prog 111 #[.slice (some ⟨w.heap.size, 0, none⟩) 2 2] (w.alloc (.cells #[.int .i64 x, .int .i64 y] t)) fun e w' => e = .returned (.int .i64 (firstErr [x, y])) ∧ w.alloc (.cells #[.int .i64 x, .int .i64 y] t) = w' :=
  first_c _ [x, y] _ (Sl.lit w t #[.int .i64 x, .int .i64 y] 2 rfl (by omega))

set_option maxHeartbeats 400000 in
theorem Gcd_c (a b : Int) (w : World) :
    Calls Tryz.prog 36 #[.int .i64 a, .int .i64 b] w (gcdPost a b w) := by
  by_cases hf : far a ∨ far b
  · have he : firstErr [inRange a (-999999999) 999999999, inRange b (-999999999) 999999999] = 3 := by
      unfold far at hf; unfold firstErr firstErr firstErr inRange; split <;> split <;> (try split) <;> omega
    have He := Lib.hid he; clear he
    have Hf := Lib.hid hf; clear hf
    go_enter Tryz.func36, Tryz.ntmps36
    go_wp2_with (first | (go_at_call 129; refine (bounded_c _ _).mono ?_; rintro e w' ⟨rfl, rfl⟩) | (go_at_call 111; refine (first2_c _ _ _ _).mono ?_; rintro e w' ⟨rfl, rfl⟩; rw [He.out]))
    go_ret2
    exact ⟨by rw [if_pos Hf.out]; rfl, (Below.refl _ _).alloc (Nat.le_refl _) _⟩
  · have h1 : -999999999 ≤ a ∧ a ≤ 999999999 := by unfold far at hf; omega
    have h2 : -999999999 ≤ b ∧ b ≤ 999999999 := by unfold far at hf; omega
    have he : firstErr [inRange a (-999999999) 999999999, inRange b (-999999999) 999999999] = 0 := by
      unfold firstErr firstErr firstErr inRange; rw [if_pos h1, if_pos h2]; rfl
    have hg : (Int.gcd a b : Int) ≤ 999999999 := by
      by_cases h0 : a = 0
      · subst h0; rw [Int.gcd_zero_left]; omega
      · have := Int.gcd_le_natAbs_left b h0; omega
    have He := Lib.hid he; clear he
    have Hf := Lib.hid hf; clear hf
    obtain ⟨h11, h12⟩ := h1
    obtain ⟨h21, h22⟩ := h2
    go_enter Tryz.func36, Tryz.ntmps36
    go_wp2_with (first | (go_at_call 129; refine (bounded_c _ _).mono ?_; rintro e w' ⟨rfl, rfl⟩) | (go_at_call 111; refine (first2_c _ _ _ _).mono ?_; rintro e w' ⟨rfl, rfl⟩; rw [He.out]) | (go_at_call 131; refine (magnitude_c _ _ (by omega) (by omega)).mono ?_; rintro e w' ⟨rfl, rfl⟩) | (go_at_call 130; refine (wordGcd_c _ _ _).mono ?_; rintro e w' ⟨rfl, n, rfl⟩))
    go_ret2
    refine ⟨?_, (below_drewN ((Below.refl _ _).alloc (Nat.le_refl _) _) n)⟩
    rw [if_neg Hf.out]
    exact ret2_int (by rw [IntWalk.wrap64_in _ (by unfold Int.gcd at hg; omega)]; rfl) rfl

def invPost (a n : Int) (w : World) (e : Ending) (w' : World) : Prop :=
  (if far a ∨ n < 1 ∨ 999999999 < n then e = .returned (.tuple #[.int .i64 0, .int .i64 3])
   else if Int.gcd a n = 1 then ∃ x : Int, e = .returned (.tuple #[.int .i64 x, .int .i64 0]) ∧ 0 ≤ x ∧ x < n ∧ n ∣ (x * a - 1)
   else e = .returned (.tuple #[.int .i64 0, .int .i64 7])) ∧ Below w.heap.size w w'

set_option maxHeartbeats 400000 in
theorem Inverse_c (a n : Int) (w : World) :
    Calls Tryz.prog 39 #[.int .i64 a, .int .i64 n] w (invPost a n w) := by
  by_cases hf : far a ∨ n < 1 ∨ 999999999 < n
  · have he : firstErr [inRange a (-999999999) 999999999, inRange n 1 999999999] = 3 := by
      unfold far at hf; unfold firstErr firstErr firstErr inRange; split <;> split <;> (try split) <;> omega
    have He := Lib.hid he; clear he
    have Hf := Lib.hid hf; clear hf
    go_enter Tryz.func39, Tryz.ntmps39
    go_wp2_with (first | (go_at_call 129; refine (bounded_c _ _).mono ?_; rintro e w' ⟨rfl, rfl⟩) | (go_at_call 132; refine (within_c _ _ _ _).mono ?_; rintro e w' ⟨rfl, rfl⟩) | (go_at_call 111; refine (first2_c _ _ _ _).mono ?_; rintro e w' ⟨rfl, rfl⟩; rw [He.out]))
    go_ret2
    exact ⟨by rw [if_pos Hf.out]; rfl, (Below.refl _ _).alloc (Nat.le_refl _) _⟩
  · have h1 : -999999999 ≤ a ∧ a ≤ 999999999 := by unfold far at hf; omega
    have h2 : 1 ≤ n ∧ n ≤ 999999999 := by unfold far at hf; omega
    have he : firstErr [inRange a (-999999999) 999999999, inRange n 1 999999999] = 0 := by
      unfold firstErr firstErr firstErr inRange; rw [if_pos h1, if_pos h2]; rfl
    have He := Lib.hid he; clear he
    have Hf := Lib.hid hf; clear hf
    obtain ⟨h11, h12⟩ := h1
    obtain ⟨h21, h22⟩ := h2
    go_enter Tryz.func39, Tryz.ntmps39
    go_wp2_with (first | (go_at_call 129; refine (bounded_c _ _).mono ?_; rintro e w' ⟨rfl, rfl⟩) | (go_at_call 132; refine (within_c _ _ _ _).mono ?_; rintro e w' ⟨rfl, rfl⟩) | (go_at_call 111; refine (first2_c _ _ _ _).mono ?_; rintro e w' ⟨rfl, rfl⟩; rw [He.out]) | fail)
    refine (inverseModulo_c _ _ _ h21 (by omega)).mono ?_
    rintro e w' ⟨⟨k, rfl⟩, h⟩
    rcases h with ⟨hg, x, rfl, hx0, hxn, hxd⟩ | ⟨hg, rfl⟩
    · have Hg := Lib.hid hg; clear hg
      go_wp2
      go_ret2
      refine ⟨?_, (below_drewN ((Below.refl _ _).alloc (Nat.le_refl _) _) k)⟩
      rw [if_neg Hf.out, if_pos Hg.out]
      exact ⟨x, rfl, hx0, hxn, hxd⟩
    · have Hg := Lib.hid hg; clear hg
      go_wp2
      go_ret2
      refine ⟨?_, (below_drewN ((Below.refl _ _).alloc (Nat.le_refl _) _) k)⟩
      rw [if_neg Hf.out, if_neg Hg.out]
      rfl

/-- the two results of the test for primes -/
def primePost (m : Int) (w : World) (e : Ending) (w' : World) : Prop :=
  (if 0 ≤ m ∧ m ≤ 999999999 then ∃ b : Bool, e = .returned (.tuple #[.bool b, .int .i64 0]) ∧ (b = true ↔ IsPr m)
   else e = .returned (.tuple #[.bool false, .int .i64 3])) ∧ w = w'

set_option maxHeartbeats 400000 in
theorem IsPrime_c (m : Int) (w : World) : Calls Tryz.prog 42 #[.int .i64 m] w (primePost m w) := by
  by_cases hf : 0 ≤ m ∧ m ≤ 999999999
  · obtain ⟨h1, h2⟩ := hf
    go_enter Tryz.func42, Tryz.ntmps42
    go_wp2_with (first | (go_at_call 132; refine (within_ok _ _ _ _ h1 h2).mono ?_; rintro e w' ⟨rfl, rfl⟩) | (go_at_call 135; refine (hasNoDivisor_c _ _ h1 h2).mono ?_; rintro e w' ⟨b, rfl, hb, rfl⟩))
    go_ret2
    exact ⟨by rw [if_pos ⟨h1, h2⟩]; exact ⟨b, rfl, hb⟩, rfl⟩
  · have h1 : m < 0 ∨ 999999999 < m := by omega
    have Hf := Lib.hid hf; clear hf
    go_enter Tryz.func42, Tryz.ntmps42
    go_wp2_with (first | (go_at_call 132; refine (within_bad _ _ _ _ h1).mono ?_; rintro e w' ⟨rfl, rfl⟩))
    go_ret2
    exact ⟨by rw [if_neg Hf.out]; rfl, rfl⟩

end Go.Proofs.YtneafcdfnhnpnaaGreatDoor
/- The carry and borrow instructions, as the walk meets them. -/
namespace Go.Proofs.YtneafcdfnhnpnaaGreatDoor
open Go.RowKit

theorem add64 (x y c : Int) (hx : 0 ≤ x) (hx2 : x < 18446744073709551616) (hy : 0 ≤ y) (hy2 : y < 18446744073709551616) (hc0 : 0 ≤ c) (hc : c ≤ 1) (w : World) :
    (callFunc 194 #[.int .u64 x, .int .u64 y, .int .u64 c]).run Tryz.prog w =
    .ok (.value (.tuple #[.int .u64 ((x + y + c) % 18446744073709551616), .int .u64 ((x + y + c) / 18446744073709551616)])) w := by
  obtain ⟨x, rfl⟩ := Int.eq_ofNat_of_zero_le hx
  obtain ⟨y, rfl⟩ := Int.eq_ofNat_of_zero_le hy
  obtain ⟨c, rfl⟩ := Int.eq_ofNat_of_zero_le hc0
  rw [run_callFunc_extern Tryz.func194 (by kernel_rfl) (by kernel_rfl) (by kernel_rfl) (e := add64Entry) (by kernel_rfl), run_add64 x y c (by omega) (by omega) (by omega) (by omega)]
  rfl
theorem add64_0 (x y : Int) (hx : 0 ≤ x) (hx2 : x < 18446744073709551616) (hy : 0 ≤ y) (hy2 : y < 18446744073709551616) (w : World) :
    (callFunc 194 #[.int .u64 x, .int .u64 y, .int .u64 0]).run Tryz.prog w =
    .ok (.value (.tuple #[.int .u64 ((x + y) % 18446744073709551616), .int .u64 ((x + y) / 18446744073709551616)])) w := by
  simpa using add64 x y 0 hx hx2 hy hy2 (Int.le_refl 0) (by decide) w
/-- the borrow -/
def bor (x y : Int) : Int := if x < y then 1 else 0
theorem bor_bd (x y : Int) : 0 ≤ bor x y ∧ bor x y ≤ 1 := by unfold bor; split <;> omega
theorem sub64 (x y b : Int) (hx : 0 ≤ x) (hx2 : x < 18446744073709551616) (hy : 0 ≤ y) (hy2 : y < 18446744073709551616) (hb0 : 0 ≤ b) (hb : b ≤ 1) (w : World) :
    (callFunc 249 #[.int .u64 x, .int .u64 y, .int .u64 b]).run Tryz.prog w =
    .ok (.value (.tuple #[.int .u64 ((x - y - b) % 18446744073709551616), .int .u64 (bor x (y + b))])) w := by
  obtain ⟨x, rfl⟩ := Int.eq_ofNat_of_zero_le hx
  obtain ⟨y, rfl⟩ := Int.eq_ofNat_of_zero_le hy
  obtain ⟨b, rfl⟩ := Int.eq_ofNat_of_zero_le hb0
  have e1 : (((x + 18446744073709551616 - y - b) % 18446744073709551616 : Nat) : Int) = ((x : Int) - y - b) % 18446744073709551616 := by omega
  have e2 : ((if x < y + b then 1 else 0 : Nat) : Int) = bor x (y + b) := by unfold bor; split <;> split <;> omega
  rw [← e1, ← e2]
  rw [run_callFunc_extern Tryz.func249 (by kernel_rfl) (by kernel_rfl) (by kernel_rfl) (e := sub64Entry) (by kernel_rfl), run_sub64 x y b (by omega)]
  rfl
theorem sub64_0 (x y : Int) (hx : 0 ≤ x) (hx2 : x < 18446744073709551616) (hy : 0 ≤ y) (hy2 : y < 18446744073709551616) (w : World) :
    (callFunc 249 #[.int .u64 x, .int .u64 y, .int .u64 0]).run Tryz.prog w =
    .ok (.value (.tuple #[.int .u64 ((x - y) % 18446744073709551616), .int .u64 (bor x y)])) w := by
  simpa using sub64 x y 0 hx hx2 hy hy2 (Int.le_refl 0) (by decide) w

theorem sub64_y0 (x b : Int) (hx : 0 ≤ x) (hx2 : x < 18446744073709551616) (hb0 : 0 ≤ b) (hb : b ≤ 1) (w : World) :
    (callFunc 249 #[.int .u64 x, .int .u64 0, .int .u64 b]).run Tryz.prog w =
    .ok (.value (.tuple #[.int .u64 ((x - b) % 18446744073709551616), .int .u64 (bor x b)])) w := by
  simpa using sub64 x 0 b hx hx2 (by omega) (by omega) hb0 hb w
theorem add64_y0 (x c : Int) (hx : 0 ≤ x) (hx2 : x < 18446744073709551616) (hc0 : 0 ≤ c) (hc : c ≤ 1) (w : World) :
    (callFunc 194 #[.int .u64 x, .int .u64 0, .int .u64 c]).run Tryz.prog w =
    .ok (.value (.tuple #[.int .u64 ((x + c) % 18446744073709551616), .int .u64 ((x + c) / 18446744073709551616)])) w := by
  simpa using add64 x 0 c hx hx2 (by omega) (by omega) hc0 hc w

end Go.Proofs.YtneafcdfnhnpnaaGreatDoor
/- Blocks of memory that a call has made and knows whole. -/
namespace Go.Proofs.YtneafcdfnhnpnaaGreatDoor
open Go.RowKit

/-- block g holds just these cells, each of them writable -/
def Own (w : World) (g : Nat) (t : TypeId) (cs : List Value) : Prop := w.heap[g]? = some (.cells cs.toArray t (0, 0))

section
variable {w w' : World} {g : Nat} {t : TypeId} {cs : List Value}
theorem Own.lt (h : Own w g t cs) : g < w.heap.size := by
  rcases Nat.lt_or_ge g w.heap.size with hlt | hge
  · exact hlt
  · unfold Own at h; rw [Array.getElem?_eq_none hge] at h; cases h
theorem Own.cell (h : Own w g t cs) (i : Nat) : w.cell? ⟨g, i, none⟩ = cs[i]? := by
  rw [cell_of_row w g i cs.toArray t (0, 0) h]; simp
theorem Own.free (h : Own w g t cs) (i : Nat) : w.frozen? ⟨g, i, none⟩ = false := by
  unfold Own at h; simp [World.frozen?, h]
theorem Own.make (w : World) (t : TypeId) (cs : List Value) : Own (w.alloc (.cells cs.toArray t)) w.heap.size t cs := heap_alloc_new w _
theorem Own.drewN (h : Own w g t cs) (n : Nat) : Own (w.drewN n) g t cs := h
theorem Own.alloc (h : Own w g t cs) (o : Obj) : Own (w.alloc o) g t cs := (Below.heap_alloc w o g h.lt).trans h
theorem Own.put (h : Own w g t cs) (i : Nat) (u : Value) : Own (w.setCell ⟨g, i, none⟩ u) g t (cs.set i u) := by
  unfold Own at h ⊢
  simp [World.setCell, Array.getElem?_modify, h]
theorem Own.other (h : Own w g t cs) {p : Addr} (hp : g ≠ p.block) (u : Value) : Own (w.setCell p u) g t cs := (Below.heap_setCell w p u g hp).trans h
theorem Own.below {B : Nat} (h : Own w g t cs) (hb : Below B w w') (hg : g < B) : Own w' g t cs := (hb.block g hg).trans h
theorem Own.sl (h : Own w g t cs) (n : Nat) (hn : cs.length = n) (hs : n ≤ 140737488355328) : Sl w 1 (.slice (some ⟨g, 0, none⟩) n n) cs := by
  refine ⟨_, n, n, rfl, by omega, hs, by omega, fun _ => ⟨g, 0, rfl, h.lt, fun j u hu => ?_⟩⟩
  rw [Nat.zero_add, h.cell, hu]
end
theorem madeCells_eq (z : Value) (n : Nat) : madeCells #[z] n = (List.replicate n z).toArray := by
  rw [← toList_madeCells_one]
theorem replicate_w (n : Nat) : List.replicate n (Value.int .u64 0) = wcells (List.replicate n 0) := by simp [wcells]
theorem wcells_set (L : List Nat) (k x : Nat) : (wcells L).set k (.int .u64 (x : Int)) = wcells (L.set k x) := by simp [wcells, List.map_set]
theorem wcells_at (ws : List Nat) (k : Nat) (h : k < ws.length) : (wcells ws)[k]? = some (Value.int .u64 ((ws[k]?.getD 0 : Nat) : Int)) := by simp [wcells, h]
theorem info_u64 : (Tryz.prog.info? 148).map (fun i => (i.zero, i.size, i.bytes)) = some (some (.int .u64 0), 1, 8) := by kernel_rfl
/-- make of a list of words -/
theorem make_nat (w : World) (n : Nat) (hn : n ≤ 17592186044416) : (Instr.makeSlice 120 (.int .i64 (n : Int)) (.int .i64 (n : Int))).run Tryz.prog w = .ok (.slice (some ⟨w.heap.size, 0, none⟩) n n) (w.alloc (.cells (wcells (List.replicate n 0)).toArray 148)) := by
  have := run_make_row' (P := Tryz.prog) 120 148 (.int .u64 0) 8 Tryz.underlying120 info_u64 rfl .i64 .i64 n (by omega) (by omega) w
  rw [madeCells_eq, replicate_w] at this
  exact this

theorem sub_words (x y b : Nat) (hx : x < WB) (hy : y < WB) (hb : b ≤ 1) :
    ∃ d br : Nat, ((x : Int) - y - b) % 18446744073709551616 = d ∧ bor x ((y : Int) + b) = br ∧ d < WB ∧ br ≤ 1 ∧ x + WB * br = d + y + b := by
  unfold WB at *
  refine ⟨(((x : Int) - y - b) % 18446744073709551616).toNat, if (x : Int) < y + b then 1 else 0, by omega, ?_, by omega, ?_, ?_⟩
  · unfold bor; split <;> rfl
  · split <;> omega
  · split <;> omega
theorem sub_words0 (x b : Nat) (hx : x < WB) (hb : b ≤ 1) :
    ∃ d br : Nat, ((x : Int) - b) % 18446744073709551616 = d ∧ bor x (b : Int) = br ∧ d < WB ∧ br ≤ 1 ∧ x + WB * br = d + 0 + b := by
  have := sub_words x 0 b hx (by decide) hb
  simpa using this
theorem add_words (x y c : Nat) (hx : x < WB) (hy : y < WB) (hb : c ≤ 1) :
    ∃ d k : Nat, ((x : Int) + y + c) % 18446744073709551616 = d ∧ ((x : Int) + y + c) / 18446744073709551616 = k ∧ d < WB ∧ k ≤ 1 ∧ x + y + c = d + WB * k := by
  unfold WB at *
  exact ⟨(x + y + c) % 18446744073709551616, (x + y + c) / 18446744073709551616, by omega, by omega, by omega, by omega, by omega⟩
theorem add_words0 (x c : Nat) (hx : x < WB) (hb : c < WB) :
    ∃ d k : Nat, ((x : Int) + c) % 18446744073709551616 = d ∧ ((x : Int) + c) / 18446744073709551616 = k ∧ d < WB ∧ k ≤ 1 ∧ x + c = d + WB * k := by
  unfold WB at *
  exact ⟨(x + c) % 18446744073709551616, (x + c) / 18446744073709551616, by omega, by omega, by omega, by omega, by omega⟩

end Go.Proofs.YtneafcdfnhnpnaaGreatDoor
/- Contract: the error of a permutation. -/
namespace Go.Proofs.YtneafcdfnhnpnaaGreatDoor
open Go.RowKit

def bcells (L : List Bool) : List Value := L.map Value.bool
theorem bcells_length (L : List Bool) : (bcells L).length = L.length := by simp [bcells]
theorem bcells_at (L : List Bool) (k : Nat) (h : k < L.length) : (bcells L)[k]? = some (Value.bool (L[k]?.getD false)) := by simp [bcells, h]
theorem bcells_set (L : List Bool) (k : Nat) (x : Bool) : (bcells L).set k (.bool x) = bcells (L.set k x) := by simp [bcells, List.map_set]
theorem icells_length (L : List Int) : (icells L).length = L.length := by simp [icells]
theorem icells_at (L : List Int) (k : Nat) (h : k < L.length) : (icells L)[k]? = some (Value.int .i64 (L[k]?.getD 0)) := by simp [icells, h]
theorem icells_set (L : List Int) (k : Nat) (x : Int) : (icells L).set k (.int .i64 x) = icells (L.set k x) := by simp [icells, List.map_set]
theorem icells_take (L : List Int) (k : Nat) : (icells L).take k = icells (L.take k) := by simp [icells]
theorem info_bool : (Tryz.prog.info? 4).map (fun i => (i.zero, i.size, i.bytes)) = some (some (.bool false), 1, 1) := by kernel_rfl
theorem info_int : (Tryz.prog.info? 3).map (fun i => (i.zero, i.size, i.bytes)) = some (some (.int .i64 0), 1, 8) := by kernel_rfl
theorem make_bools (w : World) (n : Nat) (hn : n ≤ 17592186044416) : (Instr.makeSlice 154 (.int .i64 (n : Int)) (.int .i64 (n : Int))).run Tryz.prog w = .ok (.slice (some ⟨w.heap.size, 0, none⟩) n n) (w.alloc (.cells (bcells (List.replicate n false)).toArray 4)) := by
  have := run_make_row' (P := Tryz.prog) 154 4 (.bool false) 1 Tryz.underlying154 info_bool rfl .i64 .i64 n (by omega) (by omega) w
  rw [madeCells_eq] at this
  rw [this]; simp [bcells]
theorem make_ints (w : World) (n : Nat) (hn : n ≤ 17592186044416) : (Instr.makeSlice 50 (.int .i64 (n : Int)) (.int .i64 (n : Int))).run Tryz.prog w = .ok (.slice (some ⟨w.heap.size, 0, none⟩) n n) (w.alloc (.cells (icells (List.replicate n 0)).toArray 3)) := by
  have := run_make_row' (P := Tryz.prog) 50 3 (.int .i64 0) 8 Tryz.underlying50 info_int rfl .i64 .i64 n (by omega) (by omega) w
  rw [madeCells_eq] at this
  rw [this]; simp [icells]

/-- each integer from 0 to the length less 1, once -/
def PermL (p : List Int) : Prop := (∀ x ∈ p, 0 ≤ x ∧ x < p.length) ∧ p.Nodup
instance (p : List Int) : Decidable (PermL p) := by unfold PermL; infer_instance
def permErr (p : List Int) : Int := if 256 < p.length then 5 else if PermL p then 0 else 14
/-- the first k elements are different and in their range; L tells which ones they are -/
def SeenInv (p : List Int) (L : List Bool) (k : Nat) : Prop := L.length = p.length ∧ (∀ x ∈ p.take k, 0 ≤ x ∧ x < p.length) ∧ (p.take k).Nodup ∧ ∀ j, j < p.length → (L[j]?.getD false = true ↔ (j : Int) ∈ p.take k)
theorem take_succ_int (p : List Int) (k : Nat) (h : k < p.length) : p.take (k + 1) = p.take k ++ [p[k]?.getD 0] := by
  rw [List.take_add_one, List.getElem?_eq_getElem h]; rfl
theorem SeenInv.start (p : List Int) : SeenInv p (List.replicate p.length false) 0 := by
  refine ⟨by simp, by simp, by simp, fun j hj => ?_⟩
  simp [hj]
theorem SeenInv.step {p : List Int} {L : List Bool} {k x : Nat} (h : SeenInv p L k) (hk : k < p.length) (hx : p[k]?.getD 0 = (x : Int)) (hlt : x < p.length) (hs : L[x]?.getD false = false) : SeenInv p (L.set x true) (k + 1) := by
  obtain ⟨h1, h2, h3, h4⟩ := h
  have hni : (x : Int) ∉ p.take k := by
    intro hm
    have := (h4 x hlt).2 hm
    rw [hs] at this; cases this
  rw [SeenInv, take_succ_int p k hk, hx]
  refine ⟨by simp [h1], ?_, ?_, fun j hj => ?_⟩
  · intro y hy
    rcases List.mem_append.1 hy with hy | hy
    · exact h2 y hy
    · have : y = x := by simpa using hy
      omega
  · rw [List.nodup_append]
    refine ⟨h3, by simp, ?_⟩
    intro a ha b hb
    have : b = x := by simpa using hb
    rintro rfl
    exact hni (this ▸ ha)
  · by_cases hjx : j = x
    · subst hjx; simp [h1, hlt]
    · rw [List.mem_append]
      have : ((L.set x true)[j]?.getD false) = L[j]?.getD false := by simp [List.getElem?_set_ne (Ne.symm hjx)]
      rw [this, h4 j hj]
      simp; omega
theorem SeenInv.bad {p : List Int} {L : List Bool} {k : Nat} (h : SeenInv p L k) (hk : k < p.length) (hb : p[k]?.getD 0 < 0 ∨ (p.length : Int) ≤ p[k]?.getD 0 ∨ (0 ≤ p[k]?.getD 0 ∧ p[k]?.getD 0 < p.length ∧ L[(p[k]?.getD 0).toNat]?.getD false = true)) : ¬ PermL p := by
  rintro ⟨g1, g2⟩
  have hm : p[k]?.getD 0 ∈ p := by rw [List.getElem?_eq_getElem hk]; exact List.getElem_mem hk
  have := g1 _ hm
  rcases hb with hb | hb | ⟨b1, b2, b3⟩
  · omega
  · omega
  · have hin := (h.2.2.2 (p[k]?.getD 0).toNat (by omega)).1 b3
    rw [show ((p[k]?.getD 0).toNat : Int) = p[k]?.getD 0 from by omega] at hin
    have hsp : p = p.take k ++ (p[k]?.getD 0 :: p.drop (k + 1)) := by
      rw [List.getElem?_eq_getElem hk]; simp
    rw [hsp, List.nodup_append] at g2
    exact g2.2.2 _ hin _ (by simp) rfl
theorem SeenInv.good {p : List Int} {L : List Bool} (h : SeenInv p L p.length) : PermL p := by
  obtain ⟨h1, h2, h3, h4⟩ := h
  rw [List.take_of_length_le (Nat.le_refl _)] at h2 h3
  exact ⟨h2, h3⟩

set_option maxHeartbeats 2000000 in
theorem CheckPerm_c (v : Value) (p : List Int) (w : World) (hv : Sl w 1 v (icells p)) :
    Calls Tryz.prog 45 #[v] w fun e w' => e = .returned (.int .i64 (permErr p)) ∧ Below w.heap.size w w' := by
  obtain ⟨A, c, rfl, hc1, hc2⟩ := hv.form
  rw [icells_length] at hc1 hv ⊢
  by_cases hl : 256 < p.length
  · have he := Lib.hid (show permErr p = 5 from by unfold permErr; rw [if_pos hl])
    go_enter Tryz.func45, Tryz.ntmps45
    go_wp2
    go_ret
    exact ⟨by rw [he.out]; rfl, Below.refl _ _⟩
  · have hd : decide ((256 : Int) < (p.length : Int)) = false := decide_eq_false (by omega)
    have hmk := make_bools w p.length (by omega)
    go_enter Tryz.func45, Tryz.ntmps45
    go_wp2
    go_loopw [5, 14] (fun _ i wr => ∃ (k : Nat) (L : List Bool), i = .int .i64 k ∧ k ≤ p.length ∧ Hid (SeenInv p L k) ∧ Own wr w.heap.size 4 (bcells L) ∧ Below w.heap.size w wr) (fun _ i _ => p.length - (intOf i).toNat)
    case atStart => exact ⟨0, _, rfl, by omega, Lib.hid (SeenInv.start p), Own.make _ _ _, (Below.refl _ _).alloc (Nat.le_refl _) _⟩
    case round =>
      obtain ⟨k, L, rfl, hk, hI, hO, hB⟩ := hrel
      have hLl : L.length = p.length := hI.out.1
      by_cases hlt : k < p.length
      · obtain ⟨b0, off, rfl, hbb, hcell⟩ := hv.at_ (k := k) (by rw [icells_length]; omega)
        have hck := (hB.cell (p := ⟨b0, off + k, none⟩) hbb).trans ((hcell k (by rw [icells_length]; omega)).trans (icells_at p k hlt))
        have Hbad := fun h => Lib.hid (hI.out.bad hlt h)
        have Hst := fun (x : Nat) a b c => Lib.hid (hI.out.step (x := x) hlt a b c)
        generalize p[k]?.getD 0 = x at *
        clear hcell hv
        by_cases h0 : x < 0
        · have he := Lib.hid (show permErr p = 14 from by unfold permErr; rw [if_neg hl, if_neg (Hbad (.inl h0)).out])
          go_wp2
          go_ret
          exact ⟨by rw [he.out]; rfl, hB⟩
        · by_cases h1 : (p.length : Int) ≤ x
          · have he := Lib.hid (show permErr p = 14 from by unfold permErr; rw [if_neg hl, if_neg (Hbad (.inr (.inl h1))).out])
            go_wp2
            go_ret
            exact ⟨by rw [he.out]; rfl, hB⟩
          · obtain ⟨y, rfl⟩ := Int.eq_ofNat_of_zero_le (Int.not_lt.1 h0)
            have hyl : y < p.length := by omega
            have hck2 := (hO.cell y).trans (bcells_at L y (by omega))
            have hfr := hO.free y
            by_cases hs : L[y]?.getD false = true
            · have he := Lib.hid (show permErr p = 14 from by unfold permErr; rw [if_neg hl, if_neg (Hbad (.inr (.inr ⟨by omega, by omega, by simpa using hs⟩))).out])
              rw [hs] at hck2
              clear hs Hbad Hst hLl
              go_wp2
              go_ret
              exact ⟨by rw [he.out]; rfl, hB⟩
            · have hs' : L[y]?.getD false = false := by simpa using hs
              have hs2 := Hst y rfl hyl hs'
              rw [hs'] at hck2
              clear hs hs' Hbad Hst hLl
              go_wp2
              refine ⟨⟨k + 1, _, by go_num, by omega, hs2, ?_, hB.setCell (by simp) _⟩, by simp [intOf]; omega⟩
              rw [← bcells_set]; exact hO.put y _
      · have hkk : k = p.length := by omega
        subst hkk
        have he := Lib.hid (show permErr p = 0 from by unfold permErr; rw [if_neg hl, if_pos hI.out.good])
        clear hLl
        go_wp2
        go_ret
        exact ⟨by rw [he.out]; rfl, hB⟩

set_option maxHeartbeats 2000000 in
theorem refCheckPerm_c (v : Value) (p : List Int) (w : World) (hv : Sl w 1 v (icells p)) :
    Calls Tryz.prog 44 #[v] w fun e w' => e = .returned (.int .i64 (permErr p)) ∧ Below w.heap.size w w' := by
  obtain ⟨A, c, rfl, hc1, hc2⟩ := hv.form
  rw [icells_length] at hc1 hv ⊢
  by_cases hl : 256 < p.length
  · have he := Lib.hid (show permErr p = 5 from by unfold permErr; rw [if_pos hl])
    go_enter Tryz.func44, Tryz.ntmps44
    go_wp2
    go_ret
    exact ⟨by rw [he.out]; rfl, Below.refl _ _⟩
  · have hd : decide ((256 : Int) < (p.length : Int)) = false := decide_eq_false (by omega)
    have hmk := make_bools w p.length (by omega)
    go_enter Tryz.func44, Tryz.ntmps44
    go_wp2
    go_loopw [4] (fun i wr => ∃ (k : Nat) (L : List Bool), i = .int .i64 k ∧ k ≤ p.length ∧ Hid (SeenInv p L k) ∧ Own wr w.heap.size 4 (bcells L) ∧ Below w.heap.size w wr) (fun i _ => p.length - (intOf i).toNat)
    case atStart => exact ⟨0, _, rfl, by omega, Lib.hid (SeenInv.start p), Own.make _ _ _, (Below.refl _ _).alloc (Nat.le_refl _) _⟩
    case round =>
      obtain ⟨k, L, rfl, hk, hI, hO, hB⟩ := hrel
      have hLl : L.length = p.length := hI.out.1
      by_cases hlt : k < p.length
      · obtain ⟨b0, off, rfl, hbb, hcell⟩ := hv.at_ (k := k) (by rw [icells_length]; omega)
        have hck := (hB.cell (p := ⟨b0, off + k, none⟩) hbb).trans ((hcell k (by rw [icells_length]; omega)).trans (icells_at p k hlt))
        have Hbad := fun h => Lib.hid (hI.out.bad hlt h)
        have Hst := fun (x : Nat) a b c => Lib.hid (hI.out.step (x := x) hlt a b c)
        generalize p[k]?.getD 0 = x at *
        clear hcell hv
        by_cases h0 : x < 0
        · have he := Lib.hid (show permErr p = 14 from by unfold permErr; rw [if_neg hl, if_neg (Hbad (.inl h0)).out])
          go_wp2
          go_ret
          exact ⟨by rw [he.out]; rfl, hB⟩
        · by_cases h1 : (p.length : Int) ≤ x
          · have he := Lib.hid (show permErr p = 14 from by unfold permErr; rw [if_neg hl, if_neg (Hbad (.inr (.inl h1))).out])
            go_wp2
            go_ret
            exact ⟨by rw [he.out]; rfl, hB⟩
          · obtain ⟨y, rfl⟩ := Int.eq_ofNat_of_zero_le (Int.not_lt.1 h0)
            have hyl : y < p.length := by omega
            have hck2 := (hO.cell y).trans (bcells_at L y (by omega))
            have hfr := hO.free y
            by_cases hs : L[y]?.getD false = true
            · have he := Lib.hid (show permErr p = 14 from by unfold permErr; rw [if_neg hl, if_neg (Hbad (.inr (.inr ⟨by omega, by omega, by simpa using hs⟩))).out])
              rw [hs] at hck2
              clear hs Hbad Hst hLl
              go_wp2
              go_ret
              exact ⟨by rw [he.out]; rfl, hB⟩
            · have hs' : L[y]?.getD false = false := by simpa using hs
              have hs2 := Hst y rfl hyl hs'
              rw [hs'] at hck2
              clear hs hs' Hbad Hst hLl
              go_wp2
              refine ⟨⟨k + 1, _, by go_num, by omega, hs2, ?_, hB.setCell (by simp) _⟩, by simp [intOf]; omega⟩
              rw [← bcells_set]; exact hO.put y _
      · have hkk : k = p.length := by omega
        subst hkk
        have he := Lib.hid (show permErr p = 0 from by unfold permErr; rw [if_neg hl, if_pos hI.out.good])
        clear hLl
        go_wp2
        go_ret
        exact ⟨by rw [he.out]; rfl, hB⟩

end Go.Proofs.YtneafcdfnhnpnaaGreatDoor
/- Contract: the reference's comparison of two lists of integers. -/
namespace Go.Proofs.YtneafcdfnhnpnaaGreatDoor
open Go.RowKit

/-- a slice that reads as a list of cells, whatever its capacity is -/
def SlW (w : World) (v : Value) (xs : List Value) : Prop :=
  ∃ A c, v = .slice A xs.length c ∧ xs.length ≤ c ∧ xs.length ≤ 140737488355328 ∧ (0 < xs.length → ∃ b off, A = some ⟨b, off, none⟩ ∧ b < w.heap.size ∧ ∀ j, j < xs.length → w.cell? ⟨b, off + j, none⟩ = xs[j]?)
theorem Sl.wide {w : World} {v : Value} {xs : List Value} (h : Sl w 1 v xs) : SlW w v xs := by
  obtain ⟨A, c, rfl, h1, h2⟩ := h.form
  refine ⟨A, c, rfl, h1, by omega, fun hn => ?_⟩
  obtain ⟨b, off, hA, hb, hc⟩ := h.at_ hn
  exact ⟨b, off, hA, hb, hc⟩
theorem SlW.form {w : World} {v : Value} {xs : List Value} (h : SlW w v xs) : ∃ A c, v = .slice A xs.length c ∧ xs.length ≤ c ∧ xs.length ≤ 140737488355328 := by
  obtain ⟨A, c, h1, h2, h3, _⟩ := h; exact ⟨A, c, h1, h2, h3⟩
theorem SlW.at_ {w : World} {A : Option Addr} {n c : Nat} {xs : List Value} (h : SlW w (.slice A n c) xs) {k : Nat} (hk : k < xs.length) :
    ∃ b off, A = some ⟨b, off, none⟩ ∧ b < w.heap.size ∧ ∀ j, j < xs.length → w.cell? ⟨b, off + j, none⟩ = xs[j]? := by
  obtain ⟨A', c', hv, h1, h2, h3⟩ := h
  injection hv with hA _ _
  subst hA
  exact h3 (by omega)
theorem SlW.below {w w' : World} {v : Value} {xs : List Value} (h : SlW w v xs) (hb : Below w.heap.size w w') : SlW w' v xs := by
  obtain ⟨A, c, rfl, h1, h2, h3⟩ := h
  refine ⟨A, c, rfl, h1, h2, fun hn => ?_⟩
  obtain ⟨b, off, hA, hlt, hc⟩ := h3 hn
  exact ⟨b, off, hA, Nat.lt_of_lt_of_le hlt hb.size, fun j hj => (hb.cell (p := ⟨b, off + j, none⟩) hlt).trans (hc j hj)⟩
theorem drop_step {p q : List Int} {k : Nat} (hk : k < p.length) (hl : p.length = q.length) (h : (decide (p.drop k = q.drop k)) = decide (p = q)) (he : p[k]?.getD 0 = q[k]?.getD 0) : decide (p.drop (k + 1) = q.drop (k + 1)) = decide (p = q) := by
  have hq : k < q.length := by omega
  rw [List.getElem?_eq_getElem hk, List.getElem?_eq_getElem hq] at he
  simp only [Option.getD_some] at he
  have e1 : p.drop k = p[k] :: p.drop (k + 1) := List.drop_eq_getElem_cons hk
  have e2 : q.drop k = q[k] :: q.drop (k + 1) := List.drop_eq_getElem_cons hq
  rw [← h, e1, e2, he]
  exact decide_eq_decide.mpr ⟨fun h => by rw [h], fun h => (List.cons.inj h).2⟩
theorem drop_diff {p q : List Int} {k : Nat} (he : p[k]?.getD 0 ≠ q[k]?.getD 0) : decide (p = q) = false := by
  simp only [decide_eq_false_iff_not]
  intro h; subst h; exact he rfl

set_option maxRecDepth 100000 in
set_option maxHeartbeats 2000000 in
theorem refSameInts_c (v u : Value) (p q : List Int) (w : World) (hv : SlW w v (icells p)) (hu : SlW w u (icells q)) :
    Calls Tryz.prog 93 #[v, u] w fun e w' => e = .returned (.bool (decide (p = q))) ∧ Below w.heap.size w w' := by
  obtain ⟨A, c, rfl, hc1, hc2⟩ := hv.form
  obtain ⟨B, d, rfl, gc1, gc2⟩ := hu.form
  simp only [icells_length] at hc1 hc2 hv gc1 gc2 hu ⊢
  obtain ⟨r, hr⟩ : ∃ r, decide (p = q) = r := ⟨_, rfl⟩
  have HR := Lib.hid hr
  rw [hr]
  by_cases hl : p.length = q.length
  · have hb : ((p.length : Int) != (q.length : Int)) = false := by rw [hl]; simp
    have HL := Lib.hid hl
    clear hr hl
    go_enter Tryz.func93, Tryz.ntmps93
    go_wp2_with fail
    go_loopg [5] p.length (fun g i wr => ∃ (k : Nat), k + g = p.length ∧ i = .int .i64 k ∧ Hid (decide (p.drop k = q.drop k) = decide (p = q)) ∧ Below w.heap.size w wr)
    case atStart => exact ⟨0, by omega, rfl, Lib.hid rfl, Below.refl _ _⟩
    case round =>
      obtain ⟨k, hk, rfl, hD, hB⟩ := hrel
      cases gk with
      | zero =>
        have hin : ¬ ((k : Int) < (p.length : Int)) := by omega
        have HT : Hid (r = true) := Lib.hid (by
          rw [← HR.out, ← hD.out, List.drop_eq_nil_of_le (by omega), List.drop_eq_nil_of_le (by have := HL.out; omega)]; rfl)
        clear hk
        go_wp2
        go_ret
        exact ⟨by rw [HT.out]; rfl, hB⟩
      | succ g =>
        have hlt : k < p.length := by omega
        have hlq : k < q.length := by have := HL.out; omega
        obtain ⟨b1, off1, rfl, hbb1, hcell1⟩ := hv.at_ (k := k) (by rw [icells_length]; omega)
        obtain ⟨b2, off2, rfl, hbb2, hcell2⟩ := hu.at_ (k := k) (by rw [icells_length]; omega)
        have hck1 := (hB.cell (p := ⟨b1, off1 + k, none⟩) hbb1).trans ((hcell1 k (by rw [icells_length]; omega)).trans (icells_at p k hlt))
        have hck2 := (hB.cell (p := ⟨b2, off2 + k, none⟩) hbb2).trans ((hcell2 k (by rw [icells_length]; omega)).trans (icells_at q k hlq))
        have Hstep := Lib.hid (fun he => drop_step hlt HL.out hD.out he)
        have Hdiff := Lib.hid (fun he => drop_diff (p := p) (q := q) (k := k) he)
        have Hk := Lib.hid hk
        clear hcell1 hcell2 hv hu hk
        generalize p[k]?.getD 0 = x at *
        generalize q[k]?.getD 0 = y at *
        by_cases he : x = y
        · have Hs := Lib.hid (Hstep.out he)
          have hxy : (x != y) = false := by simp [he]
          clear he
          go_wp2
          go_quiet (fail)
          have hB' := below_drewN hB nq
          go_wp2
          go_roundg g
          case rel => exact ⟨k + 1, by have := Hk.out; omega, by go_num, Hs, hB'⟩
          case measure => omega
        · have Hs := Lib.hid (Hdiff.out he)
          have hxy : (x != y) = true := by simpa using he
          clear he
          have HF : Hid (r = false) := Lib.hid (by rw [← HR.out]; exact Hs.out)
          go_wp2
          go_quiet (fail)
          have hB' := below_drewN hB nq
          go_wp2
          go_ret
          exact ⟨by rw [HF.out]; rfl, hB'⟩
  · have hb : ((p.length : Int) != (q.length : Int)) = true := by simpa using (by omega : ¬ (p.length : Int) = q.length)
    have hne : p ≠ q := by intro h; subst h; exact hl rfl
    have HF : Hid (r = false) := Lib.hid (by rw [← hr]; simpa using hne)
    clear hr hne hl
    go_enter Tryz.func93, Tryz.ntmps93
    go_wp2
    go_ret
    exact ⟨by rw [HF.out]; rfl, Below.refl _ _⟩

end Go.Proofs.YtneafcdfnhnpnaaGreatDoor
/- Contracts: the field of the integers modulo a prime number. -/
namespace Go.Proofs.YtneafcdfnhnpnaaGreatDoor
open Go.RowKit

def resV (p : Int) : Value := .agg #[.int .i64 p]
set_option maxHeartbeats 400000 in
theorem resIsZero_c (p a : Int) (w : World) : Calls Tryz.prog 319 #[.agg #[.int .i64 p], .int .i64 a] w fun e w' => e = .returned (.bool (a == 0)) ∧ Below w.heap.size w w' := by
  by_cases h : (a == 0) = true
  · go_enter Tryz.func319, Tryz.ntmps319
    go_wp2
    go_ret
    exact ⟨by rw [h]; rfl, (Below.refl _ _).alloc (Nat.le_refl _) _⟩
  · have h' : (a == 0) = false := by simpa using h
    clear h
    go_enter Tryz.func319, Tryz.ntmps319
    go_wp2
    go_ret
    exact ⟨by rw [h']; rfl, (Below.refl _ _).alloc (Nat.le_refl _) _⟩
set_option maxHeartbeats 400000 in
theorem resTimes_c (p a b : Int) (w : World) (hp : 1 ≤ p) (hp2 : p ≤ 1000000000) (ha : 0 ≤ a ∧ a < p) (hb : 0 ≤ b ∧ b < p) : Calls Tryz.prog 323 #[.agg #[.int .i64 p], .int .i64 a, .int .i64 b] w fun e w' => e = .returned (.int .i64 (a * b % p)) ∧ Below w.heap.size w w' := by
  have h1 : 0 ≤ a * b := Int.mul_nonneg ha.1 hb.1
  have h2 : a * b ≤ 1000000000 * 1000000000 := Int.mul_le_mul (by omega) (by omega) hb.1 (by omega)
  obtain ⟨ha1, ha2⟩ := ha
  obtain ⟨hb1, hb2⟩ := hb
  go_enter Tryz.func323, Tryz.ntmps323
  go_wp2
  go_ret
  exact ⟨rfl, (Below.refl _ _).alloc (Nat.le_refl _) _⟩
set_option maxHeartbeats 400000 in
theorem resMinus_c (p a b : Int) (w : World) (hp : 1 ≤ p) (hp2 : p ≤ 1000000000) (ha : 0 ≤ a ∧ a < p) (hb : 0 ≤ b ∧ b < p) : Calls Tryz.prog 320 #[.agg #[.int .i64 p], .int .i64 a, .int .i64 b] w fun e w' => e = .returned (.int .i64 ((a - b) % p)) ∧ Below w.heap.size w w' := by
  obtain ⟨ha1, ha2⟩ := ha
  obtain ⟨hb1, hb2⟩ := hb
  go_enter Tryz.func320, Tryz.ntmps320
  go_wp2_with (go_at_call 190; refine (remainder_c _ _ _ hp (by omega)).mono ?_; rintro e w' ⟨rfl, rfl⟩)
  go_ret
  exact ⟨rfl, (Below.refl _ _).alloc (Nat.le_refl _) _⟩
set_option maxHeartbeats 400000 in
theorem resOf_c (p n : Int) (w : World) (hp : 1 ≤ p) (hp2 : p ≤ 1000000000) : Calls Tryz.prog 321 #[.agg #[.int .i64 p], .int .i64 n] w fun e w' => e = .returned (.int .i64 (n % p)) ∧ Below w.heap.size w w' := by
  go_enter Tryz.func321, Tryz.ntmps321
  go_wp2_with (go_at_call 190; refine (remainder_c _ _ _ hp (by omega)).mono ?_; rintro e w' ⟨rfl, rfl⟩)
  go_ret
  exact ⟨rfl, (Below.refl _ _).alloc (Nat.le_refl _) _⟩


/-- the inverse of b modulo p -/
noncomputable def invI (p b : Int) : Int := @Classical.epsilon Int ⟨0⟩ fun x => 0 ≤ x ∧ x < p ∧ p ∣ (x * b - 1)
theorem invI_eq (p b x : Int) (h0 : 0 ≤ x) (h1 : x < p) (h2 : p ∣ (x * b - 1)) : invI p b = x := by
  have h := Classical.epsilon_spec (p := fun x => 0 ≤ x ∧ x < p ∧ p ∣ (x * b - 1)) ⟨x, h0, h1, h2⟩
  change 0 ≤ invI p b ∧ invI p b < p ∧ p ∣ (invI p b * b - 1) at h
  generalize invI p b = y at *
  obtain ⟨g0, g1, g2⟩ := h
  have hd : p ∣ (y - x) := by
    have e : y - x = y * (1 - x * b) + x * (y * b - 1) := by grind
    rw [e]
    exact Int.dvd_add (Int.dvd_trans (by rw [show (1 - x * b) = -(x * b - 1) by omega]; exact Int.dvd_neg.mpr h2) (Int.dvd_mul_left ..)) (Int.dvd_trans g2 (Int.dvd_mul_left ..))
  have := Int.emod_eq_of_lt g0 g1
  have h3 := Int.emod_eq_of_lt h0 h1
  have := Int.emod_emod_of_dvd y (Int.dvd_refl p)
  have h4 : (y - x) % p = 0 := Int.emod_eq_zero_of_dvd hd
  have h5 := (Int.emod_eq_emod_iff_emod_sub_eq_zero).mpr h4
  omega
noncomputable def overI (p a b : Int) : Int := a * invI p b % p
/-- p is a prime number as far as inverses go -/
def PF (p : Int) : Prop := 2 ≤ p ∧ p ≤ 1000000000 ∧ ∀ b, 0 < b → b < p → Int.gcd b p = 1
set_option maxHeartbeats 400000 in
theorem resOver_c (p a b : Int) (w : World) (hp : PF p) (ha : 0 ≤ a ∧ a < p) (hb : 0 < b ∧ b < p) : Calls Tryz.prog 322 #[.agg #[.int .i64 p], .int .i64 a, .int .i64 b] w fun e w' => e = .returned (.int .i64 (overI p a b)) ∧ Below w.heap.size w w' := by
  have hg := Lib.hid (hp.2.2 b hb.1 hb.2)
  have hbg := Lib.hid hb
  have hag := Lib.hid ha
  have hpp := Lib.hid hp
  have hp1 := hp.1
  have hp2 := hp.2.1
  clear hp ha hb
  go_enter Tryz.func322, Tryz.ntmps322
  go_wp2_with fail
  refine (inverseModulo_c _ _ _ (by omega) (by omega)).mono ?_
  rintro e w1 ⟨⟨k, rfl⟩, h⟩
  rcases h with ⟨-, x, rfl, hx0, hx1, hx2⟩ | ⟨h, -⟩
  · have hi := Lib.hid (invI_eq p b x hx0 hx1 hx2)
    have HT := Lib.hid (fun W => resTimes_c p a x W (by omega) (by omega) hag.out ⟨hx0, hx1⟩)
    clear hx2
    go_wp2_with (go_at_call 323; refine (HT.out _).mono ?_; rintro e w2 ⟨rfl, hB2⟩)
    go_ret
    refine ⟨?_, ?_⟩
    · unfold overI; rw [hi.out]; rfl
    · exact (below_drewN ((Below.refl _ w).alloc (Nat.le_refl _) _) k).trans (hB2.mono (by simp))
  · exact absurd hg.out h

/-- all blocks that were there, but one, are as they were -/
structure But (g : Nat) (w w' : World) : Prop where
  os : w'.os = w.os
  tape : w'.tape = w.tape
  output : w'.output = w.output
  size : w.heap.size ≤ w'.heap.size
  block : ∀ k, k < w.heap.size → k ≠ g → w'.heap[k]? = w.heap[k]?
theorem But.refl (g : Nat) (w : World) : But g w w := ⟨rfl, rfl, rfl, Nat.le_refl _, fun _ _ _ => rfl⟩
theorem But.trans {g : Nat} {a b c : World} (h : But g a b) (k : But g b c) : But g a c :=
  ⟨k.os.trans h.os, k.tape.trans h.tape, k.output.trans h.output, Nat.le_trans h.size k.size, fun i hi hg => (k.block i (Nat.lt_of_lt_of_le hi h.size) hg).trans (h.block i hi hg)⟩
theorem But.of_below {g : Nat} {a b : World} (h : Below a.heap.size a b) : But g a b := ⟨h.os, h.tape, h.output, h.size, fun i hi _ => h.block i hi⟩
theorem But.below {g : Nat} {a b c : World} (h : But g a b) (k : Below b.heap.size b c) : But g a c := h.trans (But.of_below k)
theorem But.setCell {g : Nat} {a b : World} (h : But g a b) (p : Addr) (hp : p.block = g) (u : Value) : But g a (b.setCell p u) :=
  h.trans ⟨rfl, rfl, rfl, by simp [World.setCell], fun k _ hg => Below.heap_setCell _ _ _ _ (by omega)⟩
theorem But.toBelow {g B : Nat} {a b : World} (h : But g a b) (hg : B ≤ g) (hB : B ≤ a.heap.size) : Below B a b := ⟨h.os, h.tape, h.output, h.size, fun k hk => h.block k (by omega) (by omega)⟩
theorem Own.but {w w' : World} {g h : Nat} {t : TypeId} {cs : List Value} (o : Own w h t cs) (hb : But g w w') (hg : h ≠ g) : Own w' h t cs := (hb.block h o.lt hg).trans o

theorem isZero_meth (p : Int) (w : World) : (method 444 197 (.agg #[.int .i64 p]) "talisman/algebra.isZero").run Tryz.prog w = .ok (319, .agg #[.int .i64 p]) w := by kernel_rfl
theorem over_meth (p : Int) (w : World) : (method 444 197 (.agg #[.int .i64 p]) "talisman/algebra.over").run Tryz.prog w = .ok (322, .agg #[.int .i64 p]) w := by kernel_rfl
theorem times_meth (p : Int) (w : World) : (method 444 197 (.agg #[.int .i64 p]) "talisman/algebra.times").run Tryz.prog w = .ok (323, .agg #[.int .i64 p]) w := by kernel_rfl
theorem minus_meth (p : Int) (w : World) : (method 444 197 (.agg #[.int .i64 p]) "talisman/algebra.minus").run Tryz.prog w = .ok (320, .agg #[.int .i64 p]) w := by kernel_rfl
theorem of_meth (p : Int) (w : World) : (method 444 197 (.agg #[.int .i64 p]) "talisman/algebra.of").run Tryz.prog w = .ok (321, .agg #[.int .i64 p]) w := by kernel_rfl

/-- f at the places from o up to o + k -/
def mapFrom (f : Int → Int) (o k : Nat) (L : List Int) : List Int := L.mapIdx fun j x => if o ≤ j ∧ j < o + k then f x else x
theorem mapFrom_length (f : Int → Int) (o k : Nat) (L : List Int) : (mapFrom f o k L).length = L.length := by simp [mapFrom]
theorem mapFrom_zero (f : Int → Int) (o : Nat) (L : List Int) : mapFrom f o 0 L = L := by
  apply List.ext_getElem?
  intro j
  simp only [mapFrom, List.getElem?_mapIdx, Nat.add_zero]
  cases L[j]? with
  | none => rfl
  | some x => simp only [Option.map_some]; rw [if_neg (by omega)]
theorem mapFrom_at (f : Int → Int) (o k : Nat) (L : List Int) : (mapFrom f o k L)[o + k]? = L[o + k]? := by
  simp only [mapFrom, List.getElem?_mapIdx, Nat.lt_irrefl, and_false, if_false]
  cases L[o + k]? <;> simp
theorem mapFrom_succ (f : Int → Int) (o k : Nat) (L : List Int) (h : o + k < L.length) : (mapFrom f o k L).set (o + k) (f (L[o + k]?.getD 0)) = mapFrom f o (k + 1) L := by
  apply List.ext_getElem?
  intro j
  rw [List.getElem?_set]
  simp only [mapFrom, List.getElem?_mapIdx, List.length_mapIdx]
  by_cases hj : o + k = j
  · subst hj; simp [h]
  · rw [if_neg hj]
    rcases Nat.lt_or_ge j L.length with hl | hl
    · rw [List.getElem?_eq_getElem hl]
      simp only [Option.map_some, Option.some.injEq]
      by_cases h2 : o ≤ j ∧ j < o + k
      · rw [if_pos h2, if_pos (by omega)]
      · rw [if_neg h2, if_neg (by omega)]
    · rw [List.getElem?_eq_none hl]; rfl
theorem mapFrom_same (f : Int → Int) (o k : Nat) (L : List Int) (h : o + k < L.length) (hf : f (L[o + k]?.getD 0) = L[o + k]?.getD 0) : mapFrom f o (k + 1) L = mapFrom f o k L := by
  rw [← mapFrom_succ f o k L h, hf]
  apply List.ext_getElem?
  intro j
  rw [List.getElem?_set, mapFrom_length]
  by_cases hj : o + k = j
  · subst hj; rw [mapFrom_at]; simp [h]
  · rw [if_neg hj]
noncomputable def divI (p d x : Int) : Int := if x = 0 then x else overI p x d

set_option maxRecDepth 100000 in
set_option maxHeartbeats 2000000 in
theorem divideI_c (p d : Int) (w : World) (b o n c : Nat) (L : List Int) (hO : Own w b 2 (icells L)) (hn : o + n = L.length) (hc1 : n ≤ c) (hc2 : c ≤ 1000000)
    (hp : PF p) (hL : ∀ x ∈ L, 0 ≤ x ∧ x < p) (hd : 0 < d ∧ d < p) :
    Calls Tryz.prog 212 #[.iface 197 (.agg #[.int .i64 p]), .slice (some ⟨b, o, none⟩) n c, .int .i64 d] w fun e w' =>
      e = .returned (.tuple #[]) ∧ Own w' b 2 (icells (mapFrom (divI p d) o n L)) ∧ But b w w' := by
  have hZ := isZero_meth p
  have hV := over_meth p
  have HZ := Lib.hid (fun (x : Int) W => resIsZero_c p x W)
  have HO := Lib.hid (fun (x : Int) W hx => resOver_c p x d W hp hx hd)
  have HL := Lib.hid hL
  clear hp hd hL
  have hstart : Own w b 2 (icells (mapFrom (divI p d) o 0 L)) := by rw [mapFrom_zero]; exact hO
  have hb : b < w.heap.size := hO.lt
  go_enter Tryz.func212, Tryz.ntmps212
  go_wp2_with fail
  clear hO
  go_loopw [6, 7, 10] (fun _ _ i wr => ∃ (k : Nat), i = .int .i64 k ∧ k ≤ n ∧ Own wr b 2 (icells (mapFrom (divI p d) o k L)) ∧ But b w wr) (fun _ _ i _ => n - (intOf i).toNat)
  case atStart => exact ⟨0, rfl, by omega, hstart, But.refl _ _⟩
  case round =>
    clear hstart
    obtain ⟨k, rfl, hk, hO, hB⟩ := hrel
    by_cases hlt : k < n
    · have hck := (hO.cell (o + k)).trans (icells_at _ (o + k) (by rw [mapFrom_length]; omega))
      rw [mapFrom_at] at hck
      have hfr := hO.free (o + k)
      have hx := HL.out (L[o + k]?.getD 0) (by rw [List.getElem?_eq_getElem (by omega)]; exact List.getElem_mem (by omega))
      have Hsame := Lib.hid (mapFrom_same (divI p d) o k L (by omega))
      have Hsucc := Lib.hid (mapFrom_succ (divI p d) o k L (by omega))
      generalize L[o + k]?.getD 0 = x at *
      by_cases h0 : (x == 0) = true
      · have Hs := Lib.hid (Hsame.out (by unfold divI; rw [if_pos (by simpa using h0)]))
        go_wp2_with fail
        refine (HZ.out _ _).mono ?_
        rintro e w2 ⟨rfl, hB2⟩
        have hB' := hB.below hB2
        have hO' := hO.below hB2 hO.lt
        clear hck hfr hO hB hx
        go_wp2
        refine ⟨⟨k + 1, by go_num, by omega, ?_, hB'⟩, by simp [intOf]; omega⟩
        rw [Hs.out]; exact hO'
      · have h0' : (x == 0) = false := by simpa using h0
        have Hv := Lib.hid (show divI p d x = overI p x d by unfold divI; rw [if_neg (by simpa using h0)])
        clear h0
        go_wp2_with fail
        refine (HZ.out _ _).mono ?_
        rintro e w2 ⟨rfl, hB2⟩
        have hB' := hB.below hB2
        have hO' := hO.below hB2 hO.lt
        clear hck hfr hO hB hB2
        go_wp2_with fail
        refine (HO.out _ _ hx).mono ?_
        rintro e w3 ⟨rfl, hB3⟩
        have hB := hB'.below hB3
        have hO := hO'.below hB3 hO'.lt
        have hck2 := (hO.cell (o + k)).trans (icells_at _ (o + k) (by rw [mapFrom_length]; omega))
        have hfr := hO.free (o + k)
        clear hB' hO' hB3 hx
        go_wp2
        refine ⟨⟨k + 1, by go_num, by omega, ?_, hB.setCell _ rfl _⟩, by simp [intOf]; omega⟩
        rw [← Hsucc.out, Hv.out, ← icells_set]; exact hO.put _ _
    · have hkk : k = n := by omega
      subst hkk
      go_wp2
      go_end0
      exact ⟨rfl, hO, hB⟩

end Go.Proofs.YtneafcdfnhnpnaaGreatDoor
