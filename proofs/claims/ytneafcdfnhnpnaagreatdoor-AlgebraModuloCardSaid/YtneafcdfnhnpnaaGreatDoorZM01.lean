/- Plain mathematics: the reduced echelon form of a space of vectors is the only one. -/
import Derived.Lib.Hide
import Derived.Test.YtneafcdfnhnpnaaGreatDoorZ03
namespace Go.Proofs.YtneafcdfnhnpnaaGreatDoor

/-- the rows E 0 .. E (r - 1) are the reduced echelon form, with the columns c, of the space V of vectors with n places -/
structure Rref {K : Type} [Lean.Grind.Field K] (V : (Nat → K) → Prop) (n r : Nat) (c : Nat → Nat) (E : Nat → Nat → K) : Prop where
  lt : ∀ i, i < r → c i < n
  mono : ∀ i j, i < j → j < r → c i < c j
  one : ∀ i, i < r → E i (c i) = 1
  zero : ∀ i j, i < r → j < r → i ≠ j → E i (c j) = 0
  before : ∀ i, i < r → ∀ k, k < c i → E i k = 0
  mem : ∀ i, i < r → V (E i)
  det : ∀ v, V v → (∀ j, j < r → v (c j) = 0) → ∀ k, k < n → v k = 0
/-- a space -/
def Spc {K : Type} [Lean.Grind.Field K] (V : (Nat → K) → Prop) : Prop := ∀ v u t, V v → V u → V (fun k => v k - t * u k)
/-- what is left of v when so many times each of the first k rows is taken away that the columns are 0 -/
def redu {K : Type} [Lean.Grind.Field K] (c : Nat → Nat) (E : Nat → Nat → K) (v : Nat → K) : Nat → Nat → K
  | 0 => v
  | k + 1 => fun x => redu c E v k x - redu c E v k (c k) * E k x
section
variable {K : Type} [Lean.Grind.Field K] {V : (Nat → K) → Prop} {n r : Nat} {c : Nat → Nat} {E : Nat → Nat → K}

theorem redu_mem (hV : Spc V) (h : Rref V n r c E) {v : Nat → K} (hv : V v) : ∀ k, k ≤ r → V (redu c E v k)
  | 0, _ => hv
  | k + 1, hk => hV _ _ _ (redu_mem hV h hv k (by omega)) (h.mem k (by omega))
theorem redu_same {v : Nat → K} (x : Nat) : ∀ k, (∀ j, j < k → redu c E v j (c j) = 0 ∨ E j x = 0) → redu c E v k x = v x
  | 0, _ => rfl
  | k + 1, hk => by
    have ih := redu_same (v := v) x k (fun j hj => hk j (by omega))
    show redu c E v k x - redu c E v k (c k) * E k x = v x
    rw [ih]
    rcases hk k (by omega) with h | h <;> rw [h] <;> grind
theorem redu_later (h : Rref V n r c E) {v : Nat → K} {j : Nat} (hj : j < r) : ∀ k, k ≤ j → redu c E v k (c j) = v (c j) := fun k hk =>
  redu_same (c j) k (fun i hi => .inr (h.zero i j (by omega) hj (by omega)))
theorem redu_zero (h : Rref V n r c E) {v : Nat → K} : ∀ k, k ≤ r → ∀ j, j < k → redu c E v k (c j) = 0
  | 0, _, _, hj => by omega
  | k + 1, hk, j, hj => by
    show redu c E v k (c j) - redu c E v k (c k) * E k (c j) = 0
    by_cases hjk : j = k
    · subst hjk
      rw [h.one j (by omega)]; grind
    · rw [redu_zero h k (by omega) j (by omega), h.zero k j (by omega) (by omega) (by omega)]; grind
theorem redu_none (hV : Spc V) (h : Rref V n r c E) {v : Nat → K} (hv : V v) {x : Nat} (hx : x < n) : redu c E v r x = 0 :=
  h.det _ (redu_mem hV h hv r (Nat.le_refl _)) (redu_zero h r (Nat.le_refl _)) x hx
/-- the first column in which a vector of the space is not 0 is one of the columns -/
theorem Rref.first (hV : Spc V) (h : Rref V n r c E) {v : Nat → K} (hv : V v) {x : Nat} (hx : x < n) (h1 : v x ≠ 0) (h0 : ∀ k, k < x → v k = 0) : ∃ j, j < r ∧ c j = x := by
  refine Classical.byContradiction fun hno => h1 ?_
  rw [← redu_same (c := c) (E := E) (v := v) x r, redu_none hV h hv hx]
  intro j hj
  have hne : c j ≠ x := fun e => hno ⟨j, hj, e⟩
  rcases Nat.lt_or_ge (c j) x with hl | hl
  · exact .inl (by rw [redu_later h hj j (Nat.le_refl _)]; exact h0 _ hl)
  · exact .inr (h.before j hj x (by omega))
theorem mono_le {c : Nat → Nat} {r : Nat} (h : ∀ i j, i < j → j < r → c i < c j) {i j : Nat} (hij : i ≤ j) (hj : j < r) : c i ≤ c j := by
  rcases Nat.lt_or_ge i j with h1 | h1
  · exact Nat.le_of_lt (h i j h1 hj)
  · rw [Nat.le_antisymm hij h1]; exact Nat.le_refl _
/-- two increasing lists with the same members are equal -/
theorem same_list {c d : Nat → Nat} {r s : Nat} (hc : ∀ i j, i < j → j < r → c i < c j) (hd : ∀ i j, i < j → j < s → d i < d j) (h1 : ∀ i, i < r → ∃ j, j < s ∧ d j = c i) (h2 : ∀ i, i < s → ∃ j, j < r ∧ c j = d i) :
    (∀ i, i < r → i < s → c i = d i) ∧ r = s := by
  have hall : ∀ m i, i < m → i < r → i < s → c i = d i := by
    intro m
    induction m with
    | zero => intro i hi; omega
    | succ m ih =>
      intro i hi hr hs
      obtain ⟨j, hj, ej⟩ := h1 i hr
      obtain ⟨l, hl, el⟩ := h2 i hs
      have hij : i ≤ j := by
        refine Nat.le_of_not_lt fun hlt => ?_
        have := ih j (by omega) (by omega) hj
        have := hc j i hlt hr
        omega
      have hil : i ≤ l := by
        refine Nat.le_of_not_lt fun hlt => ?_
        have := ih l (by omega) hl (by omega)
        have := hd l i hlt hs
        omega
      have := mono_le hd hij hj
      have := mono_le hc hil hl
      omega
  refine ⟨fun i hr hs => hall (i + 1) i (by omega) hr hs, ?_⟩
  rcases Nat.lt_trichotomy r s with h | h | h
  · obtain ⟨l, hl, el⟩ := h2 r h
    have := hall (l + 1) l (by omega) hl (by omega)
    have := hd l r hl h
    omega
  · exact h
  · obtain ⟨l, hl, el⟩ := h1 s h
    have := hall (l + 1) l (by omega) (by omega) hl
    have := hc l s hl h
    omega
theorem Rref.same (hV : Spc V) {s : Nat} {d : Nat → Nat} {D : Nat → Nat → K} (h : Rref V n r c E) (k : Rref V n s d D) : r = s ∧ (∀ i, i < r → c i = d i) ∧ ∀ i, i < r → ∀ x, x < n → E i x = D i x := by
  have z1 : ∀ a : K, a = 1 → a ≠ 0 := fun a ha h0 => Lean.Grind.Field.zero_ne_one (h0.symm.trans ha)
  obtain ⟨hcd, hrs⟩ := same_list h.mono k.mono (fun i hi => k.first hV (h.mem i hi) (h.lt i hi) (z1 _ (h.one i hi)) (h.before i hi)) (fun i hi => h.first hV (k.mem i hi) (k.lt i hi) (z1 _ (k.one i hi)) (k.before i hi))
  subst hrs
  refine ⟨rfl, fun i hi => hcd i hi hi, fun i hi x hx => ?_⟩
  have := h.det _ (hV _ _ 1 (h.mem i hi) (k.mem i hi)) (fun j hj => by
    show E i (c j) - 1 * D i (c j) = 0
    by_cases hij : i = j
    · subst hij
      rw [h.one i hi, hcd i hi hi, k.one i hi]; grind
    · rw [h.zero i j hi hj hij, hcd j hj hj, k.zero i j hi hj hij]; grind) x hx
  have e : E i x - 1 * D i x = 0 := this
  grind
end
end Go.Proofs.YtneafcdfnhnpnaaGreatDoor
/- Plain mathematics: the vectors that a matrix makes 0, and a basis of them. -/
namespace Go.Proofs.YtneafcdfnhnpnaaGreatDoor

section
variable {K : Type} [Lean.Grind.Field K]
def sumTo (f : Nat → K) : Nat → K
  | 0 => 0
  | k + 1 => sumTo f k + f k
theorem sumTo_zero {f : Nat → K} : ∀ n, (∀ k, k < n → f k = 0) → sumTo f n = 0
  | 0, _ => rfl
  | n + 1, h => by
    show sumTo f n + f n = 0
    rw [sumTo_zero n (fun k hk => h k (by omega)), h n (by omega)]; grind
theorem sumTo_one {f : Nat → K} {a : Nat} : ∀ n, a < n → (∀ k, k < n → k ≠ a → f k = 0) → sumTo f n = f a
  | 0, h, _ => by omega
  | n + 1, ha, h => by
    show sumTo f n + f n = f a
    by_cases hn : a = n
    · subst hn
      rw [sumTo_zero a (fun k hk => h k (by omega) (by omega))]; grind
    · rw [sumTo_one n (by omega) (fun k hk hk2 => h k (by omega) hk2), h n (by omega) (fun e => hn e.symm)]; grind
theorem sumTo_two {f : Nat → K} {a b : Nat} (hab : a ≠ b) : ∀ n, a < n → b < n → (∀ k, k < n → k ≠ a → k ≠ b → f k = 0) → sumTo f n = f a + f b
  | 0, h, _, _ => by omega
  | n + 1, ha, hb, h => by
    show sumTo f n + f n = f a + f b
    by_cases hn : a = n
    · subst hn
      rw [sumTo_one (a := b) a (by omega) (fun k hk hk2 => h k (by omega) (by omega) hk2)]; grind
    · by_cases hn2 : b = n
      · subst hn2
        rw [sumTo_one (a := a) b (by omega) (fun k hk hk2 => h k (by omega) hk2 (by omega))]
      · rw [sumTo_two hab n (by omega) (by omega) (fun k hk h1 h2 => h k (by omega) h1 h2), h n (by omega) (fun e => hn e.symm) (fun e => hn2 e.symm)]; grind
theorem sumTo_sub {f g h : Nat → K} {t : K} : ∀ n, (∀ k, k < n → f k = g k - t * h k) → sumTo f n = sumTo g n - t * sumTo h n
  | 0, _ => by show (0 : K) = 0 - t * 0; grind
  | n + 1, H => by
    show sumTo f n + f n = sumTo g n + g n - t * (sumTo h n + h n)
    rw [sumTo_sub n (fun k hk => H k (by omega)), H n (by omega)]; grind
theorem sumTo_congr {f g : Nat → K} : ∀ n, (∀ k, k < n → f k = g k) → sumTo f n = sumTo g n
  | 0, _ => rfl
  | n + 1, h => by
    show sumTo f n + f n = sumTo g n + g n
    rw [sumTo_congr n (fun k hk => h k (by omega)), h n (by omega)]
theorem sumTo_first (f : Nat → K) : ∀ n, sumTo f (n + 1) = f 0 + sumTo (fun k => f (k + 1)) n
  | 0 => by show (0 : K) + f 0 = f 0 + 0; grind
  | n + 1 => by
    show sumTo f (n + 1) + f (n + 1) = f 0 + (sumTo (fun k => f (k + 1)) n + f (n + 1))
    rw [sumTo_first f n]; grind
theorem sumTo_rev (f : Nat → K) : ∀ n, sumTo (fun k => f (n - 1 - k)) n = sumTo f n
  | 0 => rfl
  | n + 1 => by
    rw [sumTo_first]
    show f (n + 1 - 1 - 0) + sumTo (fun k => f (n + 1 - 1 - (k + 1))) n = sumTo f n + f n
    rw [sumTo_congr (g := fun k => f (n - 1 - k)) n (fun k hk => congrArg f (by omega)), sumTo_rev f n, show n + 1 - 1 - 0 = n by omega]; grind

/-- the vectors that the first m rows of a matrix with n columns make 0 -/
def Ker (m n : Nat) (M : Nat → Nat → K) (v : Nat → K) : Prop := ∀ i, i < m → sumTo (fun k => M i k * v k) n = 0
theorem Ker.spc (m n : Nat) (M : Nat → Nat → K) : Spc (Ker m n M) := by
  intro v u t hv hu i hi
  rw [sumTo_sub (g := fun k => M i k * v k) (h := fun k => M i k * u k) (t := t) n (fun k _ => by grind), hv i hi, hu i hi]; grind
theorem Ker.ext {m n : Nat} {M : Nat → Nat → K} {v u : Nat → K} (h : Ker m n M v) (e : ∀ k, k < n → u k = v k) : Ker m n M u := by
  intro i hi
  rw [sumTo_congr (g := fun k => M i k * v k) n (fun k hk => by rw [e k hk])]; exact h i hi
/-- rows that have 1 in their own column, and 0 in the others' -/
structure Kron (r n : Nat) (c : Nat → Nat) (E : Nat → Nat → K) : Prop where
  lt : ∀ i, i < r → c i < n
  one : ∀ i, i < r → E i (c i) = 1
  zero : ∀ i j, i < r → j < r → i ≠ j → E i (c j) = 0
theorem Kron.inj {r n : Nat} {c : Nat → Nat} {E : Nat → Nat → K} (h : Kron r n c E) {i j : Nat} (hi : i < r) (hj : j < r) (e : c i = c j) : i = j := by
  refine Classical.byContradiction fun hne => ?_
  have h1 := h.zero i j hi hj hne
  rw [← e, h.one i hi] at h1
  exact Lean.Grind.Field.zero_ne_one h1.symm
/-- the vector that has 1 in the place f, and in the columns what makes the rows 0 -/
def bas (c : Nat → Nat) (E : Nat → Nat → K) (f : Nat) : Nat → Nat → K
  | 0 => fun k => if k = f then 1 else 0
  | i + 1 => fun k => if k = c i then -(E i f) else bas c E f i k
theorem bas_off {c : Nat → Nat} {E : Nat → Nat → K} {f k : Nat} : ∀ r, (∀ i, i < r → k ≠ c i) → bas c E f r k = if k = f then 1 else 0
  | 0, _ => rfl
  | r + 1, h => by
    show (if k = c r then -(E r f) else bas c E f r k) = _
    rw [if_neg (h r (by omega)), bas_off r (fun i hi => h i (by omega))]
theorem bas_on {n : Nat} {c : Nat → Nat} {E : Nat → Nat → K} {f : Nat} {s : Nat} (H : Kron s n c E) {i : Nat} : ∀ r, r ≤ s → i < r → bas c E f r (c i) = -(E i f)
  | 0, _, h => by omega
  | r + 1, hs, h => by
    show (if c i = c r then -(E r f) else bas c E f r (c i)) = _
    by_cases hi : i = r
    · subst hi; rw [if_pos rfl]
    · rw [if_neg (fun e => hi (H.inj (by omega) (by omega) e)), bas_on H r (by omega) (by omega)]
variable {r n : Nat} {c : Nat → Nat} {E : Nat → Nat → K}
theorem bas_mem (h : Kron r n c E) {f : Nat} (hf : f < n) (hfree : ∀ i, i < r → f ≠ c i) : Ker r n E (bas c E f r) := by
  intro i hi
  rw [sumTo_two (a := f) (b := c i) (hfree i hi) n hf (h.lt i hi) (fun k _ h1 h2 => ?_)]
  · rw [bas_off r hfree, if_pos rfl, bas_on h r (Nat.le_refl _) hi, h.one i hi]; grind
  · by_cases hk : ∃ j, j < r ∧ k = c j
    · obtain ⟨j, hj, rfl⟩ := hk
      rw [h.zero i j hi hj (fun e => h2 (by rw [e]))]; grind
    · rw [bas_off r (fun j hj e => hk ⟨j, hj, e⟩), if_neg h1]; grind
theorem ker_det (h : Kron r n c E) {v : Nat → K} (hv : Ker r n E v) (h0 : ∀ f, f < n → (∀ i, i < r → f ≠ c i) → v f = 0) : ∀ k, k < n → v k = 0 := by
  intro k hk
  by_cases hp : ∃ j, j < r ∧ k = c j
  · obtain ⟨i, hi, rfl⟩ := hp
    have := hv i hi
    rw [sumTo_one (a := c i) n hk (fun x hx hne => ?_), h.one i hi] at this
    · grind
    · by_cases hp2 : ∃ j, j < r ∧ x = c j
      · obtain ⟨j, hj, rfl⟩ := hp2
        rw [h.zero i j hi hj (fun e => hne (by rw [e]))]; grind
      · rw [h0 x hx (fun j hj e => hp2 ⟨j, hj, e⟩)]; grind
  · exact h0 k hk (fun j hj e => hp ⟨j, hj, e⟩)
end
end Go.Proofs.YtneafcdfnhnpnaaGreatDoor
/- Plain mathematics: the reduced basis of the vectors that a matrix makes 0, reached in two ways. -/
namespace Go.Proofs.YtneafcdfnhnpnaaGreatDoor

section
variable {K : Type} [Lean.Grind.Field K] {m n : Nat} {M : Nat → Nat → K}

/-- a list of the places that are no columns -/
structure Frees (n r : Nat) (c : Nat → Nat) (s : Nat) (fl : Nat → Nat) : Prop where
  lt : ∀ i, i < s → fl i < n
  free : ∀ i, i < s → ∀ j, j < r → fl i ≠ c j
  all : ∀ f, f < n → (∀ j, j < r → f ≠ c j) → ∃ i, i < s ∧ fl i = f
  inj : ∀ i j, i < s → j < s → i ≠ j → fl i ≠ fl j

variable {r s t : Nat} {c d fl : Nat → Nat} {E B : Nat → Nat → K}
theorem Frees.kron (F : Frees n r c s fl) : Kron s n fl (fun i => bas c E (fl i) r) := by
  refine ⟨F.lt, fun i hi => ?_, fun i j hi hj hne => ?_⟩
  · show bas c E (fl i) r (fl i) = 1
    rw [bas_off r (F.free i hi), if_pos rfl]
  · show bas c E (fl i) r (fl j) = 0
    rw [bas_off r (F.free j hj), if_neg (fun e => F.inj i j hi hj hne e.symm)]
theorem redu_mem2 {V : (Nat → K) → Prop} (hV : Spc V) (hm : ∀ i, i < r → V (E i)) {v : Nat → K} (hv : V v) : ∀ k, k ≤ r → V (redu c E v k)
  | 0, _ => hv
  | k + 1, hk => hV _ _ _ (redu_mem2 hV hm hv k (by omega)) (hm k (by omega))
theorem redu_kill (h : Kron r n c E) {v : Nat → K} : ∀ k, k ≤ r → ∀ j, j < k → redu c E v k (c j) = 0
  | 0, _, _, hj => by omega
  | k + 1, hk, j, hj => by
    show redu c E v k (c j) - redu c E v k (c k) * E k (c j) = 0
    by_cases hjk : j = k
    · subst hjk
      rw [h.one j (by omega)]; grind
    · rw [redu_kill h k (by omega) j (by omega), h.zero k j (by omega) (by omega) (by omega)]; grind
theorem redu_dot {v x : Nat → K} (hx : Ker r n E x) : ∀ k, k ≤ r → sumTo (fun j => redu c E v k j * x j) n = sumTo (fun j => v j * x j) n
  | 0, _ => rfl
  | k + 1, hk => by
    rw [sumTo_sub (g := fun j => redu c E v k j * x j) (h := fun j => E k j * x j) (t := redu c E v k (c k)) n (fun j _ => by
      show (redu c E v k j - redu c E v k (c k) * E k j) * x j = _
      grind), redu_dot hx k (by omega), hx k (by omega)]
    grind
/-- the reduced echelon form of the usual basis -/
theorem rref_usual (hE : Kron r n c E) (hK : ∀ v, Ker r n E v ↔ Ker m n M v) (F : Frees n r c s fl) (hB : Kron t n d B) (hmono : ∀ i j, i < j → j < t → d i < d j) (hbef : ∀ i, i < t → ∀ k, k < d i → B i k = 0)
    (hBK : ∀ x, Ker t n B x → Ker s n (fun i => bas c E (fl i) r) x) (hmem : ∀ i, i < t → Ker m n M (B i)) : Rref (Ker m n M) n t d B := by
  refine ⟨hB.lt, hmono, hB.one, hB.zero, hbef, hmem, fun v hv h0 k hk => ?_⟩
  have hout : ∀ i, i < s → Ker m n M (bas c E (fl i) r) := fun i hi => (hK _).1 (bas_mem hE (F.lt i hi) (F.free i hi))
  have hdot : ∀ x, Ker s n (fun i => bas c E (fl i) r) x → sumTo (fun j => v j * x j) n = 0 := by
    intro x hx
    rw [← redu_dot (c := fl) hx s (Nat.le_refl _)]
    have hw := redu_mem2 (c := fl) (E := fun i => bas c E (fl i) r) (Ker.spc m n M) hout hv s (Nat.le_refl _)
    have hz := ker_det hE ((hK _).2 hw) (fun f hf hfree => by
      obtain ⟨i, hi, rfl⟩ := F.all f hf hfree
      exact redu_kill F.kron s (Nat.le_refl _) i hi)
    exact sumTo_zero n (fun j hj => by rw [hz j hj]; grind)
  by_cases hp : ∃ j, j < t ∧ k = d j
  · obtain ⟨j, hj, rfl⟩ := hp; exact h0 j hj
  · have hf : ∀ i, i < t → k ≠ d i := fun i hi e => hp ⟨i, hi, e⟩
    have := hdot _ (hBK _ (bas_mem hB hk hf))
    rw [sumTo_one (a := k) n hk (fun j hj hne => ?_), bas_off t hf, if_pos rfl] at this
    · grind
    · by_cases hp2 : ∃ i, i < t ∧ j = d i
      · obtain ⟨i, hi, rfl⟩ := hp2
        rw [h0 i hi]; grind
      · rw [bas_off t (fun i hi e => hp2 ⟨i, hi, e⟩), if_neg hne]; grind
theorem Ker.rev {v : Nat → K} (h : Ker m n M v) : Ker m n (fun i k => M i (n - 1 - k)) (fun k => v (n - 1 - k)) := by
  intro i hi
  rw [sumTo_rev (fun k => M i k * v k) n]; exact h i hi
/-- the basis that elimination of the reversed rows gives, reversed -/
theorem rref_reversed (hE : Kron r n c E) (hK : ∀ v, Ker r n E v ↔ Ker m n (fun i k => M i (n - 1 - k)) v) (hbef : ∀ i, i < r → ∀ k, k < c i → E i k = 0) (F : Frees n r c s fl) (hdec : ∀ i j, i < j → j < s → fl j < fl i) :
    Rref (Ker m n M) n s (fun i => n - 1 - fl i) (fun i k => bas c E (fl i) r (n - 1 - k)) := by
  have hk := F.kron (E := E)
  refine ⟨fun i hi => ?_, fun i j hij hj => ?_, fun i hi => ?_, fun i j hi hj hne => ?_, fun i hi k hk2 => ?_, fun i hi => ?_, fun v hv h0 k hkn => ?_⟩
  · have := F.lt i hi; show n - 1 - fl i < n; omega
  · have := F.lt i (by omega); have := F.lt j hj; have := hdec i j hij hj; show n - 1 - fl i < n - 1 - fl j; omega
  · have := F.lt i hi
    show bas c E (fl i) r (n - 1 - (n - 1 - fl i)) = 1
    rw [show n - 1 - (n - 1 - fl i) = fl i by omega]; exact hk.one i hi
  · have := F.lt j hj
    show bas c E (fl i) r (n - 1 - (n - 1 - fl j)) = 0
    rw [show n - 1 - (n - 1 - fl j) = fl j by omega]; exact hk.zero i j hi hj hne
  · have hk3 : k < n - 1 - fl i := hk2
    show bas c E (fl i) r (n - 1 - k) = 0
    by_cases hp : ∃ j, j < r ∧ n - 1 - k = c j
    · obtain ⟨j, hj, e⟩ := hp
      rw [e, bas_on hE r (Nat.le_refl _) hj, hbef j hj _ (by omega)]; grind
    · rw [bas_off r (fun j hj e => hp ⟨j, hj, e⟩), if_neg (by omega)]
  · have := ((hK _).1 (bas_mem hE (F.lt i hi) (F.free i hi))).rev
    intro p hp
    rw [← this p hp]
    refine sumTo_congr n (fun x hx => ?_)
    show M p x * _ = M p (n - 1 - (n - 1 - x)) * _
    rw [show n - 1 - (n - 1 - x) = x by omega]
  · have := ker_det hE ((hK _).2 hv.rev) (fun f hf hfree => by
      obtain ⟨i, hi, rfl⟩ := F.all f hf hfree
      exact h0 i hi) (n - 1 - k) (by omega)
    rw [show n - 1 - (n - 1 - k) = k by omega] at this
    exact this
end
end Go.Proofs.YtneafcdfnhnpnaaGreatDoor
/- Plain mathematics: a step of elimination. -/
namespace Go.Proofs.YtneafcdfnhnpnaaGreatDoor

section
variable {K : Type} [Lean.Grind.Field K] {m n : Nat} {M A : Nat → Nat → K}
/-- a matrix A, reached from M, that is reduced in its first fr columns -/
structure Redn (m n : Nat) (M A : Nat → Nat → K) (q fr : Nat) (c : Nat → Nat) : Prop where
  ker : ∀ v, Ker m n A v ↔ Ker m n M v
  spc : ∀ V : (Nat → K) → Prop, Spc V → (∀ i, i < m → V (M i)) → ∀ i, i < m → V (A i)
  lt : ∀ i, i < q → c i < fr
  mono : ∀ i j, i < j → j < q → c i < c j
  one : ∀ i, i < q → A i (c i) = 1
  zero : ∀ i j, i < m → j < q → i ≠ j → A i (c j) = 0
  before : ∀ i, i < q → ∀ k, k < c i → A i k = 0
  rest : ∀ i, q ≤ i → i < m → ∀ k, k < fr → A i k = 0
  qm : q ≤ m
def sw (q row i : Nat) : Nat := if i = q then row else if i = row then q else i
/-- the rows q and row change places, the new row q is divided by its number in the column, and taken away from the others -/
def stepA (A : Nat → Nat → K) (q row col : Nat) (i k : Nat) : K :=
  if i = q then A row k * (A row col)⁻¹ else A (sw q row i) k - A (sw q row i) col * (A row k * (A row col)⁻¹)
theorem sumTo_scale {f : Nat → K} (t : K) : ∀ n, sumTo (fun k => f k * t) n = sumTo f n * t
  | 0 => by show (0 : K) = 0 * t; grind
  | n + 1 => by
    show sumTo (fun k => f k * t) n + f n * t = (sumTo f n + f n) * t
    rw [sumTo_scale t n]; grind
variable {q fr row col : Nat} {c : Nat → Nat}
theorem stepA_ker (hq : q < m) (hr : row < m) (hd : A row col ≠ 0) (v : Nat → K) : Ker m n (stepA A q row col) v ↔ Ker m n A v := by
  have hdd := Lean.Grind.Field.mul_inv_cancel hd
  have eq : sumTo (fun k => stepA A q row col q k * v k) n = sumTo (fun k => A row k * v k) n * (A row col)⁻¹ := by
    rw [← sumTo_scale]
    exact sumTo_congr n (fun k _ => by unfold stepA; rw [if_pos rfl]; grind)
  have ei : ∀ i, i ≠ q → sumTo (fun k => stepA A q row col i k * v k) n = sumTo (fun k => A (sw q row i) k * v k) n - (A (sw q row i) col * (A row col)⁻¹) * sumTo (fun k => A row k * v k) n := by
    intro i hi
    exact sumTo_sub n (fun k _ => by unfold stepA; rw [if_neg hi]; grind)
  constructor
  · intro h
    have h0 : sumTo (fun k => A row k * v k) n = 0 := by
      have := h q hq
      rw [eq] at this
      generalize sumTo (fun k => A row k * v k) n = s at *
      have e2 : s = s * (A row col)⁻¹ * A row col := by grind
      rw [e2, this]; grind
    have hx : ∀ i, i < m → i ≠ q → sumTo (fun k => A (sw q row i) k * v k) n = 0 := by
      intro i hi hne
      have := h i hi
      rw [ei i hne, h0] at this
      grind
    intro i hi
    by_cases h1 : i = row
    · rw [h1]; exact h0
    · by_cases h2 : i = q
      · have := hx row hr (fun e => h1 (by rw [h2, e]))
        unfold sw at this
        rw [if_neg (fun e => h1 (by rw [h2, e])), if_pos rfl] at this
        rw [h2]; exact this
      · have := hx i hi h2
        unfold sw at this
        rw [if_neg h2, if_neg h1] at this
        exact this
  · intro h i hi
    by_cases h2 : i = q
    · rw [h2, eq, h row hr]; grind
    · rw [ei i h2, h row hr]
      have : sw q row i < m := by unfold sw; split; exact hr; split <;> omega
      rw [h _ this]; grind
theorem Redn.step (h : Redn m n M A q fr c) (hq : q ≤ row) (hr : row < m) (hf : fr ≤ col) (hd : A row col ≠ 0) (h0 : ∀ i, q ≤ i → i < m → ∀ k, k < col → A i k = 0) :
    Redn m n M (stepA A q row col) (q + 1) (col + 1) (fun i => if i = q then col else c i) := by
  have hdd := Lean.Grind.Field.mul_inv_cancel hd
  have swm : ∀ i, i < m → sw q row i < m := fun i hi => by unfold sw; split; exact hr; split <;> omega
  have swq : ∀ i, q ≤ i → q ≤ sw q row i := fun i hi => by unfold sw; split; exact hq; split <;> omega
  have swl : ∀ i, i < q → sw q row i = i := fun i hi => by unfold sw; rw [if_neg (by omega), if_neg (by omega)]
  have hcol : ∀ i, i ≠ q → stepA A q row col i col = 0 := fun i hi => by unfold stepA; rw [if_neg hi]; grind
  have hrow : ∀ j, j < q → A row (c j) = 0 := fun j hj => h.zero row j hr hj (by omega)
  refine ⟨fun v => (stepA_ker (by omega) hr hd v).trans (h.ker v), fun V hV hM i hi => ?_, fun i hi => ?_, fun i j hij hj => ?_, fun i hi => ?_, fun i j hi hj hne => ?_, fun i hi k hk => ?_, fun i hi him k hk => ?_, by omega⟩
  · have hA := h.spc V hV hM
    have hP : V (fun k => A row k * (A row col)⁻¹) := by
      have := hV _ _ (1 - (A row col)⁻¹) (hA row hr) (hA row hr)
      have e : (fun k => A row k - (1 - (A row col)⁻¹) * A row k) = fun k => A row k * (A row col)⁻¹ := by funext k; grind
      rw [← e]; exact this
    by_cases hiq : i = q
    · have e : stepA A q row col i = fun k => A row k * (A row col)⁻¹ := by funext k; unfold stepA; rw [if_pos hiq]
      rw [e]; exact hP
    · have e : stepA A q row col i = fun k => A (sw q row i) k - A (sw q row i) col * (A row k * (A row col)⁻¹) := by funext k; unfold stepA; rw [if_neg hiq]
      rw [e]; exact hV _ _ _ (hA _ (swm i hi)) hP
  · show (if i = q then col else c i) < col + 1
    split
    · omega
    · have := h.lt i (by omega); omega
  · show (if i = q then col else c i) < (if j = q then col else c j)
    rw [if_neg (by omega)]
    split
    · have := h.lt i (by omega); omega
    · exact h.mono i j hij (by omega)
  · show stepA A q row col i (if i = q then col else c i) = 1
    by_cases hiq : i = q
    · rw [if_pos hiq]; unfold stepA; rw [if_pos hiq]; exact hdd
    · rw [if_neg hiq]; unfold stepA
      rw [if_neg hiq, swl i (by omega), h.one i (by omega), hrow i (by omega)]; grind
  · show stepA A q row col i (if j = q then col else c j) = 0
    by_cases hjq : j = q
    · rw [if_pos hjq]; exact hcol i (by omega)
    · rw [if_neg hjq]; unfold stepA
      split
      · rw [hrow j (by omega)]; grind
      · rw [hrow j (by omega), h.zero _ j (swm i hi) (by omega) (by
          intro e
          rcases Nat.lt_or_ge i q with h1 | h1
          · rw [swl i h1] at e; omega
          · have := swq i h1; omega)]; grind
  · have hk' : k < (if i = q then col else c i) := hk
    by_cases hiq : i = q
    · rw [if_pos hiq] at hk'
      unfold stepA; rw [if_pos hiq, h0 row hq hr k hk']; grind
    · rw [if_neg hiq] at hk'
      have := h.lt i (by omega)
      unfold stepA
      rw [if_neg hiq, swl i (by omega), h.before i (by omega) k hk', h0 row hq hr k (by omega)]; grind
  · by_cases hkc : k = col
    · rw [hkc]; exact hcol i (by omega)
    · unfold stepA
      rw [if_neg (by omega), h0 _ (swq i (by omega)) (swm i him) k (by omega), h0 row hq hr k (by omega)]; grind
end
end Go.Proofs.YtneafcdfnhnpnaaGreatDoor
/- Plain mathematics: the list form of elimination, as a step on numbers. -/
namespace Go.Proofs.YtneafcdfnhnpnaaGreatDoor

section
variable {T : Type} {F : Fd T}
theorem firstRow_zero {R : List (RowT T)} {j : Nat} : ∀ k s, firstRow F R j k s = none → ∀ i, s ≤ i → i < s + k → F.isZ (numT F R i j) = true
  | 0, s, _, i, h1, h2 => by omega
  | k + 1, s, h, i, h1, h2 => by
    unfold firstRow at h
    by_cases hz : F.isZ (numT F R s j) = true
    · rw [if_pos hz] at h
      rcases Nat.lt_or_ge s i with h3 | h3
      · exact firstRow_zero k (s + 1) h i (by omega) (by omega)
      · rw [show i = s by omega]; exact hz
    · rw [if_neg hz] at h; cases h
theorem pivF_before {R : List (RowT T)} {top i j : Nat} : ∀ k s, pivF F R top k s = some (i, j) → ∀ c, s ≤ c → c < j → ∀ t, top ≤ t → t < R.length → F.isZ (numT F R t c) = true
  | 0, s, h, _, _, _, _, _, _ => by unfold pivF at h; cases h
  | k + 1, s, h, c, h1, h2, t, h3, h4 => by
    unfold pivF at h
    split at h
    · simp only [Option.some.injEq, Prod.mk.injEq] at h; omega
    · rename_i hn
      rcases Nat.lt_or_ge s c with h5 | h5
      · exact pivF_before k (s + 1) h c (by omega) h2 t h3 h4
      · rw [show c = s by omega]; exact firstRow_zero _ _ hn t h3 (by omega)
theorem pivF_zero {R : List (RowT T)} {top : Nat} : ∀ k s, pivF F R top k s = none → ∀ c, s ≤ c → c < s + k → ∀ t, top ≤ t → t < R.length → F.isZ (numT F R t c) = true
  | 0, s, _, c, h1, h2, _, _, _ => by omega
  | k + 1, s, h, c, h1, h2, t, h3, h4 => by
    unfold pivF at h
    split at h
    · cases h
    · rename_i hn
      rcases Nat.lt_or_ge s c with h5 | h5
      · exact pivF_zero k (s + 1) h c (by omega) (by omega) t h3 h4
      · rw [show c = s by omega]; exact firstRow_zero _ _ hn t h3 (by omega)
theorem rowOf_swap {R : List (RowT T)} {row q : Nat} (hr : row < R.length) (hq : q < R.length) (i : Nat) : rowOf (swapR R row q) i = rowOf R (sw q row i) := by
  rw [swapR_some (List.getElem?_eq_getElem hr) (List.getElem?_eq_getElem hq)]
  unfold rowOf sw
  by_cases h1 : i = q
  · subst h1
    rw [if_pos rfl, List.getElem?_set_self (by simpa using hq), List.getElem?_eq_getElem hr]
  · rw [if_neg h1, List.getElem?_set_ne (fun e => h1 e.symm)]
    by_cases h2 : i = row
    · subst h2
      rw [if_pos rfl, List.getElem?_set_self hr, List.getElem?_eq_getElem hq]
    · rw [if_neg h2, List.getElem?_set_ne (fun e => h2 e.symm)]
theorem rowOf_elSwap {S : ElS T} {row : Nat} (hr : row < S.rows.length) (hq : S.cols.length < S.rows.length) (i : Nat) : rowOf (elSwap row S) i = rowOf S.rows (sw S.cols.length row i) := by
  unfold elSwap
  split
  · rename_i h
    rw [← h]; unfold sw
    split
    · rename_i h1; rw [h1]
    · rfl
  · exact rowOf_swap hr hq i
theorem elSwap_length {S : ElS T} {row : Nat} : (elSwap row S).length = S.rows.length := by
  unfold elSwap; split
  · rfl
  · exact swapR_length _ _ _
theorem rowOf_setRow {R : List (RowT T)} {q : Nat} (hq : q < R.length) (L : List T) (i : Nat) : rowOf (setRow R q L) i = if i = q then L else rowOf R i := by
  by_cases h : i = q
  · subst h
    rw [if_pos rfl, rowOf_eq (setRow_at (List.getElem?_eq_getElem hq) L)]
  · rw [if_neg h]
    unfold rowOf
    rw [setRow_other (fun e => h e.symm)]
theorem rowOf_clr {R : List (RowT T)} {top o k : Nat} {P : List T} (i : Nat) (hi : i < R.length) : rowOf (clrTo F top o P R k) i = if i < k ∧ i ≠ top then clrRow F o (rowOf R i) P else rowOf R i := by
  unfold rowOf clrTo
  rw [List.getElem?_mapIdx, List.getElem?_eq_getElem hi]
  simp only [Option.map_some, Option.getD_some]
  split <;> rfl
end
end Go.Proofs.YtneafcdfnhnpnaaGreatDoor
/- Plain mathematics: elimination of lists of numbers, as steps on a field. -/
namespace Go.Proofs.YtneafcdfnhnpnaaGreatDoor

section
variable {K : Type} [Lean.Grind.Field K] {T : Type} {F : Fd T} {P : T → Prop} {φ : T → K}
/-- numbers that stand for those of a field -/
structure FHom (F : Fd T) (P : T → Prop) (φ : T → K) : Prop where
  pz : P F.z
  z0 : φ F.z = 0
  isZ : ∀ a, P a → (F.isZ a = true ↔ φ a = 0)
  sub : ∀ a b, P a → P b → P (F.sub a b) ∧ φ (F.sub a b) = φ a - φ b
  mul : ∀ a b, P a → P b → P (F.mul a b) ∧ φ (F.mul a b) = φ a * φ b
  div : ∀ a b, P a → P b → φ b ≠ 0 → P (F.div a b) ∧ φ (F.div a b) = φ a * (φ b)⁻¹
/-- m rows of n numbers -/
def Good (P : T → Prop) (m n : Nat) (R : List (RowT T)) : Prop := R.length = m ∧ ∀ i, i < m → (rowOf R i).length = n ∧ ∀ x ∈ rowOf R i, P x
theorem getD_P (H : FHom F P φ) {L : List T} (h : ∀ x ∈ L, P x) (k : Nat) : P (L[k]?.getD F.z) := by
  rcases Nat.lt_or_ge k L.length with h1 | h1
  · rw [List.getElem?_eq_getElem h1]; exact h _ (List.getElem_mem h1)
  · rw [List.getElem?_eq_none h1]; exact H.pz
theorem divRow_num (H : FHom F P φ) {L : List T} (h : ∀ x ∈ L, P x) {d : T} (hd : P d) (hd0 : φ d ≠ 0) {o : Nat} (h0 : ∀ k, k < o → φ (L[k]?.getD F.z) = 0) :
    (∀ x ∈ divRow F d o L, P x) ∧ ∀ k : Nat, φ ((divRow F d o L)[k]?.getD F.z) = φ (L[k]?.getD F.z) * (φ d)⁻¹ := by
  have key : ∀ (k : Nat) (x : T), P x → φ x = φ (L[k]?.getD F.z) → P (if o ≤ k then (if F.isZ x = true then x else F.div x d) else x) ∧ φ (if o ≤ k then (if F.isZ x = true then x else F.div x d) else x) = φ (L[k]?.getD F.z) * (φ d)⁻¹ := by
    intro k x hx e
    split
    · split
      · rename_i hz
        have := (H.isZ x hx).1 hz
        exact ⟨hx, by rw [← e, this]; grind⟩
      · have := H.div x d hx hd hd0
        exact ⟨this.1, by rw [this.2, e]⟩
    · exact ⟨hx, by rw [e, h0 k (by omega)]; grind⟩
  refine ⟨fun x hx => ?_, fun k => ?_⟩
  · obtain ⟨k, hk, rfl⟩ := List.mem_mapIdx.1 hx
    exact (key k L[k] (h _ (List.getElem_mem hk)) (by rw [List.getElem?_eq_getElem hk]; rfl)).1
  · unfold divRow
    rw [List.getElem?_mapIdx]
    rcases Nat.lt_or_ge k L.length with h1 | h1
    · have := (key k L[k] (h _ (List.getElem_mem h1)) (by rw [List.getElem?_eq_getElem h1]; rfl)).2
      rw [List.getElem?_eq_getElem h1] at this ⊢
      exact this
    · rw [List.getElem?_eq_none h1]
      show φ F.z = φ F.z * _
      rw [H.z0]; grind
theorem clrRow_num (H : FHom F P φ) {L Q : List T} (h : ∀ x ∈ L, P x) (hQ : ∀ x ∈ Q, P x) (hl : L.length = Q.length) {o : Nat} (h0 : ∀ k, k < o → φ (Q[k]?.getD F.z) = 0) :
    (∀ x ∈ clrRow F o L Q, P x) ∧ ∀ k : Nat, φ ((clrRow F o L Q)[k]?.getD F.z) = φ (L[k]?.getD F.z) - φ (L[o]?.getD F.z) * φ (Q[k]?.getD F.z) := by
  have hLo := getD_P H h o
  by_cases hz : F.isZ (L[o]?.getD F.z) = true
  · have e : clrRow F o L Q = L := by unfold clrRow; rw [if_pos hz]
    have := (H.isZ _ hLo).1 hz
    rw [e, this]
    exact ⟨h, fun k => by grind⟩
  · have e : clrRow F o L Q = L.mapIdx fun j y => if o ≤ j then (if F.isZ (Q[j]?.getD F.z) = true then y else F.sub y (F.mul (L[o]?.getD F.z) (Q[j]?.getD F.z))) else y := by unfold clrRow; rw [if_neg hz]
    have key : ∀ (k : Nat) (y : T), P y → φ y = φ (L[k]?.getD F.z) → P (if o ≤ k then (if F.isZ (Q[k]?.getD F.z) = true then y else F.sub y (F.mul (L[o]?.getD F.z) (Q[k]?.getD F.z))) else y) ∧
        φ (if o ≤ k then (if F.isZ (Q[k]?.getD F.z) = true then y else F.sub y (F.mul (L[o]?.getD F.z) (Q[k]?.getD F.z))) else y) = φ (L[k]?.getD F.z) - φ (L[o]?.getD F.z) * φ (Q[k]?.getD F.z) := by
      intro k y hy ey
      have hq := getD_P H hQ k
      split
      · split
        · rename_i h1
          have := (H.isZ _ hq).1 h1
          exact ⟨hy, by rw [ey, this]; grind⟩
        · have hm := H.mul _ _ hLo hq
          have hs := H.sub _ _ hy hm.1
          exact ⟨hs.1, by rw [hs.2, hm.2, ey]⟩
      · exact ⟨hy, by rw [ey, h0 k (by omega)]; grind⟩
    rw [e]
    refine ⟨fun x hx => ?_, fun k => ?_⟩
    · obtain ⟨k, hk, rfl⟩ := List.mem_mapIdx.1 hx
      exact (key k L[k] (h _ (List.getElem_mem hk)) (by rw [List.getElem?_eq_getElem hk]; rfl)).1
    · rw [List.getElem?_mapIdx]
      rcases Nat.lt_or_ge k L.length with h1 | h1
      · have := (key k L[k] (h _ (List.getElem_mem h1)) (by rw [List.getElem?_eq_getElem h1]; rfl)).2
        rw [List.getElem?_eq_getElem h1] at this ⊢
        exact this
      · rw [List.getElem?_eq_none h1, List.getElem?_eq_none (l := Q) (by omega)]
        show φ F.z = φ F.z - _ * φ F.z
        rw [H.z0]; grind
theorem elStep_num (H : FHom F P φ) {m n row col : Nat} {S : ElS T} (hG : Good P m n S.rows) (hq : S.cols.length < m) (hr : row < m) (hd : φ (numT F S.rows row col) ≠ 0) (h0 : ∀ k, k < col → φ (numT F S.rows row k) = 0) :
    Good P m n (elStep F row col S).rows ∧ ∀ i, i < m → ∀ k, φ (numT F (elStep F row col S).rows i k) = stepA (fun i k => φ (numT F S.rows i k)) S.cols.length row col i k := by
  obtain ⟨hlen, hrows⟩ := hG
  have hsw : ∀ i, i < m → sw S.cols.length row i < m := fun i hi => by unfold sw; split; exact hr; split <;> omega
  have hswq : sw S.cols.length row S.cols.length = row := by unfold sw; rw [if_pos rfl]
  have r1 : ∀ i, rowOf (elSwap row S) i = rowOf S.rows (sw S.cols.length row i) := fun i => rowOf_elSwap (by omega) (by omega) i
  have hpiv : elPiv F row col S = numT F S.rows row col := by unfold elPiv numT; rw [r1, hswq]
  have r2 : ∀ i, rowOf (elDiv F row col S) i = if i = S.cols.length then divRow F (numT F S.rows row col) col (rowOf S.rows row) else rowOf S.rows (sw S.cols.length row i) := by
    intro i
    unfold elDiv
    rw [rowOf_setRow (by rw [elSwap_length]; omega), hpiv, r1, hswq, r1]
  have l2 : (elDiv F row col S).length = m := by unfold elDiv; rw [setRow_length, elSwap_length, hlen]
  have hP := divRow_num H (hrows row hr).2 (d := numT F S.rows row col) (getD_P H (hrows row hr).2 col) hd h0
  have lP : (divRow F (numT F S.rows row col) col (rowOf S.rows row)).length = n := by rw [divRow_length]; exact (hrows row hr).1
  have r3 : ∀ i, i < m → rowOf (elStep F row col S).rows i = if i = S.cols.length then divRow F (numT F S.rows row col) col (rowOf S.rows row) else clrRow F col (rowOf S.rows (sw S.cols.length row i)) (divRow F (numT F S.rows row col) col (rowOf S.rows row)) := by
    intro i hi
    show rowOf (clrTo F S.cols.length col (rowOf (elDiv F row col S) S.cols.length) (elDiv F row col S) (elDiv F row col S).length) i = _
    rw [rowOf_clr i (by omega), r2 i, r2 S.cols.length, if_pos rfl]
    by_cases h : i = S.cols.length
    · rw [if_neg (fun x => x.2 h), if_pos h, if_pos h]
    · rw [if_pos ⟨by omega, h⟩, if_neg h, if_neg h]
  have hz : ∀ k, k < col → φ ((divRow F (numT F S.rows row col) col (rowOf S.rows row))[k]?.getD F.z) = 0 := by
    intro k hk
    have e := h0 k hk
    unfold numT at e
    rw [hP.2, e]; grind
  refine ⟨⟨?_, fun i hi => ?_⟩, fun i hi k => ?_⟩
  · show (clrTo F S.cols.length col (rowOf (elDiv F row col S) S.cols.length) (elDiv F row col S) (elDiv F row col S).length).length = m
    rw [clrTo_length, l2]
  · rw [r3 i hi]
    split
    · exact ⟨lP, hP.1⟩
    · have hs := hrows _ (hsw i hi)
      exact ⟨by rw [clrRow_length]; exact hs.1, (clrRow_num H hs.2 hP.1 (by rw [hs.1, lP]) hz).1⟩
  · unfold numT
    rw [r3 i hi]
    unfold stepA
    by_cases h : i = S.cols.length
    · rw [if_pos h, if_pos h, hP.2 k]; rfl
    · rw [if_neg h, if_neg h]
      have hs := hrows _ (hsw i hi)
      rw [(clrRow_num H hs.2 hP.1 (by rw [hs.1, lP]) hz).2 k, hP.2 k]; rfl
end
end Go.Proofs.YtneafcdfnhnpnaaGreatDoor
/- Plain mathematics: what elimination gives. -/
namespace Go.Proofs.YtneafcdfnhnpnaaGreatDoor

section
variable {K : Type} [Lean.Grind.Field K] {m n : Nat} {M A A' : Nat → Nat → K} {q fr : Nat} {c c' : Nat → Nat}
theorem Redn.congr (h : Redn m n M A q fr c) (hA : ∀ i, i < m → ∀ k, A' i k = A i k) (hc : ∀ i, i < q → c' i = c i) : Redn m n M A' q fr c' := by
  have hq := h.qm
  refine ⟨fun v => ?_, fun V hV hM i hi => ?_, fun i hi => ?_, fun i j hij hj => ?_, fun i hi => ?_, fun i j hi hj hne => ?_, fun i hi k hk => ?_, fun i hi him k hk => ?_, hq⟩
  · rw [← h.ker v]
    constructor
    · intro g i hi
      rw [← g i hi]; exact sumTo_congr n (fun k _ => by rw [hA i hi])
    · intro g i hi
      rw [← g i hi]; exact sumTo_congr n (fun k _ => by rw [hA i hi])
  · rw [show A' i = A i from funext (hA i hi)]; exact h.spc V hV hM i hi
  · rw [hc i hi]; exact h.lt i hi
  · rw [hc i (by omega), hc j hj]; exact h.mono i j hij hj
  · rw [hc i hi, hA i (by omega)]; exact h.one i hi
  · rw [hc j hj, hA i hi]; exact h.zero i j hi hj hne
  · rw [hc i hi] at hk; rw [hA i (by omega)]; exact h.before i hi k hk
  · rw [hA i him]; exact h.rest i hi him k hk
theorem Redn.start (M : Nat → Nat → K) (c : Nat → Nat) : Redn m n M M 0 0 c :=
  ⟨fun _ => Iff.rfl, fun _ _ h => h, fun _ h => by omega, fun _ _ _ h => by omega, fun _ h => by omega, fun _ _ _ h => by omega, fun _ h => by omega, fun _ _ _ _ h => by omega, by omega⟩
theorem Redn.whole (h : Redn m n M A q fr c) (hf : fr ≤ n) (h0 : ∀ i, q ≤ i → i < m → ∀ k, fr ≤ k → k < n → A i k = 0) : Redn m n M A q n c :=
  ⟨h.ker, h.spc, fun i hi => by have := h.lt i hi; omega, h.mono, h.one, h.zero, h.before, fun i hi him k hk => by
    rcases Nat.lt_or_ge k fr with h1 | h1
    · exact h.rest i hi him k h1
    · exact h0 i hi him k h1 hk, h.qm⟩
theorem Redn.kron (h : Redn m n M A q n c) : Kron q n c A :=
  ⟨h.lt, h.one, fun i j hi hj hne => h.zero i j (by have := h.qm; omega) hj hne⟩
theorem Redn.kerTop (h : Redn m n M A q n c) (v : Nat → K) : Ker q n A v ↔ Ker m n M v := by
  rw [← h.ker v]
  constructor
  · intro g i hi
    rcases Nat.lt_or_ge i q with h1 | h1
    · exact g i h1
    · exact sumTo_zero n (fun k hk => by rw [h.rest i h1 hi k hk]; grind)
  · intro g i hi
    exact g i (by have := h.qm; omega)

variable {T : Type} {F : Fd T} {P : T → Prop} {φ : T → K}
/-- the columns of a state -/
def colF (S : ElS T) (i : Nat) : Nat := S.cols[i]?.getD 0
def numF (F : Fd T) (φ : T → K) (R : List (RowT T)) (i k : Nat) : K := φ (numT F R i k)
theorem elGo_none' {n k fr : Nat} {S : ElS T} (h : pivF F S.rows S.cols.length (n - fr) fr = none) : elGo F n (k + 1) fr S = S := by
  unfold elGo; rw [h]
theorem elGo_some' {n k fr row col : Nat} {S : ElS T} (h : pivF F S.rows S.cols.length (n - fr) fr = some (row, col)) : elGo F n (k + 1) fr S = elGo F n k (col + 1) (elStep F row col S) := by
  conv => lhs; unfold elGo
  rw [h]
theorem elGo_red (H : FHom F P φ) : ∀ (k fr : Nat) (S : ElS T), Good P m n S.rows → S.cols.length + k = m → fr ≤ n → Redn m n M (numF F φ S.rows) S.cols.length fr (colF S) →
    Good P m n (elGo F n k fr S).rows ∧ Redn m n M (numF F φ (elGo F n k fr S).rows) (elGo F n k fr S).cols.length n (colF (elGo F n k fr S))
  | 0, fr, S, hG, hk, hf, hR => ⟨hG, hR.whole hf (fun i h1 h2 => by omega)⟩
  | k + 1, fr, S, hG, hk, hf, hR => by
    have hP : ∀ i, i < m → ∀ j, P (numT F S.rows i j) := fun i hi j => getD_P H (hG.2 i hi).2 j
    cases hp : pivF F S.rows S.cols.length (n - fr) fr with
    | none =>
      rw [elGo_none' hp]
      refine ⟨hG, hR.whole hf (fun i h1 h2 j h3 h4 => ?_)⟩
      exact (H.isZ _ (hP i h2 j)).1 (pivF_zero _ _ hp j h3 (by omega) i h1 (by rw [hG.1]; exact h2))
    | some rc =>
      obtain ⟨row, col⟩ := rc
      obtain ⟨b1, b2, b3, b4, b5⟩ := pivF_bounds _ _ hp
      have hlen := hG.1
      have hz : ∀ i, S.cols.length ≤ i → i < m → ∀ j, j < col → numF F φ S.rows i j = 0 := by
        intro i h1 h2 j hj
        rcases Nat.lt_or_ge j fr with h3 | h3
        · exact hR.rest i h1 h2 j h3
        · exact (H.isZ _ (hP i h2 j)).1 (pivF_before _ _ hp j h3 hj i h1 (by omega))
      have hd : numF F φ S.rows row col ≠ 0 := fun e => by
        have := (H.isZ _ (hP row (by omega) col)).2 e
        rw [b5] at this; cases this
      have hs := elStep_num H hG (by omega : S.cols.length < m) (by omega : row < m) hd (fun j hj => hz row b3 (by omega) j hj)
      have hR2 := hR.step b3 (by omega) b1 hd hz
      have hl2 : (elStep F row col S).cols.length = S.cols.length + 1 := by show (S.cols ++ [col]).length = _; simp
      rw [elGo_some' hp]
      refine elGo_red H k (col + 1) (elStep F row col S) hs.1 (by omega) (by omega) ?_
      rw [hl2]
      refine hR2.congr (fun i hi j => hs.2 i hi j) (fun i hi => ?_)
      show (S.cols ++ [col])[i]?.getD 0 = if i = S.cols.length then col else S.cols[i]?.getD 0
      by_cases h : i = S.cols.length
      · rw [if_pos h, h, List.getElem?_append_right (Nat.le_refl _)]; simp
      · rw [if_neg h, List.getElem?_append_left (by omega)]
end
end Go.Proofs.YtneafcdfnhnpnaaGreatDoor
/- Plain mathematics: the program's null space, as a basis. -/
namespace Go.Proofs.YtneafcdfnhnpnaaGreatDoor

/-- the first k places from the last of n on that are no columns -/
def freesR (cols : List Nat) (n : Nat) : Nat → List Nat
  | 0 => []
  | k + 1 => freesR cols n k ++ (if cols.contains (n - 1 - k) = true then [] else [n - 1 - k])
theorem freesR_mem {cols : List Nat} {n : Nat} : ∀ k, k ≤ n → ∀ f, f ∈ freesR cols n k ↔ (n - k ≤ f ∧ f < n ∧ f ∉ cols)
  | 0, _, f => by
    show f ∈ [] ↔ _
    constructor
    · intro h; cases h
    · intro h; omega
  | k + 1, hk, f => by
    show f ∈ freesR cols n k ++ (if cols.contains (n - 1 - k) = true then [] else [n - 1 - k]) ↔ _
    rw [List.mem_append, freesR_mem k (by omega)]
    by_cases hc : n - 1 - k ∈ cols
    · rw [if_pos (by simpa using hc)]
      constructor
      · rintro (h | h)
        · exact ⟨by omega, h.2⟩
        · cases h
      · intro h
        have : f ≠ n - 1 - k := fun e => h.2.2 (by rw [e]; exact hc)
        exact .inl ⟨by omega, h.2⟩
    · rw [if_neg (by simpa using hc), List.mem_singleton]
      constructor
      · rintro (h | h)
        · exact ⟨by omega, h.2⟩
        · exact ⟨by omega, by omega, by rw [h]; exact hc⟩
      · intro h
        by_cases e : f = n - 1 - k
        · exact .inr e
        · exact .inl ⟨by omega, h.2⟩
theorem freesR_dec {cols : List Nat} {n : Nat} : ∀ k, k ≤ n → (freesR cols n k).Pairwise (fun a b => b < a)
  | 0, _ => .nil
  | k + 1, hk => by
    show (freesR cols n k ++ (if cols.contains (n - 1 - k) = true then [] else [n - 1 - k])).Pairwise _
    refine List.pairwise_append.2 ⟨freesR_dec k (by omega), by split <;> simp, fun a ha b hb => ?_⟩
    have := (freesR_mem k (by omega) a).1 ha
    split at hb
    · cases hb
    · rw [List.mem_singleton] at hb; omega
section
variable {K : Type} [Lean.Grind.Field K] {T : Type} {F : Fd T} {P : T → Prop} {φ : T → K} {m n : Nat}
theorem nsBasis_map (F : Fd T) (zero one : T) (n : Nat) (S : ElS T) : ∀ k, nsBasis F zero one n S k = (freesR S.cols n k).map (nsList F zero one n S)
  | 0 => rfl
  | k + 1 => by
    show nsBasis F zero one n S k ++ _ = (freesR S.cols n k ++ _).map _
    rw [nsBasis_map F zero one n S k, List.map_append]
    split <;> rfl
theorem nsSet_num (H : FHom F P φ) {S : ElS T} (hG : Good P m n S.rows) {zero one : T} (hz : P zero) (hz0 : φ zero = 0) (h1 : φ one = 1) (col : Nat) : ∀ k, k ≤ m → k ≤ S.cols.length → ∀ x, x < n →
    φ ((nsSet F zero S col k ((List.replicate n zero).set col one))[x]?.getD F.z) = bas (colF S) (numF F φ S.rows) col k x
  | 0, _, _, x, hx => by
    show φ (((List.replicate n zero).set col one)[x]?.getD F.z) = if x = col then 1 else 0
    by_cases h : x = col
    · subst h
      rw [if_pos rfl, List.getElem?_set_self (by simpa using hx)]
      exact h1
    · rw [if_neg h, List.getElem?_set_ne (fun e => h e.symm), List.getElem?_eq_getElem (by simpa using hx)]
      simpa using hz0
  | k + 1, hm, hk, x, hx => by
    rw [nsSet_succ]
    show _ = if x = colF S k then -(numF F φ S.rows k col) else bas (colF S) (numF F φ S.rows) col k x
    have hl : (nsSet F zero S col k ((List.replicate n zero).set col one)).length = n := by rw [nsSet_length]; simp
    by_cases h : x = colF S k
    · rw [if_pos h, h]
      show φ (((nsSet F zero S col k ((List.replicate n zero).set col one)).set (colF S k) _)[colF S k]?.getD F.z) = _
      rw [List.getElem?_set_self (by rw [hl, ← h]; exact hx)]
      have := H.sub zero (numT F S.rows k col) hz (getD_P H (hG.2 k (by omega)).2 col)
      show φ (F.sub zero (numT F S.rows k col)) = -φ (numT F S.rows k col)
      rw [this.2, hz0]; grind
    · rw [if_neg h]
      show φ (((nsSet F zero S col k ((List.replicate n zero).set col one)).set (colF S k) _)[x]?.getD F.z) = _
      rw [List.getElem?_set_ne (fun e => h e.symm)]
      exact nsSet_num H hG hz hz0 h1 col k (by omega) (by omega) x hx
end
end Go.Proofs.YtneafcdfnhnpnaaGreatDoor
