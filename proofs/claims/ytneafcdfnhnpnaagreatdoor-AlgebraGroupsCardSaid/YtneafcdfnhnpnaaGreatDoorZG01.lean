/- The exchanges of a composition are those of both permutations together. Plain Lean. -/
import Derived.Test.YtneafcdfnhnpnaaGreatDoorZ19
import Derived.Test.YtneafcdfnhnpnaaGreatDoorZ17
import Derived.Test.YtneafcdfnhnpnaaGreatDoorZ16
import Derived.ChangeBookTie2
import Derived.Test.YtneafcdfnhnpnaaGreatDoorZ11
import Derived.Test.YtneafcdfnhnpnaaGreatDoorZ01
import Derived.Test.YtneafcdfnhnpnaaGreatDoorZ20
import Derived.Lib.SmallJoins
namespace Go.Proofs.YtneafcdfnhnpnaaGreatDoor
open Go.RowKit Go.Lib

/-- values that are places -/
def InR (n : Nat) (f : Nat → Int) : Prop := ∀ i, i < n → 0 ≤ f i ∧ f i < (n : Int)
/-- what an exchange turns over -/
def Flips (n : Nat) (G : (Nat → Int) → Bool) : Prop := ∀ (f g : Nat → Int) (a b : Nat), a < n → b < n → a ≠ b → g a = f b → g b = f a → (∀ i, i < n → i ≠ a → i ≠ b → g i = f i) → InjF n f → InR n f → G g = !(G f)
theorem rx_in {p : List Int} (hp : PermL p) (s : List Bool) {k : Nat} (hk : k < p.length) (u : Nat) : InR p.length (rx p s k u) := by
  intro i hi
  unfold rx
  by_cases h3 : Sn s i
  · rw [if_pos h3]; omega
  · rw [if_neg h3]
    by_cases h4 : ∃ j, 1 ≤ j ∧ j ≤ u ∧ it p j k = i
    · rw [if_pos h4]; omega
    · rw [if_neg h4]
      by_cases h5 : i = k
      · rw [if_pos h5]; have := it_lt hp hk (u + 1); omega
      · rw [if_neg h5]; have := ph_lt hp hi; omega
theorem fx_in {p : List Int} (hp : PermL p) (s : List Bool) : InR p.length (fx p s) := by
  intro i hi
  unfold fx
  by_cases h3 : Sn s i
  · rw [if_pos h3]; omega
  · rw [if_neg h3]; have := ph_lt hp hi; omega
theorem rx_stepG {p : List Int} (hp : PermL p) {G : (Nat → Int) → Bool} (hG : Flips p.length G) {s : List Bool} (hc : Closed p s) {m k : Nat} (h : Per p m k) (h0 : ¬ Sn s k) {u : Nat} (hu : u + 1 < m) (hI : InjF p.length (rx p s k u)) :
    G (rx p s k (u + 1)) = !(G (rx p s k u)) := by
  have hb := it_lt hp h.1 (u + 1)
  have hsb : ¬ Sn s (it p (u + 1) k) := not_sn_it hp hc h.1 h0 (u + 1)
  have hkb : it p (u + 1) k ≠ k := h.2.2.2 (u + 1) (by omega) hu
  have nk : ∀ v, v < m → ¬ ∃ j, 1 ≤ j ∧ j ≤ v ∧ it p j k = k := fun v hv ⟨j, h1, h2, h3⟩ => h.2.2.2 j (by omega) (by omega) h3
  have nb : ¬ ∃ j, 1 ≤ j ∧ j ≤ u ∧ it p j k = it p (u + 1) k := fun ⟨j, h1, h2, h3⟩ => it_diff hp h (show j < u + 1 by omega) hu h3
  have e1 : rx p s k (u + 1) k = (it p (u + 2) k : Int) := by unfold rx; rw [if_neg h0, if_neg (nk (u + 1) hu), if_pos rfl]
  have e2 : rx p s k u k = (it p (u + 1) k : Int) := by unfold rx; rw [if_neg h0, if_neg (nk u (by omega)), if_pos rfl]
  have e3 : rx p s k (u + 1) (it p (u + 1) k) = (it p (u + 1) k : Int) := by unfold rx; rw [if_neg hsb, if_pos ⟨u + 1, by omega, by omega, rfl⟩]
  have e4 : rx p s k u (it p (u + 1) k) = (it p (u + 2) k : Int) := by unfold rx; rw [if_neg hsb, if_neg nb, if_neg hkb]; rfl
  have e5 : ∀ i, i < p.length → i ≠ k → i ≠ it p (u + 1) k → rx p s k (u + 1) i = rx p s k u i := fun i _ h1 h2 => by
    unfold rx
    by_cases h3 : Sn s i
    · rw [if_pos h3, if_pos h3]
    · rw [if_neg h3, if_neg h3]
      by_cases h4 : ∃ j, 1 ≤ j ∧ j ≤ u ∧ it p j k = i
      · obtain ⟨j, h5, h6, h7⟩ := h4
        rw [if_pos ⟨j, h5, by omega, h7⟩, if_pos ⟨j, h5, h6, h7⟩]
      · rw [if_neg h4, if_neg (fun ⟨j, h5, h6, h7⟩ => by
          rcases Nat.lt_or_ge u j with h8 | h8
          · have : j = u + 1 := by omega
            subst this; exact h2 h7.symm
          · exact h4 ⟨j, h5, h8, h7⟩), if_neg h1, if_neg h1]
  exact hG _ _ k _ h.1 hb (fun e => hkb e.symm) (e1.trans e4.symm) (e3.trans e2.symm) e5 hI (rx_in hp s h.1 u)
theorem rx_zero (p : List Int) (s : List Bool) (k : Nat) : rx p s k 0 = fx p s := by
  funext i
  unfold rx fx
  by_cases h3 : Sn s i
  · rw [if_pos h3, if_pos h3]
  · rw [if_neg h3, if_neg h3, if_neg (fun ⟨j, h5, h6, _⟩ => by omega)]
    by_cases h4 : i = k
    · subst h4; rw [if_pos rfl]; rfl
    · rw [if_neg h4]
theorem rx_allG {p : List Int} (hp : PermL p) {G : (Nat → Int) → Bool} (hG : Flips p.length G) {s : List Bool} (hc : Closed p s) {m k : Nat} (h : Per p m k) (h0 : ¬ Sn s k) :
    ∀ u, u < m → G (rx p s k u) = xor (decide (u % 2 = 1)) (G (fx p s))
  | 0, _ => by rw [rx_zero]; simp
  | u + 1, hu => by
    rw [rx_stepG hp hG hc h h0 hu (rx_all hp hc h h0 u (by omega)).2, rx_allG hp hG hc h h0 u (by omega)]
    by_cases h5 : u % 2 = 1
    · rw [decide_eq_true h5, decide_eq_false (by omega)]; cases G (fx p s) <;> rfl
    · rw [decide_eq_false h5, decide_eq_true (by omega)]; cases G (fx p s) <;> rfl
/-- both turn over alike, so their difference stays -/
theorem fx_same {p : List Int} (hp : PermL p) {G : (Nat → Int) → Bool} (hG : Flips p.length G) (hcong : ∀ f g : Nat → Int, (∀ i, i < p.length → f i = g i) → G f = G g) {s s' : List Bool} (hc : Closed p s) {m k : Nat} (h : Per p m k) (h0 : ¬ Sn s k) (hs : ∀ j, j < p.length → (Sn s' j ↔ Sn s j ∨ ∃ u, u < m ∧ it p u k = j)) :
    G (fx p s') = xor (decide (m % 2 = 0)) (G (fx p s)) := by
  have h1 := rx_allG hp hG hc h h0 (m - 1) (by have := h.2.1; omega)
  have e : G (fx p s') = G (rx p s k (m - 1)) := by
    refine hcong _ _ fun i hi => ?_
    unfold fx rx
    by_cases h3 : Sn s i
    · rw [if_pos ((hs i hi).2 (.inl h3)), if_pos h3]
    · rw [if_neg h3]
      by_cases h4 : ∃ j, 1 ≤ j ∧ j ≤ m - 1 ∧ it p j k = i
      · obtain ⟨j, h5, h6, h7⟩ := h4
        rw [if_pos ((hs i hi).2 (.inr ⟨j, by omega, h7⟩)), if_pos ⟨j, h5, h6, h7⟩]
      · rw [if_neg h4]
        by_cases h5 : i = k
        · subst h5
          rw [if_pos ((hs i hi).2 (.inr ⟨0, h.2.1, rfl⟩)), if_pos rfl, show m - 1 + 1 = m by have := h.2.1; omega, h.2.2.1]
        · rw [if_neg h5, if_neg (fun h6 => by
            rcases (hs i hi).1 h6 with h7 | ⟨u, hu, he⟩
            · exact h3 h7
            · rcases Nat.eq_zero_or_pos u with h8 | h8
              · subst h8; exact h5 he.symm
              · exact h4 ⟨u, h8, by omega, he⟩)]
  rw [e, h1]
  congr 1
  have := h.2.1
  by_cases h5 : m % 2 = 0
  · rw [decide_eq_true h5, decide_eq_true (by omega)]
  · rw [decide_eq_false h5, decide_eq_false (by omega)]
theorem cycTo_same {p : List Int} (hp : PermL p) {G : (Nat → Int) → Bool} (hG : Flips p.length G) (hcong : ∀ f g : Nat → Int, (∀ i, i < p.length → f i = g i) → G f = G g) : ∀ k, k ≤ p.length → G (fun i => (ph p i : Int)) = xor (sb (cycTo p k).1) (G (fx p (cycTo p k).2))
  | 0, _ => by
    have e : G (fx p (cycTo p 0).2) = G (fun i => (ph p i : Int)) := by
      refine hcong _ _ fun i hi => ?_
      unfold fx
      have hns : ¬ Sn (cycTo p 0).2 i := fun h => by
        unfold Sn at h; rw [cycTo, List.getElem?_replicate, if_pos hi] at h; cases h
      rw [if_neg hns]
    rw [e]; simp [sb, cycTo]
  | k + 1, hk => by
    have ih := cycTo_same hp hG hcong k (by omega)
    have hA := cycTo_all hp k (by omega)
    by_cases h : Sn (cycTo p k).2 k
    · have e : cycTo p (k + 1) = cycTo p k := by rw [cycTo]; exact if_pos h
      rw [e]; exact ih
    · have e : cycTo p (k + 1) = ((cycTo p k).1 ++ [(follow p p.length (cycTo p k).2 k).1], (follow p p.length (cycTo p k).2 k).2) := by rw [cycTo]; exact if_neg h
      obtain ⟨m, h1, h2, h3, h4⟩ := follow_new hp hA.len hA.closed (by omega) h
      rw [e]
      dsimp only
      rw [sb_snoc, h2, fx_same hp hG hcong hA.closed h1 h h4, ih]
      have : (orb p m k).length = m := by simp [orb]
      rw [this]
      cases sb (cycTo p k).1 <;> cases decide (m % 2 = 0) <;> cases G (fx p (cycTo p k).2) <;> rfl
/-- p behind what f tells -/
def pf (p : List Int) (f : Nat → Int) (i : Nat) : Int := (ph p (f i).toNat : Int)
theorem pf_flips {p : List Int} (hp : PermL p) : Flips p.length fun f => par (LF p.length (pf p f)) := by
  intro f g a b ha hb hab hga hgb hg hf hr
  refine par_fun ha hb hab ?_ ?_ (fun i hi h1 h2 => ?_) ?_
  · unfold pf; rw [hga]
  · unfold pf; rw [hgb]
  · unfold pf; rw [hg i hi h1 h2]
  · intro i j hi hj he
    unfold pf at he
    have h1 := hr i hi
    have h2 := hr j hj
    refine hf i j hi hj ?_
    have := ph_inj hp (i := (f i).toNat) (j := (f j).toNat) (by omega) (by omega) (by omega)
    omega
theorem pf_cong (p : List Int) (f g : Nat → Int) (h : ∀ i, i < p.length → f i = g i) : par (LF p.length (pf p f)) = par (LF p.length (pf p g)) := by
  congr 1
  exact List.map_congr_left fun i hi => by unfold pf; rw [h i (List.mem_range.1 hi)]
theorem LF_ph {p : List Int} (hp : PermL p) : LF p.length (fun i => (ph p i : Int)) = p := by
  unfold LF
  refine List.ext_getElem (by simp) fun i h1 h2 => ?_
  rw [List.getElem_map, List.getElem_range]
  have := ph_val hp h2
  rw [List.getElem?_eq_getElem h2] at this
  exact (Option.some.inj this).symm
/-- the exchanges of a composition -/
theorem par_comp {p q : List Int} (hp : PermL p) (hq : PermL q) (hl : p.length = q.length) :
    par (LF q.length (pf p fun i => (ph q i : Int))) = xor (par p) (par q) := by
  have hG : Flips q.length fun f => par (LF q.length (pf p f)) := hl ▸ pf_flips hp
  have h := cycTo_same hq hG (fun f g h => hl ▸ pf_cong p f g (hl ▸ h)) q.length (Nat.le_refl _)
  have hA := cycTo_all hq q.length (Nat.le_refl _)
  have e : par (LF q.length (pf p (fx q (cycTo q q.length).2))) = par p := by
    have e1 : LF q.length (pf p (fx q (cycTo q q.length).2)) = LF p.length (fun i => (ph p i : Int)) := by
      unfold LF
      rw [hl]
      refine List.map_congr_left fun i hi => ?_
      have hi := List.mem_range.1 hi
      unfold pf fx
      rw [if_pos (hA.starts i hi hi)]
      rfl
    rw [e1, LF_ph hp]
  rw [e] at h
  rw [h, par_cycs hq]
  show xor (sb (cycs q)) (par p) = xor (par p) (sb (cycs q))
  rw [Bool.xor_comm]
end Go.Proofs.YtneafcdfnhnpnaaGreatDoor
/- The powers of a permutation are its repetitions. Plain Lean. -/
namespace Go.Proofs.YtneafcdfnhnpnaaGreatDoor
open Go.RowKit Go.Lib

theorem it_mod {p : List Int} {m i : Nat} (h : it p m i = i) (a : Nat) : it p (a % m) i = it p a i := by
  have hq : ∀ q, it p (q * m) i = i := fun q => by
    induction q with
    | zero => rw [Nat.zero_mul]; rfl
    | succ q ih => rw [Nat.succ_mul, it_add, h, ih]
  have e : a = a % m + a / m * m := by rw [Nat.mul_comm]; exact (Nat.mod_add_div a m).symm
  conv => rhs; rw [e]
  rw [it_add, hq]
theorem orb_len (p : List Int) (m i : Nat) : (orb p m i).length = m := by simp [orb]
theorem orb_at (p : List Int) {m i u : Nat} (hu : u < m) : (orb p m i)[u]?.getD 0 = (it p u i : Int) := by
  unfold orb; rw [List.getElem?_map, List.getElem?_range hu]; rfl
theorem powR_at {p : List Int} (hp : PermL p) {m i : Nat} (h : Per p m i) (t0 : Nat) (r : List Int) (hr : r.length = p.length) : ∀ n', n' ≤ m →
    (∀ u, u < n' → (powR (orb p m i) t0 r n')[it p u i]? = some (it p ((u + t0) % m) i : Int)) ∧ ∀ j, (∀ u, u < n' → it p u i ≠ j) → (powR (orb p m i) t0 r n')[j]? = r[j]?
  | 0, _ => ⟨fun u hu => by omega, fun j _ => rfl⟩
  | n' + 1, hn => by
    obtain ⟨h1, h2⟩ := powR_at hp h t0 r hr n' (by omega)
    have e : powR (orb p m i) t0 r (n' + 1) = (powR (orb p m i) t0 r n').set (it p n' i) (it p ((n' + t0) % m) i : Int) := by
      rw [powR, orb_len, orb_at p (by omega), orb_at p (Nat.mod_lt _ h.2.1), Int.toNat_natCast]
    have hlt := it_lt hp h.1 n'
    rw [e]
    refine ⟨fun u hu => ?_, fun j hj => ?_⟩
    · rcases Nat.lt_or_ge u n' with h3 | h3
      · rw [List.getElem?_set_ne (fun e => it_diff hp h h3 (by omega) e.symm)]
        exact h1 u h3
      · have : u = n' := by omega
        subst this
        rw [List.getElem?_set_self (by rw [powR_len, hr]; exact hlt)]
    · rw [List.getElem?_set_ne (hj n' (by omega))]
      exact h2 j fun u hu => hj u (by omega)
theorem emod_add_nat {m t0 t u : Nat} (h : t % m = t0 % m) : (u + t0) % m = (t + u) % m := by
  rw [Nat.add_mod, ← h, ← Nat.add_mod, Nat.add_comm]
/-- a cycle's part of a power -/
theorem powC_at {p : List Int} (hp : PermL p) {m i : Nat} (h : Per p m i) (k : Int) (t : Nat) (hk : (t : Int) % (m : Int) = k % (m : Int)) (r : List Int) (hr : r.length = p.length) :
    (∀ j : Nat, (j : Int) ∈ orb p m i → (powC k r (orb p m i))[j]? = some (it p t j : Int)) ∧ ∀ j : Nat, (j : Int) ∉ orb p m i → (powC k r (orb p m i))[j]? = r[j]? := by
  have hm := h.2.1
  obtain ⟨h1, h2⟩ := powR_at hp h (k % (m : Int)).toNat r hr m (Nat.le_refl _)
  have e : powC k r (orb p m i) = powR (orb p m i) (k % (m : Int)).toNat r m := by unfold powC; rw [orb_len]
  rw [e]
  refine ⟨fun j hj => ?_, fun j hj => h2 j fun u hu he => hj (mem_orb.2 ⟨u, hu, by rw [he]⟩)⟩
  obtain ⟨u, hu, he⟩ := mem_orb.1 hj
  have he' : it p u i = j := by omega
  subst he'
  rw [h1 u hu, it_mod h.2.2.1, ← it_add]
  have hmod : t % m = (k % (m : Int)).toNat % m := by
    rw [← hk]
    have : ((t : Int) % (m : Int)) = ((t % m : Nat) : Int) := by push_cast; rfl
    rw [this, Int.toNat_natCast, Nat.mod_mod]
  have h5 := emod_add_nat (u := u) hmod
  have h6 : it p (u + (k % (m : Int)).toNat) i = it p (t + u) i := by
    rw [← it_mod h.2.2.1 (u + _), ← it_mod h.2.2.1 (t + u), h5]
  rw [h6]
theorem powF_at {p : List Int} (hp : PermL p) (k : Int) (t : Nat) : ∀ (cs : List (List Int)) (r : List Int), r.length = p.length →
    (∀ c ∈ cs, ∃ m i, c = orb p m i ∧ Per p m i) → (∀ c ∈ cs, (t : Int) % (c.length : Int) = k % (c.length : Int)) → cs.Pairwise (fun c d => ∀ x ∈ c, x ∉ d) →
    (∀ j : Nat, (∃ c ∈ cs, (j : Int) ∈ c) → (cs.foldl (powC k) r)[j]? = some (it p t j : Int)) ∧ ∀ j : Nat, (∀ c ∈ cs, (j : Int) ∉ c) → (cs.foldl (powC k) r)[j]? = r[j]?
  | [], r, _, _, _, _ => ⟨fun j ⟨c, hc, _⟩ => (by cases hc), fun j _ => rfl⟩
  | c :: cs, r, hr, h1, h2, h3 => by
    rw [List.pairwise_cons] at h3
    obtain ⟨m, i, rfl, hP⟩ := h1 c List.mem_cons_self
    have hk := h2 _ List.mem_cons_self
    rw [orb_len] at hk
    obtain ⟨g1, g2⟩ := powC_at hp hP k t hk r hr
    have hl : (powC k r (orb p m i)).length = p.length := by unfold powC; rw [powR_len, hr]
    obtain ⟨f1, f2⟩ := powF_at hp k t cs (powC k r (orb p m i)) hl (fun c hc => h1 c (List.mem_cons_of_mem _ hc)) (fun c hc => h2 c (List.mem_cons_of_mem _ hc)) h3.2
    rw [List.foldl_cons]
    refine ⟨fun j hj => ?_, fun j hj => ?_⟩
    · by_cases h4 : ∃ c ∈ cs, (j : Int) ∈ c
      · exact f1 j h4
      · obtain ⟨c, hc, hj⟩ := hj
        rcases List.mem_cons.1 hc with rfl | h5
        · rw [f2 j (fun c hc hm => h4 ⟨c, hc, hm⟩), g1 j hj]
        · exact absurd ⟨c, h5, hj⟩ h4
    · rw [f2 j (fun c hc => hj c (List.mem_cons_of_mem _ hc)), g2 j (hj _ List.mem_cons_self)]
/-- the repetitions of a permutation, as a list -/
def itL (p : List Int) (t : Nat) : List Int := (List.range p.length).map fun j => (it p t j : Int)
theorem itL_len (p : List Int) (t : Nat) : (itL p t).length = p.length := by simp [itL]
theorem itL_at (p : List Int) (t : Nat) {j : Nat} (hj : j < p.length) : (itL p t)[j]? = some (it p t j : Int) := by
  unfold itL; rw [List.getElem?_map, List.getElem?_range hj]; rfl
theorem pow_it {p : List Int} (hp : PermL p) (k : Int) (t : Nat) (h : ∀ c ∈ cycs p, (t : Int) % (c.length : Int) = k % (c.length : Int)) : powL p k = itL p t := by
  have hA := cycs_all hp
  obtain ⟨h1, _⟩ := powF_at hp k t (cycs p) (List.replicate p.length 0) (by simp) hA.cyc h hA.apart
  refine List.ext_getElem? fun j => ?_
  by_cases hj : j < p.length
  · rw [itL_at p t hj]; exact h1 j (cycs_cover hp hj)
  · rw [List.getElem?_eq_none (by unfold powL; rw [powTo_len p k (cycs p)]; omega), List.getElem?_eq_none (by rw [itL_len]; omega)]
/-- a multiple of the lengths of all cycles -/
def lensP (cs : List (List Int)) : Nat := cs.foldr (fun c a => c.length * a) 1
theorem lensP_dvd : ∀ (cs : List (List Int)), ∀ c ∈ cs, c.length ∣ lensP cs
  | [], c, h => by cases h
  | d :: cs, c, h => by
    show c.length ∣ d.length * lensP cs
    rcases List.mem_cons.1 h with rfl | h
    · exact Nat.dvd_mul_right _ _
    · exact Nat.dvd_trans (lensP_dvd cs c h) (Nat.dvd_mul_left _ _)
theorem lensP_pos : ∀ (cs : List (List Int)), (∀ c ∈ cs, 0 < c.length) → 0 < lensP cs
  | [], _ => by decide
  | d :: cs, h => Nat.mul_pos (h d List.mem_cons_self) (lensP_pos cs fun c hc => h c (List.mem_cons_of_mem _ hc))
theorem cyc_pos {p : List Int} (hp : PermL p) : ∀ c ∈ cycs p, 0 < c.length := fun c hc => by
  obtain ⟨m, i, rfl, hP⟩ := (cycs_all hp).cyc c hc
  rw [orb_len]; exact hP.2.1
/-- the number of repetitions that an exponent stands for -/
def rep (p : List Int) (k : Int) : Nat := (k % (lensP (cycs p) : Int)).toNat
theorem rep_cong {p : List Int} (hp : PermL p) (k : Int) : ∀ c ∈ cycs p, (rep p k : Int) % (c.length : Int) = k % (c.length : Int) := fun c hc => by
  have hM := lensP_pos (cycs p) (cyc_pos hp)
  unfold rep
  rw [Int.toNat_of_nonneg (Int.emod_nonneg _ (by omega))]
  exact Int.emod_emod_of_dvd _ (Int.natCast_dvd_natCast.2 (lensP_dvd (cycs p) c hc))
theorem pow_rep {p : List Int} (hp : PermL p) (k : Int) : powL p k = itL p (rep p k) := pow_it hp k _ (rep_cong hp k)
/-- a repetition behind another one -/
theorem comp_it {p : List Int} (hp : PermL p) (a b : Nat) : comp (itL p a) (itL p b) = itL p (a + b) := by
  unfold comp
  conv => lhs; unfold itL
  unfold itL
  rw [List.map_map]
  refine List.map_congr_left fun j hj => ?_
  have hj := List.mem_range.1 hj
  show ((List.range p.length).map fun j => (it p a j : Int))[((it p b j : Nat) : Int).toNat]?.getD 0 = _
  rw [Int.toNat_natCast, List.getElem?_map, List.getElem?_range (it_lt hp hj b), it_add]; rfl
theorem pow_add {p : List Int} (hp : PermL p) (j k : Int) : comp (powL p j) (powL p k) = powL p (j + k) := by
  rw [pow_rep hp j, pow_rep hp k, comp_it hp]
  refine (pow_it hp (j + k) _ fun c hc => ?_).symm
  rw [Int.natCast_add, Int.add_emod, rep_cong hp j c hc, rep_cong hp k c hc, ← Int.add_emod]
theorem itL_zero {p : List Int} : itL p 0 = (List.range p.length).map fun (j : Nat) => (j : Int) := rfl
theorem itL_one {p : List Int} (hp : PermL p) : itL p 1 = p := LF_ph hp
/-- the power with an exponent that all lengths divide -/
theorem pow_id {p : List Int} (hp : PermL p) (k : Int) (h : ∀ c ∈ cycs p, (c.length : Int) ∣ k) : powL p k = (List.range p.length).map fun (j : Nat) => (j : Int) := by
  rw [pow_it hp k 0 fun c hc => by rw [Int.emod_eq_zero_of_dvd (h c hc)]; simp]; rfl
theorem itL_perm {p : List Int} (hp : PermL p) (t : Nat) : PermL (itL p t) := by
  refine ⟨fun x hx => ?_, ?_⟩
  · obtain ⟨j, hj, rfl⟩ := List.mem_map.1 hx
    have := it_lt hp (List.mem_range.1 hj) t
    rw [itL_len]; omega
  · unfold itL
    rw [List.nodup_iff_pairwise_ne, List.pairwise_map]
    refine List.Pairwise.imp_of_mem ?_ (List.nodup_iff_pairwise_ne.1 List.nodup_range)
    intro a b ha hb hab he
    exact hab (it_cancel hp (List.mem_range.1 ha) (List.mem_range.1 hb) t (by omega))
theorem pow_perm {p : List Int} (hp : PermL p) (k : Int) : PermL (powL p k) := by rw [pow_rep hp]; exact itL_perm hp _
theorem pow_len (p : List Int) (k : Int) : (powL p k).length = p.length := powTo_len p k _
/-- a composition of permutations -/
theorem comp_lf {p q : List Int} (hp : PermL p) (hq : PermL q) (hl : p.length = q.length) : comp p q = LF q.length (pf p fun i => (ph q i : Int)) := by
  unfold comp LF pf
  conv => lhs; rw [← LF_ph hq]
  unfold LF
  rw [List.map_map]
  refine List.map_congr_left fun j hj => ?_
  have hj := List.mem_range.1 hj
  simp only [Function.comp_apply, Int.toNat_natCast]
  rw [ph_val hp (by rw [hl]; exact ph_lt hq hj)]; rfl
theorem comp_len (p q : List Int) : (comp p q).length = q.length := by simp [comp]
theorem comp_perm {p q : List Int} (hp : PermL p) (hq : PermL q) (hl : p.length = q.length) : PermL (comp p q) := by
  have e := comp_lf hp hq hl
  refine ⟨fun x hx => ?_, ?_⟩
  · rw [comp_len]
    rw [e] at hx
    obtain ⟨j, hj, rfl⟩ := List.mem_map.1 hx
    have := ph_lt hp (i := ph q j) (by rw [hl]; exact ph_lt hq (List.mem_range.1 hj))
    show 0 ≤ ((ph p ((ph q j : Nat) : Int).toNat : Nat) : Int) ∧ ((ph p ((ph q j : Nat) : Int).toNat : Nat) : Int) < _
    rw [Int.toNat_natCast]; omega
  · rw [e]
    unfold LF
    rw [List.nodup_iff_pairwise_ne, List.pairwise_map]
    refine List.Pairwise.imp_of_mem ?_ (List.nodup_iff_pairwise_ne.1 List.nodup_range)
    intro a b ha hb hab he
    have ha := List.mem_range.1 ha
    have hb := List.mem_range.1 hb
    unfold pf at he
    rw [Int.toNat_natCast, Int.toNat_natCast] at he
    exact hab (ph_inj hq ha hb (ph_inj hp (by rw [hl]; exact ph_lt hq ha) (by rw [hl]; exact ph_lt hq hb) (by omega)))
theorem sign_par {p : List Int} (hp : PermL p) : signL (cycs p) = if par p = true then -1 else 1 := by rw [signL_sb, par_cycs hp]
theorem sign_comp {p q : List Int} (hp : PermL p) (hq : PermL q) (hl : p.length = q.length) : signL (cycs (comp p q)) = signL (cycs p) * signL (cycs q) := by
  rw [sign_par (comp_perm hp hq hl), sign_par hp, sign_par hq, comp_lf hp hq hl, par_comp hp hq hl]
  cases par p <;> cases par q <;> rfl
theorem sign_sq (cs : List (List Int)) : signL cs * signL cs = 1 := by rw [signL_sb]; cases sb cs <;> rfl
theorem invFrom_at {p : List Int} (hp : PermL p) : ∀ k, k ≤ p.length → ∀ i, i < k → (invFrom p k)[ph p i]? = some (i : Int)
  | 0, _, i, hi => by omega
  | k + 1, hk, i, hi => by
    have e : invFrom p (k + 1) = (invFrom p k).set (ph p k) (k : Int) := rfl
    rw [e]
    rcases Nat.lt_or_ge i k with h | h
    · rw [List.getElem?_set_ne (fun h2 => by have := ph_inj hp (i := k) (j := i) (by omega) (by omega) h2; omega)]
      exact invFrom_at hp k (by omega) i h
    · have : i = k := by omega
      subst this
      rw [List.getElem?_set_self (by rw [invFrom_length]; exact ph_lt hp (by omega))]
theorem it_lens {p : List Int} (hp : PermL p) {j : Nat} (hj : j < p.length) : it p (lensP (cycs p)) j = j := by
  have h1 := pow_it hp (lensP (cycs p) : Int) (lensP (cycs p)) fun c hc => rfl
  have h2 := pow_id hp (lensP (cycs p) : Int) fun c hc => Int.natCast_dvd_natCast.2 (lensP_dvd (cycs p) c hc)
  have h3 := itL_at p (lensP (cycs p)) hj
  rw [← h1, h2, List.getElem?_map, List.getElem?_range hj] at h3
  simp only [Option.map_some, Option.some.injEq] at h3
  omega
theorem inv_pow {p : List Int} (hp : PermL p) : invL p = powL p (-1) := by
  have hM := lensP_pos (cycs p) (cyc_pos hp)
  refine List.ext_getElem? fun j => ?_
  by_cases hj : j < p.length
  · obtain ⟨M, hM'⟩ : ∃ M, lensP (cycs p) = M + 1 := ⟨lensP (cycs p) - 1, by omega⟩
    have h1 := it_lens hp hj
    rw [hM', it] at h1
    have hi := it_lt hp hj M
    have e1 : (invL p)[j]? = some (it p M j : Int) := by
      have := invFrom_at hp p.length (Nat.le_refl _) (it p M j) hi
      rw [h1] at this; exact this
    have e2 : powL p (-1) = itL p M := pow_it hp (-1) M fun c hc => by
      have hd : (c.length : Int) ∣ ((M : Int) + 1) := by
        have := Int.natCast_dvd_natCast.2 (lensP_dvd (cycs p) c hc)
        rw [hM'] at this; exact_mod_cast this
      refine Int.emod_eq_emod_iff_emod_sub_eq_zero.2 (Int.emod_eq_zero_of_dvd ?_)
      rw [Int.sub_neg]; exact hd
    rw [e1, e2, itL_at p M hj]
  · rw [List.getElem?_eq_none (by unfold invL; rw [invFrom_length]; omega), List.getElem?_eq_none (by rw [pow_len]; omega)]
end Go.Proofs.YtneafcdfnhnpnaaGreatDoor
/- The least common multiple of the lengths of cycles. Plain Lean. -/
namespace Go.Proofs.YtneafcdfnhnpnaaGreatDoor
open Go.RowKit Go.Lib

def lcmF (cs : List (List Int)) (o : Nat) : Nat := cs.foldl (fun o c => Nat.lcm o c.length) o
def lensS (cs : List (List Int)) : Nat := (cs.map List.length).sum
theorem lcmF_snoc (cs : List (List Int)) (c : List Int) (o : Nat) : lcmF (cs ++ [c]) o = Nat.lcm (lcmF cs o) c.length := by simp [lcmF]
theorem lcmF_keep : ∀ (cs : List (List Int)) (o : Nat), o ∣ lcmF cs o
  | [], o => Nat.dvd_refl o
  | c :: cs, o => Nat.dvd_trans (Nat.dvd_lcm_left o c.length) (lcmF_keep cs _)
theorem lcmF_dvd : ∀ (cs : List (List Int)) (o : Nat), ∀ c ∈ cs, c.length ∣ lcmF cs o
  | [], o, c, h => by cases h
  | d :: cs, o, c, h => by
    rcases List.mem_cons.1 h with rfl | h
    · exact Nat.dvd_trans (Nat.dvd_lcm_right o c.length) (lcmF_keep cs _)
    · exact lcmF_dvd cs _ c h
theorem lcmF_pos : ∀ (cs : List (List Int)) (o : Nat), 0 < o → (∀ c ∈ cs, 0 < c.length) → 0 < lcmF cs o
  | [], _, ho, _ => ho
  | d :: cs, _, ho, h => lcmF_pos cs _ (Nat.lcm_pos ho (h d List.mem_cons_self)) fun c hc => h c (List.mem_cons_of_mem _ hc)
theorem lcmF_le : ∀ (cs : List (List Int)) (o : Nat), lcmF cs o ≤ o * 2 ^ lensS cs
  | [], o => by simp [lcmF, lensS]
  | c :: cs, o => by
    have h1 := lcmF_le cs (Nat.lcm o c.length)
    have h2 : Nat.lcm o c.length ≤ o * 2 ^ c.length := Nat.le_trans (Nat.div_le_self _ _) (Nat.mul_le_mul_left o (Nat.le_of_lt Nat.lt_two_pow_self))
    have e : lensS (c :: cs) = c.length + lensS cs := by simp [lensS]
    show lcmF cs (Nat.lcm o c.length) ≤ _
    rw [e, Nat.pow_add, ← Nat.mul_assoc]
    exact Nat.le_trans h1 (Nat.mul_le_mul_right _ h2)
theorem orb_nodup {p : List Int} (hp : PermL p) {m i : Nat} (h : Per p m i) : (orb p m i).Nodup := by
  unfold orb
  rw [List.nodup_iff_pairwise_ne, List.pairwise_map]
  refine List.Pairwise.imp_of_mem ?_ (List.nodup_iff_pairwise_ne.1 List.nodup_range)
  intro a b ha hb hab he
  have ha := List.mem_range.1 ha
  have hb := List.mem_range.1 hb
  rcases Nat.lt_or_ge a b with h1 | h1
  · exact it_diff hp h h1 hb (by omega)
  · exact it_diff hp h (show b < a by omega) ha (by omega)
/-- the lengths of some of the cycles add up to no more than the permutation's -/
theorem lensS_le {p : List Int} (hp : PermL p) (cs : List (List Int)) (h1 : ∀ c ∈ cs, c ∈ cycs p) (h2 : cs.Pairwise fun c d => ∀ x ∈ c, x ∉ d) : lensS cs ≤ p.length := by
  have hn : cs.flatten.Nodup := by
    rw [List.nodup_iff_pairwise_ne, List.pairwise_flatten]
    refine ⟨fun c hc => ?_, h2.imp fun h x hx y hy he => h x hx (by rw [he]; exact hy)⟩
    obtain ⟨m, i, rfl, hP⟩ := (cycs_all hp).cyc c (h1 c hc)
    exact List.nodup_iff_pairwise_ne.1 (orb_nodup hp hP)
  have hr : ∀ x ∈ cs.flatten, 0 ≤ x ∧ x < (p.length : Int) := fun x hx => by
    obtain ⟨c, hc, hx⟩ := List.mem_flatten.1 hx
    obtain ⟨m, i, rfl, hP⟩ := (cycs_all hp).cyc c (h1 c hc)
    obtain ⟨u, _, rfl⟩ := mem_orb.1 hx
    have := it_lt hp hP.1 u
    omega
  have e : lensS cs = (cs.flatten.map Int.toNat).length := by unfold lensS; rw [List.length_map, List.length_flatten]
  rw [e]
  refine nodup_lt_length p.length _ ?_ ?_
  · rw [List.nodup_iff_pairwise_ne, List.pairwise_map]
    refine List.Pairwise.imp_of_mem ?_ (List.nodup_iff_pairwise_ne.1 hn)
    intro a b ha hb hab he
    have := hr a ha
    have := hr b hb
    omega
  · intro x hx
    obtain ⟨y, hy, rfl⟩ := List.mem_map.1 hx
    have := hr y hy
    omega
/-- the lengths' least common multiple, as far as the first i cycles tell it -/
def ordN (p : List Int) (i : Nat) : Nat := lcmF ((cycs p).take i) 1
theorem ordN_facts {p : List Int} (hp : PermL p) (hl : p.length ≤ 12) (i : Nat) : 0 < ordN p i ∧ ordN p i ≤ 4096 := by
  refine ⟨lcmF_pos _ 1 (by decide) fun c hc => cyc_pos hp c (List.mem_of_mem_take hc), ?_⟩
  have h1 := lcmF_le ((cycs p).take i) 1
  have h2 := lensS_le hp ((cycs p).take i) (fun c hc => List.mem_of_mem_take hc) ((cycs_all hp).apart.sublist (List.take_sublist _ _))
  rw [Nat.one_mul] at h1
  exact Nat.le_trans h1 (Nat.pow_le_pow_right (by decide) (Nat.le_trans h2 hl))
theorem ordN_step (p : List Int) (i : Nat) (c : List Int) (h : (cycs p)[i]? = some c) : ordN p (i + 1) = ordN p i / Nat.gcd (ordN p i) c.length * c.length := by
  unfold ordN
  rw [List.take_add_one, h, Option.toList_some, lcmF_snoc]
  unfold Nat.lcm
  rw [Nat.div_mul_right_comm (Nat.gcd_dvd_left _ _)]
theorem ordN_id {p : List Int} (hp : PermL p) : powL p (ordN p (cycs p).length) = (List.range p.length).map fun (j : Nat) => (j : Int) := by
  refine pow_id hp _ fun c hc => Int.natCast_dvd_natCast.2 ?_
  unfold ordN
  rw [List.take_length]
  exact lcmF_dvd _ 1 c hc
def signTo (cs : List (List Int)) (i : Nat) : Int := signL (cs.take i)
theorem signTo_step (cs : List (List Int)) (i : Nat) (c : List Int) (h : cs[i]? = some c) : signTo cs (i + 1) = if c.length % 2 = 0 then -(signTo cs i) else signTo cs i := by
  unfold signTo
  rw [List.take_add_one, h, Option.toList_some]
  simp [signL]
theorem cyc_len {p : List Int} (hp : PermL p) (hl : p.length ≤ 12) {c : List Int} (hc : c ∈ cycs p) : 0 < c.length ∧ c.length ≤ 12 := by
  refine ⟨cyc_pos hp c hc, ?_⟩
  have := lensS_le hp [c] (fun d hd => by rw [List.mem_singleton] at hd; rw [hd]; exact hc) (by simp)
  simp only [lensS, List.map_cons, List.map_nil, List.sum_cons, List.sum_nil] at this
  omega
end Go.Proofs.YtneafcdfnhnpnaaGreatDoor
/- The law AlgebraGroups. -/
namespace Go.Proofs.YtneafcdfnhnpnaaGreatDoor
open Go.RowKit Go.Lib

theorem small_err {p : List Int} (h : permErr p = 0) : PermL p ∧ p.length ≤ 256 := by unfold permErr at h; split at h; omega; split at h; exact ⟨by assumption, by omega⟩; omega
theorem pe_zero {p : List Int} (hp : PermL p) (hl : p.length ≤ 256) : permErr p = 0 := by unfold permErr; rw [if_neg (by omega), if_pos hp]
theorem ce_zero {p q : List Int} (hp : permErr p = 0) (hq : permErr q = 0) (hl : p.length = q.length) : compErr p q = 0 := by
  unfold compErr
  rw [firstErr_two, if_pos hp, if_pos hq, if_pos hl]
theorem comp_at (p : List Int) {q : List Int} {k : Nat} (hk : k < q.length) : (comp p q)[k]?.getD 0 = p[(q[k]?.getD 0).toNat]?.getD 0 := by
  unfold comp; rw [List.getElem?_map, List.getElem?_eq_getElem hk]; rfl
theorem sign_one (cs : List (List Int)) : signL cs = 1 ∨ signL cs = -1 := by rw [signL_sb]; cases sb cs <;> simp
theorem TI.rowAt {w : World} {base : Nat} {A : Option Addr} {n c : Nat} {M : List (List Int)} (h : TI w base (.slice A n c) M) (hn : n = M.length) {i : Nat} {x : List Int} (hx : M[i]? = some x) :
    ∃ g A2 c2, A = some ⟨g, 0, none⟩ ∧ base ≤ g ∧ g < w.heap.size ∧ w.cell? ⟨g, i, none⟩ = some (.slice A2 x.length c2) ∧ x.length ≤ c2 ∧ ∃ bx, base ≤ bx ∧ w.ownsRow bx 3 1 (.slice A2 x.length c2) x.length (icells x) := by
  obtain ⟨vs, h1, h2, h3⟩ := h
  subst hn
  have hi := (List.getElem?_eq_some_iff.1 hx).1
  obtain ⟨g, rfl, hg, hlt, hc⟩ := oCell h1 hi
  obtain ⟨u, bx, hu, hb, ho⟩ := h3 i x hx
  obtain ⟨A2, c2, rfl, hc2, _⟩ := oForm ho
  exact ⟨g, A2, c2, rfl, hg, hlt, (hc i hi).trans hu, hc2, bx, hb, ho⟩
theorem ord_q (o g : Nat) (ho : o ≤ 4096) : wrap64 ((o : Int) / (g : Int)) = (o : Int) / (g : Int) := by
  have h : o / g ≤ o := Nat.div_le_self o g
  rw [← Int.natCast_ediv]
  generalize o / g = z at *
  exact IntWalk.wrap64_in _ (by omega)
theorem ord_m (o0 g l o : Nat) (h : o0 / g * l = o) (ho : o ≤ 4096) : wrap64 ((o0 : Int) / (g : Int) * (l : Int)) = (o : Int) := by
  rw [← Int.natCast_ediv, ← Int.natCast_mul, h]
  exact IntWalk.wrap64_in _ (by omega)
theorem small_c (v : Value) (p : List Int) (n : Int) (w : World) (hv : Sl w 1 v (icells p)) :
    Calls Tryz.prog 92 #[v, .int .i64 n] w fun e w' => e = .returned (.bool (decide ((p.length : Int) ≤ n ∧ permErr p = 0))) ∧ Below w.heap.size w w' := by
  obtain ⟨A, c, rfl, hc1, hc2⟩ := hv.form
  simp only [icells_length] at hc1 hv ⊢
  have HV := Lib.hid hv
  clear hv
  by_cases h : (p.length : Int) ≤ n
  · go_enter Tryz.func92, Tryz.ntmps92
    go_wp2_with fail
    refine (refCheckPerm_c _ p _ HV.out).mono ?_
    rintro e w1 ⟨rfl, hB⟩
    go_wp2
    go_ret
    refine ⟨?_, hB⟩
    by_cases h0 : permErr p = 0
    · simp [h, h0]
    · simp [h0]
  · go_enter Tryz.func92, Tryz.ntmps92
    have hd : decide ((p.length : Int) ≤ n ∧ permErr p = 0) = false := decide_eq_false fun h2 => h h2.1
    rw [hd]
    clear hd
    go_wp2
    go_ret
    exact ⟨rfl, Below.refl _ _⟩

set_option maxRecDepth 100000 in
set_option maxHeartbeats 8000000 in
theorem AlgebraGroups_c (v u : Value) (p q : List Int) (x y : Int) (w : World) (hv : Sl w 1 v (icells p)) (hu : Sl w 1 u (icells q)) (hx : -128 ≤ x ∧ x < 128) (hy : -128 ≤ y ∧ y < 128) (hG : Glob w) :
    Calls Tryz.prog 11 #[v, u, .agg #[.int .i8 x, .int .i8 y]] w fun e w' => e = .returned (.bool true) ∧ Below w.heap.size w w' := by
  obtain ⟨A, c, rfl, hc1, hc2⟩ := hv.form
  obtain ⟨B, d, rfl, gc1, gc2⟩ := hu.form
  simp only [icells_length] at hc1 hv gc1 hu ⊢
  have HG := Lib.hid hG
  have HV := Lib.hid hv
  have HU := Lib.hid hu
  clear hG hv hu
  have HB := Lib.hid (bA (Below.refl w.heap.size w) (.cells #[.int .i8 x, .int .i8 y] 107))
  have HO := Lib.hid (Own.make w 107 [.int .i8 x, .int .i8 y])
  go_enter Tryz.func11, Tryz.ntmps11
  go_wp2_with fail
  refine (awake_c _ (HG.out.below HB.out)).mono ?_
  rintro e w1 ⟨rfl, hB⟩
  replace HB := Lib.hid (bT HB.out hB)
  replace HO := Lib.hid (HO.out.below hB HO.out.lt)
  clear hB
  by_cases h1 : (p.length : Int) ≤ 12 ∧ permErr p = 0
  rotate_left
  · have hd : decide ((p.length : Int) ≤ 12 ∧ permErr p = 0) = false := decide_eq_false h1
    go_wp2_with fail
    refine (small_c _ p 12 _ (HV.out.below HB.out)).mono ?_
    rintro e w2 ⟨rfl, hB⟩
    rw [hd]
    replace HB := Lib.hid (bT HB.out hB)
    replace HO := Lib.hid (HO.out.below hB HO.out.lt)
    clear hB
    go_wp2_with fail
    refine (awake_c _ (HG.out.below HB.out)).mono ?_
    rintro e wz ⟨rfl, hB⟩
    have HZ := Lib.hid (bT HB.out hB)
    clear hB
    go_wp2
    go_ret
    exact ⟨rfl, HZ.out⟩
  have hd : decide ((p.length : Int) ≤ 12 ∧ permErr p = 0) = true := decide_eq_true h1
  go_wp2_with fail
  refine (small_c _ p 12 _ (HV.out.below HB.out)).mono ?_
  rintro e w3 ⟨rfl, hB⟩
  rw [hd]
  clear hd
  replace HB := Lib.hid (bT HB.out hB)
  replace HO := Lib.hid (HO.out.below hB HO.out.lt)
  clear hB
  by_cases h2 : p.length = q.length
  rotate_left
  · have hb : ((p.length : Int) != (q.length : Int)) = true := by simpa using (by omega : ¬ (p.length : Int) = q.length)
    go_wp2_with fail
    refine (awake_c _ (HG.out.below HB.out)).mono ?_
    rintro e wz ⟨rfl, hB⟩
    have HZ := Lib.hid (bT HB.out hB)
    clear hB
    go_wp2
    go_ret
    exact ⟨rfl, HZ.out⟩
  have hb : ((p.length : Int) != (q.length : Int)) = false := by rw [h2]; simp
  have H2 := Lib.hid h2
  clear h2
  by_cases h3 : (q.length : Int) ≤ 12 ∧ permErr q = 0
  rotate_left
  · have hd : decide ((q.length : Int) ≤ 12 ∧ permErr q = 0) = false := decide_eq_false h3
    go_wp2_with fail
    refine (small_c _ q 12 _ (HU.out.below HB.out)).mono ?_
    rintro e w4 ⟨rfl, hB⟩
    rw [hd]
    replace HB := Lib.hid (bT HB.out hB)
    replace HO := Lib.hid (HO.out.below hB HO.out.lt)
    clear hB
    go_wp2_with fail
    refine (awake_c _ (HG.out.below HB.out)).mono ?_
    rintro e wz ⟨rfl, hB⟩
    have HZ := Lib.hid (bT HB.out hB)
    clear hB
    go_wp2
    go_ret
    exact ⟨rfl, HZ.out⟩
  have hd : decide ((q.length : Int) ≤ 12 ∧ permErr q = 0) = true := decide_eq_true h3
  go_wp2_with fail
  refine (small_c _ q 12 _ (HU.out.below HB.out)).mono ?_
  rintro e w5 ⟨rfl, hB⟩
  rw [hd]
  clear hd hb
  replace HB := Lib.hid (bT HB.out hB)
  replace HO := Lib.hid (HO.out.below hB HO.out.lt)
  clear hB
  have HP : Hid (PermL p ∧ p.length ≤ 12 ∧ permErr p = 0) := Lib.hid ⟨(small_err h1.2).1, by omega, h1.2⟩
  have HQ : Hid (PermL q ∧ q.length = p.length ∧ permErr q = 0) := Lib.hid ⟨(small_err h3.2).1, H2.out.symm, h3.2⟩
  clear h1 H2 h3
  have hc0 : w5.cell? ⟨w.heap.size, 0, none⟩ = some (.int .i8 x) := HO.out.cell 0
  have hc1' : w5.cell? ⟨w.heap.size, 1, none⟩ = some (.int .i8 y) := HO.out.cell 1
  go_wp2
  go_quiet (fail)
  clear hc0 hc1' HO
  replace HB := Lib.hid (below_drewN HB.out nq)
  go_wp2_with fail
  refine (Power_c _ p x _ (HV.out.below HB.out)).mono ?_
  rintro e w6 ⟨hI, hB⟩
  rw [if_pos HP.out.2.2] at hI
  obtain ⟨va, rfl, ha⟩ := hI
  replace HB := Lib.hid (bT HB.out hB)
  clear hB
  have Ha := Lib.hid ha
  clear ha
  go_wp2_with fail
  refine (Power_c _ p y _ (HV.out.below HB.out)).mono ?_
  rintro e w7 ⟨hI, hB⟩
  rw [if_pos HP.out.2.2] at hI
  obtain ⟨vb, rfl, hb⟩ := hI
  replace HB := Lib.hid (bT HB.out hB)
  replace Ha := Lib.hid (Ha.out.below hB)
  clear hB
  have Hb := Lib.hid hb
  clear hb
  have HC1 : Hid (compErr (powL p x) (powL p y) = 0) := Lib.hid (ce_zero (pe_zero (pow_perm HP.out.1 x) (by rw [pow_len]; have := HP.out.2.1; omega)) (pe_zero (pow_perm HP.out.1 y) (by rw [pow_len]; have := HP.out.2.1; omega)) (by rw [pow_len, pow_len]))
  go_wp2_with fail
  refine (Compose_c _ _ (powL p x) (powL p y) _ Ha.out Hb.out).mono ?_
  rintro e w8 ⟨hI, hB⟩
  rw [if_pos HC1.out] at hI
  obtain ⟨vab, rfl, hab⟩ := hI
  rw [pow_add HP.out.1] at hab
  replace HB := Lib.hid (bT HB.out hB)
  replace Ha := Lib.hid (Ha.out.below hB)
  replace Hb := Lib.hid (Hb.out.below hB)
  clear hB
  have Hab := Lib.hid hab
  clear hab
  clear Ha Hb HC1
  go_wp2_with fail
  refine (Power_c _ p (x + y) _ (HV.out.below HB.out)).mono ?_
  rintro e w9 ⟨hI, hB⟩
  rw [if_pos HP.out.2.2] at hI
  obtain ⟨vc, rfl, hc⟩ := hI
  replace HB := Lib.hid (bT HB.out hB)
  replace Hab := Lib.hid (Hab.out.below hB)
  clear hB
  have Hc := Lib.hid hc
  clear hc
  go_wp2_with fail
  refine (Invert_c _ p _ (HV.out.below HB.out)).mono ?_
  rintro e w10 ⟨hI, hB⟩
  rw [if_pos HP.out.2.2] at hI
  obtain ⟨vi, rfl, hi⟩ := hI
  rw [inv_pow HP.out.1] at hi
  replace HB := Lib.hid (bT HB.out hB)
  replace Hab := Lib.hid (Hab.out.below hB)
  replace Hc := Lib.hid (Hc.out.below hB)
  clear hB
  have Hi := Lib.hid hi
  clear hi
  go_wp2_with fail
  refine (Power_c _ p (-1) _ (HV.out.below HB.out)).mono ?_
  rintro e w11 ⟨hI, hB⟩
  rw [if_pos HP.out.2.2] at hI
  obtain ⟨vm, rfl, hm⟩ := hI
  replace HB := Lib.hid (bT HB.out hB)
  replace Hab := Lib.hid (Hab.out.below hB)
  replace Hc := Lib.hid (Hc.out.below hB)
  replace Hi := Lib.hid (Hi.out.below hB)
  clear hB
  have Hm := Lib.hid hm
  clear hm
  have HC2 : Hid (compErr p q = 0) := Lib.hid (ce_zero HP.out.2.2 HQ.out.2.2 HQ.out.2.1.symm)
  go_wp2_with fail
  refine (Compose_c _ _ p q _ (HV.out.below HB.out) (HU.out.below HB.out)).mono ?_
  rintro e w12 ⟨hI, hB⟩
  rw [if_pos HC2.out] at hI
  obtain ⟨vr, rfl, hr⟩ := hI
  replace HB := Lib.hid (bT HB.out hB)
  replace Hab := Lib.hid (Hab.out.below hB)
  replace Hc := Lib.hid (Hc.out.below hB)
  replace Hi := Lib.hid (Hi.out.below hB)
  replace Hm := Lib.hid (Hm.out.below hB)
  clear hB
  have Hr := Lib.hid hr
  clear hr
  obtain ⟨C, c3, rfl⟩ : ∃ C c3, vr = .slice C p.length c3 := by
    obtain ⟨C, c3, h, _⟩ := Hr.out.form
    rw [icells_length, comp_len, HQ.out.2.1] at h
    exact ⟨C, c3, h⟩
  go_wp2_with fail
  refine (aw_si (powL p (x + y)) _ _ _ Hab.out.wide Hc.out.wide).mono ?_
  rintro e w13 ⟨rfl, hB⟩
  replace HB := Lib.hid (bT HB.out hB)
  replace Hi := Lib.hid (Hi.out.below hB)
  replace Hm := Lib.hid (Hm.out.below hB)
  replace Hr := Lib.hid (Hr.out.below hB)
  clear hB
  clear Hab Hc
  go_wp2_with fail
  refine (aw_si (powL p (-1)) _ _ _ Hi.out.wide Hm.out.wide).mono ?_
  rintro e w14 ⟨rfl, hB⟩
  replace HB := Lib.hid (bT HB.out hB)
  replace Hr := Lib.hid (Hr.out.below hB)
  clear hB
  clear Hi Hm
  have hcp : PermL (comp p q) := comp_perm HP.out.1 HQ.out.1 HQ.out.2.1.symm
  have hcl : (comp p q).length = p.length := by rw [comp_len]; exact HQ.out.2.1
  have HCP : Hid (permErr (comp p q) = 0) := Lib.hid (pe_zero hcp (by rw [hcl]; have := HP.out.2.1; omega))
  have hd : decide (((comp p q).length : Int) ≤ 12 ∧ permErr (comp p q) = 0) = true := decide_eq_true ⟨by rw [hcl]; have := HP.out.2.1; omega, HCP.out⟩
  go_wp2_with fail
  refine (small_c _ (comp p q) 12 _ Hr.out).mono ?_
  rintro e w15 ⟨rfl, hB⟩
  rw [hd]
  clear hd hcp hcl
  replace HB := Lib.hid (bT HB.out hB)
  replace Hr := Lib.hid (Hr.out.below hB)
  clear hB
  go_wp2_with fail
  go_loopg [23, 148] q.length (fun gh _ ix wr => ∃ k : Nat, ix = .int .i64 k ∧ k + gh = q.length ∧ Below w15.heap.size w15 wr)
  case atStart => exact ⟨0, rfl, by omega, Below.refl _ _⟩
  case round =>
    obtain ⟨k, rfl, hk, hW⟩ := hrel
    cases gk with
    | succ gh =>
      have hlt : k < q.length := by omega
      have hBw := bT HB.out hW
      have hx := HQ.out.1.1 (q[k]?.getD 0) (by rw [List.getElem?_eq_getElem hlt]; exact List.getElem_mem hlt)
      obtain ⟨b1, off1, rfl, hbb1, hcell1⟩ := HU.out.at_ (k := k) (by rw [icells_length]; omega)
      have hck1 := (hBw.cell (p := ⟨b1, off1 + k, none⟩) hbb1).trans ((hcell1 k (by rw [icells_length]; omega)).trans (icells_at q k hlt))
      obtain ⟨b3, off3, rfl, hbb3, hcell3⟩ := Hr.out.at_ (k := k) (by rw [icells_length, comp_len]; omega)
      have hck3 := (hW.cell (p := ⟨b3, off3 + k, none⟩) hbb3).trans ((hcell3 k (by rw [icells_length, comp_len]; omega)).trans (icells_at (comp p q) k (by rw [comp_len]; omega)))
      rw [comp_at p hlt] at hck3
      generalize q[k]?.getD 0 = x0 at *
      obtain ⟨j, rfl⟩ := Int.eq_ofNat_of_zero_le hx.1
      have hjp : j < p.length := by have := HQ.out.2.1; omega
      have hkp : k < p.length := by have := HQ.out.2.1; omega
      obtain ⟨b0, off, rfl, hbb, hcell⟩ := HV.out.at_ (k := j) (by rw [icells_length]; omega)
      have hck := (hBw.cell (p := ⟨b0, off + j, none⟩) hbb).trans ((hcell j (by rw [icells_length]; omega)).trans (icells_at p j hjp))
      rw [Int.toNat_natCast] at hck3
      generalize p[j]?.getD 0 = y0 at *
      have hyy : (y0 != y0) = false := by simp
      clear hcell hcell1 hcell3 hx hBw HG HP HQ HCP HV HU HB Hr
      go_wp2
      go_quiet (fail)
      go_wp2
      go_roundg gh
      case rel => exact ⟨k + 1, by go_num, by omega, below_drewN hW nq⟩
      case measure => omega
    | zero =>
      have hin : ¬ ((k : Int) < (q.length : Int)) := by omega
      replace HB := Lib.hid (bT HB.out hW)
      replace Hr := Lib.hid (Hr.out.below hW)
      clear hW hk
      go_wp2_with fail
      refine (Sign_c _ p _ (HV.out.below HB.out)).mono ?_
      rintro e w16 ⟨hS, hB⟩
      rw [if_pos HP.out.2.2, HP.out.2.2] at hS
      subst hS
      replace HB := Lib.hid (bT HB.out hB)
      replace Hr := Lib.hid (Hr.out.below hB)
      clear hB
      obtain ⟨s, hs⟩ : ∃ z, signL (cycs p) = z := ⟨_, rfl⟩
      have Hs := Lib.hid hs
      rw [hs]
      clear hs
      go_wp2_with fail
      refine (Sign_c _ q _ (HU.out.below HB.out)).mono ?_
      rintro e w17 ⟨hS, hB⟩
      rw [if_pos HQ.out.2.2, HQ.out.2.2] at hS
      subst hS
      replace HB := Lib.hid (bT HB.out hB)
      replace Hr := Lib.hid (Hr.out.below hB)
      clear hB
      obtain ⟨t, ht⟩ : ∃ z, signL (cycs q) = z := ⟨_, rfl⟩
      have Ht := Lib.hid ht
      rw [ht]
      clear ht
      go_wp2_with fail
      refine (Sign_c _ (comp p q) _ Hr.out).mono ?_
      rintro e w18 ⟨hS, hB⟩
      rw [if_pos HCP.out, HCP.out, sign_comp HP.out.1 HQ.out.1 HQ.out.2.1.symm, Hs.out, Ht.out] at hS
      subst hS
      replace HB := Lib.hid (bT HB.out hB)
      replace Hr := Lib.hid (Hr.out.below hB)
      clear hB
      clear Hr HCP
      go_wp2_with fail
      refine (Cycles_c _ p _ (HV.out.below HB.out)).mono ?_
      rintro e w19 ⟨hB, ⟨_, lv, base, rfl, hbase, hT⟩ | ⟨hbad, _⟩⟩
      rotate_left
      · exact absurd HP.out.2.2 hbad
      replace HB := Lib.hid (bT HB.out hB)
      obtain ⟨A5, c5, rfl, hc5, _⟩ := hT.form
      have HT := Lib.hid hT
      clear hB hT hbase
      have hs1 := sign_one (cycs p)
      have ht1 := sign_one (cycs q)
      rw [Hs.out] at hs1
      rw [Ht.out] at ht1
      have hw1 : IntKind.wrap .i64 (s * t) = s * t := by rcases hs1 with h | h <;> rcases ht1 with h2 | h2 <;> rw [h, h2] <;> decide +kernel
      have hw2 : IntKind.wrap .i64 (s * s) = 1 := by rcases hs1 with h | h <;> rw [h] <;> decide +kernel
      have hne : (s * t != s * t) = false := by simp
      clear hs1 ht1 Ht HQ HU
      go_wp2
      have hcs : (cycs p).length ≤ 12 := Nat.le_trans (cycs_len p) HP.out.2.1
      go_loopg [32, 33, 35, 36, 37, 207] (cycs p).length (fun gh par ord _ _ _ ix wr => ∃ k : Nat, ix = .int .i64 k ∧ k + gh = (cycs p).length ∧ par = .int .i64 (signTo (cycs p) k) ∧ ord = .int .i64 (ordN p k : Nat) ∧ Below w19.heap.size w19 wr)
      case atStart => exact ⟨0, rfl, by omega, rfl, rfl, Below.refl _ _⟩
      case round =>
        obtain ⟨k, rfl, hk, rfl, rfl, hW⟩ := hrel
        cases gk with
        | succ gh =>
          have hkl : k < (cycs p).length := by omega
          have hin : (k : Int) < ((cycs p).length : Int) := by omega
          obtain ⟨x0, hx⟩ : ∃ x0, (cycs p)[k]? = some x0 := ⟨(cycs p)[k], List.getElem?_eq_getElem hkl⟩
          have hT1 := HT.out.keep (w' := wr) (fun k' _ h2 => hW.block k' h2)
          obtain ⟨g, A2, c2, rfl, hgb, hgl, hgc, hxc, bx, hbx, hrow⟩ := hT1.rowAt rfl hx
          have hlen := cyc_len HP.out.1 HP.out.2.1 (List.mem_of_getElem? hx)
          have HO1 := Lib.hid (ordN_step p k x0 hx)
          have HS1 := Lib.hid (signTo_step (cycs p) k x0 hx)
          have hof := ordN_facts HP.out.1 HP.out.2.1 k
          have hof2 := ordN_facts HP.out.1 HP.out.2.1 (k + 1)
          obtain ⟨l, hl⟩ : ∃ l, x0.length = l := ⟨_, rfl⟩
          rw [hl] at hlen HO1 HS1 hgc hxc
          have hl0 : ((l : Int) == 0) = false := by simp; omega
          have hl12 : ¬ ((12 : Int) < (l : Int)) := by omega
          clear hT1 hrow hx hbx hl
          have hz0 : signTo (cycs p) k = 1 ∨ signTo (cycs p) k = -1 := sign_one _
          obtain ⟨o1, ho1⟩ : ∃ o1, ordN p (k + 1) = o1 := ⟨_, rfl⟩
          obtain ⟨z1, hz1⟩ : ∃ z1, signTo (cycs p) (k + 1) = z1 := ⟨_, rfl⟩
          have HO2 := Lib.hid ho1
          have HZ2 := Lib.hid hz1
          rw [ho1] at HO1 hof2
          rw [hz1] at HS1
          clear ho1 hz1
          generalize ordN p k = o0 at *
          generalize signTo (cycs p) k = z0 at *
          by_cases hev : l % 2 = 0
          ·
            -- the length is even
            have hm : ((l : Int) % 2 == 0) = true := by simp; omega
            have HZ1 := Lib.hid HS1.out
            rw [if_pos hev] at HZ1
            have hneg : wrap64 (-z0) = z1 := by
              rw [HZ1.out]
              rcases hz0 with h | h <;> rw [h] <;> decide +kernel
            clear HZ1 hz0 HS1
            go_wp2_with fail
            refine (Gcd_c (o0 : Int) (l : Int) _).mono ?_
            rintro e wg ⟨hg, hB⟩
            rw [if_neg (by unfold far; omega), Int.gcd_natCast_natCast] at hg
            subst hg
            have hg0 := Nat.gcd_pos_of_pos_left l hof.1
            have hgd := Nat.gcd_dvd_left o0 l
            have hstep := HO1.out
            generalize Nat.gcd o0 l = g0 at *
            have hgn : ¬ ((g0 : Int) < 1) := by omega
            have hge : ((g0 : Int) == 0) = false := by simp; omega
            have hBw := bT hW hB
            clear hB
            have hq : wrap64 ((o0 : Int) / (g0 : Int)) = (o0 : Int) / (g0 : Int) := ord_q o0 g0 (by omega)
            have hmul : wrap64 ((o0 : Int) / (g0 : Int) * (l : Int)) = (o1 : Int) := ord_m _ _ _ _ hstep.symm (by omega)
            clear hstep hgd HO1
            go_wp2
            go_roundg gh
            case rel => exact ⟨k + 1, by go_num, by omega, by rw [HZ2.out], by rw [HO2.out, hmul], hBw⟩
            case measure => omega
          ·
            -- the length is odd
            have hm : ((l : Int) % 2 == 0) = false := by simp; omega
            have HZ1 := Lib.hid HS1.out
            rw [if_neg hev] at HZ1
            have HZZ := HZ1.out
            subst HZZ
            clear HZ1 hz0 HS1
            go_wp2_with fail
            refine (Gcd_c (o0 : Int) (l : Int) _).mono ?_
            rintro e wg ⟨hg, hB⟩
            rw [if_neg (by unfold far; omega), Int.gcd_natCast_natCast] at hg
            subst hg
            have hg0 := Nat.gcd_pos_of_pos_left l hof.1
            have hgd := Nat.gcd_dvd_left o0 l
            have hstep := HO1.out
            generalize Nat.gcd o0 l = g0 at *
            have hgn : ¬ ((g0 : Int) < 1) := by omega
            have hge : ((g0 : Int) == 0) = false := by simp; omega
            have hBw := bT hW hB
            clear hB
            have hq : wrap64 ((o0 : Int) / (g0 : Int)) = (o0 : Int) / (g0 : Int) := ord_q o0 g0 (by omega)
            have hmul : wrap64 ((o0 : Int) / (g0 : Int) * (l : Int)) = (o1 : Int) := ord_m _ _ _ _ hstep.symm (by omega)
            clear hstep hgd HO1
            go_wp2
            go_roundg gh
            case rel => exact ⟨k + 1, by go_num, by omega, by rw [HZ2.out], by rw [HO2.out, hmul], hBw⟩
            case measure => omega
        | zero =>
          have hin : ¬ ((k : Int) < ((cycs p).length : Int)) := by omega
          have hkk : k = (cycs p).length := by omega
          subst hkk
          have hsg : signTo (cycs p) (cycs p).length = s := by unfold signTo; rw [List.take_length]; exact Hs.out
          rw [hsg]
          have hee : (s == s) = true := by simp
          have HID := Lib.hid (ordN_id HP.out.1)
          replace HB := Lib.hid (bT HB.out hW)
          generalize ordN p (cycs p).length = o9 at *
          clear hW hk hsg HT
          go_wp2_with fail
          refine (Power_c _ p (o9 : Int) _ (HV.out.below HB.out)).mono ?_
          rintro e w20 ⟨hI, hB⟩
          rw [if_pos HP.out.2.2] at hI
          obtain ⟨vo, rfl, hvo⟩ := hI
          rw [HID.out] at hvo
          replace HB := Lib.hid (bT HB.out hB)
          clear hB
          have Ho := Lib.hid hvo
          clear hvo
          go_wp2_with fail
          refine (refIdentity_c p.length _ (by have := HP.out.2.1; omega)).mono ?_
          rintro e w21 ⟨vd, rfl, hvd, hB⟩
          have hvd2 : w21.ownsRow w20.heap.size 3 1 vd (icells (idL p.length)).length (icells (idL p.length)) := by rw [show (icells (idL p.length)).length = p.length by simp [icells, idL]]; exact hvd
          have Hd := Lib.hid (oSl hvd2 (by rw [show (icells (idL p.length)).length = p.length by simp [icells, idL]]; have := HP.out.2.1; omega))
          clear hvd hvd2
          replace HB := Lib.hid (bT HB.out hB)
          replace Ho := Lib.hid (Ho.out.below hB)
          clear hB
          go_wp2_with fail
          refine (aw_si ((List.range p.length).map fun (j : Nat) => (j : Int)) _ _ _ Ho.out.wide Hd.out).mono ?_
          rintro e w22 ⟨rfl, hB⟩
          replace HB := Lib.hid (bT HB.out hB)
          clear hB Ho Hd
          go_wp2
          go_ret
          exact ⟨rfl, HB.out⟩
end Go.Proofs.YtneafcdfnhnpnaaGreatDoor
/- The statement on AlgebraGroups: its row, from inside. -/
namespace Go.Proofs.YtneafcdfnhnpnaaGreatDoor
open Go.ChangeShapes Go.WideShapes Go.ChangeAt Go.RowKit Go.Lib

theorem cells_i8 : Tryz.prog.cellsOf 106 = 1 := by kernel_rfl
theorem cells_arr2 : Tryz.prog.cellsOf 107 = 2 := by kernel_rfl
theorem arr2_of {cs : Array Value} (h : cs.size = 2) : ∃ a b, cs = #[a, b] := by
  match cs, h with
  | ⟨[a, b]⟩, _ => exact ⟨a, b, rfl⟩
theorem okWide_array {P : Program} {w : World} {r : Reach} {base : Nat} {t e : TypeId} {n : Nat} {v : Value} (ht : P.underlying t = some (.array n e)) (h : Value.okWide P w r base t v) : ∃ cs, v = .agg cs ∧ cs.size = P.cellsOf t := by
  unfold Value.okWide at h
  rw [ht] at h
  obtain ⟨cs, h1, h2, _⟩ := h
  exact ⟨cs, h1, h2⟩
set_option maxRecDepth 100000 in
/-- an array of two small integers that came in -/
theorem open_arr2 {H : Type} {enc : TypeId × Value → H} {W : World} {v : Value} {d : DataW H} {p : List MemPlace} {base : Nat} (hv : Value.okWide Tryz.prog W .any base 107 v) (h : DataW.Trod enc Tryz.prog W 0 (fun _ => true) true 107 v d p) :
    ∃ x y : Int, v = .agg #[.int .i8 x, .int .i8 y] ∧ d = .agg [.lit (.int .i8 x), .lit (.int .i8 y)] ∧ p = [] ∧ (-128 ≤ x ∧ x < 128) ∧ (-128 ≤ y ∧ y < 128) := by
  obtain ⟨cs, rfl, hsz⟩ := okWide_array Tryz.underlying107 hv
  rw [cells_arr2] at hsz
  obtain ⟨z0, z1, rfl⟩ := arr2_of hsz
  obtain ⟨fuel, hf⟩ := h
  obtain ⟨xs, m, _, hx, _, hl, hel⟩ := DataW.trod_array Tryz.underlying107 hf
  have h0 := hel 0 (by decide)
  have h1 := hel 1 (by decide)
  match xs, hl with
  | [y0, y1], _ =>
    simp [Value.cells, cells_i8] at h0 h1
    obtain ⟨n0, e0, rfl, w0⟩ := DataW.trod_int Tryz.underlying106 h0
    obtain ⟨n1, e1, rfl, w1⟩ := DataW.trod_int Tryz.underlying106 h1
    simp at e0 e1
    subst e0 e1
    simp at hx
    have b0 := bounds_i8 w0
    have b1 := bounds_i8 w1
    exact ⟨n0, n1, rfl, hx.1, hx.2, by omega, by omega⟩

set_option maxRecDepth 100000 in
theorem groups_lifted (os : Os) (started : os.Started) (H : Type) (enc : TypeId × Value → H) :
    ReturnsInHanded {} Tryz.checked os 11 .any (fun w args => (Rows.algebraGroupsSpec.pre enc Tryz.checked.prog Tryz.f11 [] false w args ∧ laidMetH Tryz.prog laid5 w) ∧ sizedMet enc Tryz.checked.prog Tryz.f11 (OpenSpec.ofChange Rows.algebraGroupsSpec) false w args)
      (Rows.algebraGroupsSpec.post enc Tryz.checked.prog Tryz.f11 false true false false) := by
  refine returns_shaped started (by kernel_rfl) Tryz.func11
    (ChangeSpec.witness_shaped (enc := enc) (C := Tryz.checked) (os := os) (X := fun w _ => laidMetH Tryz.prog laid5 w) false (World.doorLaid Tryz.prog 400 os) #[.slice none 0 0, .slice none 0 0, .agg #[.int .i8 0, .int .i8 0]] 8 rfl (World.shaped_of_RefB (by kernel_rfl) (by kernel_rfl)) (by kernel_rfl) (by kernel_rfl) (by kernel_rfl) (door_met os _)) ?_
  intro W base args ds gs before hval0 hW hsz hG
  have hval : ∀ (j : Nat) t v, Tryz.f11.params[j]? = some t → args[j]? = some v → Value.okWide Tryz.prog W .any base t v := hval0
  have hW' := hW
  obtain ⟨p, q, hA0, hV, rfl, hfz, hnd⟩ := hW
  have hA : DataW.TrodAll enc Tryz.prog W 0 (fun _ => true) true Tryz.f11.params.toList args.toList ds p := hA0
  rw [Tryz.params11] at hA hval hsz
  obtain ⟨v0, v1, v2, d0, d1, d2, p0, p1, p2, rfl, rfl, rfl, h0, h1, h2⟩ := trodAll_three hA
  obtain ⟨rfl, rfl⟩ := trodVars_none hV
  obtain ⟨a0, l0, c0, rfl⟩ := okWide_slice Tryz.underlying50 (hval 0 50 v0 rfl rfl)
  obtain ⟨a1, l1, c1, rfl⟩ := okWide_slice Tryz.underlying50 (hval 1 50 v1 rfl rfl)
  have h0k := h0
  have h1k := h1
  have h2k := h2
  obtain ⟨x, y, rfl, rfl, rfl, wx, wy⟩ := open_arr2 (hval 2 107 v2 rfl rfl) h2
  obtain ⟨fuel0, hf0⟩ := h0
  obtain ⟨fuel1, hf1⟩ := h1
  clear hA0 hval0
  simp only [List.append_nil] at hW' hsz
  have hlt : ∀ x ∈ p0 ++ p1 ++ [], x.block < W.heap.size := fun x hx => by simpa using hW'.lt x (by simpa using hx)
  obtain ⟨L0, hL0⟩ := open_list hf0 (fun elems spare hd => by
    have := sized_slice hsz (j := 0) (t := 50) (e := 3) rfl (by rw [← hd]; rfl) Tryz.underlying50
    rwa [bytes_int] at this)
  obtain ⟨L1, hL1⟩ := open_list hf1 (fun elems spare hd => by
    have := sized_slice hsz (j := 1) (t := 50) (e := 3) rfl (by rw [← hd]; rfl) Tryz.underlying50
    rwa [bytes_int] at this)
  refine (AlgebraGroups_c _ _ L0 L1 x y W hL0 hL1 wx wy hG).mono fun e W' ⟨he, bel⟩ => ?_
  subst he
  refine ⟨_, rfl, _, _, _, [], p0 ++ (p1 ++ []), [], hW', ?_, ?_, ?_, bel.frame _, fun h => by cases h⟩
  · exact trodAll_mk1 (shut_bool Tryz.underlying4 true)
  · exact trodAll_mk3 (Below.trod laid_out (by kernel_rfl) (of_decide_eq_true (by kernel_rfl)) h0k bel (fun x hx => hlt x (by simp [hx]))) (Below.trod laid_out (by kernel_rfl) (of_decide_eq_true (by kernel_rfl)) h1k bel (fun x hx => hlt x (by simp [hx])))
      (Below.trod laid_out (by kernel_rfl) (of_decide_eq_true (by kernel_rfl)) h2k bel (fun x hx => by cases hx))
  · rfl
end Go.Proofs.YtneafcdfnhnpnaaGreatDoor
