/- Contract: the comparison of two numbers. -/
import Derived.Test.YtneafcdfnhnpnaaGreatDoorZX02
import Derived.Test.YtneafcdfnhnpnaaGreatDoorZ16
import Derived.Test.YtneafcdfnhnpnaaGreatDoorZ17
import Derived.Test.YtneafcdfnhnpnaaGreatDoorZ19
namespace Go.Proofs.YtneafcdfnhnpnaaGreatDoor
open Go.RowKit Go.Lib

def cmpPost (l1 l2 : List UInt8) (w : World) (e : Ending) (w' : World) : Prop :=
  e = .returned (.tuple #[.int .i64 (if first2 (readRes l1).1 (readRes l2).1 = 0 then ratSign ((readRes l1).2 - (readRes l2).2) else 0), .int .i64 (first2 (readRes l1).1 (readRes l2).1)]) ∧ Below w.heap.size w w'
set_option maxRecDepth 100000 in
set_option maxHeartbeats 4000000 in
theorem Compare_c (l1 l2 : List UInt8) (w : World) (h1 : l1.length < 4294967281) (h2 : l2.length < 4294967281) (hG : Glob w) (o1 : OkLen l1.length) (o2 : OkLen l2.length) (hf : FitP (readRes l1).2 (readRes l2).2) :
    Calls Tryz.prog 22 #[.string ⟨l1.toArray⟩, .string ⟨l2.toArray⟩] w (cmpPost l1 l2 w) := by
  have TW := Lib.hid (readTwo_c l1 l2 w h1 h2 hG o1 o2)
  have HF := Lib.hid hf
  clear h1 h2 o1 o2 hG hf
  go_enter Tryz.func22, Tryz.ntmps22
  go_wp2_with fail
  refine TW.out.mono ?_
  clear TW
  rintro e w1 ⟨s, A, n, c, B, m, d, k, s', A', n', c', B', m', d', k', rfl, hX, hY, hB⟩
  have ha : Below w1.heap.size w1 ((w1.alloc (.cells #[.bool s, .slice A n c, .slice B m d] 122)).alloc (.cells #[.bool s', .slice A' n' c', .slice B' m' d'] 122)) := ((Below.refl _ _).alloc (Nat.le_refl _) _).alloc (by simp) _
  have HB := Lib.hid (hB.trans (ha.mono hB.size))
  by_cases h0 : first2 k k' = 0
  · have hk : k = 0 := by unfold first2 at h0; split at h0 <;> simp_all
    have hk' : k' = 0 := by unfold first2 at h0; rw [if_pos hk] at h0; exact h0
    have MI := Lib.hid (ratMinus_c _ _ _ _ _ ((hX.2 hk).below ha) ((hY.2 hk').below ha) HF.out)
    have HE1 : Hid (first2 (readRes l1).1 (readRes l2).1 = 0) := Lib.hid (by rw [← hX.1, ← hY.1]; exact h0)
    have hb : (first2 k k' != 0) = false := by rw [h0]; rfl
    clear hX hY hB ha h0 hk hk'
    generalize first2 k k' = ec at *
    go_wp2_with fail
    refine MI.out.mono ?_
    rintro e w2 ⟨v, rfl, hv, hB2⟩
    have SG := Lib.hid (sign_c v _ w2 hv)
    go_wp2_with fail
    refine SG.out.mono ?_
    rintro e w3 ⟨rfl, hB3⟩
    have HBF := Lib.hid (HB.out.trans ((hB2.trans (hB3.mono hB2.size)).mono HB.out.size))
    clear hB2 hB3 hv
    go_wp2
    go_ret2
    exact ⟨by rw [HE1.out]; rfl, HBF.out⟩
  · have HE1 : Hid (first2 (readRes l1).1 (readRes l2).1 = first2 k k') := Lib.hid (by rw [← hX.1, ← hY.1])
    have HN := Lib.hid h0
    have hb : (first2 k k' != 0) = true := by simpa using h0
    clear hX hY hB ha h0
    generalize first2 k k' = ec at *
    go_wp2
    go_ret2
    exact ⟨by rw [HE1.out, if_neg HN.out]; rfl, HB.out⟩
end Go.Proofs.YtneafcdfnhnpnaaGreatDoor
/- Contracts of the reference: texts of natural numbers are valid. -/
namespace Go.Proofs.YtneafcdfnhnpnaaGreatDoor
open Go.RowKit Go.Lib

theorem occ_not {l : List UInt8} (h : allDig l) (c : UInt8) (hc : c.toNat < 48 ∨ 57 < c.toNat) (j : Nat) : occAt l [c] j = false := by
  unfold occAt
  cases hd : l.drop j with
  | nil => rfl
  | cons a r =>
    have ha : a ∈ l := List.mem_of_mem_drop (i := j) (by rw [hd]; simp)
    have := h a ha
    have hne : (c == a) = false := by
      simp only [beq_eq_false_iff_ne]
      rintro rfl
      omega
    simp [List.isPrefixOf, hne]
theorem readRes_nat (n : Nat) (h : (decDigits n).length ≤ 600) : readRes (decDigits n) = (0, ((n : Int) : Rat)) := by
  have hd := dec_all n
  have h1 : hasPrefix (decDigits n) [45] = false := occ_not hd 45 (by decide) 0
  have h2 : trimPrefix (decDigits n) [45] = decDigits n := by unfold trimPrefix; rw [h1]; rfl
  have h3 : cut (decDigits n) [47] = (decDigits n, [], false) := by
    unfold cut
    rcases index_spec (decDigits n) [47] with ⟨e, _⟩ | ⟨i, _, _, e, _⟩
    · rw [e]; rfl
    · rw [occ_not hd 47 (by decide)] at e; cases e
  unfold readRes
  rw [h1, h2, h3]
  unfold readParts
  rw [if_neg (by rintro (h | h); exact h (dec_num n); exact absurd h.1 (by decide)), if_neg (by simp), if_neg (by show ¬ 600 < (decDigits n).length; omega)]
  show ((0 : Int), mkR false (decVal (decDigits n)) 1) = _
  rw [dec_val]
  congr 1
  unfold mkR
  rw [if_neg (by decide)]
  exact Rat.mkRat_one _
set_option maxRecDepth 100000 in
set_option maxHeartbeats 2000000 in
theorem CheckN_w (s : ByteArray) (n : Nat) (w : World) (hs : s.data.toList = decDigits n) (hl : (decDigits n).length ≤ 600) :
    Calls Tryz.prog 17 #[.string s] w (ansInt 0 w) := by
  have hz := size_of hs
  obtain ⟨h0, hc⟩ := head_dec (n := n) (r := []) (by rw [hs]; simp)
  have hz0 : (0 : Int) < (s.size : Int) := by omega
  have hz6 : (s.size : Int) ≤ 600 := by omega
  have SL : Hid (∀ w, Calls Tryz.prog 103 #[.string s] w (ansInt s.size w)) := Lib.hid (fun w => by have h := slash_c s w (by omega); rw [hs, slash_none (dec_all n), ← hz] at h; exact h)
  have DF : Hid (∀ w, Calls Tryz.prog 104 #[.string s] w (ansBool true w)) := Lib.hid (fun w => by have h := decimalForm_c s w (by omega); rw [hs, decide_eq_true (dec_num n)] at h; exact h)
  clear hs hl hz
  go_enter Tryz.func17, Tryz.ntmps17
  go_wp2_with fail
  refine (SL.out _).mono ?_
  rintro e w1 ⟨rfl, rfl⟩
  go_wp2_with fail
  refine (DF.out _).mono ?_
  rintro e w1 ⟨rfl, rfl⟩
  go_wp2
  go_ret
  exact ⟨rfl, rfl⟩
theorem CheckN_c (n : Nat) (w : World) (hl : (decDigits n).length ≤ 600) :
    Calls Tryz.prog 17 #[.string ⟨(decDigits n).toArray⟩] w (ansInt 0 w) := CheckN_w _ n w (by simp) hl
set_option maxRecDepth 100000 in
set_option maxHeartbeats 2000000 in
theorem CheckRowN_c (v : Value) (L : List Nat) (w : World) (hv : SlW w v (scells (L.map decDigits))) (hL : ∀ n ∈ L, (decDigits n).length ≤ 600) :
    Calls Tryz.prog 79 #[v] w (ansInt 0 w) := by
  obtain ⟨A, c, rfl, hc1, hc2⟩ := hv.form
  have hsl : (scells (L.map decDigits)).length = L.length := by simp [scells]
  rw [hsl] at hc1 hc2 hv ⊢
  have CK := Lib.hid (fun (k : Nat) (h : k < L.length) (w : World) => CheckN_c (L[k]?.getD 0) w (hL _ (by rw [List.getElem?_eq_getElem h]; exact List.getElem_mem h)))
  have CE : Hid (∀ k, k < L.length → (scells (L.map decDigits))[k]? = some (.string ⟨(decDigits (L[k]?.getD 0)).toArray⟩)) := Lib.hid (fun k h => by simp [scells, sv, h])
  clear hL
  have HV := Lib.hid hv
  clear hv
  go_enter Tryz.func79, Tryz.ntmps79
  go_wp2_with fail
  go_loopg [3, 4] L.length (fun g i _ wr => ∃ (k : Nat), k + g = L.length ∧ i = .int .i64 k ∧ wr = w)
  case atStart => exact ⟨0, by omega, rfl, rfl⟩
  case round =>
    obtain ⟨k, hk, rfl, rfl⟩ := hrel
    cases gk with
    | zero =>
      have hin : ¬ ((k : Int) < (L.length : Int)) := by omega
      go_wp2
      go_ret
      exact ⟨rfl, rfl⟩
    | succ g =>
      have hlt : k < L.length := by omega
      have hltI : (k : Int) < (L.length : Int) := by omega
      obtain ⟨b1, off1, rfl, hbb1, hcell1⟩ := HV.out.at_ (k := k) (by rw [hsl]; omega)
      have hck1 := (hcell1 k (by rw [hsl]; omega)).trans (CE.out k hlt)
      have CK2 := Lib.hid (CK.out k hlt)
      have Hk := Lib.hid hk
      clear hcell1 hk
      generalize L[k]?.getD 0 = n at *
      go_wp2_with fail
      refine (CK2.out _).mono ?_
      rintro e w1 ⟨rfl, rfl⟩
      go_wp2
      go_roundg g
      case rel => exact ⟨k + 1, by have := Hk.out; omega, by go_num, rfl⟩
      case measure => omega
end Go.Proofs.YtneafcdfnhnpnaaGreatDoor
/- Plain mathematics: the rank of a permutation in the lexicographic order. -/
namespace Go.Proofs.YtneafcdfnhnpnaaGreatDoor
open Go.RowKit Go.Lib

/-- how many elements of a list are less -/
def lsC (l : List Int) (a : Int) : Nat := (l.filter fun y => decide (y < a)).length
/-- the rank of a list among those of its elements -/
def rk : List Int → Nat
  | [] => 0
  | a :: t => lsC t a * fac t.length + rk t
theorem lsC_le (l : List Int) (a : Int) : lsC l a ≤ l.length := List.length_filter_le _ _
theorem rk_lt (l : List Int) : rk l < fac l.length := by
  induction l with
  | nil => decide
  | cons a t ih =>
    show lsC t a * fac t.length + rk t < (t.length + 1) * fac t.length
    have h1 : lsC t a * fac t.length ≤ t.length * fac t.length := Nat.mul_le_mul_right _ (lsC_le t a)
    rw [Nat.add_mul, Nat.one_mul]
    omega
theorem lsC_cons (b a : Int) (l : List Int) : lsC (b :: l) a = (if b < a then 1 else 0) + lsC l a := by
  unfold lsC
  by_cases h : b < a
  · rw [List.filter_cons_of_pos (by simpa using h), if_pos h, List.length_cons]; omega
  · rw [List.filter_cons_of_neg (by simpa using h), if_neg h]; omega
theorem lsC_perm {l m : List Int} (h : l.Perm m) (a : Int) : lsC l a = lsC m a := (h.filter _).length_eq
theorem lsC_mono {l : List Int} {a b : Int} (h : a ≤ b) : lsC l a ≤ lsC l b := by
  induction l with
  | nil => exact Nat.le_refl _
  | cons x t ih =>
    rw [lsC_cons, lsC_cons]
    split <;> split <;> omega
theorem lsC_strict {l : List Int} {a b : Int} (h : a < b) (ha : a ∈ l) : lsC l a < lsC l b := by
  induction l with
  | nil => cases ha
  | cons x t ih =>
    rw [lsC_cons, lsC_cons]
    rcases List.mem_cons.1 ha with rfl | ha
    · have := lsC_mono (l := t) (Int.le_of_lt h)
      rw [if_neg (Int.lt_irrefl _), if_pos h]; omega
    · have := ih ha
      split <;> split <;> omega
/-- the order of ranks is the order of lists -/
theorem rk_lex : ∀ (p q : List Int), p.Perm q → (lexB p q = true → rk p < rk q) ∧ (p ≠ q → lexB p q = false → rk q < rk p)
  | [], q, h => by
    have : q = [] := h.symm.eq_nil
    subst this
    exact ⟨fun h => by simp [lexB] at h, fun h => absurd rfl h⟩
  | a :: s, [], h => absurd h.length_eq (by simp)
  | a :: s, b :: t, h => by
    have hl : s.length = t.length := by have := h.length_eq; simpa using this
    have key : ∀ (a b : Int) (s t : List Int), (a :: s).Perm (b :: t) → s.length = t.length → a < b → rk (a :: s) < rk (b :: t) := by
      intro a b s t h hl hab
      have h1 : lsC s a = lsC (a :: s) a := by rw [lsC_cons, if_neg (Int.lt_irrefl _)]; omega
      have h2 : lsC t b = lsC (b :: t) b := by rw [lsC_cons, if_neg (Int.lt_irrefl _)]; omega
      have h3 : lsC (a :: s) a < lsC (b :: t) b := by
        rw [lsC_perm h a]
        exact lsC_strict hab (h.mem_iff.1 (by simp))
      show lsC s a * fac s.length + rk s < lsC t b * fac t.length + rk t
      have h4 := rk_lt s
      rw [h1, h2, ← hl]
      have h5 : (lsC (a :: s) a + 1) * fac s.length ≤ lsC (b :: t) b * fac s.length := Nat.mul_le_mul_right _ h3
      rw [Nat.add_mul, Nat.one_mul] at h5
      omega
    by_cases he : a = b
    · subst he
      have h2 : s.Perm t := h.cons_inv
      obtain ⟨i1, i2⟩ := rk_lex s t h2
      have e : lsC s a = lsC t a := lsC_perm h2 a
      constructor
      · intro hx
        have := i1 (by simpa [lexB] using hx)
        show lsC s a * fac s.length + rk s < lsC t a * fac t.length + rk t
        rw [e, hl]; omega
      · intro hn hx
        have := i2 (fun e => hn (by rw [e])) (by simpa [lexB] using hx)
        show lsC t a * fac t.length + rk t < lsC s a * fac s.length + rk s
        rw [e, hl]; omega
    · constructor
      · intro hx
        have : a < b := by simpa [lexB, he] using hx
        exact key a b s t h hl this
      · intro _ hx
        have : ¬ a < b := by simpa [lexB, he] using hx
        exact key b a t s h.symm hl.symm (by omega)
/-- the ranks of a list and of the one that is turned around add up -/
theorem rk_opp (c : Int) : ∀ (l : List Int), l.Nodup → rk l + rk (l.map fun y => c - y) + 1 = fac l.length
  | [], _ => rfl
  | a :: t, h => by
    have hn := List.nodup_cons.1 h
    have ih := rk_opp c t hn.2
    have hc : ∀ (m : List Int), a ∉ m → lsC m a + lsC (m.map fun y => c - y) (c - a) = m.length := by
      intro m
      induction m with
      | nil => intro _; rfl
      | cons x r ih2 =>
        intro hx
        have hxa : a ≠ x := fun e => hx (by rw [e]; simp)
        have := ih2 (fun hm => hx (List.mem_cons_of_mem _ hm))
        rw [List.map_cons, lsC_cons, lsC_cons, List.length_cons]
        split <;> split <;> omega
    have h2 := hc t hn.1
    show lsC t a * fac t.length + rk t + (lsC (t.map fun y => c - y) (c - a) * fac (t.map fun y => c - y).length + rk (t.map fun y => c - y)) + 1 = (t.length + 1) * fac t.length
    rw [List.length_map]
    have h3 : lsC t a * fac t.length + lsC (t.map fun y => c - y) (c - a) * fac t.length = t.length * fac t.length := by rw [← Nat.add_mul, h2]
    rw [Nat.add_mul, Nat.one_mul]
    omega
theorem lesser_lsC (p : List Int) (k : Nat) : lesserUp p k (p.length - k - 1) = lsC (p.drop (k + 1)) (p[k]?.getD 0) := by
  unfold lesserUp lsC
  rw [List.take_of_length_le (by rw [List.length_drop]; omega)]
theorem rankFrom_rk (p : List Int) (k : Nat) (hk : k ≤ p.length) : rankFrom p k * fac (p.length - k) + rk (p.drop k) = rk p := by
  induction k with
  | zero => simp [rankFrom]
  | succ k ih =>
    have ih := ih (by omega)
    rw [List.drop_eq_getElem_cons (by omega : k < p.length)] at ih
    rw [← ih]
    show (rankFrom p k * (p.length - k) + lesserUp p k (p.length - k - 1)) * fac (p.length - (k + 1)) + rk (p.drop (k + 1)) = rankFrom p k * fac (p.length - k) + (lsC (p.drop (k + 1)) p[k] * fac (p.drop (k + 1)).length + rk (p.drop (k + 1)))
    rw [lesser_lsC p k, List.getElem?_eq_getElem (by omega), Option.getD_some, List.length_drop]
    obtain ⟨m, hm⟩ : ∃ m, p.length - k = m + 1 := ⟨p.length - k - 1, by omega⟩
    rw [show p.length - (k + 1) = m from by omega, hm, fac, Nat.add_mul, Nat.mul_assoc, Nat.add_assoc]
theorem rank_rk (p : List Int) : rankFrom p p.length = rk p := by
  have := rankFrom_rk p p.length (Nat.le_refl _)
  rw [Nat.sub_self, List.drop_length] at this
  simpa [fac, rk] using this
theorem lesser_le (p : List Int) (k : Nat) : lesserUp p k (p.length - k - 1) ≤ p.length - k - 1 := lesserUp_le _ _ _
/-- what the division leaves of a rank -/
theorem factRest_rank (p : List Int) (m : Nat) (hm : m ≤ p.length) : factRest (rankFrom p p.length) m = rankFrom p (p.length - m) := by
  induction m with
  | zero => rfl
  | succ m ih =>
    rw [factRest, ih (by omega)]
    obtain ⟨k, hk⟩ : ∃ k, p.length - m = k + 1 := ⟨p.length - m - 1, by omega⟩
    rw [hk, show p.length - (m + 1) = k from by omega, rankFrom, show p.length - k = m + 1 from by omega]
    have h1 := lesser_le p k
    rw [show p.length - k - 1 = m from by omega] at h1
    rw [show m + 1 - 1 = m from by omega, Nat.mul_comm, Nat.mul_add_div (by omega), Nat.div_eq_of_lt (by omega)]; omega
theorem factDig_rank (p : List Int) (j : Nat) (hj : j < p.length) : (factDig (rankFrom p p.length) p.length p.length)[j]? = some ((lsC (p.drop (j + 1)) (p[j]?.getD 0) : Nat) : Int) := by
  rw [factDig_at _ _ _ j (Nat.le_refl _) (by omega) hj, factRest_rank p _ (by omega), show p.length - (p.length - 1 - j) = j + 1 from by omega, rankFrom, ← lesser_lsC p j]
  have h1 := lesser_le p j
  rw [Nat.mul_comm, Nat.mul_add_mod, Nat.mod_eq_of_lt (by omega)]
theorem sorted_at {S : List Int} (h : S.Pairwise (· < ·)) {x : Int} (hx : x ∈ S) : S[lsC S x]? = some x := by
  induction S with
  | nil => cases hx
  | cons a t ih =>
    have hp := List.pairwise_cons.1 h
    rw [lsC_cons]
    rcases List.mem_cons.1 hx with rfl | hx
    · have h0 : lsC t x = 0 := by
        unfold lsC
        rw [List.length_eq_zero_iff, List.filter_eq_nil_iff]
        intro y hy
        have := hp.1 y hy
        simp; omega
      rw [if_neg (Int.lt_irrefl _), h0]; rfl
    · have := hp.1 x hx
      rw [if_pos this, Nat.add_comm, List.getElem?_cons_succ]
      exact ih hp.2 hx
theorem perm_of_sub : ∀ (l m : List Int), l.Nodup → (∀ x ∈ l, x ∈ m) → m.length ≤ l.length → l.Perm m
  | [], m, _, _, hl => by
    have : m = [] := List.length_eq_zero_iff.1 (by simpa using hl)
    subst this; exact List.Perm.refl _
  | a :: t, m, hn, hs, hl => by
    have hc := List.nodup_cons.1 hn
    have ha : a ∈ m := hs a (by simp)
    have h1 : t.Perm (m.erase a) := by
      refine perm_of_sub t (m.erase a) hc.2 (fun x hx => ?_) ?_
      · exact (List.mem_erase_of_ne (fun e => hc.1 (by rw [← e]; exact hx))).2 (hs x (List.mem_cons_of_mem _ hx))
      · rw [List.length_erase_of_mem ha]; simp at hl; omega
    exact (h1.cons a).trans (List.perm_cons_erase ha).symm
theorem range_perm {p : List Int} (hp : PermL p) : ((List.range p.length).map fun (i : Nat) => (i : Int)).Perm p := by
  refine (perm_of_sub p _ hp.2 (fun x hx => ?_) (by simp)).symm
  have := hp.1 x hx
  exact List.mem_map.2 ⟨x.toNat, List.mem_range.2 (by omega), by omega⟩
theorem perm_eraseIdx : ∀ (l : List Int) (i : Nat) (x : Int), l[i]? = some x → (x :: l.eraseIdx i).Perm l
  | [], i, x, h => by simp at h
  | a :: t, 0, x, h => by
    have : a = x := by simpa using h
    subst this; exact List.Perm.refl _
  | a :: t, i + 1, x, h => by
    have ih := perm_eraseIdx t i x (by simpa using h)
    exact (List.Perm.swap a x _).trans (ih.cons a)
/-- the permutation that is found by the rank of a permutation is the permutation -/
theorem pickTo_rank {p pl : List Int} (hp : PermL p) (hl : pl.length = p.length) (hpl : ∀ j, j < p.length → pl[j]? = some ((lsC (p.drop (j + 1)) (p[j]?.getD 0) : Nat) : Int)) :
    ∀ k, k ≤ p.length → (pickTo pl k).1 = p.take k ∧ (pickTo pl k).2.Perm (p.drop k) ∧ (pickTo pl k).2.Pairwise (· < ·) := by
  intro k
  induction k with
  | zero =>
    intro _
    refine ⟨rfl, ?_, ?_⟩
    · show ((List.range pl.length).map fun (i : Nat) => (i : Int)).Perm p
      rw [hl]; exact range_perm hp
    · show ((List.range pl.length).map fun (i : Nat) => (i : Int)).Pairwise (· < ·)
      refine List.Pairwise.map _ (fun a b h => ?_) List.pairwise_lt_range
      omega
  | succ k ih =>
    intro hk
    obtain ⟨i1, i2, i3⟩ := ih (by omega)
    have hd : p.drop k = p[k] :: p.drop (k + 1) := List.drop_eq_getElem_cons (by omega)
    have hx : p[k] ∈ (pickTo pl k).2 := i2.mem_iff.2 (by rw [hd]; exact List.mem_cons_self)
    have hc : lsC (pickTo pl k).2 p[k] = lsC (p.drop (k + 1)) p[k] := by
      rw [lsC_perm i2, hd, lsC_cons, if_neg (Int.lt_irrefl _)]; omega
    have hi : (pl[k]?.getD 0).toNat = lsC (pickTo pl k).2 p[k] := by
      rw [hpl k (by omega), hc, List.getElem?_eq_getElem (by omega)]; rfl
    have hat := sorted_at i3 hx
    unfold pickTo
    rw [hi, hat]
    refine ⟨?_, ?_, i3.sublist (List.eraseIdx_sublist _ _)⟩
    · rw [i1, List.take_add_one, List.getElem?_eq_getElem (by omega)]; rfl
    · have h2 := (perm_eraseIdx _ _ _ hat).trans i2
      rw [hd] at h2
      exact h2.cons_inv
theorem pickTo_back {p : List Int} (hp : PermL p) : (pickTo (factDig (rankFrom p p.length) p.length p.length) p.length).1 = p := by
  have := (pickTo_rank hp (factDig_length _ _ _) (fun j hj => factDig_rank p j hj) p.length (Nat.le_refl _)).1
  rw [this, List.take_length]
end Go.Proofs.YtneafcdfnhnpnaaGreatDoor
/- Contract: the rank of a short permutation, as a number and as a text. -/
namespace Go.Proofs.YtneafcdfnhnpnaaGreatDoor
open Go.RowKit Go.Lib

set_option maxRecDepth 100000 in
set_option maxHeartbeats 2000000 in
theorem RankF_c (v : Value) (p : List Int) (w : World) (hv : Sl w 1 v (icells p)) (hG : Glob w) (hD : ∀ k, k ≤ p.length → Fits (rankFrom p k)) :
    Calls Tryz.prog 58 #[v] w (rankPost p w) := by
  obtain ⟨A, c, rfl, hc1, hc2⟩ := hv.form
  simp only [icells_length] at hc1 hv ⊢
  have HD := Lib.hid hD
  clear hD
  have CP := Lib.hid (fun W h => CheckPerm_c (.slice A p.length c) p W h)
  by_cases he : permErr p = 0
  · have hPl : p.length ≤ 256 := by have := he; unfold permErr at this; split at this; omega; split at this; omega; omega
    have He := Lib.hid he
    clear he
    go_enter Tryz.func58, Tryz.ntmps58
    go_wp2_with fail
    refine (CP.out _ hv).mono ?_
    rintro e w1 ⟨rfl, hB1⟩
    rw [He.out]
    go_wp2_with fail
    go_loopg [5, 6, 7, 8, 10, 18] p.length (fun g r _ _ _ _ i wr => ∃ (k : Nat), k + g = p.length ∧ i = .int .i64 k ∧ Hid (Nt wr r (rankFrom p k)) ∧ Below w.heap.size w wr)
    case atStart => exact ⟨0, by omega, rfl, Lib.hid Nt.nil, hB1⟩
    case round =>
      clear hB1
      obtain ⟨k, hk, rfl, hN, hB⟩ := hrel
      cases gk with
      | zero =>
        have hkn : k = p.length := by omega
        rw [hkn] at hN
        have hlt := rankFrom_lt p hPl p.length
        have hfit := Lib.hid (HD.out p.length (Nat.le_refl _))
        clear hlt hk
        subst hkn
        obtain ⟨A2, rn, rc, rfl, _⟩ := hN.out.size_
        have hone := Nt.one wr 148
        have hN1 := Lib.hid (Rt.mk_ (neg := false) (by decide) (by simp) (by simp) (hN.out.below ((Below.refl _ _).alloc (Nat.le_refl _) (.cells #[.int .u64 1] 148))) hone)
        have hBw := hB.alloc hB.size (.cells #[.int .u64 1] 148)
        have hGw := hG.below hBw
        clear hone
        go_wp2_with fail
        refine (write_c _ _ _ hN1.out (Fits.le hfit.out (rankQ_num _)) (Fits.small (by rw [rankQ_den]; decide)) hGw).mono ?_
        rintro e w4 ⟨he, hB4⟩
        have hBt := hBw.trans (hB4.mono hBw.size)
        have Hif : Hid (∀ e, e = writeEnd (mkR false (rankFrom p p.length) 1) → rankPost p w e w4) := fun e he => ⟨by rw [if_pos He.out]; exact he, hBt⟩
        obtain ⟨s, c, hs⟩ := writeEnd_form (mkR false (rankFrom p p.length) 1)
        rw [hs] at he Hif
        subst he
        clear hs
        go_wp2
        go_ret2
        exact Hif.out _ rfl
      | succ g =>
        have hlt : k < p.length := by omega
        obtain ⟨b1, off1, rfl, hbb1, hcell1⟩ := hv.at_ (k := k) (by rw [icells_length]; omega)
        have hck1 := (hB.cell (p := ⟨b1, off1 + k, none⟩) hbb1).trans ((hcell1 k (by rw [icells_length]; omega)).trans (icells_at p k hlt))
        have HC := Lib.hid (fun (wx : World) (j : Nat) (hb : Below w.heap.size w wx) (hj : j < p.length) => (hb.cell (p := ⟨b1, off1 + j, none⟩) hbb1).trans ((hcell1 j (by rw [icells_length]; omega)).trans (icells_at p j hj)))
        have Hs := Lib.hid (fun m h => lesserUp_succ p k m h)
        have Hk : Hid (k + (g + 1) = p.length) := Lib.hid hk
        have TP := Lib.hid (fun u wx (h : Nt wx u (rankFrom p k)) => timesPlus_c u _ (p.length - k) (lesserUp p k (p.length - k - 1)) wx h (by unfold WB; omega) (by have := lesserUp_le p k (p.length - k - 1); unfold WB; omega) (HD.out k (by omega)))
        have hl1 : (p.length : Int) - ((k : Int) + 1) = ((p.length - k - 1 : Nat) : Int) := by omega
        clear hcell1
        obtain ⟨A2, rn, rc, rfl, _⟩ := hN.out.size_
        generalize hx : p[k]?.getD 0 = x at *
        have hl2 : (p.length : Int) - (k : Int) = ((p.length - k : Nat) : Int) := by omega
        have HX : Hid (p[k]?.getD 0 = x) := Lib.hid hx
        clear hx hv hl1 hk
        rcases Decidable.em (c = k + 1) with rfl | hcc
        all_goals (
          go_wp2_with fail
          go_loopg [8, 10, 28] (p.length - k - 1) (fun h l _ i wx => ∃ m : Nat, m + h = p.length - k - 1 ∧ l = .int .i64 (lesserUp p k m) ∧ i = .int .i64 m ∧ Hid (Nt wx (.slice A2 rn rc) (rankFrom p k)) ∧ Below w.heap.size w wx)
          case atStart => exact ⟨0, by omega, by simp [lesserUp], rfl, hN, hB⟩
          case round =>
            clear hN hB hck1
            obtain ⟨m, hm, rfl, rfl, hNx, hBx⟩ := hrel
            cases gk with
            | zero =>
              have hmm : m = p.length - k - 1 := by omega
              have hin : ¬ ((m : Int) < ((p.length - (k + 1) : Nat) : Int)) := by omega
              have TPx := Lib.hid (TP.out _ _ hNx.out)
              rw [← hmm] at TPx
              have hll : lesserUp p k m ≤ 256 := by have := lesserUp_le p k m; omega
              have Hst : Hid (rankFrom p (k + 1) = rankFrom p k * (p.length - k) + lesserUp p k m) := Lib.hid (by rw [hmm]; rfl)
              have hpk : p.length - k ≤ 256 := by omega
              clear hm hmm
              generalize lesserUp p k m = lu at *
              go_wp2_with (go_at_call 138; refine TPx.out.mono ?_; rintro e w5 ⟨u, rfl, hNu, hB5⟩; rw [← Hst.out] at hNu; have HNu := Lib.hid hNu; clear hNu)
              go_roundg g
              case rel => exact ⟨k + 1, by have := Hk.out; omega, by go_num, HNu, hBx.trans (hB5.mono hBx.size)⟩
              case measure => omega
            | succ h =>
              have hin : ((m : Int) < ((p.length - (k + 1) : Nat) : Int)) := by omega
              have hck := HC.out _ (k + 1 + m) hBx (by omega)
              have hle := lesserUp_le p k m
              have Hs2 := Hs.out m (by omega)
              have Hm := Lib.hid hm
              have hadd : off1 + (k + 1) + m = off1 + (k + 1 + m) := by omega
              generalize p[k + 1 + m]?.getD 0 = y at *
              by_cases hyx : y < x
              · rw [if_pos hyx] at Hs2
                have HS := Lib.hid Hs2
                clear Hs2 hm
                generalize lesserUp p k m = lu at *
                go_wp2
                all_goals (
                  go_roundg h
                  case rel => exact ⟨m + 1, by have := Hm.out; omega, by rw [HS.out]; rfl, by go_num, hNx, hBx⟩
                  all_goals omega)
              · rw [if_neg hyx] at Hs2
                have HS := Lib.hid Hs2
                clear Hs2 hm
                generalize lesserUp p k m = lu at *
                go_wp2
                all_goals (
                  go_roundg h
                  case rel => exact ⟨m + 1, by have := Hm.out; omega, by rw [HS.out]; rfl, by go_num, hNx, hBx⟩
                  all_goals omega))
  · have hb : (permErr p != 0) = true := by simpa using he
    have Hne := Lib.hid he
    clear he
    generalize hE : permErr p = E at *
    have HE := Lib.hid hE
    have Hres : Hid (∀ e w', e = .returned (.tuple #[.string ⟨#[]⟩, .int .i64 E]) → Below w.heap.size w w' → rankPost p w e w') := Lib.hid (fun e w' h1 h2 => ⟨by rw [HE.out, if_neg Hne.out]; exact h1, h2⟩)
    clear hE
    go_enter Tryz.func58, Tryz.ntmps58
    go_wp2_with fail
    refine (CP.out _ hv).mono ?_
    rintro e w1 ⟨rfl, hB1⟩
    go_wp2
    go_ret2
    exact Hres.out _ _ rfl hB1

theorem rankFrom_fac (p : List Int) (k : Nat) (hk : k ≤ p.length) : rankFrom p k ≤ rk p := by
  have h := rankFrom_rk p k hk
  have h2 : rankFrom p k * 1 ≤ rankFrom p k * fac (p.length - k) := Nat.mul_le_mul_left _ (fac_pos _)
  omega
def rank9Post (p : List Int) (w : World) (e : Ending) (w' : World) : Prop := e = .returned (.tuple #[.string ⟨(decDigits (rk p)).toArray⟩, .int .i64 0]) ∧ Below w.heap.size w w'
theorem Rank9_c (v : Value) (p : List Int) (w : World) (hv : Sl w 1 v (icells p)) (hG : Glob w) (hl : p.length ≤ 12) (hp : permErr p = 0) :
    Calls Tryz.prog 58 #[v] w (rank9Post p w) := by
  have hr : rk p < 1000000000 := Nat.lt_of_lt_of_le (rk_lt p) (Nat.le_of_lt (fac_lt hl))
  refine (RankF_c v p w hv hG (fun k hk => Fits.small (by have := rankFrom_fac p k hk; unfold WB; omega))).mono ?_
  rintro e w' ⟨h1, h2⟩
  rw [if_pos hp, rank_rk] at h1
  have hq : mkR false (rk p) 1 = ((rk p : Int) : Rat) := by unfold mkR; rw [if_neg (by decide)]; exact Rat.mkRat_one _
  have hs : ¬ tooLong ((rk p : Int) : Rat) := by
    unfold tooLong
    have e1 : ((rk p : Int) : Rat).num.natAbs = rk p := rfl
    have e2 : ((rk p : Int) : Rat).den = 1 := rfl
    rw [e1, e2]
    have h3 := nDigits_le 8 (rk p) hr
    have h4 := nDigits_le 0 1 (by decide)
    omega
  rw [hq, writeEnd_ok hs, rtext_nat] at h1
  exact ⟨h1, h2⟩
theorem Unrank9_c (p : List Int) (w : World) (hG : Glob w) (hl : p.length ≤ 12) (hp : PermL p) :
    Calls Tryz.prog 59 #[.int .i64 (p.length : Int), .string ⟨(decDigits (rk p)).toArray⟩] w (fun e w' => Below w.heap.size w w' ∧ ∃ g, e = .returned (.tuple #[.slice (some ⟨g, 0, none⟩) p.length p.length, .int .i64 0]) ∧ w.heap.size ≤ g ∧ Own w' g 3 (icells p)) := by
  have hr : rk p < 1000000000 := Nat.lt_of_lt_of_le (rk_lt p) (Nat.le_of_lt (fac_lt hl))
  have hd := dec_len9 hr
  have hR := readRes_nat (rk p) (by omega)
  have hz : factRest (rk p) p.length = 0 := by
    have := factRest_rank p p.length (Nat.le_refl _)
    rw [rank_rk, Nat.sub_self] at this
    exact this
  have hc : unrCode (p.length : Int) (decDigits (rk p)) = 0 := by
    unfold unrCode
    rw [hR, if_neg (by omega), if_neg (by simp), if_neg (by
      rintro (h | h)
      · have : ((rk p : Int) : Rat).num = (rk p : Int) := rfl
        simp only [this] at h; omega
      · exact h rfl), if_neg]
    show ¬ factRest (rk p) (p.length : Int).toNat ≠ 0
    rw [Int.toNat_natCast, hz]; simp
  refine (Unrank_c (p.length : Int) (decDigits (rk p)) w (by omega) hG (.inl (by omega)) (by rw [hR]; exact Fits.small (by show rk p < WB; unfold WB; omega))).mono ?_
  rintro e w' ⟨h1, ⟨_, g, he, hg, hO⟩ | ⟨h2, _⟩⟩
  · rw [hR, Int.toNat_natCast] at hO
    rw [Int.toNat_natCast] at he
    have e2 : (pickTo (factDig ((rk p : Int) : Rat).num.natAbs p.length p.length) p.length).1 = p := by
      have := pickTo_back hp
      rw [rank_rk] at this; exact this
    rw [e2] at hO
    exact ⟨h1, g, he, hg, hO⟩
  · exact absurd hc h2
end Go.Proofs.YtneafcdfnhnpnaaGreatDoor
/- What the law AlgebraPlaces needs of ranks: their comparison and their sum. -/
namespace Go.Proofs.YtneafcdfnhnpnaaGreatDoor
open Go.RowKit Go.Lib

def ordZ (a b : Nat) : Int := if a < b then -1 else if a = b then 0 else 1
theorem ratSign_nat (a b : Nat) : ratSign (((a : Int) : Rat) - ((b : Int) : Rat)) = ordZ a b := by
  rw [← Rat.intCast_sub]
  unfold ratSign ordZ
  have e : (((a : Int) - (b : Int) : Int) : Rat).num = (a : Int) - (b : Int) := rfl
  rw [e]
  by_cases h1 : a < b
  · rw [if_neg (by omega), if_pos (by omega), if_pos h1]
  · by_cases h2 : a = b
    · rw [if_pos (by omega), if_neg h1, if_pos h2]
    · rw [if_neg (by omega), if_neg (by omega), if_neg h1, if_neg h2]
theorem CompareN_c (a b : Nat) (w : World) (ha : a < 1000000000) (hb : b < 1000000000) (hG : Glob w) :
    Calls Tryz.prog 22 #[.string ⟨(decDigits a).toArray⟩, .string ⟨(decDigits b).toArray⟩] w (fun e w' => e = .returned (.tuple #[.int .i64 (ordZ a b), .int .i64 0]) ∧ Below w.heap.size w w') := by
  have la := dec_len9 ha
  have lb := dec_len9 hb
  have ra := readRes_nat a (by omega)
  have rb := readRes_nat b (by omega)
  have fa : ∀ n : Nat, ((n : Int) : Rat).num.natAbs = n := fun n => rfl
  have fd : ∀ n : Nat, ((n : Int) : Rat).den = 1 := fun n => rfl
  have h := Compare_c (decDigits a) (decDigits b) w (by omega) (by omega) hG (.inl (by omega)) (.inl (by omega)) (by
    rw [ra, rb]
    refine ⟨⟨Fits.small ?_, Fits.small ?_⟩, ⟨Fits.small ?_, Fits.small ?_⟩, Fits.small ?_⟩ <;> simp only [fa, fd] <;> unfold WB <;> omega)
  refine h.mono ?_
  rintro e w' ⟨h1, h2⟩
  rw [ra, rb] at h1
  simp only [first2, if_true] at h1
  rw [ratSign_nat] at h1
  exact ⟨h1, h2⟩
/-- how two permutations of the same elements lie -/
theorem ord_cases {p q : List Int} (hp : PermL p) (hq : PermL q) (hl : q.length = p.length) :
    (ordZ (rk p) (rk q) = -1 ∧ lexB p q = true ∧ decide (p = q) = false) ∨ (ordZ (rk p) (rk q) = 0 ∧ lexB p q = false ∧ decide (p = q) = true) ∨ (ordZ (rk p) (rk q) = 1 ∧ lexB p q = false ∧ decide (p = q) = false) := by
  have hpq : p.Perm q := (range_perm hp).symm.trans (by rw [← hl]; exact range_perm hq)
  obtain ⟨h1, h2⟩ := rk_lex p q hpq
  have hrefl : ∀ l : List Int, lexB l l = false := by
    intro l; induction l with
    | nil => rfl
    | cons a t ih => simp [lexB, ih]
  unfold ordZ
  by_cases he : p = q
  · subst he
    exact .inr (.inl ⟨by rw [if_neg (Nat.lt_irrefl _), if_pos rfl], hrefl p, decide_eq_true rfl⟩)
  · cases hb : lexB p q with
    | true => exact .inl ⟨by rw [if_pos (h1 hb)], rfl, decide_eq_false he⟩
    | false =>
      have := h2 he hb
      exact .inr (.inr ⟨by rw [if_neg (by omega), if_neg (by omega)], rfl, decide_eq_false he⟩)
theorem dec_1 : (decDigits 1).toArray = #[49] := by rw [decDigits_one (by decide)]; rfl
theorem AddOne_c (a b : Nat) (w : World) (ha : a < 1000000000) (h : a + 1 = b) :
    Calls Tryz.prog 26 #[.string ⟨(decDigits a).toArray⟩, .string ⟨#[49]⟩] w (ansText (decDigits b) w) := by
  have h2 := AddN_c a 1 w ha (by decide)
  rw [h, dec_1] at h2
  exact h2
end Go.Proofs.YtneafcdfnhnpnaaGreatDoor
