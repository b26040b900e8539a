/- Plain mathematics: the two ways to the reduced basis of the null space give the same numbers. -/
import Derived.Test.YtneafcdfnhnpnaaGreatDoorZM01
import Derived.Test.YtneafcdfnhnpnaaGreatDoorZ01
import Derived.Test.YtneafcdfnhnpnaaGreatDoorZ03
import Derived.Test.YtneafcdfnhnpnaaGreatDoorZ06
namespace Go.Proofs.YtneafcdfnhnpnaaGreatDoor

theorem get_of_lt {l : List Nat} {i : Nat} (hi : i < l.length) : l[i]?.getD 0 = l[i] := by rw [List.getElem?_eq_getElem hi]; rfl
section
variable {K : Type} [Lean.Grind.Field K] {T : Type} {F : Fd T} {P : T → Prop} {φ : T → K} {m n : Nat}
theorem Frees.of_list {S : ElS T} {l : List Nat} (hm : ∀ f, f ∈ l ↔ (f < n ∧ f ∉ S.cols)) (hp : l.Pairwise (fun a b => a ≠ b)) : Frees n S.cols.length (colF S) l.length (fun i => l[i]?.getD 0) := by
  refine ⟨fun i hi => ?_, fun i hi j hj e => ?_, fun f hf hfree => ?_, fun i j hi hj hne e => ?_⟩
  · show l[i]?.getD 0 < n
    rw [get_of_lt hi]; exact ((hm _).1 (List.getElem_mem hi)).1
  · have e1 : l[i]?.getD 0 = S.cols[j]?.getD 0 := e
    rw [get_of_lt hi, get_of_lt hj] at e1
    exact ((hm _).1 (List.getElem_mem hi)).2 (by rw [e1]; exact List.getElem_mem hj)
  · have : f ∈ l := (hm f).2 ⟨hf, fun h => by
      obtain ⟨j, hj, e⟩ := List.mem_iff_getElem.1 h
      exact hfree j hj (by show f = S.cols[j]?.getD 0; rw [get_of_lt hj, e])⟩
    obtain ⟨i, hi, e⟩ := List.mem_iff_getElem.1 this
    exact ⟨i, hi, by show l[i]?.getD 0 = f; rw [get_of_lt hi, e]⟩
  · have e1 : l[i]?.getD 0 = l[j]?.getD 0 := e
    rw [get_of_lt hi, get_of_lt hj] at e1
    rcases Nat.lt_or_ge i j with h | h
    · exact List.pairwise_iff_getElem.1 hp i j hi hj h e1
    · exact List.pairwise_iff_getElem.1 hp j i hj hi (by omega) e1.symm
theorem Ker.mat {M M' : Nat → Nat → K} (h : ∀ i, i < m → ∀ k, k < n → M i k = M' i k) (v : Nat → K) : Ker m n M v ↔ Ker m n M' v := by
  constructor
  · intro g i hi
    rw [← g i hi]; exact sumTo_congr n (fun k hk => by rw [h i hi k hk])
  · intro g i hi
    rw [← g i hi]; exact sumTo_congr n (fun k hk => by rw [h i hi k hk])
/-- the state in which elimination begins, and that in which it ends -/
def elEnd (F : Fd T) (n m : Nat) (R : List (RowT T)) : ElS T := elGo F n m 0 ⟨R, [], [], false⟩
theorem elEnd_red (H : FHom F P φ) {R : List (RowT T)} (hG : Good P m n R) : Good P m n (elEnd F n m R).rows ∧ Redn m n (numF F φ R) (numF F φ (elEnd F n m R).rows) (elEnd F n m R).cols.length n (colF (elEnd F n m R)) :=
  elGo_red H m 0 ⟨R, [], [], false⟩ hG (by simp) (by omega) (Redn.start _ _)
theorem null_same (H : FHom F P φ) {R Ro Rr : List (RowT T)} (hG : Good P m n R) {fa : List Nat} (hfa : ∀ f, f ∈ fa ↔ (f < n ∧ f ∉ (elEnd F n m R).cols)) (hfp : fa.Pairwise (fun a b => a ≠ b))
    (hGo : Good P fa.length n Ro) (ho : ∀ i, i < fa.length → ∀ x, x < n → φ (numT F Ro i x) = bas (colF (elEnd F n m R)) (numF F φ (elEnd F n m R).rows) (fa[i]?.getD 0) (elEnd F n m R).cols.length x)
    (hGr : Good P m n Rr) (hr : ∀ i, i < m → ∀ x, x < n → φ (numT F Rr i x) = φ (numT F R i (n - 1 - x))) :
    (elEnd F n fa.length Ro).cols.length = (freesR (elEnd F n m Rr).cols n n).length ∧
    ∀ i, i < (elEnd F n fa.length Ro).cols.length → ∀ x, x < n → φ (numT F (elEnd F n fa.length Ro).rows i x) = bas (colF (elEnd F n m Rr)) (numF F φ (elEnd F n m Rr).rows) ((freesR (elEnd F n m Rr).cols n n)[i]?.getD 0) (elEnd F n m Rr).cols.length (n - 1 - x) := by
  obtain ⟨-, D1⟩ := elEnd_red H hG
  obtain ⟨-, D2⟩ := elEnd_red H hGo
  obtain ⟨-, D3⟩ := elEnd_red H hGr
  have F1 := Frees.of_list hfa hfp
  have hmem3 : ∀ f, f ∈ freesR (elEnd F n m Rr).cols n n ↔ (f < n ∧ f ∉ (elEnd F n m Rr).cols) := fun f => by
    rw [freesR_mem n (Nat.le_refl _)]
    exact ⟨fun h => h.2, fun h => ⟨by omega, h⟩⟩
  have hdec := freesR_dec (cols := (elEnd F n m Rr).cols) n (Nat.le_refl n)
  have F3 := Frees.of_list hmem3 (hdec.imp (fun {a b} h => by omega))
  have hmo : ∀ i, i < fa.length → Ker m n (numF F φ R) (numF F φ Ro i) := fun i hi =>
    ((D1.kerTop _).1 (bas_mem D1.kron (F1.lt i hi) (F1.free i hi))).ext (fun k hk => ho i hi k hk)
  have R1 := rref_usual D1.kron D1.kerTop F1 D2.kron D2.mono D2.before (fun x hx => (Ker.mat (fun i hi k hk => ho i hi k hk) x).1 ((D2.kerTop x).1 hx)) (fun i hi => D2.spc _ (Ker.spc _ _ _) hmo i (by have := D2.qm; omega))
  have R2 := rref_reversed (M := numF F φ R) D3.kron (fun v => (D3.kerTop v).trans (Ker.mat (fun i hi k hk => hr i hi k hk) v)) D3.before F3 (fun i j hij hj => by
    show (freesR (elEnd F n m Rr).cols n n)[j]?.getD 0 < (freesR (elEnd F n m Rr).cols n n)[i]?.getD 0
    rw [get_of_lt hj, get_of_lt (by omega)]
    exact List.pairwise_iff_getElem.1 hdec i j (by omega) hj hij)
  obtain ⟨e1, -, e3⟩ := R1.same (Ker.spc _ _ _) R2
  exact ⟨e1, e3⟩
end
end Go.Proofs.YtneafcdfnhnpnaaGreatDoor
/- Plain mathematics: the two ways to the reduced basis of the null space give the same lists. -/
namespace Go.Proofs.YtneafcdfnhnpnaaGreatDoor

section
variable {K : Type} [Lean.Grind.Field K] {T : Type} {F : Fd T} {P : T → Prop} {φ : T → K} {m n : Nat}
theorem nsSet_P (H : FHom F P φ) {S : ElS T} (hG : Good P m n S.rows) {zero one : T} (hz : P zero) (h1 : P one) (col : Nat) : ∀ k, k ≤ m → ∀ x ∈ nsSet F zero S col k ((List.replicate n zero).set col one), P x
  | 0, _, x, hx => by
    have hx' : x ∈ (List.replicate n zero).set col one := hx
    rcases List.mem_or_eq_of_mem_set hx' with h | h
    · rw [List.eq_of_mem_replicate h]; exact hz
    · rw [h]; exact h1
  | k + 1, hk, x, hx => by
    rw [nsSet_succ] at hx
    rcases List.mem_or_eq_of_mem_set hx with h | h
    · exact nsSet_P H hG hz h1 col k (by omega) x h
    · rw [h]; exact (H.sub _ _ hz (getD_P H (hG.2 k (by omega)).2 col)).1
theorem null_lists (H : FHom F P φ) (hinj : ∀ a b, P a → P b → φ a = φ b → a = b) {zero one : T} (hz : P zero) (hz0 : φ zero = 0) (ho1 : P one) (h1 : φ one = 1) {R Ro Rr : List (RowT T)} (hG : Good P m n R) {fa : List Nat} (hfa : ∀ f, f ∈ fa ↔ (f < n ∧ f ∉ (elEnd F n m R).cols)) (hfp : fa.Pairwise (fun a b => a ≠ b))
    (hGo : Good P fa.length n Ro) (ho : ∀ i, i < fa.length → ∀ x, x < n → φ (numT F Ro i x) = bas (colF (elEnd F n m R)) (numF F φ (elEnd F n m R).rows) (fa[i]?.getD 0) (elEnd F n m R).cols.length x)
    (hGr : Good P m n Rr) (hr : ∀ i, i < m → ∀ x, x < n → φ (numT F Rr i x) = φ (numT F R i (n - 1 - x))) :
    ((elEnd F n fa.length Ro).rows.take (elEnd F n fa.length Ro).cols.length).map (·.2.2) = nsBasis F zero one n (elEnd F n m Rr) n := by
  obtain ⟨hl, hnum⟩ := null_same H hG hfa hfp hGo ho hGr hr
  obtain ⟨G2, D2⟩ := elEnd_red H hGo
  obtain ⟨G3, D3⟩ := elEnd_red H hGr
  rw [nsBasis_map]
  have hq2 := D2.qm
  apply List.ext_getElem
  · rw [List.length_map, List.length_take, List.length_map, G2.1, ← hl]; omega
  intro i hi1 hi2
  rw [List.getElem_map, List.getElem_map, List.getElem_take]
  have hi : i < (elEnd F n fa.length Ro).cols.length := by rw [List.length_map, List.length_take] at hi1; omega
  have hif : i < fa.length := by omega
  have hrl : i < (elEnd F n fa.length Ro).rows.length := by rw [G2.1]; exact hif
  have hfl : i < (freesR (elEnd F n m Rr).cols n n).length := by omega
  have hrow : ((elEnd F n fa.length Ro).rows[i]'hrl).2.2 = rowOf (elEnd F n fa.length Ro).rows i := (rowOf_eq (List.getElem?_eq_getElem hrl)).symm
  rw [hrow]
  obtain ⟨g1, g2⟩ := G2.2 i hif
  generalize hf : (freesR (elEnd F n m Rr).cols n n)[i]'hfl = f
  have hff : (freesR (elEnd F n m Rr).cols n n)[i]?.getD 0 = f := by rw [get_of_lt hfl]; exact hf
  have hnsl : (nsSet F zero (elEnd F n m Rr) f (elEnd F n m Rr).cols.length ((List.replicate n zero).set f one)).length = n := by rw [nsSet_length]; simp
  have hnsP := nsSet_P H G3 hz ho1 f (elEnd F n m Rr).cols.length D3.qm
  apply List.ext_getElem
  · rw [g1]; unfold nsList; rw [List.length_reverse, hnsl]
  intro x hx1 hx2
  have hx : x < n := by omega
  refine hinj _ _ (g2 _ (List.getElem_mem hx1)) ?_ ?_
  · have hm := List.getElem_mem hx2
    unfold nsList at hm
    exact hnsP _ (List.mem_reverse.1 hm)
  · have e2 : (nsList F zero one n (elEnd F n m Rr) f)[x]?.getD F.z = (nsSet F zero (elEnd F n m Rr) f (elEnd F n m Rr).cols.length ((List.replicate n zero).set f one))[n - 1 - x]?.getD F.z := by
      unfold nsList; rw [List.getElem?_reverse (by rw [hnsl]; omega), hnsl]
    have e3 : ∀ (L : List T) (hx : x < L.length), φ (L[x]'hx) = φ (L[x]?.getD F.z) := fun L hx => by rw [List.getElem?_eq_getElem hx]; rfl
    have e4 := hnum i hi x hx
    rw [hff] at e4
    refine (e3 _ _).trans (Eq.trans e4 (Eq.trans ?_ (e3 _ _).symm))
    rw [e2]
    exact (nsSet_num H G3 hz hz0 h1 f _ D3.qm (Nat.le_refl _) (n - 1 - x) (by omega)).symm
end
end Go.Proofs.YtneafcdfnhnpnaaGreatDoor
/- Plain mathematics: the residues modulo a prime number are a field. -/
namespace Go.Proofs.YtneafcdfnhnpnaaGreatDoor

theorem bez (a b : Nat) : ∃ x y : Int, x * a + y * b = Nat.gcd a b := by
  induction a, b using Nat.gcd.induction with
  | H0 n => exact ⟨0, 1, by simp⟩
  | H1 m n hm ih =>
    obtain ⟨x, y, h⟩ := ih
    rw [Nat.gcd_rec]
    refine ⟨y - x * ((n / m : Nat) : Int), x, ?_⟩
    rw [← h]
    have e : ((n : Nat) : Int) = ((m * (n / m) + n % m : Nat) : Int) := by rw [Nat.div_add_mod]
    rw [Int.natCast_add, Int.natCast_mul] at e
    generalize ((n / m : Nat) : Int) = q at *
    generalize ((n % m : Nat) : Int) = k at *
    rw [e]; grind
theorem inv_there {p b : Int} (hp : 2 ≤ p) (hg : Int.gcd b p = 1) : ∃ x, 0 ≤ x ∧ x < p ∧ p ∣ (x * b - 1) := by
  obtain ⟨x, y, h⟩ := bez b.natAbs p.natAbs
  have hg2 : Nat.gcd b.natAbs p.natAbs = 1 := hg
  rw [hg2] at h
  have hpn : (p.natAbs : Int) = p := by omega
  rw [hpn] at h
  obtain ⟨z, hz⟩ : ∃ z : Int, z * b = x * (b.natAbs : Int) := by
    rcases Int.le_total 0 b with hb | hb
    · exact ⟨x, by rw [show (b.natAbs : Int) = b by omega]⟩
    · exact ⟨-x, by rw [show (b.natAbs : Int) = -b by omega]; grind⟩
  refine ⟨z % p, Int.emod_nonneg _ (by omega), Int.emod_lt_of_pos _ (by omega), ?_⟩
  have e : z % p * b - 1 = p * (-(z / p) * b - y) := by
    have := Int.mul_ediv_add_emod z p
    have e2 : z % p = z - p * (z / p) := by omega
    rw [e2]
    have h2 : z * b + y * p = 1 := by rw [hz]; exact h
    grind
  rw [e]; exact Int.dvd_mul_right ..
theorem invI_spec {p b : Int} (hp : PF p) (h0 : 0 < b) (h1 : b < p) : 0 ≤ invI p b ∧ invI p b < p ∧ p ∣ (invI p b * b - 1) := by
  obtain ⟨x, hx0, hx1, hx2⟩ := inv_there hp.1 (hp.2.2 b h0 h1)
  rw [invI_eq p b x hx0 hx1 hx2]; exact ⟨hx0, hx1, hx2⟩

def Zp (p : Int) : Type := { x : Int // 0 ≤ x ∧ x < p }
def zmk {p : Int} (h : PF p) (x : Int) : Zp p := ⟨x % p, Int.emod_nonneg _ (by have := h.1; omega), Int.emod_lt_of_pos _ (by have := h.1; omega)⟩
theorem zmk_eq {p : Int} (h : PF p) {x y : Int} (d : p ∣ (x - y)) : zmk h x = zmk h y :=
  Subtype.ext (Int.emod_eq_emod_iff_emod_sub_eq_zero.2 (Int.emod_eq_zero_of_dvd d))
theorem zmk_val {p : Int} (h : PF p) (a : Zp p) : zmk h a.1 = a := Subtype.ext (Int.emod_eq_of_lt a.2.1 a.2.2)
theorem zmk_dvd {p : Int} (h : PF p) (x : Int) : p ∣ ((zmk h x).1 - x) := ⟨-(x / p), by show x % p - x = _; have := Int.mul_ediv_add_emod x p; grind⟩
def zpw {p : Int} (h : PF p) (a : Zp p) : Nat → Zp p
  | 0 => zmk h 1
  | n + 1 => zmk h ((zpw h a n).1 * a.1)
noncomputable def zinv {p : Int} (h : PF p) (a : Zp p) : Zp p := if a.1 = 0 then zmk h 0 else zmk h (invI p a.1)
noncomputable def zzp {p : Int} (h : PF p) (a : Zp p) : Int → Zp p
  | .ofNat n => zpw h a n
  | .negSucc n => zinv h (zpw h a (n + 1))
section
variable {p : Int} (h : PF p)
theorem zinv_mul {a : Zp p} (ha : a ≠ zmk h 0) : zmk h (a.1 * (zinv h a).1) = zmk h 1 := by
  have h0 : a.1 ≠ 0 := fun e => ha (Subtype.ext (by rw [e]; show 0 = 0 % p; simp))
  have hs := invI_spec h (b := a.1) (by have := a.2.1; omega) a.2.2
  unfold zinv
  rw [if_neg h0]
  have e : (zmk h (invI p a.1)).1 = invI p a.1 := Int.emod_eq_of_lt hs.1 hs.2.1
  rw [e]
  exact zmk_eq h (by rw [Int.mul_comm]; exact hs.2.2)
theorem z1_ne : zmk h 0 ≠ zmk h 1 := fun e => by
  have := congrArg Subtype.val e
  have e1 : (0 : Int) % p = 1 % p := this
  rw [Int.emod_eq_of_lt (a := 1) (by omega) (by have := h.1; omega)] at e1
  simp at e1
end
end Go.Proofs.YtneafcdfnhnpnaaGreatDoor
/- Plain mathematics: the residues modulo a prime number are a field (the instance). -/
namespace Go.Proofs.YtneafcdfnhnpnaaGreatDoor

section
variable {p : Int} (h : PF p)
theorem z_add_l (x y : Int) : zmk h ((zmk h x).1 + y) = zmk h (x + y) := zmk_eq h (by
  rw [show (zmk h x).1 + y - (x + y) = (zmk h x).1 - x by omega]; exact zmk_dvd h x)
theorem z_add_r (x y : Int) : zmk h (x + (zmk h y).1) = zmk h (x + y) := zmk_eq h (by
  rw [show x + (zmk h y).1 - (x + y) = (zmk h y).1 - y by omega]; exact zmk_dvd h y)
theorem z_neg (x : Int) : zmk h (-(zmk h x).1) = zmk h (-x) := zmk_eq h (by
  rw [show -(zmk h x).1 - -x = -((zmk h x).1 - x) by omega]; exact Int.dvd_neg.2 (zmk_dvd h x))
theorem z_mul_l (x y : Int) : zmk h ((zmk h x).1 * y) = zmk h (x * y) := zmk_eq h (by
  rw [← Int.sub_mul]; exact Int.dvd_trans (zmk_dvd h x) (Int.dvd_mul_right ..))
theorem z_mul_r (x y : Int) : zmk h (x * (zmk h y).1) = zmk h (x * y) := zmk_eq h (by
  rw [← Int.mul_sub]; exact Int.dvd_trans (zmk_dvd h y) (Int.dvd_mul_left ..))
theorem z_inv_one (a b : Zp p) (hab : zmk h (a.1 * b.1) = zmk h 1) : zinv h a = b := by
  have ha : a ≠ zmk h 0 := fun e => z1_ne h (by rw [← hab, e, z_mul_l, Int.zero_mul])
  have h1 := zinv_mul h ha
  have e : zmk h (b.1 * (zmk h (a.1 * (zinv h a).1)).1) = zmk h ((zinv h a).1 * (zmk h (a.1 * b.1)).1) := by
    rw [z_mul_r, z_mul_r]; exact congrArg (zmk h) (by grind)
  rw [h1, hab, z_mul_r, z_mul_r, Int.mul_one, Int.mul_one, zmk_val, zmk_val] at e
  exact e.symm
theorem z_inv_zero : zinv h (zmk h 0) = zmk h 0 := by
  unfold zinv
  rw [if_pos (by show (0 : Int) % p = 0; simp)]
theorem z_inv_inv (a : Zp p) : zinv h (zinv h a) = a := by
  by_cases ha : a = zmk h 0
  · rw [ha, z_inv_zero, z_inv_zero]
  · exact z_inv_one h _ _ (by rw [Int.mul_comm]; exact zinv_mul h ha)
/-- the field -/
@[instance_reducible] noncomputable def fieldZ : Lean.Grind.Field (Zp p) where
  add a b := zmk h (a.1 + b.1)
  mul a b := zmk h (a.1 * b.1)
  natCast := ⟨fun n => zmk h n⟩
  ofNat n := ⟨zmk h n⟩
  nsmul := ⟨fun n a => zmk h ((zmk h (n : Int)).1 * a.1)⟩
  npow := ⟨fun a n => zpw h a n⟩
  add_zero a := by show zmk h (a.1 + (zmk h 0).1) = a; rw [z_add_r, Int.add_zero, zmk_val]
  add_comm a b := by show zmk h (a.1 + b.1) = zmk h (b.1 + a.1); rw [Int.add_comm]
  add_assoc a b c := by show zmk h ((zmk h (a.1 + b.1)).1 + c.1) = zmk h (a.1 + (zmk h (b.1 + c.1)).1); rw [z_add_l, z_add_r, Int.add_assoc]
  mul_assoc a b c := by show zmk h ((zmk h (a.1 * b.1)).1 * c.1) = zmk h (a.1 * (zmk h (b.1 * c.1)).1); rw [z_mul_l, z_mul_r, Int.mul_assoc]
  mul_one a := by show zmk h (a.1 * (zmk h 1).1) = a; rw [z_mul_r, Int.mul_one, zmk_val]
  one_mul a := by show zmk h ((zmk h 1).1 * a.1) = a; rw [z_mul_l, Int.one_mul, zmk_val]
  left_distrib a b c := by show zmk h (a.1 * (zmk h (b.1 + c.1)).1) = zmk h ((zmk h (a.1 * b.1)).1 + (zmk h (a.1 * c.1)).1); rw [z_mul_r, z_add_l, z_add_r, Int.mul_add]
  right_distrib a b c := by show zmk h ((zmk h (a.1 + b.1)).1 * c.1) = zmk h ((zmk h (a.1 * c.1)).1 + (zmk h (b.1 * c.1)).1); rw [z_mul_l, z_add_l, z_add_r, Int.add_mul]
  zero_mul a := by show zmk h ((zmk h 0).1 * a.1) = zmk h 0; rw [z_mul_l, Int.zero_mul]
  mul_zero a := by show zmk h (a.1 * (zmk h 0).1) = zmk h 0; rw [z_mul_r, Int.mul_zero]
  pow_zero a := rfl
  pow_succ a n := rfl
  ofNat_succ n := by show zmk h ((n + 1 : Nat) : Int) = zmk h ((zmk h (n : Int)).1 + (zmk h 1).1); rw [z_add_l, z_add_r, Int.natCast_add]; rfl
  ofNat_eq_natCast n := rfl
  nsmul_eq_natCast_mul n a := rfl
  neg a := zmk h (-a.1)
  sub a b := zmk h (a.1 + (zmk h (-b.1)).1)
  intCast := ⟨fun n => zmk h n⟩
  zsmul := ⟨fun n a => zmk h ((zmk h n).1 * a.1)⟩
  neg_add_cancel a := by show zmk h ((zmk h (-a.1)).1 + a.1) = zmk h 0; rw [z_add_l, Int.add_left_neg]
  sub_eq_add_neg a b := rfl
  neg_zsmul n a := by show zmk h ((zmk h (-n)).1 * a.1) = zmk h (-(zmk h ((zmk h n).1 * a.1)).1); rw [z_mul_l, z_neg, ← Int.neg_mul, ← z_mul_l h (-(zmk h n).1), z_neg, z_mul_l]
  zsmul_natCast_eq_nsmul n a := rfl
  intCast_ofNat n := rfl
  intCast_neg n := by show zmk h (-n) = zmk h (-(zmk h n).1); rw [z_neg]
  mul_comm a b := by show zmk h (a.1 * b.1) = zmk h (b.1 * a.1); rw [Int.mul_comm]
  inv a := zinv h a
  div a b := zmk h (a.1 * (zinv h b).1)
  zpow := ⟨fun a n => zzp h a n⟩
  div_eq_mul_inv a b := rfl
  zero_ne_one := z1_ne h
  inv_zero := z_inv_zero h
  mul_inv_cancel {a} ha := zinv_mul h ha
  zpow_zero a := rfl
  zpow_succ a n := rfl
  zpow_neg a n := by
    show zzp h a (-n) = zinv h (zzp h a n)
    have h1 : zinv h (zmk h 1) = zmk h 1 := z_inv_one h _ _ (by rw [z_mul_l, Int.one_mul, zmk_val])
    rcases n with (_ | n) | n
    · show zmk h 1 = zinv h (zmk h 1); rw [h1]
    · rfl
    · show zpw h a (n + 1) = zinv h (zinv h (zpw h a (n + 1))); rw [z_inv_inv]
end
end Go.Proofs.YtneafcdfnhnpnaaGreatDoor
/- Plain mathematics: the residues, as the program reckons with them, stand for a field. -/
namespace Go.Proofs.YtneafcdfnhnpnaaGreatDoor

section
variable {p : Int} (h : PF p)
theorem z_mod (x : Int) : zmk h (x % p) = zmk h x := zmk_eq h ⟨-(x / p), by have := Int.mul_ediv_add_emod x p; grind⟩
theorem zmk_in {x : Int} (hx : 0 ≤ x ∧ x < p) : (zmk h x).1 = x := Int.emod_eq_of_lt hx.1 hx.2
theorem resHom : @FHom (Zp p) (fieldZ h) Int (resF p) (fun x => 0 ≤ x ∧ x < p) (zmk h) := by
  have hp := h.1
  refine @FHom.mk (Zp p) (fieldZ h) Int (resF p) (fun x => 0 ≤ x ∧ x < p) (zmk h) ⟨Int.le_refl 0, by show (0 : Int) < p; omega⟩ rfl (fun a ha => ?_) (fun a b ha hb => ⟨⟨Int.emod_nonneg _ (by omega), Int.emod_lt_of_pos _ (by omega)⟩, ?_⟩) (fun a b ha hb => ⟨⟨Int.emod_nonneg _ (by omega), Int.emod_lt_of_pos _ (by omega)⟩, ?_⟩) (fun a b ha hb hb0 => ⟨⟨Int.emod_nonneg _ (by omega), Int.emod_lt_of_pos _ (by omega)⟩, ?_⟩)
  · show (a == 0) = true ↔ zmk h a = zmk h 0
    constructor
    · intro e; rw [show a = 0 by simpa using e]
    · intro e
      have := congrArg Subtype.val e
      rw [zmk_in h ha, zmk_in h ⟨Int.le_refl 0, by omega⟩] at this
      simp [this]
  · show zmk h ((a - b) % p) = zmk h ((zmk h a).1 + (zmk h (-(zmk h b).1)).1)
    rw [z_mod, z_add_l, z_add_r, ← z_add_r h a (-(zmk h b).1), z_neg, z_add_r, Int.sub_eq_add_neg]
  · show zmk h (a * b % p) = zmk h ((zmk h a).1 * (zmk h b).1)
    rw [z_mod, z_mul_l, z_mul_r]
  · have hb1 : b ≠ 0 := fun e => hb0 (by rw [e]; rfl)
    show zmk h (a * invI p b % p) = zmk h ((zmk h a).1 * (zinv h (zmk h b)).1)
    have e : zinv h (zmk h b) = zmk h (invI p b) := by
      unfold zinv; rw [zmk_in h hb, if_neg hb1]
    rw [z_mod, z_mul_l, e, z_mul_r]
end
end Go.Proofs.YtneafcdfnhnpnaaGreatDoor
/- Plain mathematics: the steps of the reference's elimination are those of the program's. -/
namespace Go.Proofs.YtneafcdfnhnpnaaGreatDoor

/-- f at the first k numbers -/
def updTo (f : Nat → Int → Int) (L : List Int) (k : Nat) : List Int := L.mapIdx fun j x => if j < k then f j x else x
section
variable {f : Nat → Int → Int} {L : List Int} {k : Nat}
theorem updTo_zero : updTo f L 0 = L := by
  apply List.ext_getElem?
  intro j
  simp only [updTo, List.getElem?_mapIdx, Nat.not_lt_zero, if_false]
  cases L[j]? <;> rfl
theorem updTo_length : (updTo f L k).length = L.length := by simp [updTo]
theorem updTo_at : (updTo f L k)[k]? = L[k]? := by
  simp only [updTo, List.getElem?_mapIdx, Nat.lt_irrefl, if_false]
  cases L[k]? <;> rfl
theorem updTo_succ (hk : k < L.length) : (updTo f L k).set k (f k (L[k]?.getD 0)) = updTo f L (k + 1) := by
  apply List.ext_getElem?
  intro j
  by_cases hj : k = j
  · subst hj
    rw [List.getElem?_set_self (by rw [updTo_length]; exact hk)]
    simp only [updTo, List.getElem?_mapIdx, List.getElem?_eq_getElem hk, Option.map_some, Option.getD_some, Option.some.injEq]
    rw [if_pos (by omega)]
  · rw [List.getElem?_set_ne hj]
    simp only [updTo, List.getElem?_mapIdx]
    cases L[j]? with
    | none => rfl
    | some x =>
      simp only [Option.map_some, Option.some.injEq]
      by_cases h : j < k
      · rw [if_pos h, if_pos (by omega)]
      · rw [if_neg h, if_neg (by omega)]
theorem updTo_all : updTo f L L.length = L.mapIdx f := by
  apply List.ext_getElem?
  intro j
  simp only [updTo, List.getElem?_mapIdx]
  rcases Nat.lt_or_ge j L.length with h | h
  · rw [List.getElem?_eq_getElem h]; simp [h]
  · rw [List.getElem?_eq_none h]; rfl
end
theorem zero_before {L : List Int} {c j : Nat} (hj : j < L.length) (h : j < c) (h0 : ∀ k, k < c → L[k]?.getD 0 = 0) : L[j] = 0 := by
  have := h0 j h
  rwa [List.getElem?_eq_getElem hj, Option.getD_some] at this
theorem mul_row {p d y : Int} {c : Nat} {L : List Int} (hy : y = invI p d) (h0 : ∀ k, k < c → L[k]?.getD 0 = 0) : L.map (· * y % p) = divRow (resF p) d c L := by
  unfold divRow
  apply List.ext_getElem?
  intro j
  simp only [List.getElem?_mapIdx, List.getElem?_map]
  rcases Nat.lt_or_ge j L.length with hl | hl
  · rw [List.getElem?_eq_getElem hl]
    simp only [Option.map_some, Option.some.injEq]
    have hi : ((resF p).isZ L[j] = true) = (L[j] = 0) := by simp [resF]
    have hd : (resF p).div L[j] d = L[j] * y % p := by rw [hy]; rfl
    simp only [hi, hd]
    by_cases h2 : c ≤ j
    · rw [if_pos h2]
      by_cases h3 : L[j] = 0
      · rw [if_pos h3, h3]; simp
      · rw [if_neg h3]
    · rw [if_neg h2, zero_before hl (by omega) h0]; simp
  · rw [List.getElem?_eq_none hl]; rfl
theorem div_before {p d : Int} {c : Nat} {L : List Int} (h0 : ∀ k, k < c → L[k]?.getD 0 = 0) : ∀ k, k < c → (divRow (resF p) d c L)[k]?.getD 0 = 0 := by
  intro k hk
  have h := h0 k hk
  unfold divRow
  rw [List.getElem?_mapIdx]
  cases hL : L[k]? with
  | none => rfl
  | some x =>
    rw [hL] at h
    simp only [Option.map_some, Option.getD_some] at h ⊢
    rw [if_neg (by omega)]; exact h
theorem clr_row {p t : Int} {c : Nat} {L P : List Int} (hL : ∀ x ∈ L, 0 ≤ x ∧ x < p) (h0 : ∀ k, k < c → P[k]?.getD 0 = 0) (ht : t = L[c]?.getD 0) : (L.mapIdx fun j x => (x - t * (P[j]?.getD 0) % p) % p) = clrRow (resF p) c L P := by
  have hz : (resF p).z = 0 := rfl
  have hi : ∀ x, ((resF p).isZ x = true) = (x = 0) := fun x => by simp [resF]
  have hs : ∀ y a b : Int, (resF p).sub y ((resF p).mul a b) = (y - a * b % p) % p := fun _ _ _ => rfl
  unfold clrRow
  simp only [hz, hi, hs, ← ht]
  have key : ∀ x ∈ L, (x - 0 % p) % p = x := fun x hx => by
    have := hL x hx
    rw [Int.zero_emod, Int.sub_zero]; exact Int.emod_eq_of_lt this.1 this.2
  split
  · rename_i h
    subst h
    apply List.ext_getElem?
    intro j
    simp only [List.getElem?_mapIdx]
    rcases Nat.lt_or_ge j L.length with hl | hl
    · rw [List.getElem?_eq_getElem hl]
      simp only [Option.map_some, Option.some.injEq, Int.zero_mul]
      exact key _ (List.getElem_mem hl)
    · rw [List.getElem?_eq_none hl]; rfl
  · apply List.ext_getElem?
    intro j
    simp only [List.getElem?_mapIdx]
    rcases Nat.lt_or_ge j L.length with hl | hl
    · rw [List.getElem?_eq_getElem hl]
      simp only [Option.map_some, Option.some.injEq]
      have hk := key _ (List.getElem_mem hl)
      by_cases h2 : c ≤ j
      · rw [if_pos h2]
        by_cases h3 : P[j]?.getD 0 = 0
        · rw [if_pos h3, h3, Int.mul_zero]; exact hk
        · rw [if_neg h3]
      · rw [if_neg h2, h0 j (by omega), Int.mul_zero]; exact hk
    · rw [List.getElem?_eq_none hl]; rfl

section
variable {T : Type} {F : Fd T} {n k c : Nat} {S : ElS T}
theorem elGo_skip (h : ∀ t, S.cols.length ≤ t → t < S.rows.length → F.isZ (numT F S.rows t c) = true) (hc : c < n) : elGo F n k c S = elGo F n k (c + 1) S := by
  cases k with
  | zero => rfl
  | succ k =>
    have e : pivF F S.rows S.cols.length (n - c) c = pivF F S.rows S.cols.length (n - (c + 1)) (c + 1) := by
      rw [show n - c = (n - (c + 1)) + 1 by omega]
      conv => lhs; unfold pivF
      rw [firstRow_none _ _ (fun t a b => h t a (by omega))]
    conv => lhs; unfold elGo
    conv => rhs; unfold elGo
    rw [e]
theorem elGo_stop (hc : n ≤ c) : elGo F n k c S = S := by
  cases k with
  | zero => rfl
  | succ k =>
    unfold elGo
    rw [show n - c = 0 by omega]
    rfl
theorem elGo_full (hk : k = 0) : elGo F n k c S = S := by subst hk; rfl
theorem swapR_same {α : Type} {R : List α} {i : Nat} (hi : i < R.length) : swapR R i i = R := by
  have h := List.getElem?_eq_getElem hi
  rw [swapR_some h h]
  simp
theorem elSwap_all {row : Nat} (hr : row < S.rows.length) : elSwap row S = swapR S.rows row S.cols.length := by
  unfold elSwap
  split
  · rename_i h; rw [← h, swapR_same hr]
  · rfl
end
section
variable {K : Type} [Lean.Grind.Field K] {T : Type} {F : Fd T} {P : T → Prop} {φ : T → K}
/-- behind a step the rows below are 0 up to the column -/
theorem elStep_rest (H : FHom F P φ) {m n row col : Nat} {S : ElS T} (hG : Good P m n S.rows) (hq : S.cols.length < m) (hqr : S.cols.length ≤ row) (hr : row < m) (hd : F.isZ (numT F S.rows row col) = false)
    (h0 : ∀ i, S.cols.length ≤ i → i < m → ∀ k, k < col → F.isZ (numT F S.rows i k) = true) :
    ∀ i, S.cols.length + 1 ≤ i → i < m → ∀ k, k < col + 1 → F.isZ (numT F (elStep F row col S).rows i k) = true := by
  have hP : ∀ i, i < m → ∀ j, P (numT F S.rows i j) := fun i hi j => getD_P H (hG.2 i hi).2 j
  have hz : ∀ i, S.cols.length ≤ i → i < m → ∀ k, k < col → φ (numT F S.rows i k) = 0 := fun i h1 h2 k hk => (H.isZ _ (hP i h2 k)).1 (h0 i h1 h2 k hk)
  have hd0 : φ (numT F S.rows row col) ≠ 0 := fun e => by
    have := (H.isZ _ (hP row hr col)).2 e
    rw [hd] at this; cases this
  obtain ⟨G2, hs⟩ := elStep_num H hG hq hr hd0 (fun k hk => hz row hqr hr k hk)
  have hdd := Lean.Grind.Field.mul_inv_cancel hd0
  intro i h1 h2 k hk
  have hsm : sw S.cols.length row i < m := by unfold sw; split; exact hr; split <;> omega
  have hsq : S.cols.length ≤ sw S.cols.length row i := by unfold sw; split; exact hqr; split <;> omega
  refine (H.isZ _ (getD_P H (G2.2 i h2).2 k)).2 ?_
  show φ (numT F (elStep F row col S).rows i k) = 0
  rw [hs i h2 k]
  unfold stepA
  rw [if_neg (by omega)]
  dsimp only
  rcases Nat.lt_or_ge k col with h3 | h3
  · rw [hz _ hsq hsm k h3, hz row hqr hr k h3]; grind
  · have : k = col := by omega
    subst this
    grind
end
end Go.Proofs.YtneafcdfnhnpnaaGreatDoor
/- How the reference's matrices of integers lie in memory while it eliminates. -/
namespace Go.Proofs.YtneafcdfnhnpnaaGreatDoor
open Go.RowKit

/-- the first K cells of block g, which holds elements of type t -/
def Us (w : World) (t : TypeId) (g K cap : Nat) (cs : List Value) : Prop := cs.length = K ∧ K ≤ cap ∧ cap ≤ maxLen ∧ ∃ cur : Array Value, w.heap[g]? = some (.cells cur t (0, 0)) ∧ cur.toList.take K = cs
section
variable {w w' : World} {t s : TypeId} {g h K cap J cap2 : Nat} {cs ds : List Value}
theorem Us.of_owns {base : Nat} {v : Value} (h : w.ownsRow base t 1 v K cs) (hK : 0 < K) : ∃ g cap, v = .slice (some ⟨g, 0, none⟩) K cap ∧ base ≤ g ∧ Us w t g K cap cs := by
  obtain ⟨h1, ⟨rfl, h2⟩ | ⟨g, cap, cur, rfl, h2, h3, h4, h5, h6, h7⟩⟩ := h
  · omega
  · exact ⟨g, cap, rfl, h2, by omega, h4, h5, cur, h3, by rw [Nat.mul_one] at h7; exact h7⟩
theorem Us.lt (h : Us w t g K cap cs) : g < w.heap.size := by
  obtain ⟨_, _, _, cur, h1, _⟩ := h
  exact (Array.getElem?_eq_some_iff.1 h1).1
theorem Us.cell (h : Us w t g K cap cs) {i : Nat} (hi : i < K) : w.cell? ⟨g, i, none⟩ = cs[i]? := by
  obtain ⟨_, _, _, cur, h1, rfl⟩ := h
  rw [cell_of_row w g i cur t (0, 0) h1, List.getElem?_take_of_lt hi]; simp
theorem Us.free (h : Us w t g K cap cs) (i : Nat) : w.frozen? ⟨g, i, none⟩ = false := by
  obtain ⟨_, _, _, cur, h1, _⟩ := h
  simp [World.frozen?, h1]
theorem Us.put (h : Us w t g K cap cs) (i : Nat) (u : Value) : Us (w.setCell ⟨g, i, none⟩ u) t g K cap (cs.set i u) := by
  obtain ⟨h0, h2, h3, cur, h1, rfl⟩ := h
  refine ⟨by simpa using h0, h2, h3, cur.setIfInBounds i u, ?_, ?_⟩
  · simp [World.setCell, Array.getElem?_modify, h1]
  · simp [List.take_set]
theorem Us.keep (h : Us w t g K cap cs) (hk : w'.heap[g]? = w.heap[g]?) : Us w' t g K cap cs := by
  obtain ⟨h0, h2, h3, cur, h1, h4⟩ := h
  exact ⟨h0, h2, h3, cur, hk.trans h1, h4⟩
theorem Us.other (h : Us w t g K cap cs) {p : Addr} (hp : g ≠ p.block) (u : Value) : Us (w.setCell p u) t g K cap cs := h.keep (Below.heap_setCell w p u g hp)
theorem Us.apart (a : Us w s g K cap cs) (b : Us w t h J cap2 ds) (hst : s ≠ t) : g ≠ h := by
  intro e; subst e
  obtain ⟨_, _, _, cur, h1, _⟩ := a
  obtain ⟨_, _, _, cur2, h2, _⟩ := b
  rw [h1] at h2
  injection h2 with h2
  injection h2 with _ h2
  exact hst h2
theorem Us.slW (h : Us w t g K cap cs) {k : Nat} (hk : k ≤ K) (hK : K ≤ 140737488355328) : SlW w (.slice (some ⟨g, 0, none⟩) k cap) (cs.take k) := by
  have hl := h.lt
  have h0 := h.1
  refine ⟨some ⟨g, 0, none⟩, cap, by rw [List.length_take, h0, Nat.min_eq_left hk], by rw [List.length_take, h0]; have := h.2.1; omega, by rw [List.length_take]; omega, fun hn => ⟨g, 0, rfl, hl, fun j hj => ?_⟩⟩
  rw [List.length_take, h0, Nat.min_eq_left hk] at hj
  rw [Nat.zero_add, h.cell (by omega), List.getElem?_take_of_lt hj]
end
/-- a matrix of integers with n columns: block g holds its rows, each of which has a block of its own -/
structure MxU (w : World) (g cg : Nat) (R : List RowI) (n : Nat) : Prop where
  own : Us w 50 g R.length cg (R.map (rowV n))
  row : ∀ r ∈ R, Us w 3 r.1 n r.2.1 (icells r.2.2)
  apart : (R.map (·.1)).Nodup
section
variable {w w' : World} {g cg n : Nat} {R : List RowI}
theorem MxU.len (h : MxU w g cg R n) {r : RowI} (hr : r ∈ R) : r.2.2.length = n := by have := (h.row r hr).1; rwa [icells_length] at this
theorem MxU.gne (h : MxU w g cg R n) {r : RowI} (hr : r ∈ R) : g ≠ r.1 := h.own.apart (h.row r hr) (by decide)
theorem MxU.keep (h : MxU w g cg R n) (hk : ∀ k, k = g ∨ k ∈ R.map (·.1) → w'.heap[k]? = w.heap[k]?) : MxU w' g cg R n :=
  ⟨h.own.keep (hk g (.inl rfl)), fun r hr => (h.row r hr).keep (hk r.1 (.inr (List.mem_map_of_mem hr))), h.apart⟩
theorem MxU.lt (h : MxU w g cg R n) {k : Nat} (hk : k = g ∨ k ∈ R.map (·.1)) : k < w.heap.size := by
  rcases hk with rfl | hk
  · exact h.own.lt
  · obtain ⟨r, hr, rfl⟩ := List.mem_map.1 hk
    exact (h.row r hr).lt
theorem MxU.below (h : MxU w g cg R n) (hb : Below w.heap.size w w') : MxU w' g cg R n := h.keep fun _ hk => hb.block _ (h.lt hk)
theorem MxU.setRow (h : MxU w g cg R n) {i : Nat} {r : RowI} (hr : R[i]? = some r) {L : List Int} (hO : Us w' 3 r.1 n r.2.1 (icells L)) (hb : But r.1 w w') : MxU w' g cg (setRow R i L) n := by
  refine ⟨?_, ?_, ?_⟩
  · have e : (Go.Proofs.YtneafcdfnhnpnaaGreatDoor.setRow R i L).map (rowV n) = R.map (rowV n) := setRow_values i L (fun b c => Value.slice (some ⟨b, 0, none⟩) n c)
    rw [e, setRow_length]
    exact h.own.keep (hb.block g h.own.lt (h.gne (List.mem_of_getElem? hr)))
  · intro x hx
    obtain ⟨k, hk⟩ := List.mem_iff_getElem?.1 hx
    by_cases hik : i = k
    · subst hik
      rw [setRow_at hr] at hk
      obtain rfl := Option.some.inj hk
      exact hO
    · rw [setRow_other hik] at hk
      have := h.row x (List.mem_of_getElem? hk)
      exact this.keep (hb.block x.1 this.lt (nodup_block h.apart hk hr (fun e => hik e.symm)))
  · rw [setRow_blocks]; exact h.apart
theorem MxU.swap (h : MxU w g cg R n) {i j : Nat} {a b : RowI} (hi : R[i]? = some a) (hj : R[j]? = some b) : MxU ((w.setCell ⟨g, i, none⟩ (rowV n b)).setCell ⟨g, j, none⟩ (rowV n a)) g cg (swapR R i j) n := by
  refine ⟨?_, ?_, ?_⟩
  · rw [swapR_length, swapR_some hi hj, List.map_set, List.map_set]
    exact (h.own.put _ _).put _ _
  · intro x hx
    have hx := swapR_mem hx
    exact ((h.row x hx).other (p := ⟨g, i, none⟩) (fun e => h.gne hx e.symm) _).other (p := ⟨g, j, none⟩) (fun e => h.gne hx e.symm) _
  · exact ((swapR_perm R i j).map _).nodup_iff.2 h.apart
theorem MxU.cellRow (h : MxU w g cg R n) {i : Nat} {r : RowI} (hr : R[i]? = some r) : w.cell? ⟨g, i, none⟩ = some (rowV n r) := by
  have hi : i < R.length := (List.getElem?_eq_some_iff.1 hr).1
  rw [h.own.cell hi, List.getElem?_map, hr]; rfl
theorem MxU.cellNum (h : MxU w g cg R n) {i j : Nat} {r : RowI} (hr : R[i]? = some r) (hj : j < n) : w.cell? ⟨r.1, j, none⟩ = some (.int .i64 (r.2.2[j]?.getD 0)) := by
  have hm := List.mem_of_getElem? hr
  exact ((h.row r hm).cell hj).trans (icells_at _ _ (by rw [h.len hm]; exact hj))
theorem MxU.setNum (h : MxU w g cg R n) {i j : Nat} {r : RowI} (hr : R[i]? = some r) (x : Int) : MxU (w.setCell ⟨r.1, j, none⟩ (.int .i64 x)) g cg (Go.Proofs.YtneafcdfnhnpnaaGreatDoor.setRow R i (r.2.2.set j x)) n := by
  have hm := List.mem_of_getElem? hr
  exact h.setRow hr (by rw [← icells_set]; exact (h.row r hm).put _ _) ((But.refl r.1 w).setCell ⟨r.1, j, none⟩ rfl _)
theorem MxU.good (h : MxU w g cg R n) {p : Int} (hI : InP p R) {m : Nat} (hm : R.length = m) : Good (fun x => 0 ≤ x ∧ x < p) m n R := by
  refine ⟨hm, fun i hi => ?_⟩
  have e := List.getElem?_eq_getElem (l := R) (i := i) (by omega)
  rw [rowOf_eq e]
  have hm := List.mem_of_getElem? e
  exact ⟨h.len hm, hI _ hm⟩
theorem MxU.tblW (h : MxU w g cg R n) {k : Nat} (hk : k ≤ R.length) (hR : R.length ≤ 140737488355328) (hn : n ≤ 140737488355328) : TblW w (.slice (some ⟨g, 0, none⟩) k cg) ((R.take k).map (·.2.2)) := by
  refine ⟨_, h.own.slW hk hR, by simp, fun i r hr => ?_⟩
  rw [List.getElem?_map] at hr
  cases hb : (R.take k)[i]? with
  | none => rw [hb] at hr; cases hr
  | some x =>
    rw [hb] at hr
    obtain rfl := Option.some.inj hr
    have hx := List.mem_of_mem_take (List.mem_of_getElem? hb)
    have hs := (h.row x hx).slW (Nat.le_refl n) hn
    have hl := (h.row x hx).1
    rw [List.take_of_length_le (by omega)] at hs
    exact ⟨rowV n x, by rw [← List.map_take, List.getElem?_map, hb]; rfl, hs⟩
end
/-- rows of n numbers while a call makes them -/
structure BTbl (w : World) (base n : Nat) (v : Value) (vs : List Value) (Ls : List (List Int)) : Prop where
  own : w.ownsRow base 50 1 v Ls.length vs
  row : ∀ (i : Nat) (L : List Int), Ls[i]? = some L → ∃ u, vs[i]? = some u ∧ w.ownsRow base 3 1 u n (icells L)
  apart : ∀ (i j : Nat) (a b : Value), i < j → vs[i]? = some a → vs[j]? = some b → ∀ k, a.ownBlock = some k → b.ownBlock ≠ some k
section
variable {w w' : World} {base n : Nat} {v : Value} {vs : List Value} {Ls : List (List Int)}
theorem BTbl.nil (w : World) (base n : Nat) : BTbl w base n nilV [] [] := ⟨World.ownsRow_nil _ _ _ _, fun i L h => by simp at h, fun i j a b _ h => by simp at h⟩
theorem BTbl.below (h : BTbl w base n v vs Ls) (hb : Below w.heap.size w w') : BTbl w' base n v vs Ls :=
  ⟨oBelow h.own hb, fun i L hL => by obtain ⟨u, hu, ho⟩ := h.row i L hL; exact ⟨u, hu, oBelow ho hb⟩, h.apart⟩
theorem BTbl.vlen (h : BTbl w base n v vs Ls) : vs.length = Ls.length := by have := h.own.1; omega
theorem BTbl.snoc (h : BTbl w base n v vs Ls) {w0 : World} {v' u : Value} {L : List Int} (hg : w.grownBy w' v.ownBlock) (hown : w'.ownsRow base 50 1 v' (Ls.length + 1) (vs ++ [u]))
    (hu : w.ownsRow w0.heap.size 3 1 u n (icells L)) (h0 : BTbl w0 base n v vs Ls) (hb : base ≤ w0.heap.size) : BTbl w' base n v' (vs ++ [u]) (Ls ++ [L]) := by
  have hne : ∀ x xs B, w.ownsRow B 3 1 x n xs → v.ownBlock = none ∨ v.ownBlock ≠ x.ownBlock := by
    intro x xs B hx
    cases hv : v.ownBlock with
    | none => exact .inl rfl
    | some k => exact .inr (fun e => cv_ne (oMono h.own (Nat.zero_le _)) (oMono hx (Nat.zero_le _)) (by decide) k hv e.symm)
  have hk : ∀ x xs B, w.ownsRow B 3 1 x n xs → w'.ownsRow B 3 1 x n xs := by
    intro x xs B hx
    refine oKeep hx fun k hk hv => hg.block k hk (fun e => ?_)
    rcases hne x xs B hx with h1 | h1
    · rw [h1] at e; cases e
    · exact h1 (e.symm.trans hv.symm)
  have hvl := h.vlen
  refine ⟨by rw [List.length_append]; exact hown, fun i K hK => ?_, fun i j a b hij ha hb' k hka => ?_⟩
  · rcases Nat.lt_or_ge i Ls.length with hi | hi
    · rw [List.getElem?_append_left hi] at hK
      obtain ⟨x, hx, ho⟩ := h.row i K hK
      exact ⟨x, by rw [List.getElem?_append_left (by omega)]; exact hx, hk _ _ _ ho⟩
    · rw [List.getElem?_append_right hi] at hK
      have hi0 : i - Ls.length = 0 := by
        rcases Nat.eq_zero_or_pos (i - Ls.length) with h1 | h1
        · exact h1
        · rw [List.getElem?_eq_none (by simp; omega)] at hK; cases hK
      rw [hi0] at hK
      obtain rfl : L = K := by simpa using hK
      exact ⟨u, by rw [List.getElem?_append_right (by omega), show i - vs.length = 0 by omega]; rfl, hk _ _ _ (oMono hu hb)⟩
  · rcases Nat.lt_or_ge j vs.length with hj | hj
    · rw [List.getElem?_append_left (by omega)] at ha
      rw [List.getElem?_append_left hj] at hb'
      exact h.apart i j a b hij ha hb' k hka
    · rw [List.getElem?_append_right hj] at hb'
      have hj0 : j - vs.length = 0 := by
        rcases Nat.eq_zero_or_pos (j - vs.length) with h1 | h1
        · exact h1
        · rw [List.getElem?_eq_none (by simp; omega)] at hb'; cases hb'
      rw [hj0] at hb'
      obtain rfl : u = b := by simpa using hb'
      have hi : i < vs.length := by omega
      rw [List.getElem?_append_left hi] at ha
      obtain ⟨x, hx, ho⟩ := h0.row i _ (List.getElem?_eq_getElem (by omega))
      rw [ha] at hx
      obtain rfl := Option.some.inj hx
      have l1 := (ho.lt k hka).2
      intro e
      have l2 := (hu.lt k e).1
      omega
/-- rows that have numbers have blocks of their own -/
theorem BTbl.mx (h : BTbl w base n v vs Ls) (hn : 0 < n) (hm : 0 < Ls.length) : ∃ (g cg : Nat) (R : List RowI), v = .slice (some ⟨g, 0, none⟩) Ls.length cg ∧ R.map (·.2.2) = Ls ∧ base ≤ g ∧ (∀ k ∈ R.map (·.1), base ≤ k) ∧ MxU w g cg R n := by
  obtain ⟨g, cg, rfl, hbg, hU⟩ := Us.of_owns h.own hm
  have hvl := h.vlen
  have hrow : ∀ i : Fin Ls.length, ∃ r : RowI, r.2.2 = Ls[i] ∧ vs[i.1]? = some (rowV n r) ∧ base ≤ r.1 ∧ Us w 3 r.1 n r.2.1 (icells r.2.2) := by
    intro i
    obtain ⟨u, hu, ho⟩ := h.row i.1 _ (List.getElem?_eq_getElem i.2)
    obtain ⟨b, c, rfl, hb, hU⟩ := Us.of_owns ho hn
    exact ⟨(b, c, Ls[i]), rfl, hu, hb, hU⟩
  let f : Fin Ls.length → RowI := fun i => Classical.choose (hrow i)
  have hf : ∀ i, (f i).2.2 = Ls[i] ∧ vs[i.1]? = some (rowV n (f i)) ∧ base ≤ (f i).1 ∧ Us w 3 (f i).1 n (f i).2.1 (icells (f i).2.2) := fun i => Classical.choose_spec (hrow i)
  have hmem : ∀ r ∈ List.ofFn f, ∃ i, f i = r := fun r hr => List.mem_ofFn.1 hr
  have e1 : (List.ofFn f).map (·.2.2) = Ls := by
    apply List.ext_getElem
    · simp
    · intro i h1 h2
      simp only [List.getElem_map, List.getElem_ofFn]
      exact (hf ⟨i, h2⟩).1
  have e2 : (List.ofFn f).map (rowV n) = vs := by
    apply List.ext_getElem
    · simp; omega
    · intro i h1 h2
      simp only [List.getElem_map, List.getElem_ofFn]
      have := (hf ⟨i, by omega⟩).2.1
      rw [List.getElem?_eq_getElem h2] at this
      exact (Option.some.inj this).symm
  refine ⟨g, cg, List.ofFn f, rfl, e1, hbg, fun k hk => ?_, ?_, fun r hr => ?_, ?_⟩
  · obtain ⟨r, hr, rfl⟩ := List.mem_map.1 hk
    obtain ⟨i, rfl⟩ := hmem r hr
    exact (hf i).2.2.1
  · rw [e2, List.length_ofFn]; exact hU
  · obtain ⟨i, rfl⟩ := hmem r hr
    exact (hf i).2.2.2
  · rw [List.Nodup, List.pairwise_iff_getElem]
    intro i j hi hj hij e
    simp only [List.length_map, List.length_ofFn] at hi hj
    simp only [List.getElem_map, List.getElem_ofFn] at e
    exact h.apart i j _ _ hij (hf ⟨i, hi⟩).2.1 (hf ⟨j, hj⟩).2.1 (f ⟨i, hi⟩).1 rfl (by show some (f ⟨j, hj⟩).1 = _; rw [e])
end
end Go.Proofs.YtneafcdfnhnpnaaGreatDoor
/- How things stand while the reference eliminates. -/
namespace Go.Proofs.YtneafcdfnhnpnaaGreatDoor
open Go.RowKit

theorem set_in {p : Int} {L : List Int} {j : Nat} {x : Int} (h : ∀ y ∈ L, 0 ≤ y ∧ y < p) (hx : 0 ≤ x ∧ x < p) : ∀ y ∈ L.set j x, 0 ≤ y ∧ y < p := fun y hy => by
  rcases List.mem_or_eq_of_mem_set hy with h1 | rfl
  · exact h y h1
  · exact hx
theorem InP.at {p : Int} {R : List RowI} (h : InP p R) {i : Nat} {r : RowI} (hr : R[i]? = some r) {j : Nat} (hj : j < r.2.2.length) : 0 ≤ r.2.2[j]?.getD 0 ∧ r.2.2[j]?.getD 0 < p := by
  rw [List.getElem?_eq_getElem hj]
  exact h r (List.mem_of_getElem? hr) _ (List.getElem_mem hj)
structure PvMid (p : Int) (n g cg : Nat) (R : List RowI) (w1 wx : World) (C : List Nat) (Q : List RowI) (cv : Value) : Prop where
  mx : MxU wx g cg Q n
  cown : wx.ownsRow w1.heap.size 3 1 cv C.length (ncells C)
  len : Q.length = R.length
  perm : List.Perm (Q.map (·.1)) (R.map (·.1))
  inp : InP p Q
  lt : ∀ k, k = g ∨ k ∈ R.map (·.1) → k < w1.heap.size
  buts : ButS (g :: R.map (·.1)) w1 wx
section
variable {p : Int} {n g cg i j : Nat} {R Q : List RowI} {w1 wx wy : World} {C : List Nat} {cv : Value}
theorem PvMid.below (h : PvMid p n g cg R w1 wx C Q cv) (hb : Below wx.heap.size wx wy) : PvMid p n g cg R w1 wy C Q cv :=
  ⟨h.mx.below hb, oBelow h.cown hb, h.len, h.perm, h.inp, h.lt, h.buts.below hb⟩
theorem PvMid.gb (h : PvMid p n g cg R w1 wx C Q cv) {k : Nat} (hk : k = g ∨ k ∈ Q.map (·.1)) : k < w1.heap.size := h.lt k (hk.imp id fun x => h.perm.mem_iff.1 x)
theorem PvMid.swap (h : PvMid p n g cg R w1 wx C Q cv) {a b : RowI} (hi : Q[i]? = some a) (hj : Q[j]? = some b) :
    PvMid p n g cg R w1 (((wx.setCell ⟨g, i, none⟩ (rowV n b)).setCell ⟨g, j, none⟩ (rowV n a)).drew) C (swapR Q i j) cv := by
  have hg := h.gb (k := g) (.inl rfl)
  refine ⟨(h.mx.swap hi hj).keep (fun _ _ => rfl), ?_, by rw [swapR_length, h.len], ((swapR_perm Q i j).map _).trans h.perm, h.inp.swap i j, h.lt, ((h.buts.setCell _ (by simp) _).setCell _ (by simp) _).drew⟩
  exact oSet (oSet h.cown ⟨g, i, none⟩ hg _) ⟨g, j, none⟩ hg _
theorem PvMid.setNum (h : PvMid p n g cg R w1 wx C Q cv) {r : RowI} (hr : Q[i]? = some r) {x : Int} (hx : 0 ≤ x ∧ x < p) :
    PvMid p n g cg R w1 (wx.setCell ⟨r.1, j, none⟩ (.int .i64 x)).drew C (setRow Q i (r.2.2.set j x)) cv := by
  have hm := List.mem_of_getElem? hr
  have hrb : r.1 ∈ Q.map (·.1) := List.mem_map_of_mem hm
  have hl := h.gb (.inr hrb)
  exact ⟨(h.mx.setNum hr x).keep (fun _ _ => rfl), oSet h.cown ⟨r.1, j, none⟩ hl _, by rw [setRow_length]; exact h.len, by rw [setRow_blocks]; exact h.perm, h.inp.set i (set_in (h.inp r hm) hx), h.lt, (h.buts.setCell _ (List.mem_cons_of_mem _ (h.perm.mem_iff.1 hrb)) _).drew⟩
theorem PvMid.addCol (h : PvMid p n g cg R w1 wx C Q cv) {o : Obj} {v5 : Value} (hown : wy.ownsRow w1.heap.size 3 1 v5 (C.length + 1) (ncells C ++ [.int .i64 (j : Int)])) (hg : (wx.alloc o).grownBy wy cv.ownBlock) :
    PvMid p n g cg R w1 wy (C ++ [j]) Q v5 := by
  have ha : Below wx.heap.size wx (wx.alloc o) := (Below.refl _ _).alloc (Nat.le_refl _) _
  have hm := h.below ha
  have hcv : ∀ k, cv.ownBlock = some k → w1.heap.size ≤ k := fun k hk => (hm.cown.lt k hk).1
  refine ⟨hm.mx.keep (fun k hk => ?_), ?_, h.len, h.perm, h.inp, h.lt, hm.buts.grown hg (fun k hk => hcv k hk)⟩
  · have hk' := h.gb hk
    exact hg.block k (hm.mx.lt hk) (fun e => by have := hcv k e.symm; omega)
  · rw [ncells_snoc, List.length_append]; exact hown
end
structure PvInv (p : Int) (n g cg : Nat) (R : List RowI) (w1 wr : World) (S : ElS Int) (c : Nat) (cv : Value) : Prop where
  mid : PvMid p n g cg R w1 wr S.cols S.rows cv
  hc : c ≤ n
  hq : S.cols.length ≤ R.length
  rest : ∀ i, S.cols.length ≤ i → i < R.length → ∀ k, k < c → numI S.rows i k = 0
  go : elGo (resF p) n (R.length - S.cols.length) c S = elGo (resF p) n R.length 0 ⟨R, [], [], false⟩
section
variable {p : Int} {n g cg c i : Nat} {R : List RowI} {w1 wr wf : World} {S : ElS Int} {cv cv' : Value}
theorem PvInv.skip (h : PvInv p n g cg R w1 wr S c cv) (hc : c < n) (h0 : ∀ t, S.cols.length ≤ t → t < R.length → numI S.rows t c = 0) : PvInv p n g cg R w1 wr S (c + 1) cv := by
  refine ⟨h.mid, hc, h.hq, fun i h1 h2 k hk => ?_, ?_⟩
  · rcases Nat.lt_or_ge k c with h3 | h3
    · exact h.rest i h1 h2 k h3
    · have : k = c := by omega
      subst this
      exact h0 i h1 h2
  · rw [← h.go, ← elGo_skip (fun t h1 h2 => by rw [resZ, h0 t h1 (by rw [← h.mid.len]; exact h2)]; rfl) hc]
theorem PvInv.step (h : PvInv p n g cg R w1 wr S c cv) (hp : PF p) (hi : S.cols.length ≤ i) (hi2 : i < R.length) (hc : c < n) (hd : numI S.rows i c ≠ 0) (h0 : ∀ t, S.cols.length ≤ t → t < i → numI S.rows t c = 0)
    (hm : PvMid p n g cg R w1 wf (S.cols ++ [c]) (elStep (resF p) i c S).rows cv') : PvInv p n g cg R w1 wf (elStep (resF p) i c S) (c + 1) cv' := by
  have hcl : (elStep (resF p) i c S).cols = S.cols ++ [c] := rfl
  have hll : (elStep (resF p) i c S).cols.length = S.cols.length + 1 := by rw [hcl]; simp
  refine ⟨hm, hc, by rw [hll]; omega, fun t h1 h2 k hk => ?_, ?_⟩
  · have hG := h.mid.mx.good h.mid.inp h.mid.len
    have hd' : (resF p).isZ (numT (resF p) S.rows i c) = false := by rw [resZ]; simpa using hd
    have := @elStep_rest (Zp p) (fieldZ hp) Int (resF p) _ _ (resHom hp) R.length n i c S hG (by omega) hi hi2 hd' (fun t h3 h4 k hk => by rw [resZ, h.rest t h3 h4 k hk]; rfl) t (by omega) h2 k hk
    rw [resZ] at this
    simpa using this
  · have hpv : pivF (resF p) S.rows S.cols.length (n - c) c = some (i, c) :=
      pivF_some (n - c) c (Nat.le_refl _) (by omega) hi (by rw [h.mid.len]; exact hi2) (by rw [resZ]; simpa using hd) (fun t h1 h2 => by rw [resZ, h0 t h1 h2]; rfl) (fun c' h1 h2 => by omega)
    rw [hll, ← h.go, show R.length - S.cols.length = (R.length - (S.cols.length + 1)) + 1 by omega, elGo_some hpv]
theorem PvInv.done (h : PvInv p n g cg R w1 wr S c cv) (hd : n ≤ c ∨ S.cols.length = R.length) : S = elGo (resF p) n R.length 0 ⟨R, [], [], false⟩ := by
  rw [← h.go]
  rcases hd with h1 | h1
  · exact (elGo_stop h1).symm
  · exact (elGo_full (by omega)).symm
end
/-- what PivotsModulo of the reference leaves -/
def pvPost (p : Int) (M : List (List Int)) (w : World) (e : Ending) (w' : World) : Prop :=
  Below w.heap.size w w' ∧ ∃ (R : List RowI) (S : ElS Int) (v u : Value), R.map (·.2.2) = modM p M ∧ S = elGo (resF p) ((M[0]?.map (·.length)).getD 0) R.length 0 ⟨R, [], [], false⟩ ∧ e = .returned (.tuple #[v, u]) ∧
    TblW w' v ((S.rows.take S.cols.length).map (·.2.2)) ∧ SlW w' u (ncells S.cols) ∧ S.cols.length ≤ R.length
end Go.Proofs.YtneafcdfnhnpnaaGreatDoor
