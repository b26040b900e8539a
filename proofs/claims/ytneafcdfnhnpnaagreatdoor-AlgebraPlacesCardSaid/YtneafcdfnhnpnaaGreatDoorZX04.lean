/- The law AlgebraPlaces. -/
import Derived.Test.YtneafcdfnhnpnaaGreatDoorZ19
import Derived.Test.YtneafcdfnhnpnaaGreatDoorZX03
import Derived.Test.YtneafcdfnhnpnaaGreatDoorZ11
import Derived.Test.YtneafcdfnhnpnaaGreatDoorZ20
namespace Go.Proofs.YtneafcdfnhnpnaaGreatDoor
open Go.RowKit Go.Lib

theorem small_err {p : List Int} (h : permErr p = 0) : PermL p ∧ p.length ≤ 256 := by unfold permErr at h; split at h; omega; split at h; exact ⟨by assumption, by omega⟩; omega
theorem pe_zero {p : List Int} (hp : PermL p) (hl : p.length ≤ 256) : permErr p = 0 := by unfold permErr; rw [if_neg (by omega), if_pos hp]
theorem small_c (v : Value) (p : List Int) (n : Int) (w : World) (hv : Sl w 1 v (icells p)) :
    Calls Tryz.prog 92 #[v, .int .i64 n] w fun e w' => e = .returned (.bool (decide ((p.length : Int) ≤ n ∧ permErr p = 0))) ∧ Below w.heap.size w w' := by
  obtain ⟨A, c, rfl, hc1, hc2⟩ := hv.form
  simp only [icells_length] at hc1 hv ⊢
  have HV := Lib.hid hv
  clear hv
  by_cases h : (p.length : Int) ≤ n
  · go_enter Tryz.func92, Tryz.ntmps92
    go_wp2_with fail
    refine (refCheckPerm_c _ p _ HV.out).mono ?_
    rintro e w1 ⟨rfl, hB⟩
    go_wp2
    go_ret
    refine ⟨?_, hB⟩
    by_cases h0 : permErr p = 0
    · simp [h, h0]
    · simp [h0]
  · go_enter Tryz.func92, Tryz.ntmps92
    have hd : decide ((p.length : Int) ≤ n ∧ permErr p = 0) = false := decide_eq_false fun h2 => h h2.1
    rw [hd]
    clear hd
    go_wp2
    go_ret
    exact ⟨rfl, Below.refl _ _⟩
/-- each element from the other side -/
def opp (p : List Int) : List Int := p.map fun y => ((p.length : Int) - 1) - y
def oppTo (p : List Int) (k : Nat) : List Int := (p.take k).map (fun y => ((p.length : Int) - 1) - y) ++ List.replicate (p.length - k) 0
theorem oppTo_length (p : List Int) (k : Nat) (h : k ≤ p.length) : (oppTo p k).length = p.length := by simp [oppTo]; omega
theorem oppTo_zero (p : List Int) : oppTo p 0 = List.replicate p.length 0 := by simp [oppTo]
theorem oppTo_all (p : List Int) : oppTo p p.length = opp p := by simp [oppTo, opp]
theorem oppTo_succ (p : List Int) (k : Nat) (h : k < p.length) : (oppTo p k).set k (((p.length : Int) - 1) - (p[k]?.getD 0)) = oppTo p (k + 1) := by
  unfold oppTo
  rw [take_succ_int p k h, List.map_append, List.set_append_right _ _ (by simp; omega)]
  obtain ⟨m, hm⟩ : ∃ m, p.length - k = m + 1 := ⟨p.length - k - 1, by omega⟩
  rw [hm, show p.length - (k + 1) = m from by omega, List.replicate_succ]
  simp [Nat.min_eq_left (Nat.le_of_lt h)]
theorem opp_perm {p : List Int} (hp : PermL p) : PermL (opp p) := by
  unfold opp
  refine ⟨fun x hx => ?_, ?_⟩
  · obtain ⟨y, hy, rfl⟩ := List.mem_map.1 hx
    have := hp.1 y hy
    rw [List.length_map]; omega
  · rw [List.nodup_iff_pairwise_ne] at *
    exact List.Pairwise.map _ (fun a b h e => h (by omega)) (List.nodup_iff_pairwise_ne.1 hp.2)
theorem opp_rank {p : List Int} (hp : PermL p) : rk p + rk (opp p) + 1 = fac p.length := rk_opp _ p hp.2

set_option maxRecDepth 100000 in
set_option maxHeartbeats 8000000 in
theorem AlgebraPlaces_c (v u : Value) (p q : List Int) (w : World) (hv : Sl w 1 v (icells p)) (hu : Sl w 1 u (icells q)) (hG : Glob w) :
    Calls Tryz.prog 12 #[v, u] w fun e w' => e = .returned (.bool true) ∧ Below w.heap.size w w' := by
  obtain ⟨A, c, rfl, hc1, hc2⟩ := hv.form
  obtain ⟨B, d, rfl, gc1, gc2⟩ := hu.form
  simp only [icells_length] at hc1 hv gc1 hu ⊢
  have HG := Lib.hid hG
  have HV := Lib.hid hv
  have HU := Lib.hid hu
  clear hG hv hu
  have HB := Lib.hid (Below.refl w.heap.size w)
  go_enter Tryz.func12, Tryz.ntmps12
  go_wp2_with fail
  refine (awake_c _ (HG.out.below HB.out)).mono ?_
  rintro e w1 ⟨rfl, hB⟩
  replace HB := Lib.hid (bT HB.out hB)
  clear hB
  by_cases h1 : (p.length : Int) ≤ 9 ∧ permErr p = 0
  rotate_left
  · have hd : decide ((p.length : Int) ≤ 9 ∧ permErr p = 0) = false := decide_eq_false h1
    go_wp2_with fail
    refine (small_c _ p 9 _ (HV.out.below HB.out)).mono ?_
    rintro e w2 ⟨rfl, hB⟩
    rw [hd]
    replace HB := Lib.hid (bT HB.out hB)
    clear hB
    go_wp2_with fail
    refine (awake_c _ (HG.out.below HB.out)).mono ?_
    rintro e wz ⟨rfl, hB⟩
    have HZ := Lib.hid (bT HB.out hB)
    clear hB
    go_wp2
    go_ret
    exact ⟨rfl, HZ.out⟩
  have hd : decide ((p.length : Int) ≤ 9 ∧ permErr p = 0) = true := decide_eq_true h1
  go_wp2_with fail
  refine (small_c _ p 9 _ (HV.out.below HB.out)).mono ?_
  rintro e w3 ⟨rfl, hB⟩
  rw [hd]
  clear hd
  replace HB := Lib.hid (bT HB.out hB)
  clear hB
  by_cases h2 : p.length = q.length
  rotate_left
  · have hb : ((p.length : Int) != (q.length : Int)) = true := by simpa using (by omega : ¬ (p.length : Int) = q.length)
    go_wp2_with fail
    refine (awake_c _ (HG.out.below HB.out)).mono ?_
    rintro e wz ⟨rfl, hB⟩
    have HZ := Lib.hid (bT HB.out hB)
    clear hB
    go_wp2
    go_ret
    exact ⟨rfl, HZ.out⟩
  have hb : ((p.length : Int) != (q.length : Int)) = false := by rw [h2]; simp
  have H2 := Lib.hid h2
  clear h2
  by_cases h3 : (q.length : Int) ≤ 9 ∧ permErr q = 0
  rotate_left
  · have hd : decide ((q.length : Int) ≤ 9 ∧ permErr q = 0) = false := decide_eq_false h3
    go_wp2_with fail
    refine (small_c _ q 9 _ (HU.out.below HB.out)).mono ?_
    rintro e w4 ⟨rfl, hB⟩
    rw [hd]
    replace HB := Lib.hid (bT HB.out hB)
    clear hB
    go_wp2_with fail
    refine (awake_c _ (HG.out.below HB.out)).mono ?_
    rintro e wz ⟨rfl, hB⟩
    have HZ := Lib.hid (bT HB.out hB)
    clear hB
    go_wp2
    go_ret
    exact ⟨rfl, HZ.out⟩
  have hd : decide ((q.length : Int) ≤ 9 ∧ permErr q = 0) = true := decide_eq_true h3
  go_wp2_with fail
  refine (small_c _ q 9 _ (HU.out.below HB.out)).mono ?_
  rintro e w5 ⟨rfl, hB⟩
  rw [hd]
  clear hd hb
  replace HB := Lib.hid (bT HB.out hB)
  clear hB
  have HP : Hid (PermL p ∧ p.length ≤ 9 ∧ permErr p = 0) := Lib.hid ⟨(small_err h1.2).1, by omega, h1.2⟩
  have HQ : Hid (PermL q ∧ q.length = p.length ∧ permErr q = 0) := Lib.hid ⟨(small_err h3.2).1, H2.out.symm, h3.2⟩
  have hp9 : (p.length : Int) ≤ 9 := h1.1
  clear h1 h3
  have hmk := make_ints w5 p.length (by omega)
  have HO0 : Hid (Own (w5.alloc (.cells (icells (List.replicate p.length 0)).toArray 3)) w5.heap.size 3 (icells (oppTo p 0))) := Lib.hid (by rw [oppTo_zero]; exact Own.make _ _ _)
  go_wp2_with fail
  have HB0 := Lib.hid (bA HB.out (.cells (icells (List.replicate p.length 0)).toArray 3))
  have HBB := Lib.hid HB.out
  go_loopg [44] p.length (fun g i wr => ∃ k : Nat, i = .int .i64 k ∧ k + g = p.length ∧ Hid (Own wr w5.heap.size 3 (icells (oppTo p k))) ∧ Hid (Below w5.heap.size w5 wr))
  case atStart => exact ⟨0, rfl, by omega, HO0, Lib.hid ((Below.refl _ _).alloc (Nat.le_refl _) _)⟩
  case round =>
    obtain ⟨k, rfl, hk, hO, hW⟩ := hrel
    clear HO0 hmk HB0
    cases gk with
    | succ gh =>
      have hlt : k < p.length := by omega
      have hltI : (k : Int) < (p.length : Int) := by omega
      have hVr := (HV.out.below HBB.out).below hW.out
      obtain ⟨b1, off1, rfl, hbb1, hcell1⟩ := hVr.at_ (k := k) (by rw [icells_length]; omega)
      have hck1 := (hcell1 k (by rw [icells_length]; omega)).trans (icells_at p k hlt)
      have hpb := HP.out.1.1 (p[k]?.getD 0) (by rw [List.getElem?_eq_getElem hlt]; exact List.getElem_mem hlt)
      have HS := Lib.hid (oppTo_succ p k hlt)
      have hck2 := (hO.out.cell k).trans (icells_at (oppTo p k) k (by rw [oppTo_length p k (by omega)]; omega))
      have hf2 := hO.out.free k
      have hwl := hO.out.lt
      have HO3 : Hid (∀ z, z = ((p.length : Int) - 1) - (p[k]?.getD 0) → Own (wr.setCell ⟨w5.heap.size, k, none⟩ (.int .i64 z)) w5.heap.size 3 (icells (oppTo p (k + 1)))) := Lib.hid (fun z hz => by rw [← HS.out, ← hz, ← icells_set]; exact hO.out.put _ _)
      have HW3 : Hid (∀ z, Below w5.heap.size w5 (wr.setCell ⟨w5.heap.size, k, none⟩ (.int .i64 z))) := Lib.hid (fun z => hW.out.setCell (p := ⟨w5.heap.size, k, none⟩) (Nat.le_refl _) (.int .i64 z))
      have Hk := Lib.hid hk
      clear hVr hcell1 HS hO hW hk
      generalize p[k]?.getD 0 = x at *
      generalize (oppTo p k)[k]?.getD 0 = y at *
      go_wp2
      go_roundg gh
      case rel => exact ⟨k + 1, by go_num, by have := Hk.out; omega, Lib.hid (HO3.out _ (by omega)), Lib.hid (HW3.out _)⟩
      case measure => omega
    | zero =>
      have hkn : k = p.length := by omega
      subst hkn
      have hin : ¬ ((p.length : Int) < (p.length : Int)) := by omega
      have HO := Lib.hid (by have := hO.out; rw [oppTo_all] at this; exact this)
      have HX : Hid (PermL (opp p) ∧ (opp p).length = p.length ∧ permErr (opp p) = 0) := Lib.hid (by
        have h1 := opp_perm HP.out.1
        have h2 : (opp p).length = p.length := by simp [opp]
        exact ⟨h1, h2, pe_zero h1 (by have := HP.out.2.1; omega)⟩)
      replace HB := Lib.hid (bT HBB.out hW.out)
      clear hO hW HBB hk
      have FR : Hid (∀ l : List Int, l.length ≤ 9 → rk l < 1000000000) := Lib.hid (fun l h => Nat.lt_of_lt_of_le (rk_lt l) (Nat.le_of_lt (fac_lt (by omega))))
      go_wp2_with fail
      refine (Rank9_c _ p _ (HV.out.below HB.out) (HG.out.below HB.out) (by have := HP.out.2.1; omega) HP.out.2.2).mono ?_
      rintro e w6 ⟨rfl, hB⟩
      replace HB := Lib.hid (bT HB.out hB)
      replace HO := Lib.hid (HO.out.below hB HO.out.lt)
      clear hB
      go_wp2_with fail
      refine (Rank9_c _ q _ (HU.out.below HB.out) (HG.out.below HB.out) (by have := HP.out.2.1; have := HQ.out.2.1; omega) HQ.out.2.2).mono ?_
      rintro e w7 ⟨rfl, hB⟩
      replace HB := Lib.hid (bT HB.out hB)
      replace HO := Lib.hid (HO.out.below hB HO.out.lt)
      clear hB
      go_wp2_with fail
      refine (Rank9_c _ (opp p) _ (HO.out.sl p.length (by rw [icells_length]; exact HX.out.2.1) (by omega)) (HG.out.below HB.out) (by have := HP.out.2.1; have := HX.out.2.1; omega) HX.out.2.2).mono ?_
      rintro e w8 ⟨rfl, hB⟩
      replace HB := Lib.hid (bT HB.out hB)
      replace HO := Lib.hid (HO.out.below hB HO.out.lt)
      clear hB
      go_wp2_with fail
      refine (Unrank9_c p _ (HG.out.below HB.out) (by have := HP.out.2.1; omega) HP.out.1).mono ?_
      rintro e w9 ⟨hB, gu, rfl, hgu, hOu⟩
      replace HB := Lib.hid (bT HB.out hB)
      replace HO := Lib.hid (HO.out.below hB HO.out.lt)
      clear hB
      have HOu := Lib.hid hOu
      clear hOu hgu
      have SW : Hid (SlW (w9.alloc (.cells #[.string ⟨(decDigits (rk p)).toArray⟩, .string ⟨(decDigits (rk q)).toArray⟩, .string ⟨(decDigits (rk (opp p))).toArray⟩] 22)) (.slice (some ⟨w9.heap.size, 0, none⟩) 3 3) (scells ([rk p, rk q, rk (opp p)].map decDigits))) := Lib.hid (Sl.lit w9 22 #[.string ⟨(decDigits (rk p)).toArray⟩, .string ⟨(decDigits (rk q)).toArray⟩, .string ⟨(decDigits (rk (opp p))).toArray⟩] 3 rfl (by omega)).wide
      have HL3 : Hid (∀ n ∈ [rk p, rk q, rk (opp p)], (decDigits n).length ≤ 600) := Lib.hid (by
        intro n hn
        have h9 : n < 1000000000 := by
          simp only [List.mem_cons, List.not_mem_nil, or_false] at hn
          rcases hn with rfl | rfl | rfl
          · exact FR.out _ HP.out.2.1
          · exact FR.out _ (by have := HP.out.2.1; have := HQ.out.2.1; omega)
          · exact FR.out _ (by have := HP.out.2.1; have := HX.out.2.1; omega)
        have := dec_len9 h9; omega)
      have HBA := Lib.hid (bA HB.out (.cells #[.string ⟨(decDigits (rk p)).toArray⟩, .string ⟨(decDigits (rk q)).toArray⟩, .string ⟨(decDigits (rk (opp p))).toArray⟩] 22))
      have HOu2 := Lib.hid (HOu.out.alloc (.cells #[.string ⟨(decDigits (rk p)).toArray⟩, .string ⟨(decDigits (rk q)).toArray⟩, .string ⟨(decDigits (rk (opp p))).toArray⟩] 22))
      replace HB := HBA
      replace HOu := HOu2
      clear HBA HOu2 HO
      go_wp2_with fail
      refine (CheckRowN_c _ _ _ SW.out HL3.out).mono ?_
      rintro e w10 ⟨rfl, rfl⟩
      clear SW HL3
      go_wp2_with fail
      refine (refSameInts_c _ _ p p _ (HOu.out.sl p.length (by rw [icells_length]) (by omega)).wide (HV.out.below HB.out).wide).mono ?_
      rintro e w11 ⟨rfl, hB⟩
      rw [show decide (p = p) = true from decide_eq_true rfl]
      replace HB := Lib.hid (bT HB.out hB)
      replace HOu := Lib.hid (HOu.out.below hB HOu.out.lt)
      clear hB
      clear HOu
      have HC9 := Lib.hid (fun (W : World) (h : Glob W) => CompareN_c (rk p) (rk q) W (FR.out _ HP.out.2.1) (FR.out _ (by have := HP.out.2.1; have := HQ.out.2.1; omega)) h)
      have HBE := Lib.hid (fun (W : World) (h : Below w.heap.size w W) => refBefore_c _ _ p q W (HV.out.below h).wide (HU.out.below h).wide H2.out)
      have HSI := Lib.hid (fun (W : World) (h : Below w.heap.size w W) => refSameInts_c _ _ p q W (HV.out.below h).wide (HU.out.below h).wide)
      have HS : Hid (rk p + rk (opp p) + 1 = fac p.length) := Lib.hid (opp_rank HP.out.1)
      have HFL : Hid (fac p.length < 1000000000) := Lib.hid (fac_lt (by have := HP.out.2.1; omega))
      have A1 := Lib.hid (fun (W : World) => AddN_c (rk p) (rk (opp p)) W (by have := HS.out; have := HFL.out; omega) (by have := HS.out; have := HFL.out; omega))
      have A2 := Lib.hid (fun (W : World) => AddOne_c (rk p + rk (opp p)) (fac p.length) W (by have := HS.out; have := HFL.out; omega) HS.out)
      have FA := Lib.hid (fun (W : World) => Factorial_c p.length W (by have := HP.out.2.1; omega))
      have HOC := ord_cases HP.out.1 HQ.out.1 HQ.out.2.1
      generalize lexB p q = bl at *
      generalize decide (p = q) = bs at *
      generalize ordZ (rk p) (rk q) = z at *
      generalize decDigits (rk p + rk (opp p)) = t1 at *
      generalize decDigits (fac p.length) = t2 at *
      generalize decDigits (rk p) = t3 at *
      generalize decDigits (rk q) = t4 at *
      generalize decDigits (rk (opp p)) = t5 at *
      clear HS HFL FR HX HP HQ H2
      rcases HOC with ⟨rfl, rfl, rfl⟩ | ⟨rfl, rfl, rfl⟩ | ⟨rfl, rfl, rfl⟩
      all_goals (
        go_wp2_with fail
        refine (HC9.out _ (HG.out.below HB.out)).mono ?_
        rintro e w12 ⟨rfl, hB⟩
        replace HB := Lib.hid (bT HB.out hB)
        clear hB
        go_wp2_with fail
        refine (HBE.out _ HB.out).mono ?_
        rintro e w13 ⟨rfl, hB⟩
        replace HB := Lib.hid (bT HB.out hB)
        clear hB
        go_wp2_with fail
        refine (HSI.out _ HB.out).mono ?_
        rintro e w14 ⟨rfl, hB⟩
        replace HB := Lib.hid (bT HB.out hB)
        clear hB
        go_wp2_with fail
        refine (A1.out _).mono ?_
        rintro e w15 ⟨rfl, hB⟩
        replace HB := Lib.hid (bT HB.out hB)
        clear hB
        go_wp2_with fail
        refine (A2.out _).mono ?_
        rintro e w16 ⟨rfl, hB⟩
        replace HB := Lib.hid (bT HB.out hB)
        clear hB
        go_wp2_with fail
        refine (FA.out _).mono ?_
        rintro e w17 ⟨rfl, hB⟩
        have HZ := Lib.hid (bT HB.out hB)
        clear hB
        go_wp2
        go_ret
        exact ⟨rfl, HZ.out⟩)
end Go.Proofs.YtneafcdfnhnpnaaGreatDoor
/- The statement on AlgebraPlaces: its row, from inside. -/
namespace Go.Proofs.YtneafcdfnhnpnaaGreatDoor
open Go.ChangeShapes Go.WideShapes Go.ChangeAt Go.RowKit Go.Lib

set_option maxRecDepth 100000 in
theorem places_lifted (os : Os) (started : os.Started) (H : Type) (enc : TypeId × Value → H) :
    ReturnsInHanded {} Tryz.checked os 12 .any (fun w args => (Rows.algebraPlacesSpec.pre enc Tryz.checked.prog Tryz.f12 [] false w args ∧ laidMetH Tryz.prog laid5 w) ∧ sizedMet enc Tryz.checked.prog Tryz.f12 (OpenSpec.ofChange Rows.algebraPlacesSpec) false w args)
      (Rows.algebraPlacesSpec.post enc Tryz.checked.prog Tryz.f12 false true false false) := by
  refine returns_shaped started (by kernel_rfl) Tryz.func12
    (ChangeSpec.witness_shaped (enc := enc) (C := Tryz.checked) (os := os) (X := fun w _ => laidMetH Tryz.prog laid5 w) false (World.doorLaid Tryz.prog 400 os) #[.slice none 0 0, .slice none 0 0] 8 rfl (World.shaped_of_RefB (by kernel_rfl) (by kernel_rfl)) (by kernel_rfl) (by kernel_rfl) (by kernel_rfl) (door_met os _)) ?_
  intro W base args ds gs before hval0 hW hsz hG
  have hval : ∀ (j : Nat) t v, Tryz.f12.params[j]? = some t → args[j]? = some v → Value.okWide Tryz.prog W .any base t v := hval0
  have hW' := hW
  obtain ⟨p, q, hA0, hV, rfl, hfz, hnd⟩ := hW
  have hA : DataW.TrodAll enc Tryz.prog W 0 (fun _ => true) true Tryz.f12.params.toList args.toList ds p := hA0
  rw [Tryz.params12] at hA hval hsz
  obtain ⟨v0, v1, d0, d1, p0, p1, rfl, rfl, rfl, h0, h1⟩ := trodAll_two hA
  obtain ⟨rfl, rfl⟩ := trodVars_none hV
  obtain ⟨a0, l0, c0, rfl⟩ := okWide_slice Tryz.underlying50 (hval 0 50 v0 rfl rfl)
  obtain ⟨a1, l1, c1, rfl⟩ := okWide_slice Tryz.underlying50 (hval 1 50 v1 rfl rfl)
  have h0k := h0
  have h1k := h1
  obtain ⟨fuel0, hf0⟩ := h0
  obtain ⟨fuel1, hf1⟩ := h1
  clear hA0 hval0
  simp only [List.append_nil] at hW' hsz
  have hlt : ∀ x ∈ p0 ++ p1, x.block < W.heap.size := fun x hx => by simpa using hW'.lt x (by simpa using hx)
  obtain ⟨L0, hL0⟩ := open_list hf0 (fun elems spare hd => by
    have := sized_slice hsz (j := 0) (t := 50) (e := 3) rfl (by rw [← hd]; rfl) Tryz.underlying50
    rwa [bytes_int] at this)
  obtain ⟨L1, hL1⟩ := open_list hf1 (fun elems spare hd => by
    have := sized_slice hsz (j := 1) (t := 50) (e := 3) rfl (by rw [← hd]; rfl) Tryz.underlying50
    rwa [bytes_int] at this)
  refine (AlgebraPlaces_c _ _ L0 L1 W hL0 hL1 hG).mono fun e W' ⟨he, bel⟩ => ?_
  subst he
  refine ⟨_, rfl, _, _, _, [], p0 ++ p1, [], hW', ?_, ?_, ?_, bel.frame _, fun h => by cases h⟩
  · exact trodAll_mk1 (shut_bool Tryz.underlying4 true)
  · exact trodAll_mk2 (Below.trod laid_out (by kernel_rfl) (of_decide_eq_true (by kernel_rfl)) h0k bel (fun x hx => hlt x (by simp [hx]))) (Below.trod laid_out (by kernel_rfl) (of_decide_eq_true (by kernel_rfl)) h1k bel (fun x hx => hlt x (by simp [hx])))
  · rfl
end Go.Proofs.YtneafcdfnhnpnaaGreatDoor
