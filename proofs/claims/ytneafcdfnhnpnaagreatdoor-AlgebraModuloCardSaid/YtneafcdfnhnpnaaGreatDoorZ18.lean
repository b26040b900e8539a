/- The calls of the self-check, one by one. -/
import Derived.Test.YtneafcdfnhnpnaaGreatDoorZ16
import Derived.Test.YtneafcdfnhnpnaaGreatDoorZ17
namespace Go.Proofs.YtneafcdfnhnpnaaGreatDoor
open Go.RowKit Go.Lib

theorem Own.slW {w : World} {g : Nat} {t : TypeId} {cs : List Value} (h : Own w g t cs) (n : Nat) (hn : cs.length = n) (hs : n ≤ 140737488355328) : SlW w (.slice (some ⟨g, 0, none⟩) n n) cs := (h.sl n hn hs).wide
theorem TblT.two {w : World} {v v0 v1 : Value} {r0 r1 : List Txt} (h : SlW w v [v0, v1]) (h0 : SlW w v0 (scells r0)) (h1 : SlW w v1 (scells r1)) : TblT w v [r0, r1] :=
  ⟨_, h, rfl, fun i r hr => by
    rcases i with _ | _ | i
    · cases hr; exact ⟨_, rfl, h0⟩
    · cases hr; exact ⟨_, rfl, h1⟩
    · cases hr⟩
theorem TblT.one {w : World} {v v0 : Value} {r0 : List Txt} (h : SlW w v [v0]) (h0 : SlW w v0 (scells r0)) : TblT w v [r0] :=
  ⟨_, h, rfl, fun i r hr => by
    rcases i with _ | i
    · cases hr; exact ⟨_, rfl, h0⟩
    · cases hr⟩
theorem TblW.two {w : World} {v v0 v1 : Value} {r0 r1 : List Int} (h : SlW w v [v0, v1]) (h0 : SlW w v0 (icells r0)) (h1 : SlW w v1 (icells r1)) : TblW w v [r0, r1] :=
  ⟨_, h, rfl, fun i r hr => by
    rcases i with _ | _ | i
    · cases hr; exact ⟨_, rfl, h0⟩
    · cases hr; exact ⟨_, rfl, h1⟩
    · cases hr⟩
theorem TblW.one {w : World} {v v0 : Value} {r0 : List Int} (h : SlW w v [v0]) (h0 : SlW w v0 (icells r0)) : TblW w v [r0] :=
  ⟨_, h, rfl, fun i r hr => by
    rcases i with _ | i
    · cases hr; exact ⟨_, rfl, h0⟩
    · cases hr⟩
theorem TblS.two {w : World} {v v0 v1 : Value} {r0 r1 : List Int} (h : Sl w 1 v [v0, v1]) (h0 : Sl w 1 v0 (icells r0)) (h1 : Sl w 1 v1 (icells r1)) : TblS w v [r0, r1] :=
  ⟨_, h, rfl, fun i r hr => by
    rcases i with _ | _ | i
    · cases hr; exact ⟨_, rfl, h0⟩
    · cases hr; exact ⟨_, rfl, h1⟩
    · cases hr⟩
theorem TI.wide {w : World} {base : Nat} {v : Value} {M : List (List Int)} (h : TI w base v M) (hl : M.length ≤ 1000000) (hr : ∀ r ∈ M, r.length ≤ 1000000) : TblW w v M := by
  obtain ⟨vs, h1, h2, h3⟩ := h
  have h1' : w.ownsRow base 50 1 v vs.length vs := by rw [h2]; exact h1
  have h4 := oSl h1' (by omega)
  refine ⟨vs, h4, h2, fun i r hi => ?_⟩
  obtain ⟨u, bx, hu, _, ho⟩ := h3 i r hi
  have := hr r (List.mem_of_getElem? hi)
  exact ⟨u, hu, oSl ho (by omega)⟩

theorem aw_Of (w : World) (hG : Glob w) : Calls Tryz.prog 34 #[.int .i64 6, .int .i64 (-4)] w fun e w' => e = .returned (.tuple #[.string ⟨#[45, 51, 47, 50]⟩, .int .i64 0]) ∧ Below w.heap.size w w' :=
  (Of_c 6 (-4) w (by omega) (by omega) hG).mono fun e w' h => by
    obtain ⟨h1, h2⟩ := h
    rw [if_neg (by decide)] at h1
    have e1 : ¬ tooLong (((6 : Int) : Rat) / (((-4) : Int) : Rat)) := by decide +kernel
    have e2 : rtext (((6 : Int) : Rat) / (((-4) : Int) : Rat)) = [45, 51, 47, 50] := by decide +kernel
    rw [writeEnd_ok e1, e2] at h1
    exact ⟨h1, h2⟩
theorem aw_Gcd (w : World) : Calls Tryz.prog 36 #[.int .i64 12, .int .i64 (-18)] w fun e w' => e = .returned (.tuple #[.int .i64 6, .int .i64 0]) ∧ Below w.heap.size w w' :=
  (Gcd_c 12 (-18) w).mono fun e w' h => by
    obtain ⟨h1, h2⟩ := h
    rw [if_neg (by unfold far; omega)] at h1
    exact ⟨h1, h2⟩
theorem aw_Inverse (w : World) : Calls Tryz.prog 39 #[.int .i64 3, .int .i64 10] w fun e w' => e = .returned (.tuple #[.int .i64 7, .int .i64 0]) ∧ Below w.heap.size w w' :=
  (Inverse_c 3 10 w).mono fun e w' h => by
    obtain ⟨h1, h2⟩ := h
    rw [if_neg (by unfold far; omega), if_pos (by decide)] at h1
    obtain ⟨x, h3, h4, h5, h6⟩ := h1
    have : x = 7 := by omega
    subst this
    exact ⟨h3, h2⟩
def pA : List Int := [1, 2, 0, 4, 3]
theorem aw_Cycles (v : Value) (w : World) (hv : Sl w 1 v (icells pA)) : Calls Tryz.prog 49 #[v] w fun e w' => (∃ u, e = .returned (.tuple #[u, .int .i64 0]) ∧ TblW w' u [[0, 1, 2], [3, 4]]) ∧ Below w.heap.size w w' :=
  (Cycles_c v pA w hv).mono fun e w' h => by
    have hp : permErr pA = 0 := by decide +kernel
    have hc : cycs pA = [[0, 1, 2], [3, 4]] := by decide +kernel
    obtain ⟨h1, h2 | h2⟩ := h
    · obtain ⟨_, u, base, rfl, hb, ht⟩ := h2
      rw [hc] at ht
      exact ⟨⟨u, rfl, ht.wide (by decide) (by decide)⟩, h1⟩
    · exact absurd hp h2.1
theorem aw_Sign (v : Value) (w : World) (hv : Sl w 1 v (icells pA)) : Calls Tryz.prog 50 #[v] w fun e w' => e = .returned (.tuple #[.int .i64 (-1), .int .i64 0]) ∧ Below w.heap.size w w' :=
  (Sign_c v pA w hv).mono fun e w' h => by
    have hp : permErr pA = 0 := by decide +kernel
    have hc : signL (cycs pA) = -1 := by decide +kernel
    obtain ⟨h1, h2⟩ := h
    rw [if_pos hp, hp, hc] at h1
    exact ⟨h1, h2⟩
theorem aw_Power (v : Value) (w : World) (hv : Sl w 1 v (icells pA)) : Calls Tryz.prog 48 #[v, .int .i64 2] w fun e w' => (∃ u, e = .returned (.tuple #[u, .int .i64 0]) ∧ SlW w' u (icells [2, 0, 1, 3, 4])) ∧ Below w.heap.size w w' :=
  (Power_c v pA 2 w hv).mono fun e w' h => by
    have hp : permErr pA = 0 := by decide +kernel
    have hc : powL pA 2 = [2, 0, 1, 3, 4] := by decide +kernel
    obtain ⟨h1, h2⟩ := h
    rw [if_pos hp, hc] at h1
    obtain ⟨u, h3, h4⟩ := h1
    exact ⟨⟨u, h3, h4.wide⟩, h2⟩
theorem aw_Rank (v : Value) (w : World) (hv : Sl w 1 v (icells [2, 0, 1])) (hG : Glob w) : Calls Tryz.prog 58 #[v] w fun e w' => e = .returned (.tuple #[.string ⟨#[52]⟩, .int .i64 0]) ∧ Below w.heap.size w w' :=
  (Rank_c v [2, 0, 1] w hv hG (.inl (by decide))).mono fun e w' h => by
    have hp : permErr [2, 0, 1] = 0 := by decide +kernel
    obtain ⟨h1, h2⟩ := h
    rw [if_pos hp] at h1
    have e1 : ¬ tooLong (mkR false (rankFrom [2, 0, 1] [(2 : Int), 0, 1].length) 1) := by decide +kernel
    have e2 : rtext (mkR false (rankFrom [2, 0, 1] [(2 : Int), 0, 1].length) 1) = [52] := by decide +kernel
    rw [writeEnd_ok e1, e2] at h1
    exact ⟨h1, h2⟩
theorem aw_Unrank (w : World) (hG : Glob w) : Calls Tryz.prog 59 #[.int .i64 4, .string ⟨#[50, 51]⟩] w fun e w' => (∃ u, e = .returned (.tuple #[u, .int .i64 0]) ∧ SlW w' u (icells [3, 2, 1, 0])) ∧ Below w.heap.size w w' :=
  (Unrank_c 4 [50, 51] w (by decide) hG (.inl (by decide)) (.small (by decide +kernel))).mono fun e w' h => by
    have hp : unrCode 4 [50, 51] = 0 := by decide +kernel
    have hc : (pickTo (factDig (readRes [50, 51]).2.num.natAbs (4 : Int).toNat (4 : Int).toNat) (4 : Int).toNat).1 = [3, 2, 1, 0] := by decide +kernel
    obtain ⟨h1, h2 | h2⟩ := h
    · obtain ⟨_, g, rfl, hg, ho⟩ := h2
      rw [hc] at ho
      exact ⟨⟨_, rfl, ho.slW 4 rfl (by decide)⟩, h1⟩
    · exact absurd hp h2.1
theorem txtOk_of (M : List (List Txt)) (h : M.all (fun r => r.all fun l => decide (l.length ≤ 19)) = true) : ∀ r ∈ M, ∀ l ∈ r, TxtOk l := fun r hr l hl => by
  have := of_decide_eq_true (List.all_eq_true.1 (List.all_eq_true.1 h r hr) l hl)
  exact ⟨by omega, .inl this⟩
theorem txtOk_row (L : List Txt) (h : L.all (fun l => decide (l.length ≤ 19)) = true) : ∀ l ∈ L, TxtOk l := fun l hl => by
  have := of_decide_eq_true (List.all_eq_true.1 h l hl)
  exact ⟨by omega, .inl this⟩
theorem aw_Kernel (v : Value) (w : World) (hv : TblT w v aM1) (hG : Glob w) : Calls Tryz.prog 69 #[v] w fun e w' => (∃ u, e = .returned (.tuple #[u, .int .i64 0]) ∧ TblT w' u [[[49], [45, 49, 47, 50], [48]]]) ∧ Below w.heap.size w w' :=
  (Kernel_c v aM1 w hv (txtOk_of _ (by decide)) hG (fun _ => by rw [aV1]; exact kerB_ok aK1)).mono fun e w' h => by
    obtain ⟨h1, h2 | h2⟩ := h
    · obtain ⟨_, h3⟩ := h2
      rw [aV1, show widM aM1 = 3 from rfl, aK2] at h3
      rcases h3 with h3 | h3
      · obtain ⟨_, g, B, rfl, hg, hT⟩ := h3
        have hv := hT.vals
        have e2 : ([[(1 : Rat), -1/2, 0]].take [[(1 : Rat), -1/2, 0]].length).map (·.map rtext) = [[[49], [45, 49, 47, 50], [48]]] := by decide +kernel
        rw [e2] at hv
        rcases B with _ | ⟨⟨b0, r0⟩, _ | ⟨r1, B⟩⟩
        · simp at hv
        · have hr0 : r0 = [[49], [45, 49, 47, 50], [48]] := by simpa using hv
          subst hr0
          have ho := hT.own
          have hr := (hT.rows (b0, _) (List.mem_singleton.2 rfl)).2.1
          exact ⟨⟨_, rfl, TblT.one (Own.slW (cs := [_]) ho 1 rfl (by decide)) (hr.slW 3 rfl (by decide))⟩, h1⟩
        · simp at hv
      · exact absurd aK3 h3.1
    · exact absurd aR1 h2.1
theorem aw_Solve (v u : Value) (w : World) (hv : TblT w v aM1) (hu : SlW w u (scells aB1)) (hG : Glob w) : Calls Tryz.prog 76 #[v, u] w fun e w' => (∃ u, e = .returned (.tuple #[u, .int .i64 0]) ∧ SlW w' u (scells [[49], [48], [49]])) ∧ Below w.heap.size w w' :=
  (Solve_c v u aM1 aB1 w hv hu (txtOk_of _ (by decide)) (txtOk_row _ (by decide)) hG (fun _ => by rw [aV1, aV2]; exact solB_ok aS1)).mono fun e w' h => by
    obtain ⟨h1, h2 | h2⟩ := h
    · obtain ⟨_, _, _, h3⟩ := h2
      rw [aV1, aV2, show widM aM1 = 3 from rfl, aS2] at h3
      rcases h3 with h3 | h3
      · exact absurd h3.1 aS3
      · rcases h3.2 with ⟨_, g, rfl, hg, ho⟩ | ⟨⟨q, hq, hl⟩, _⟩
        · have e2 : [(1 : Rat), 0, 1].map rtext = [[49], [48], [49]] := by decide +kernel
          rw [e2] at ho
          exact ⟨⟨_, rfl, ho.slW 3 rfl (by decide)⟩, h1⟩
        · exfalso
          simp only [List.mem_cons, List.not_mem_nil, or_false] at hq
          have a1 : ¬ tooLong 1 := by decide +kernel
          have a0 : ¬ tooLong 0 := by decide +kernel
          rcases hq with rfl | rfl | rfl
          · exact a1 hl
          · exact a0 hl
          · exact a1 hl
    · exact absurd aR2 h2.1
theorem aw_Det (v : Value) (w : World) (hv : TblT w v aM2) (hG : Glob w) : Calls Tryz.prog 83 #[v] w fun e w' => e = .returned (.tuple #[.string ⟨#[45, 50]⟩, .int .i64 0]) ∧ Below w.heap.size w w' :=
  (Determinant_c v aM2 w hv (txtOk_of _ (by decide)) hG (fun _ _ => by rw [aV3]; exact detB_ok aD1)).mono fun e w' h => by
    obtain ⟨h1, h2 | h2 | h2⟩ := h
    · have h3 := h2.2.2
      have e1 : ¬ tooLong (-2) := by decide +kernel
      have e2 : rtext (-2) = [45, 50] := by decide +kernel
      rw [aV3, show widM aM2 = 2 from rfl, aD2, writeEnd_ok e1, e2] at h3
      exact ⟨h3, h1⟩
    · exact absurd rfl h2.2.1
    · exact absurd aR3 h2.1
theorem aw_Refute (v u t : Value) (w : World) (hv : TblT w v aM3) (hu : SlW w u (scells aB3)) (ht : SlW w t (scells aY3)) (hG : Glob w) : Calls Tryz.prog 78 #[v, u, t] w fun e w' => e = .returned (.int .i64 0) ∧ Below w.heap.size w w' :=
  (CheckRefute_c v u t aM3 aB3 aY3 w hv hu ht (txtOk_of _ (by decide)) (txtOk_row _ (by decide)) (txtOk_row _ (by decide)) hG (fun _ _ => by rw [aV4, aV5, aV6]; exact refB_ok aF1)).mono fun e w' h => by
    obtain ⟨h1, h2 | h2 | h2⟩ := h
    · obtain ⟨_, _, h3 | h3⟩ := h2
      · exact ⟨h3.2, h1⟩
      · refine absurd ?_ h3.1
        rw [aV4, aV5, aV6]; exact aF2
    · exact absurd aR5 h2.2.1
    · exact absurd aR4 h2.1
/-- the null space over the residues, as the program finds it -/
noncomputable def kerLM (p : Int) (n : Nat) (V : List (List Int)) : List (List Int) := nsBasis (resF p) 0 1 n (elimM (resF p) n (V.map List.reverse)) n
theorem kerLM_of {p : Int} {n : Nat} {R : List RowI} {V : List (List Int)} (h : R.map (·.2.2) = V) :
    nsBasis (resF p) 0 1 n (elGo (resF p) n R.length 0 ⟨mapTo List.reverse R R.length, [], [], false⟩) n = kerLM p n V := by
  have hv2 : valsT (mapTo List.reverse R R.length) = V.map List.reverse := by rw [mapTo_all_vals]; rw [show valsT R = V from h]
  have := elim_same (F := resF p) hv2 n
  rw [mapTo_length] at this
  exact this.nsBasis 0 1 n n
theorem aw_KerM (v : Value) (w : World) (hv : TblS w v [[1, 2], [3, 4]]) : Calls Tryz.prog 87 #[v, .int .i64 2] w fun e w' => (∃ u, e = .returned (.tuple #[u, .int .i64 0]) ∧ TblW w' u [[0, 1]]) ∧ Below w.heap.size w w' :=
  (KernelModulo_c v [[1, 2], [3, 4]] 2 w hv).mono fun e w' h => by
    have a1 : matE [[1, 2], [3, 4]] = 0 := by decide +kernel
    have a2 : IsPr 2 := ⟨by omega, fun d h1 h2 => by omega⟩
    have a3 : kerLM 2 2 [[1, 0], [1, 0]] = [[0, 1]] := by decide +kernel
    have a4 : modM 2 [[1, 2], [3, 4]] = [[1, 0], [1, 0]] := by decide +kernel
    obtain ⟨h1, h2 | h2 | h2⟩ := h
    · obtain ⟨_, _, _, R, u, B, rfl, hR, hT, hBl, hB⟩ := h2
      rw [a4] at hR
      rw [show ((([[1, 2], [3, 4]] : List (List Int))[0]?.map (·.length)).getD 0) = 2 from rfl, kerLM_of hR, a3] at hB
      have := hT.tblW (by omega)
      rw [hB] at this
      exact ⟨⟨_, rfl, this⟩, h1⟩
    · exact absurd ⟨a2, by omega⟩ h2.2.1
    · exact absurd a1 h2.1
theorem bA {w W : World} (h : Below w.heap.size w W) (o : Obj) : Below w.heap.size w (W.alloc o) := h.alloc h.size o
theorem bT {w W W' : World} (h : Below w.heap.size w W) (k : Below W.heap.size W W') : Below w.heap.size w W' := h.trans (k.mono h.size)
theorem aw_si (L : List Int) (v u : Value) (w : World) (hv : SlW w v (icells L)) (hu : SlW w u (icells L)) : Calls Tryz.prog 93 #[v, u] w fun e w' => e = .returned (.bool true) ∧ Below w.heap.size w w' :=
  (refSameInts_c v u L L w hv hu).mono fun e w' h => ⟨by rw [h.1]; simp, h.2⟩
theorem aw_st (L : List (List Int)) (v u : Value) (w : World) (hv : TblW w v L) (hu : TblW w u L) : Calls Tryz.prog 54 #[v, u] w fun e w' => e = .returned (.bool true) ∧ Below w.heap.size w w' :=
  (refSameTable_c v u L L w hv hu).mono fun e w' h => ⟨by rw [h.1]; simp, h.2⟩
theorem aw_sr (L : List Txt) (v u : Value) (w : World) (hv : SlW w v (scells L)) (hu : SlW w u (scells L)) : Calls Tryz.prog 101 #[v, u] w fun e w' => e = .returned (.bool true) ∧ Below w.heap.size w w' :=
  (refSameRow_c v u L L w hv hu).mono fun e w' h => ⟨by rw [h.1]; simp, h.2⟩
theorem aw_sm (L : List (List Txt)) (v u : Value) (w : World) (hv : TblT w v L) (hu : TblT w u L) : Calls Tryz.prog 99 #[v, u] w fun e w' => e = .returned (.bool true) ∧ Below w.heap.size w w' :=
  (refSameMatrix_c v u L L w hv hu).mono fun e w' h => ⟨by rw [h.1]; simp, h.2⟩
theorem aw_n1 (w : World) : Calls Tryz.prog 32 #[.string ⟨#[108, 111, 95, 115, 104, 117]⟩] w fun e w' => e = .returned (.bool true) ∧ Below w.heap.size w w' :=
  (IsName_c ⟨#[108, 111, 95, 115, 104, 117]⟩ w (by decide)).mono fun e w' h => by
    obtain ⟨b, rfl, hb, hB⟩ := h
    refine ⟨?_, hB⟩
    rw [hb.2 ⟨by decide, fun i hi c hc => ?_⟩]
    rcases i with _ | _ | _ | _ | _ | _ | i
    · cases hc; decide
    · cases hc; decide
    · cases hc; decide
    · cases hc; decide
    · cases hc; decide
    · cases hc; decide
    · cases hc
theorem aw_n2 (w : World) : Calls Tryz.prog 32 #[.string ⟨#[51, 120, 51]⟩] w fun e w' => e = .returned (.bool false) ∧ Below w.heap.size w w' :=
  (IsName_c ⟨#[51, 120, 51]⟩ w (by decide)).mono fun e w' h => by
    obtain ⟨b, rfl, hb, hB⟩ := h
    refine ⟨?_, hB⟩
    cases b
    · rfl
    · have := (hb.1 rfl).2 0 (by decide) 51 rfl
      exact absurd this (by decide)
/-- literals -/
theorem litT2 (w : World) (t1 t2 : TypeId) (a b : List Txt) (n : Nat) (ha : a.length = n) (hb : b.length = n) (hn : n ≤ 100) :
    TblT (((w.alloc (.cells (scells a).toArray t1)).alloc (.cells (scells b).toArray t1)).alloc (.cells #[.slice (some ⟨w.heap.size, 0, none⟩) n n, .slice (some ⟨w.heap.size + 1, 0, none⟩) n n] t2)) (.slice (some ⟨w.heap.size + 1 + 1, 0, none⟩) 2 2) [a, b] := by
  have h0 := ((Own.make w t1 (scells a)).alloc (.cells (scells b).toArray t1)).alloc (.cells #[.slice (some ⟨w.heap.size, 0, none⟩) n n, .slice (some ⟨w.heap.size + 1, 0, none⟩) n n] t2)
  have h1 := (Own.make (w.alloc (.cells (scells a).toArray t1)) t1 (scells b)).alloc (.cells #[.slice (some ⟨w.heap.size, 0, none⟩) n n, .slice (some ⟨w.heap.size + 1, 0, none⟩) n n] t2)
  have h2 := Own.make ((w.alloc (.cells (scells a).toArray t1)).alloc (.cells (scells b).toArray t1)) t2 [.slice (some ⟨w.heap.size, 0, none⟩) n n, .slice (some ⟨w.heap.size + 1, 0, none⟩) n n]
  simp only [World.size_alloc] at h1 h2
  exact TblT.two (h2.slW 2 rfl (by decide)) (h0.slW n (by rw [scells_length, ha]) (by omega)) (h1.slW n (by rw [scells_length, hb]) (by omega))
theorem litT1 (w : World) (t1 t2 : TypeId) (a : List Txt) (n : Nat) (ha : a.length = n) (hn : n ≤ 100) :
    TblT ((w.alloc (.cells (scells a).toArray t1)).alloc (.cells #[.slice (some ⟨w.heap.size, 0, none⟩) n n] t2)) (.slice (some ⟨w.heap.size + 1, 0, none⟩) 1 1) [a] := by
  have h0 := (Own.make w t1 (scells a)).alloc (.cells #[.slice (some ⟨w.heap.size, 0, none⟩) n n] t2)
  have h2 := Own.make (w.alloc (.cells (scells a).toArray t1)) t2 [.slice (some ⟨w.heap.size, 0, none⟩) n n]
  simp only [World.size_alloc] at h2
  exact TblT.one (h2.slW 1 rfl (by decide)) (h0.slW n (by rw [scells_length, ha]) (by omega))
theorem litS2 (w : World) (t1 t2 : TypeId) (a b : List Int) (n m : Nat) (ha : a.length = n) (hb : b.length = m) (hn : n ≤ 100) (hm : m ≤ 100) :
    TblS (((w.alloc (.cells (icells a).toArray t1)).alloc (.cells (icells b).toArray t1)).alloc (.cells #[.slice (some ⟨w.heap.size, 0, none⟩) n n, .slice (some ⟨w.heap.size + 1, 0, none⟩) m m] t2)) (.slice (some ⟨w.heap.size + 1 + 1, 0, none⟩) 2 2) [a, b] := by
  have h0 := ((Own.make w t1 (icells a)).alloc (.cells (icells b).toArray t1)).alloc (.cells #[.slice (some ⟨w.heap.size, 0, none⟩) n n, .slice (some ⟨w.heap.size + 1, 0, none⟩) m m] t2)
  have h1 := (Own.make (w.alloc (.cells (icells a).toArray t1)) t1 (icells b)).alloc (.cells #[.slice (some ⟨w.heap.size, 0, none⟩) n n, .slice (some ⟨w.heap.size + 1, 0, none⟩) m m] t2)
  have h2 := Own.make ((w.alloc (.cells (icells a).toArray t1)).alloc (.cells (icells b).toArray t1)) t2 [.slice (some ⟨w.heap.size, 0, none⟩) n n, .slice (some ⟨w.heap.size + 1, 0, none⟩) m m]
  simp only [World.size_alloc] at h1 h2
  exact TblS.two (h2.sl 2 rfl (by decide)) (h0.sl n (by rw [icells_length, ha]) (by omega)) (h1.sl m (by rw [icells_length, hb]) (by omega))
theorem TblS.wide {w : World} {v : Value} {M : List (List Int)} (h : TblS w v M) : TblW w v M := by
  obtain ⟨vs, h1, h2, h3⟩ := h
  exact ⟨vs, h1.wide, h2, fun i r hr => by obtain ⟨u, hu, hs⟩ := h3 i r hr; exact ⟨u, hu, hs.wide⟩⟩
theorem litW1 (w : World) (t1 t2 : TypeId) (a : List Int) (n : Nat) (ha : a.length = n) (hn : n ≤ 100) :
    TblW ((w.alloc (.cells (icells a).toArray t1)).alloc (.cells #[.slice (some ⟨w.heap.size, 0, none⟩) n n] t2)) (.slice (some ⟨w.heap.size + 1, 0, none⟩) 1 1) [a] := by
  have h0 := (Own.make w t1 (icells a)).alloc (.cells #[.slice (some ⟨w.heap.size, 0, none⟩) n n] t2)
  have h2 := Own.make (w.alloc (.cells (icells a).toArray t1)) t2 [.slice (some ⟨w.heap.size, 0, none⟩) n n]
  simp only [World.size_alloc] at h2
  exact TblW.one (h2.slW 1 rfl (by decide)) (h0.slW n (by rw [icells_length, ha]) (by omega))
theorem litI (w : World) (t1 : TypeId) (a : List Int) (n : Nat) (ha : a.length = n) (hn : n ≤ 100) :
    Sl (w.alloc (.cells (icells a).toArray t1)) 1 (.slice (some ⟨w.heap.size, 0, none⟩) n n) (icells a) := (Own.make w t1 (icells a)).sl n (by rw [icells_length, ha]) (by omega)
theorem litX (w : World) (t1 : TypeId) (a : List Txt) (n : Nat) (ha : a.length = n) (hn : n ≤ 100) :
    SlW (w.alloc (.cells (scells a).toArray t1)) (.slice (some ⟨w.heap.size, 0, none⟩) n n) (scells a) := (Own.make w t1 (scells a)).slW n (by rw [scells_length, ha]) (by omega)
theorem TblT.more {w : World} {v : Value} {M : List (List Txt)} (h : TblT w v M) (o : Obj) : TblT (w.alloc o) v M := h.below ((Below.refl _ _).alloc (Nat.le_refl _) _)
theorem SlW.more {w : World} {v : Value} {xs : List Value} (h : SlW w v xs) (o : Obj) : SlW (w.alloc o) v xs := h.below ((Below.refl _ _).alloc (Nat.le_refl _) _)
theorem litXat (w : World) (g : Nat) (hg : w.heap.size = g) (t1 : TypeId) (a : List Txt) (n : Nat) (ha : a.length = n) (hn : n ≤ 100) :
    SlW (w.alloc (.cells (scells a).toArray t1)) (.slice (some ⟨g, 0, none⟩) n n) (scells a) := by subst hg; exact litX w t1 a n ha hn
theorem size3 (w : World) (a b c : Obj) : (((w.alloc a).alloc b).alloc c).heap.size = w.heap.size + 1 + 1 + 1 := by simp
theorem size4 (w : World) (a b c d : Obj) : ((((w.alloc a).alloc b).alloc c).alloc d).heap.size = w.heap.size + 1 + 1 + 1 + 1 := by simp
theorem TblW.more {w : World} {v : Value} {M : List (List Int)} (h : TblW w v M) (o : Obj) : TblW (w.alloc o) v M := h.below ((Below.refl _ _).alloc (Nat.le_refl _) _)
end Go.Proofs.YtneafcdfnhnpnaaGreatDoor
