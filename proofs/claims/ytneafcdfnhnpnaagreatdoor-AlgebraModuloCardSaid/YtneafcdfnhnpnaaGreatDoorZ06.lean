/- Contracts: matrices of integers are read, modulo a prime number. -/
import Derived.Test.YtneafcdfnhnpnaaGreatDoorZ05
import Derived.Test.YtneafcdfnhnpnaaGreatDoorZ03
import Derived.Test.YtneafcdfnhnpnaaGreatDoorZ01
import Derived.Test.YtneafcdfnhnpnaaGreatDoorZSh
namespace Go.Proofs.YtneafcdfnhnpnaaGreatDoor
open Go.RowKit

/-- all numbers of a list are within the bounds of an argument -/
def InBd (L : List Int) : Prop := ∀ x ∈ L, -999999999 ≤ x ∧ x ≤ 999999999
def okInt (x : Int) : Int := inRange x (-999999999) 999999999
theorem okInt_yes {x : Int} (h : -999999999 ≤ x ∧ x ≤ 999999999) : okInt x = 0 := by unfold okInt inRange; rw [if_pos h]
theorem okInt_no {x : Int} (h : ¬ (-999999999 ≤ x ∧ x ≤ 999999999)) : okInt x = 3 := by unfold okInt inRange; rw [if_neg h]
theorem readModulo1_c (x : Int) (w : World) : Calls Tryz.prog 210 #[.int .i64 x] w fun e w' => e = .returned (.tuple #[.int .i64 x, .int .i64 (okInt x)]) ∧ w = w' := by
  obtain ⟨v, hv⟩ : ∃ v, v = okInt x := ⟨_, rfl⟩
  have BD := Lib.hid (fun W => (by rw [hv]; exact bounded_c x W : Calls Tryz.prog 129 #[.int .i64 x] W fun e w' => e = .returned (.int .i64 v) ∧ W = w'))
  rw [← hv]
  clear hv
  go_enter Tryz.func210, Tryz.ntmps210
  go_wp2_with (go_at_call 129; refine (BD.out _).mono ?_; rintro e w' ⟨rfl, rfl⟩)
  go_ret2
  exact ⟨rfl, rfl⟩

def putTo (L : List Int) (k : Nat) : List Int := L.take k ++ List.replicate (L.length - k) 0
theorem putTo_length (L : List Int) (k : Nat) (h : k ≤ L.length) : (putTo L k).length = L.length := by simp [putTo]; omega
theorem putTo_succ (L : List Int) (k : Nat) (h : k < L.length) : (putTo L k).set k (L[k]?.getD 0) = putTo L (k + 1) := by
  unfold putTo
  rw [take_succ_int L k h, List.set_append_right _ _ (by simp; omega), show L.length - k = (L.length - (k + 1)) + 1 by omega, List.replicate_succ, List.length_take, Nat.min_eq_left (by omega), Nat.sub_self, List.set_cons_zero, List.append_assoc]
  rfl
theorem putTo_zero (L : List Int) : putTo L 0 = List.replicate L.length 0 := by simp [putTo]
theorem putTo_all (L : List Int) : putTo L L.length = L := by simp [putTo]
theorem make_64 (w : World) (n : Nat) (hn : n ≤ 17592186044416) : (Instr.makeSlice 192 (.int .i64 (n : Int)) (.int .i64 (n : Int))).run Tryz.prog w = .ok (.slice (some ⟨w.heap.size, 0, none⟩) n n) (w.alloc (.cells (icells (List.replicate n 0)).toArray 2)) := by
  have := make_i64 w n hn
  simpa [fillTo, icells] using this
def convPost (L : List Int) (w : World) (e : Ending) (w' : World) : Prop :=
  Below w.heap.size w w' ∧ ((InBd L ∧ ∃ g, e = .returned (.tuple #[.slice (some ⟨g, 0, none⟩) L.length L.length, .int .i64 0]) ∧ w.heap.size ≤ g ∧ Own w' g 2 (icells L)) ∨ (¬ InBd L ∧ e = .returned (.tuple #[nilV, .int .i64 3])))

set_option maxRecDepth 100000 in
set_option maxHeartbeats 1000000 in
theorem convertI_c (v : Value) (L : List Int) (w : World) (hv : Sl w 1 v (icells L)) (hl : L.length ≤ 1000000) :
    Calls Tryz.prog 238 #[v, .func (.func 210) #[] #[]] w (convPost L w) := by
  obtain ⟨A, c, rfl, hc1, hc2⟩ := hv.form
  simp only [icells_length] at hc1 hv ⊢
  have hmk := make_64 w L.length (by omega)
  have HO := Lib.hid (Own.make w 2 (icells (List.replicate L.length 0)))
  go_enter Tryz.func238, Tryz.ntmps238
  go_wp2_with fail
  go_loopg [15] L.length (fun gh i wr => ∃ k : Nat, i = .int .i64 k ∧ k + gh = L.length ∧ Hid (InBd (L.take k)) ∧ Hid (Own wr w.heap.size 2 (icells (putTo L k))) ∧ Below w.heap.size w wr)
  case atStart => exact ⟨0, rfl, by omega, Lib.hid (by unfold InBd; simp), Lib.hid (by rw [putTo_zero]; exact HO.out), (Below.refl _ _).alloc (Nat.le_refl _) _⟩
  case round =>
    clear hmk HO
    obtain ⟨k, rfl, hk, hI, hO, hB⟩ := hrel
    cases gk with
    | zero =>
      have hkl : k = L.length := by omega
      have hin : ¬ ((k : Int) < (L.length : Int)) := by omega
      have HI := Lib.hid (show InBd L by have := hI.out; rwa [hkl, List.take_of_length_le (Nat.le_refl _)] at this)
      have HO := Lib.hid (show Own wr w.heap.size 2 (icells L) by have := hO.out; rwa [hkl, putTo_all] at this)
      clear hkl hI hO hk
      go_wp2
      go_ret2
      exact ⟨hB, .inl ⟨HI.out, _, rfl, Nat.le_refl _, HO.out⟩⟩
    | succ gh =>
      have hlt : k < L.length := by omega
      obtain ⟨b0, off, rfl, hbb, hcell⟩ := hv.at_ (k := k) (by rw [icells_length]; omega)
      have hck := (hB.cell (p := ⟨b0, off + k, none⟩) hbb).trans ((hcell k (by rw [icells_length]; omega)).trans (icells_at L k hlt))
      have hck2 := (hO.out.cell k).trans (icells_at _ k (by rw [putTo_length L k (by omega)]; omega))
      have hfr := hO.out.free k
      have Hs := Lib.hid (putTo_succ L k hlt)
      have Ht := Lib.hid (take_succ_int L k hlt)
      have Hm : Hid (L[k]?.getD 0 ∈ L) := Lib.hid (by rw [List.getElem?_eq_getElem hlt]; exact List.getElem_mem hlt)
      have Hk := Lib.hid hk
      generalize L[k]?.getD 0 = x at *
      generalize (putTo L k)[k]?.getD 0 = y at *
      clear hcell hv hk
      by_cases hx : -999999999 ≤ x ∧ x ≤ 999999999
      · have HX := Lib.hid hx
        have HE := Lib.hid (okInt_yes hx)
        clear hx
        go_wp2_with (go_at_call 210; refine (readModulo1_c _ _).mono ?_; rintro e w' ⟨rfl, rfl⟩; rw [HE.out])
        have HO2 : Hid (Own (wr.setCell ⟨w.heap.size, k, none⟩ (.int .i64 x)) w.heap.size 2 (icells (putTo L (k + 1)))) := Lib.hid (by rw [← Hs.out, ← icells_set]; exact hO.out.put _ _)
        go_roundg gh
        case rel => exact ⟨k + 1, by go_num, by have := Hk.out; omega, Lib.hid (by rw [Ht.out]; intro z hz; rcases List.mem_append.1 hz with h | h; exact hI.out z h; rw [List.mem_singleton.1 h]; exact HX.out), HO2, hB.setCell (by simp) _⟩
        case measure => omega
      · have HX := Lib.hid hx
        have HE := Lib.hid (okInt_no hx)
        clear hx
        go_wp2_with (go_at_call 210; refine (readModulo1_c _ _).mono ?_; rintro e w' ⟨rfl, rfl⟩; rw [HE.out])
        go_ret2
        exact ⟨hB.setCell (by simp) _, .inr ⟨fun h => HX.out (h _ Hm.out), rfl⟩⟩

/-- a list of lists of integers, as it lies in memory -/
def TblS (w : World) (v : Value) (M : List (List Int)) : Prop :=
  ∃ vs : List Value, Sl w 1 v vs ∧ vs.length = M.length ∧ ∀ (i : Nat) (r : List Int), M[i]? = some r → ∃ u, vs[i]? = some u ∧ Sl w 1 u (icells r)
theorem TblS.below {w w' : World} {v : Value} {M : List (List Int)} (h : TblS w v M) (hb : Below w.heap.size w w') : TblS w' v M := by
  obtain ⟨vs, h1, h2, h3⟩ := h
  exact ⟨vs, h1.below hb, h2, fun i r hr => by obtain ⟨u, hu, hs⟩ := h3 i r hr; exact ⟨u, hu, hs.below hb⟩⟩
instance (L : List Int) : Decidable (InBd L) := by unfold InBd; infer_instance
/-- the first error of rows that are to have n0 numbers each -/
def rowsE (n0 : Nat) : List (List Int) → Int
  | [] => 0
  | r :: t => if 256 < r.length then 5 else if r.length ≠ n0 then 2 else if InBd r then rowsE n0 t else 3
def matE (M : List (List Int)) : Int := if 256 < M.length then 5 else rowsE ((M[0]?.map (·.length)).getD 0) M
theorem rowsE_drop (n0 k : Nat) (M : List (List Int)) {r : List Int} (hr : M[k]? = some r) : rowsE n0 (M.drop k) = if 256 < r.length then 5 else if r.length ≠ n0 then 2 else if InBd r then rowsE n0 (M.drop (k + 1)) else 3 := by
  obtain ⟨hk, rfl⟩ := List.getElem?_eq_some_iff.1 hr
  rw [List.drop_eq_getElem_cons hk]; rfl
def rrPost (M : List (List Int)) (w : World) (e : Ending) (w' : World) : Prop :=
  Below w.heap.size w w' ∧ ((matE M = 0 ∧ ∃ (g : Nat) (R : List RowI), e = .returned (.tuple #[.slice (some ⟨g, 0, none⟩) M.length M.length, .int .i64 0]) ∧ w.heap.size ≤ g ∧ (∀ r ∈ R, w.heap.size ≤ r.1) ∧ MxI w' g R ((M[0]?.map (·.length)).getD 0) ∧ R.map (·.2.2) = M) ∨
    (matE M ≠ 0 ∧ e = .returned (.tuple #[nilV, .int .i64 (matE M)])))
theorem make_rows (w : World) (n : Nat) (hn : n ≤ 1000000) : (Instr.makeSlice 189 (.int .i64 (n : Int)) (.int .i64 (n : Int))).run Tryz.prog w = .ok (.slice (some ⟨w.heap.size, 0, none⟩) n n) (w.alloc (.cells (List.replicate n nilV).toArray 192)) := by
  have := run_make_row' (P := Tryz.prog) 189 192 nilV 24 Tryz.underlying189 info_sl rfl .i64 .i64 n (by omega) (by omega) w
  rw [madeCells_eq] at this
  exact this
/-- the first k rows are made -/
structure RowsTo (w wr : World) (g n : Nat) (M : List (List Int)) (k : Nat) (R : List RowI) : Prop where
  own : Own wr g 192 (R.map (rowV n) ++ List.replicate (M.length - k) nilV)
  rows : ∀ r ∈ R, Own wr r.1 2 (icells r.2.2) ∧ r.2.2.length = n ∧ n ≤ r.2.1 ∧ r.2.1 ≤ 1000000
  new : ∀ r ∈ R, w.heap.size ≤ r.1
  apart : (R.map (·.1)).Nodup
  vals : R.map (·.2.2) = M.take k
theorem RowsTo.len {w wr : World} {g n : Nat} {M : List (List Int)} {k : Nat} {R : List RowI} (h : RowsTo w wr g n M k R) (hk : k ≤ M.length) : R.length = k := by
  have := congrArg List.length h.vals
  simp at this; omega
theorem RowsTo.step {w wr w1 : World} {g n gn : Nat} {M : List (List Int)} {k : Nat} {R : List RowI} {r : List Int} (h : RowsTo w wr g n M k R) (hk : M[k]? = some r) (hl : r.length = n) (hn : n ≤ 1000000) (hb : Below wr.heap.size wr w1) (hg : wr.heap.size ≤ gn) (hgn : w.heap.size ≤ gn) (hO : Own w1 gn 2 (icells r)) :
    RowsTo w (w1.setCell ⟨g, k, none⟩ (.slice (some ⟨gn, 0, none⟩) n n)) g n M (k + 1) (R ++ [(gn, n, r)]) := by
  have hkl : k < M.length := (List.getElem?_eq_some_iff.1 hk).1
  have hR := h.len (by omega)
  have hglt := h.own.lt
  refine ⟨?_, ?_, ?_, ?_, ?_⟩
  · have := (h.own.below hb hglt).put k (.slice (some ⟨gn, 0, none⟩) n n)
    rw [List.set_append_right _ _ (by simp [hR]), show M.length - k = (M.length - (k + 1)) + 1 by omega, List.replicate_succ, List.length_map, hR, Nat.sub_self, List.set_cons_zero] at this
    rw [List.map_append, List.append_assoc]
    exact this
  · intro x hx
    rcases List.mem_append.1 hx with hx | hx
    · have := h.rows x hx
      have hxl := this.1.lt
      exact ⟨(this.1.below hb hxl).other (p := ⟨g, k, none⟩) (fun e => by
        have h1 := this.1
        have h2 := h.own
        unfold Own at h1 h2
        rw [show x.1 = g from e] at h1
        rw [h2] at h1
        injection h1 with h1
        injection h1 with _ h1
        exact absurd h1 (by decide)) _, this.2⟩
    · obtain rfl := List.mem_singleton.1 hx
      exact ⟨hO.other (p := ⟨g, k, none⟩) (fun e => by simp at e; omega) _, hl, Nat.le_refl _, hn⟩
  · intro x hx
    rcases List.mem_append.1 hx with hx | hx
    · exact h.new x hx
    · obtain rfl := List.mem_singleton.1 hx; exact hgn
  · rw [List.map_append, List.nodup_append]
    refine ⟨h.apart, by simp, fun a ha b hb' => ?_⟩
    obtain ⟨x, hx, rfl⟩ := List.mem_map.1 ha
    simp at hb'
    have := (h.rows x hx).1.lt
    omega
  · rw [List.map_append, h.vals, List.take_add_one, hk]; rfl
end Go.Proofs.YtneafcdfnhnpnaaGreatDoor
/- Contract: the rows of a matrix of integers are read. -/
namespace Go.Proofs.YtneafcdfnhnpnaaGreatDoor
open Go.RowKit

set_option maxRecDepth 100000 in
set_option maxHeartbeats 2000000 in
theorem readRowsI_c (v : Value) (M : List (List Int)) (w : World) (hv : TblS w v M) :
    Calls Tryz.prog 209 #[v, .func (.func 210) #[] #[]] w (rrPost M w) := by
  obtain ⟨vs, hs, hvl, hrow⟩ := hv
  obtain ⟨A, c, rfl, hc1, hc2⟩ := hs.form
  have HROW := Lib.hid hrow
  clear hrow
  rw [hvl] at hc1 hs ⊢
  by_cases hbig : 256 < M.length
  · have HE : Hid (matE M = 5) := Lib.hid (by unfold matE; rw [if_pos hbig])
    have hbi : (256 : Int) < (M.length : Int) := by omega
    clear hs
    go_enter Tryz.func209, Tryz.ntmps209
    go_wp2
    go_ret2
    exact ⟨Below.refl _ _, .inr ⟨by rw [HE.out]; decide, by rw [HE.out]; rfl⟩⟩
  · have hbi : ¬ (256 : Int) < (M.length : Int) := by omega
    obtain ⟨n, hn⟩ : ∃ n, n = (M[0]?.map (·.length)).getD 0 := ⟨_, rfl⟩
    have HN := Lib.hid hn
    have HME : Hid (matE M = rowsE n M) := Lib.hid (by unfold matE; rw [if_neg hbig, hn])
    clear hn
    have hmk := make_rows w M.length (by omega)
    have HO := Lib.hid (Own.make w 192 (List.replicate M.length nilV))
    have hB0 : Below w.heap.size w (w.alloc (.cells (List.replicate M.length nilV).toArray 192)) := (Below.refl _ _).alloc (Nat.le_refl _) _
    go_enter Tryz.func209, Tryz.ntmps209
    go_wp2_with fail
    go_loopg [18] M.length (fun gh i wr => ∃ (k : Nat) (R : List RowI), i = .int .i64 k ∧ k + gh = M.length ∧ Hid (rowsE n M = rowsE n (M.drop k)) ∧ Hid (RowsTo w wr w.heap.size n M k R) ∧ Below w.heap.size w wr)
    case atStart => exact ⟨0, [], rfl, by omega, Lib.hid rfl, Lib.hid ⟨by simpa using HO.out, by simp, by simp, by simp, by simp⟩, hB0⟩
    case round =>
      clear hmk HO hB0
      obtain ⟨k, R, rfl, hk, hE, hT, hB⟩ := hrel
      cases gk with
      | zero =>
        have hkl : k = M.length := by omega
        have hin : ¬ ((k : Int) < (M.length : Int)) := by omega
        have HR : Hid (matE M = 0) := Lib.hid (by rw [HME.out, hE.out, hkl, List.drop_length]; rfl)
        have HMX : Hid (MxI wr w.heap.size R n ∧ R.map (·.2.2) = M) := Lib.hid (by
          have h := hT.out
          rw [hkl] at h
          exact ⟨⟨by have := h.own; simpa using this, h.rows, h.apart⟩, by rw [h.vals, List.take_length]⟩)
        have HNW := Lib.hid hT.out.new
        clear hE hT hk hkl
        go_wp2
        go_ret2
        exact ⟨hB, .inl ⟨HR.out, _, R, rfl, Nat.le_refl _, HNW.out, HN.out ▸ HMX.out.1, HMX.out.2⟩⟩
      | succ gh =>
        have hlt : k < M.length := by omega
        have hlt' : (k : Int) < (M.length : Int) := by omega
        obtain ⟨r, hr⟩ : ∃ r, M[k]? = some r := ⟨M[k], List.getElem?_eq_getElem hlt⟩
        obtain ⟨r0, hr0⟩ : ∃ r, M[0]? = some r := ⟨M[0]'(by omega), List.getElem?_eq_getElem _⟩
        have hn0 : r0.length = n := by rw [HN.out, hr0]; rfl
        obtain ⟨u, hu, hus⟩ := HROW.out k r hr
        obtain ⟨u0, hu0, hus0⟩ := HROW.out 0 r0 hr0
        obtain ⟨b0, off, hA, hbb, hcell⟩ := hs.at_ (k := k) (by omega)
        have hc1' := (hB.cell (p := ⟨b0, off + k, none⟩) hbb).trans ((hcell k (by omega)).trans hu)
        have hc0' := (hB.cell (p := ⟨b0, off, none⟩) hbb).trans ((hcell 0 (by omega)).trans hu0)
        obtain ⟨A1, k1, rfl, hk1, hk2⟩ := hus.form
        obtain ⟨A0, k0, rfl, hk3, hk4⟩ := hus0.form
        simp only [icells_length] at hk1 hk3 hus hc1' hc0'
        rw [hn0] at hc0'
        have HD := Lib.hid (rowsE_drop n k M hr)
        have Hk := Lib.hid hk
        have Hr := Lib.hid hr
        have CV := Lib.hid (fun (hl : r.length ≤ 1000000) W (hw : Below w.heap.size w W) => convertI_c (.slice A1 r.length k1) r W (hus.below hw) hl)
        subst hA
        clear hu hu0 hus hus0 hcell hr hr0 hn0 hk hc1 hs
        by_cases h1 : 256 < r.length
        · have hr1 : (256 : Int) < (r.length : Int) := by omega
          have HR : Hid (matE M = 5) := Lib.hid (by rw [HME.out, hE.out, HD.out, if_pos h1])
          go_wp2
          go_ret2
          exact ⟨hB, .inr ⟨by rw [HR.out]; decide, by rw [HR.out]; rfl⟩⟩
        · have hr1 : ¬ (256 : Int) < (r.length : Int) := by omega
          by_cases h2 : r.length = n
          · subst h2
            have CV2 := Lib.hid (CV.out (by omega) wr hB)
            have hgl := hT.out.own.lt
            have hck := (hT.out.own.cell k).trans (show _ = some nilV by
              rw [List.getElem?_append_right (by rw [List.length_map, hT.out.len (by omega)]; exact Nat.le_refl _), List.length_map, hT.out.len (by omega), Nat.sub_self, List.getElem?_replicate, if_pos (by omega)])
            have hfk := hT.out.own.free k
            have hrn : r.length ≤ 256 := by omega
            go_wp2_with fail
            refine CV2.out.mono ?_
            rintro e w1 ⟨hB1, ⟨hib, gn, rfl, hg, hO1⟩ | ⟨hib, rfl⟩⟩
            · have hck1 := (hB1.cell (p := ⟨w.heap.size, k, none⟩) hgl).trans hck
              have hfk1 := (hB1.frozen (p := ⟨w.heap.size, k, none⟩) hgl).trans hfk
              have HT2 := Lib.hid (hT.out.step Hr.out rfl (by omega) hB1 hg (Nat.le_trans hB.size hg) hO1)
              have HE2 : Hid (rowsE r.length M = rowsE r.length (M.drop (k + 1))) := Lib.hid (by rw [hE.out, HD.out, if_neg h1, if_neg (by simp), if_pos hib])
              have HB2 := Lib.hid ((hB.trans (hB1.mono hB.size)).setCell (p := ⟨w.heap.size, k, none⟩) (Nat.le_refl _) (.slice (some ⟨gn, 0, none⟩) r.length r.length))
              clear hT hE hck hfk hib hO1
              go_wp2
              go_roundg gh
              case rel => exact ⟨k + 1, R ++ [(gn, r.length, r)], by go_num, by have := Hk.out; omega, HE2, HT2, HB2.out⟩
              case measure => omega
            · have hck1 := (hB1.cell (p := ⟨w.heap.size, k, none⟩) hgl).trans hck
              have hfk1 := (hB1.frozen (p := ⟨w.heap.size, k, none⟩) hgl).trans hfk
              have HR : Hid (matE M = 3) := Lib.hid (by rw [HME.out, hE.out, HD.out, if_neg h1, if_neg (by simp), if_neg hib])
              have HB2 := Lib.hid ((hB.trans (hB1.mono hB.size)).setCell (p := ⟨w.heap.size, k, none⟩) (Nat.le_refl _) nilV)
              clear hT hE hck hfk hib
              go_wp2
              go_ret2
              exact ⟨HB2.out, .inr ⟨by rw [HR.out]; decide, by rw [HR.out]; rfl⟩⟩
          · have hr2 : ((r.length : Int) != (n : Int)) = true := by simp; omega
            have HR : Hid (matE M = 2) := Lib.hid (by rw [HME.out, hE.out, HD.out, if_neg h1, if_pos h2])
            go_wp2
            go_ret2
            exact ⟨hB, .inr ⟨by rw [HR.out]; decide, by rw [HR.out]; rfl⟩⟩
end Go.Proofs.YtneafcdfnhnpnaaGreatDoor
/- Contract: a matrix of integers is read modulo a prime number. -/
namespace Go.Proofs.YtneafcdfnhnpnaaGreatDoor
open Go.RowKit

theorem PF.of_prime {p : Int} (h : IsPr p) (h2 : p ≤ 999999999) : PF p := by
  refine ⟨h.1, by omega, fun b h0 h1 => ?_⟩
  have hb : (Int.gcd b p : Int) ∣ b := Int.gcd_dvd_left ..
  have hp : (Int.gcd b p : Int) ∣ p := Int.gcd_dvd_right ..
  have hpos : 0 < Int.gcd b p := Int.gcd_pos_of_ne_zero_left _ (by omega)
  have hle : (Int.gcd b p : Int) ≤ b := Int.le_of_dvd h0 hb
  rcases Nat.lt_or_ge (Int.gcd b p) 2 with hl | hl
  · omega
  · exact absurd (Int.emod_eq_zero_of_dvd hp) (h.2 _ (by omega) (by omega))
theorem setRow_twice {T : Type} (R : List (RowT T)) (k : Nat) (L L' : List T) : setRow (setRow R k L) k L' = setRow R k L' := by
  apply List.ext_getElem?
  intro j
  by_cases hj : k = j
  · subst hj
    cases hr : R[k]? with
    | none => simp [setRow, hr]
    | some r => rw [setRow_at (setRow_at hr L), setRow_at hr]
  · rw [setRow_other hj, setRow_other hj, setRow_other hj]
theorem mapFrom_full (f : Int → Int) (L : List Int) : mapFrom f 0 L.length L = L.map f := by
  unfold mapFrom
  apply List.ext_getElem?
  intro j
  rw [List.getElem?_mapIdx, List.getElem?_map]
  rcases Nat.lt_or_ge j L.length with h | h
  · rw [List.getElem?_eq_getElem h]; simp [h]
  · rw [List.getElem?_eq_none h]; rfl
def modM (p : Int) (M : List (List Int)) : List (List Int) := M.map fun r => r.map (· % p)
def rmPost (M : List (List Int)) (p : Int) (w : World) (e : Ending) (w' : World) : Prop :=
  Below w.heap.size w w' ∧ ((matE M = 0 ∧ IsPr p ∧ p ≤ 999999999 ∧ ∃ (g : Nat) (R : List RowI), e = .returned (.tuple #[.slice (some ⟨g, 0, none⟩) M.length M.length, .int .i64 0]) ∧ w.heap.size ≤ g ∧ (∀ r ∈ R, w.heap.size ≤ r.1) ∧ MxI w' g R ((M[0]?.map (·.length)).getD 0) ∧ R.map (·.2.2) = modM p M) ∨
    (matE M = 0 ∧ ¬ (IsPr p ∧ p ≤ 999999999) ∧ e = .returned (.tuple #[nilV, .int .i64 15])) ∨ (matE M ≠ 0 ∧ e = .returned (.tuple #[nilV, .int .i64 (matE M)])))
/-- the first k rows are reduced -/
structure ModTo (p : Int) (n g : Nat) (R : List RowI) (w wr : World) (Q : List RowI) : Prop where
  mx : MxI wr g Q n
  new : ∀ r ∈ R, w.heap.size ≤ r.1
  blocks : Q.map (·.1) = R.map (·.1)
  below : Below w.heap.size w wr
theorem ModTo.newQ {p : Int} {n g : Nat} {R Q : List RowI} {w wr : World} (h : ModTo p n g R w wr Q) {r : RowI} (hr : r ∈ Q) : w.heap.size ≤ r.1 := by
  have : r.1 ∈ R.map (·.1) := by rw [← h.blocks]; exact List.mem_map_of_mem hr
  obtain ⟨q, hq, e⟩ := List.mem_map.1 this
  rw [← e]; exact h.new q hq
theorem ModTo.put {p : Int} {n g : Nat} {R Q : List RowI} {w wr : World} (h : ModTo p n g R w wr Q) {k j : Nat} {r : RowI} (hr : Q[k]? = some r) (x : Int) :
    ModTo p n g R w (wr.setCell ⟨r.1, j, none⟩ (.int .i64 x)) (setRow Q k (r.2.2.set j x)) := by
  have hm := h.mx.row r (List.mem_of_getElem? hr)
  refine ⟨h.mx.setRow hr (by rw [← icells_set]; exact hm.1.put j _) (by rw [List.length_set]; exact hm.2.1) ((But.refl r.1 wr).setCell ⟨r.1, j, none⟩ rfl _), h.new, by rw [setRow_blocks]; exact h.blocks, h.below.setCell (h.newQ (List.mem_of_getElem? hr)) _⟩

theorem mapFrom_step (f : Int → Int) (L : List Int) (j : Nat) (h : j < L.length) : (mapFrom f 0 j L).set j (f (L[j]?.getD 0)) = mapFrom f 0 (j + 1) L := by
  have := mapFrom_succ f 0 j L (by omega)
  simpa using this

set_option maxRecDepth 100000 in
set_option maxHeartbeats 2000000 in
theorem readModulo_c (v : Value) (M : List (List Int)) (p : Int) (w : World) (hv : TblS w v M) :
    Calls Tryz.prog 162 #[v, .int .i64 p] w (rmPost M p w) := by
  have RR := Lib.hid (readRowsI_c v M w hv)
  have PR := Lib.hid (fun W => IsPrime_c p W)
  clear hv
  go_enter Tryz.func162, Tryz.ntmps162
  go_wp2_with fail
  refine RR.out.mono ?_
  clear RR
  rintro e w1 ⟨hB1, ⟨hM, g, R, rfl, hg, hnew, hmx, hvals⟩ | ⟨hM, rfl⟩⟩
  · have HM := Lib.hid hM
    have HB1 := Lib.hid hB1
    have HNew := Lib.hid hnew
    have HMX := Lib.hid hmx
    have HV := Lib.hid hvals
    have HRl : Hid (R.length = M.length) := Lib.hid (by rw [← hvals, List.length_map])
    have hM0 : M.length ≤ 256 := by
      unfold matE at hM
      split at hM
      · cases hM
      · omega
    clear hM hB1 hnew hmx hvals
    by_cases hr : 0 ≤ p ∧ p ≤ 999999999
    · have PR2 : Hid (Calls Tryz.prog 42 #[.int .i64 p] w1 fun e w' => (∃ b : Bool, e = .returned (.tuple #[.bool b, .int .i64 0]) ∧ (b = true ↔ IsPr p)) ∧ w1 = w') := Lib.hid ((PR.out w1).mono fun e w' h => by unfold primePost at h; rw [if_pos hr] at h; exact h)
      by_cases hp : IsPr p
      · have HP := Lib.hid hp
        have HPF := Lib.hid (PF.of_prime hp hr.2)
        have hp1 : 1 ≤ p := by have := hp.1; omega
        have hp2 := hr.2
        clear PR hp hr
        go_wp2_with fail
        refine PR2.out.mono ?_
        rintro e w2 ⟨⟨b, rfl, hb⟩, rfl⟩
        have hbt := hb.2 HP.out
        subst hbt
        clear hb PR2
        generalize hne : (M[0]?.map (·.length)).getD 0 = n at *
        have HN := Lib.hid hne
        clear hne
        go_wp2_with fail
        go_loopg [35] M.length (fun gh i wr => ∃ k : Nat, i = .int .i64 k ∧ k + gh = M.length ∧ Hid (ModTo p n g R w wr (mapTo (·.map (· % p)) R k)))
        case atStart => exact ⟨0, rfl, by omega, Lib.hid ⟨by rw [mapTo_zero]; exact HMX.out, HNew.out, by rw [mapTo_zero], HB1.out⟩⟩
        case round =>
          obtain ⟨k, rfl, hk, hT⟩ := hrel
          cases gk with
          | zero =>
            have hin : ¬ ((k : Int) < (M.length : Int)) := by omega
            have hkR : k = R.length := by have := HRl.out; omega
            go_wp2
            go_ret2
            have h := hT.out
            rw [hkR] at h
            refine ⟨h.below, .inl ⟨HM.out, HP.out, hp2, g, _, rfl, hg, fun r hr => h.newQ hr, HN.out ▸ h.mx, ?_⟩⟩
            rw [mapTo_all, List.map_map, ← HV.out]
            unfold modM
            rw [List.map_map]; rfl
          | succ gh =>
            have hlt : k < M.length := by omega
            have hlt' : (k : Int) < (M.length : Int) := by omega
            obtain ⟨r, hr⟩ : ∃ r, R[k]? = some r := ⟨R[k]'(by rw [HRl.out]; exact hlt), List.getElem?_eq_getElem _⟩
            have hr' := (mapTo_next (f := (·.map (· % p))) (R := R) k).trans hr
            have hck := hT.out.mx.cellRow hr'
            have hgl := hT.out.mx.own.lt
            obtain ⟨_, hrl, hrc1, hrc2⟩ := hT.out.mx.row _ (List.mem_of_getElem? hr')
            have HT0 : Hid (ModTo p n g R w wr (setRow (mapTo (·.map (· % p)) R k) k (mapFrom (· % p) 0 0 r.2.2))) := Lib.hid (by rw [mapFrom_zero, setRow_same hr']; exact hT.out)
            have Hst : Hid (setRow (mapTo (·.map (· % p)) R k) k (mapFrom (· % p) 0 n r.2.2) = mapTo (·.map (· % p)) R (k + 1)) := Lib.hid (by rw [← hrl, mapFrom_full]; exact mapTo_succ (f := (·.map (· % p))) hr)
            have Hr := Lib.hid hr'
            have Hk := Lib.hid hk
            have Hrl := Lib.hid hrl
            clear hr hr' hT hk hrl
            obtain ⟨kb, kc, kl⟩ := r
            unfold rowV at hck
            dsimp only at hck hrc1 hrc2
            go_wp2_with fail
            go_loopg [41] n (fun gh2 ix wx => ∃ j : Nat, ix = .int .i64 j ∧ j + gh2 = n ∧ Hid (ModTo p n g R w wx (setRow (mapTo (·.map (· % p)) R k) k (mapFrom (· % p) 0 j kl))))
            case atStart => exact ⟨0, rfl, by omega, HT0⟩
            case round =>
              clear HT0 hck hgl
              obtain ⟨j, rfl, hj, hTx⟩ := hrel
              cases gk with
              | zero =>
                have hin2 : ¬ ((j : Int) < (n : Int)) := by omega
                have hjn : j = n := by omega
                have HQ := Lib.hid hTx.out
                rw [hjn, Hst.out] at HQ
                clear hjn hTx hj
                go_wp2
                go_roundg gh
                case rel => exact ⟨k + 1, by go_num, by have := Hk.out; omega, HQ⟩
                case measure => omega
              | succ gh2 =>
                have hjl : j < n := by omega
                have hjl' : (j : Int) < (n : Int) := by omega
                have hrow := setRow_at Hr.out (mapFrom (· % p) 0 j kl)
                have c1 := hTx.out.mx.cellNum hrow hjl
                have f1 := (hTx.out.mx.row _ (List.mem_of_getElem? hrow)).1.free j
                have hbl := (hTx.out.mx.row _ (List.mem_of_getElem? hrow)).1.lt
                have hat : (mapFrom (· % p) 0 j kl)[j]? = kl[j]? := by have := mapFrom_at (· % p) 0 j kl; simpa using this
                have Hs := Lib.hid (mapFrom_step (· % p) kl j (by have := Hrl.out; omega))
                dsimp only at c1 f1 hbl
                rw [hat] at c1
                have HP2 := Lib.hid (hTx.out.put (j := j) hrow (kl[j]?.getD 0 % p))
                rw [setRow_twice] at HP2
                dsimp only at HP2
                rw [Hs.out] at HP2
                have Hj := Lib.hid hj
                clear hrow hat Hs hTx hj
                generalize kl[j]?.getD 0 = x at *
                go_wp2_with (go_at_call 190; refine (remainder_c _ _ _ hp1 (by omega)).mono ?_; rintro e w' ⟨rfl, rfl⟩)
                go_roundg gh2
                case rel => exact ⟨j + 1, by go_num, by have := Hj.out; omega, HP2⟩
                case measure => omega
      · have HP := Lib.hid hp
        clear PR hp hr
        go_wp2_with fail
        refine PR2.out.mono ?_
        rintro e w2 ⟨⟨b, rfl, hb⟩, rfl⟩
        have hbt : b = false := by
          cases b with
          | false => rfl
          | true => exact absurd (hb.1 rfl) HP.out
        subst hbt
        clear hb PR2
        go_wp2
        go_ret2
        exact ⟨HB1.out, .inr (.inl ⟨HM.out, fun h => HP.out h.1, rfl⟩)⟩
    · have PR2 : Hid (Calls Tryz.prog 42 #[.int .i64 p] w1 fun e w' => e = .returned (.tuple #[.bool false, .int .i64 3]) ∧ w1 = w') := Lib.hid ((PR.out w1).mono fun e w' h => by unfold primePost at h; rw [if_neg hr] at h; exact h)
      have HR := Lib.hid hr
      clear PR hr
      go_wp2_with fail
      refine PR2.out.mono ?_
      rintro e w2 ⟨rfl, rfl⟩
      clear PR2
      go_wp2
      go_ret2
      exact ⟨HB1.out, .inr (.inl ⟨HM.out, fun h => HR.out ⟨by have := h.1.1; omega, h.2⟩, rfl⟩)⟩
  · have HM := Lib.hid hM
    have HB1 := Lib.hid hB1
    have hb : (matE M != 0) = true := by simpa using hM
    clear hM hB1
    obtain ⟨E, hE⟩ : ∃ E, E = matE M := ⟨_, rfl⟩
    have HE := Lib.hid hE
    rw [← hE] at hb ⊢
    clear hE PR
    go_wp2
    go_ret2
    exact ⟨HB1.out, .inr (.inr ⟨HM.out, by rw [HE.out]; rfl⟩)⟩
end Go.Proofs.YtneafcdfnhnpnaaGreatDoor
/- Contract: the null space of a matrix of integers modulo a prime number. -/
namespace Go.Proofs.YtneafcdfnhnpnaaGreatDoor
open Go.RowKit

/-- a list of lists of integers that a call has made -/
def TblO (w : World) (base : Nat) (v : Value) (B : List (Nat × List Int)) : Prop :=
  w.ownsRow base 50 1 v B.length (B.map fun r => Value.slice (some ⟨r.1, 0, none⟩) r.2.length r.2.length) ∧ ∀ r ∈ B, base ≤ r.1 ∧ Own w r.1 3 (icells r.2) ∧ r.2.length ≤ 1000000
theorem TblO.below {w w' : World} {base : Nat} {v : Value} {B : List (Nat × List Int)} (h : TblO w base v B) (hb : Below w.heap.size w w') : TblO w' base v B :=
  ⟨oBelow h.1 hb, fun r hr => ⟨(h.2 r hr).1, (h.2 r hr).2.1.below hb (h.2 r hr).2.1.lt, (h.2 r hr).2.2⟩⟩
theorem TblO.snoc {w w' : World} {base : Nat} {v v' : Value} {B : List (Nat × List Int)} {gl : Nat} {L : List Int} (h : TblO w base v B) (hg : w.grownBy w' v.ownBlock) (hown : w'.ownsRow base 50 1 v' (B.length + 1) (B.map (fun r => Value.slice (some ⟨r.1, 0, none⟩) r.2.length r.2.length) ++ [.slice (some ⟨gl, 0, none⟩) L.length L.length]))
    (hO : Own w gl 3 (icells L)) (hgl : base ≤ gl) (hl : L.length ≤ 1000000) : TblO w' base v' (B ++ [(gl, L)]) := by
  have hne : ∀ k cs, Own w k 3 cs → v.ownBlock ≠ some k := by
    intro k cs hk e
    rcases h.1.2 with ⟨rfl, _⟩ | ⟨g, cap, cur, rfl, _, hg', _⟩
    · simp [Value.ownBlock] at e
    · simp [Value.ownBlock] at e
      subst e
      unfold Own at hk
      rw [hg'] at hk
      injection hk with hk
      injection hk with _ hk
      exact absurd hk (by decide)
  refine ⟨by rw [List.map_append, List.length_append]; exact hown, fun r hr => ?_⟩
  rcases List.mem_append.1 hr with hr | hr
  · have := h.2 r hr
    exact ⟨this.1, this.2.1.grown hg (hne _ _ this.2.1), this.2.2⟩
  · obtain rfl := List.mem_singleton.1 hr
    exact ⟨hgl, hO.grown hg (hne gl _ hO), hl⟩
theorem oSl {w : World} {base : Nat} {e : TypeId} {v : Value} {n : Nat} {xs : List Value} (h : w.ownsRow base e 1 v n xs) (hn : n ≤ 140737488355328) : SlW w v xs := by
  obtain ⟨A, c, rfl, hc, hm⟩ := oForm h
  have hl : xs.length = n := by have := h.1; omega
  refine ⟨A, c, by rw [hl], by omega, by omega, fun h0 => ?_⟩
  obtain ⟨g, rfl, _, hlt, hcell⟩ := oCell h (j := 0) (by omega)
  exact ⟨g, 0, rfl, hlt, fun j hj => by rw [Nat.zero_add]; exact hcell j (by omega)⟩
/-- a list of lists of integers, as it lies in memory, whatever the capacities are -/
def TblW (w : World) (v : Value) (M : List (List Int)) : Prop :=
  ∃ vs : List Value, SlW w v vs ∧ vs.length = M.length ∧ ∀ (i : Nat) (r : List Int), M[i]? = some r → ∃ u, vs[i]? = some u ∧ SlW w u (icells r)
theorem TblW.below {w w' : World} {v : Value} {M : List (List Int)} (h : TblW w v M) (hb : Below w.heap.size w w') : TblW w' v M := by
  obtain ⟨vs, h1, h2, h3⟩ := h
  exact ⟨vs, h1.below hb, h2, fun i r hr => by obtain ⟨u, hu, hs⟩ := h3 i r hr; exact ⟨u, hu, hs.below hb⟩⟩
theorem TblO.tblW {w : World} {base : Nat} {v : Value} {B : List (Nat × List Int)} (h : TblO w base v B) (hl : B.length ≤ 140737488355328) : TblW w v (B.map (·.2)) := by
  refine ⟨_, oSl h.1 hl, by simp, fun i r hr => ?_⟩
  rw [List.getElem?_map] at hr
  cases hb : B[i]? with
  | none => rw [hb] at hr; cases hr
  | some x =>
    rw [hb] at hr
    obtain rfl := Option.some.inj hr
    have := h.2 x (List.mem_of_getElem? hb)
    exact ⟨_, by rw [List.getElem?_map, hb]; rfl, (this.2.1.sl _ (by rw [icells_length]) (by omega)).wide⟩
theorem info_sli : (Tryz.prog.info? 50).map (fun i => (i.zero, i.size, i.bytes)) = some (some (.slice none 0 0), 1, 24) := by kernel_rfl

theorem putTo_step (L : List Int) (k : Nat) (x : Int) (h : k < L.length) (hx : L[k]?.getD 0 = x) : (putTo L k).set k x = putTo L (k + 1) := by rw [← hx]; exact putTo_succ L k h
/-- what KernelModulo leaves -/
def kmPost (M : List (List Int)) (p : Int) (w : World) (e : Ending) (w' : World) : Prop :=
  Below w.heap.size w w' ∧ ((matE M = 0 ∧ IsPr p ∧ p ≤ 999999999 ∧ ∃ (R : List RowI) (v : Value) (B : List (Nat × List Int)), e = .returned (.tuple #[v, .int .i64 0]) ∧ R.map (·.2.2) = modM p M ∧ TblO w' w.heap.size v B ∧ B.length ≤ 256 ∧
      B.map (·.2) = nsBasis (resF p) 0 1 ((M[0]?.map (·.length)).getD 0) (elGo (resF p) ((M[0]?.map (·.length)).getD 0) R.length 0 ⟨mapTo List.reverse R R.length, [], [], false⟩) ((M[0]?.map (·.length)).getD 0)) ∨
    (matE M = 0 ∧ ¬ (IsPr p ∧ p ≤ 999999999) ∧ e = .returned (.tuple #[nilV, .int .i64 15])) ∨ (matE M ≠ 0 ∧ e = .returned (.tuple #[nilV, .int .i64 (matE M)])))
theorem nsBasis_length {T : Type} (F : Fd T) (zero one : T) (n : Nat) (S : ElS T) (k : Nat) : (nsBasis F zero one n S k).length ≤ k := by
  induction k with
  | zero => simp [nsBasis]
  | succ k ih => unfold nsBasis; rw [List.length_append]; split <;> simp <;> omega
theorem rowsE_ok {n0 : Nat} {M : List (List Int)} (h : rowsE n0 M = 0) : ∀ r ∈ M, r.length ≤ 256 ∧ r.length = n0 ∧ InBd r := by
  induction M with
  | nil => simp
  | cons a t ih =>
    unfold rowsE at h
    split at h
    · cases h
    · split at h
      · cases h
      · split at h
        · intro r hr
          rcases List.mem_cons.1 hr with rfl | hr
          · rename_i h1 h2 h3; exact ⟨by omega, by simpa using h2, h3⟩
          · exact ih h r hr
        · cases h
theorem matE_ok {M : List (List Int)} (h : matE M = 0) : M.length ≤ 256 ∧ ((M[0]?.map (·.length)).getD 0) ≤ 256 ∧ ∀ r ∈ M, r.length = (M[0]?.map (·.length)).getD 0 ∧ InBd r := by
  unfold matE at h
  split at h
  · cases h
  · have hr := rowsE_ok h
    refine ⟨by omega, ?_, fun r h => ⟨(hr r h).2.1, (hr r h).2.2⟩⟩
    cases M with
    | nil => simp
    | cons a t => have := hr a (by simp); simpa using this.1

set_option maxRecDepth 100000 in
set_option maxHeartbeats 2000000 in
theorem KernelModulo_c (v : Value) (M : List (List Int)) (p : Int) (w : World) (hv : TblS w v M) :
    Calls Tryz.prog 87 #[v, .int .i64 p] w (kmPost M p w) := by
  have RM := Lib.hid (readModulo_c v M p w hv)
  clear hv
  obtain ⟨i0, hi0, hz0, hz1, hz2⟩ := info_parts info_sli
  go_enter Tryz.func87, Tryz.ntmps87
  go_wp2_with fail
  refine RM.out.mono ?_
  clear RM
  rintro e w1 ⟨hB1, ⟨hM, hp, hp2, g, R, rfl, hg, hnew, hmx, hvals⟩ | ⟨hM, hp, rfl⟩ | ⟨hM, rfl⟩⟩
  · have HMO := Lib.hid (matE_ok hM)
    have HRl : Hid (R.length = M.length) := Lib.hid (by have := congrArg List.length hvals; simpa [modM] using this)
    have hn1 := (matE_ok hM).2.1
    have hm1 := (matE_ok hM).1
    generalize hne : (M[0]?.map (·.length)).getD 0 = n at *
    have HN := Lib.hid hne
    have NS : Hid (Calls Tryz.prog 164 #[.iface 197 (.agg #[.int .i64 p]), .slice (some ⟨g, 0, none⟩) M.length M.length] w1 (nullPost p n g R w1)) := Lib.hid (by
      have hI : InP p R := by
        intro r hr x hx
        have : r.2.2 ∈ modM p M := by rw [← hvals]; exact List.mem_map_of_mem hr
        obtain ⟨q, _, hq⟩ := List.mem_map.1 this
        rw [← hq] at hx
        obtain ⟨y, _, rfl⟩ := List.mem_map.1 hx
        have := hp.1
        exact ⟨Int.emod_nonneg _ (by omega), Int.emod_lt_of_pos _ (by omega)⟩
      have h := nullSpaceI_c p g M.length n R w1 hmx (by rw [HRl.out]; exact Nat.le_refl _) (by omega) (by omega) (PF.of_prime hp hp2) hI (fun e => by
        have : M = [] := List.length_eq_zero_iff.1 (by rw [← HRl.out, e]; rfl)
        rw [← hne, this]; rfl)
      rw [HRl.out] at h
      exact h)
    have HP := Lib.hid (And.intro hp hp2)
    have HM := Lib.hid hM
    have HB1 := Lib.hid hB1
    have HV := Lib.hid hvals
    have HNew : Hid (∀ k ∈ g :: R.map (·.1), w.heap.size ≤ k) := Lib.hid (by
      intro k hk
      rcases List.mem_cons.1 hk with rfl | hk
      · exact hg
      · obtain ⟨r, hr, rfl⟩ := List.mem_map.1 hk
        exact hnew r hr)
    clear hM hB1 hvals hnew hg hmx hp hp2 hne
    go_wp2_with fail
    refine NS.out.mono ?_
    clear NS
    rintro e w2 ⟨bv, B, rfl, hBe, hT, hbs⟩
    have HB2 : Hid (Below w.heap.size w w2) := Lib.hid (HB1.out.trans ⟨hbs.os, hbs.tape, hbs.output, hbs.size, fun k hk => hbs.block k (Nat.lt_of_lt_of_le hk HB1.out.size) (fun hc => by have := HNew.out k hc; omega)⟩)
    have HBe := Lib.hid hBe
    have hBl : B.length ≤ n := by
      have h1 := congrArg List.length hBe
      rw [List.length_map] at h1
      rw [h1]; exact nsBasis_length ..
    have HT := Lib.hid hT
    obtain ⟨A1, k1, rfl, hk1, hk2⟩ := oForm hT.1
    clear hBe hT hbs HNew HB1
    go_wp2_with fail
    go_loopg [8, 29] B.length (fun gh bs i wr => ∃ (k : Nat) (C : List (Nat × List Int)), i = .int .i64 k ∧ k + gh = B.length ∧ Hid (C.map (·.2) = (B.map (·.2)).take k) ∧ Hid (TblO wr w2.heap.size bs C) ∧ Hid (Below w2.heap.size w2 wr))
    case atStart => exact ⟨0, [], rfl, by omega, Lib.hid rfl, Lib.hid ⟨World.ownsRow_nil _ _ _ _, by simp⟩, Lib.hid (Below.refl _ _)⟩
    case round =>
      obtain ⟨k, C, rfl, hk, hC, hO, hW⟩ := hrel
      have hCl : C.length = k := by
        have h1 := congrArg List.length hC.out
        simp at h1; omega
      cases gk with
      | zero =>
        have hin : ¬ ((k : Int) < (B.length : Int)) := by omega
        have hkB : k = B.length := by omega
        have HCe : Hid (C.map (·.2) = B.map (·.2)) := Lib.hid (by rw [hC.out, List.take_of_length_le (by rw [List.length_map]; omega)])
        have HT2 : Hid (TblO wr w.heap.size u8 C) := Lib.hid ⟨oMono hO.out.1 HB2.out.size, fun r hr => ⟨Nat.le_trans HB2.out.size (hO.out.2 r hr).1, (hO.out.2 r hr).2⟩⟩
        have HBt := Lib.hid (HB2.out.trans (hW.out.mono HB2.out.size))
        clear hkB hC hO hW
        go_wp2
        go_ret2
        exact ⟨HBt.out, .inl ⟨HM.out, HP.out.1, HP.out.2, R, _, C, rfl, HV.out, HT2.out, by omega, by rw [HCe.out, HBe.out, HN.out]⟩⟩
      | succ gh =>
        have hlt : k < B.length := by omega
        have hlt' : (k : Int) < (B.length : Int) := by omega
        obtain ⟨q, hq⟩ : ∃ q, B[k]? = some q := ⟨B[k], List.getElem?_eq_getElem hlt⟩
        obtain ⟨gB, hA, _, hgBl, hcell⟩ := oCell HT.out.1 (j := k) hlt
        have hck : wr.cell? ⟨gB, k, none⟩ = some (.slice (some ⟨q.1, 0, none⟩) n n) := (hW.out.cell (p := ⟨gB, k, none⟩) hgBl).trans ((hcell k hlt).trans (by rw [List.getElem?_map, hq]; rfl))
        obtain ⟨_, hqo, hql⟩ := HT.out.2 q (List.mem_of_getElem? hq)
        have HqO := Lib.hid (hqo.below hW.out hqo.lt)
        have Hq : Hid ((B.map (·.2)).take (k + 1) = (B.map (·.2)).take k ++ [q.2]) := Lib.hid (by rw [List.take_add_one, List.getElem?_map, hq]; rfl)
        have Hk := Lib.hid hk
        have hs2 : w2.heap.size ≤ wr.heap.size := hW.out.size
        subst hA
        clear hcell hqo hq hk
        obtain ⟨bk, L⟩ := q
        dsimp only at hck hql HqO Hq
        have hmk := make_ints wr n (by omega)
        have HO0 : Hid (Own (wr.alloc (.cells (icells (List.replicate n 0)).toArray 3)) wr.heap.size 3 (icells (putTo L 0))) := Lib.hid (by
          rw [putTo_zero, hql]; exact Own.make _ _ _)
        have Hql := Lib.hid hql
        clear hql
        go_wp2_with fail
        obtain ⟨wb, rfl⟩ : ∃ wb, wb = wr := ⟨_, rfl⟩
        go_loopg [38] n (fun gh2 ix wx => ∃ j : Nat, ix = .int .i64 j ∧ j + gh2 = n ∧ Hid (Own wx wb.heap.size 3 (icells (putTo L j))) ∧ Hid (Below wb.heap.size wb wx))
        case atStart => exact ⟨0, rfl, by omega, HO0, Lib.hid ((Below.refl _ _).alloc (Nat.le_refl _) _)⟩
        case round =>
          clear HO0 hmk hck
          obtain ⟨j, rfl, hj, hOx, hBx⟩ := hrel
          cases gk with
          | zero =>
            have hin2 : ¬ ((j : Int) < (n : Int)) := by omega
            have HL2 : Hid (Own wr wb.heap.size 3 (icells L)) := Lib.hid (by
              have : j = L.length := by have := Hql.out; omega
              have h := hOx.out
              rwa [this, putTo_all] at h)
            have HO2 := Lib.hid (hO.out.below hBx.out)
            obtain ⟨A9, k9, hbv, _, _⟩ := oForm HO2.out.1
            have hs3 := hBx.out.size
            have Hj := Lib.hid hj
            have hk7 : C.length + 1 ≤ 1000 := by have := Hk.out; omega
            subst hbv
            clear hO hOx hj
            go_wp2_with (at_builtin; (refine wpList_append_own _ rfl _ _ 57 rfl w2.heap.size 50 i0 (.slice none 0 0) 1 24 Tryz.underlying57 hi0 hz0 hz1 hz2 rfl (by decide) _ _ _ rfl (HO2.out.1.alloc _) ⟨wr.heap.size, 0, none⟩ 1 1 [.slice (some ⟨wb.heap.size, 0, none⟩) n n] rfl rfl (cell_one_new _ _ _) (fun x hx => by simp at hx; subst hx; rfl) (by unfold maxLen; omega) (by omega) (by simp; omega) ?_; intro v7 w7 hown7 hgrow7 _))
            have hal : Below wr.heap.size wr (wr.alloc (.cells #[.slice (some ⟨wb.heap.size, 0, none⟩) n n] 50)) := (Below.refl _ _).alloc (Nat.le_refl _) _
            have HT7 := Lib.hid ((HO2.out.below hal).snoc (L := L) hgrow7 (by rw [Hql.out]; exact hown7) (HL2.out.below hal HL2.out.lt) hs2 (by rw [Hql.out]; omega))
            have HW7 : Hid (Below w2.heap.size w2 w7) := Lib.hid (Below.grown (((hW.out.trans (hBx.out.mono hs2))).alloc (by omega) _) hgrow7 (by simp; omega) (fun j hj => (HO2.out.1.lt j hj).1))
            go_roundg gh
            case rel => exact ⟨k + 1, C ++ [(wb.heap.size, L)], by go_num, by have := Hk.out; omega, Lib.hid (by rw [List.map_append, hC.out, Hq.out]; rfl), HT7, HW7⟩
            case measure => omega
          | succ gh2 =>
            have hjl : j < n := by omega
            have hjl' : (j : Int) < (n : Int) := by omega
            have hjL : j < L.length := by have := Hql.out; omega
            have c1 : wr.cell? ⟨bk, j, none⟩ = some (.int .i64 (L[j]?.getD 0)) := (hBx.out.cell (p := ⟨bk, j, none⟩) HqO.out.lt).trans ((HqO.out.cell j).trans (icells_at L j hjL))
            have c2 := (hOx.out.cell j).trans (icells_at _ j (by rw [putTo_length L j (by omega)]; omega))
            have f2 := hOx.out.free j
            have hbl := HqO.out.lt
            have hs3 := hBx.out.size
            have Hs := Lib.hid (putTo_succ L j hjL)
            have HO3 : Hid (∀ x, L[j]?.getD 0 = x → Own (wr.setCell ⟨wb.heap.size, j, none⟩ (.int .i64 x)) wb.heap.size 3 (icells (putTo L (j + 1)))) := Lib.hid (fun x hx => by rw [← Hs.out, hx, ← icells_set]; exact hOx.out.put _ _)
            have Hj := Lib.hid hj
            clear hOx hj Hs
            generalize hx : L[j]?.getD 0 = x at *
            have HO4 := Lib.hid (HO3.out x rfl)
            have HB4 := Lib.hid (hBx.out.setCell (p := ⟨wb.heap.size, j, none⟩) (Nat.le_refl _) (.int .i64 x))
            clear HO3 hx
            generalize (putTo L j)[j]?.getD 0 = y at *
            go_wp2
            go_roundg gh2
            case rel => exact ⟨j + 1, by go_num, by have := Hj.out; omega, HO4, HB4⟩
            case measure => omega
  · have HM := Lib.hid hM
    have HP := Lib.hid hp
    have HB1 := Lib.hid hB1
    clear hM hp hB1
    go_wp2
    go_ret2
    exact ⟨HB1.out, .inr (.inl ⟨HM.out, HP.out, rfl⟩)⟩
  · have HM := Lib.hid hM
    have HB1 := Lib.hid hB1
    have hb : (matE M != 0) = true := by simpa using hM
    clear hM hB1
    obtain ⟨E, hE⟩ : ∃ E, E = matE M := ⟨_, rfl⟩
    have HE := Lib.hid hE
    rw [← hE] at hb ⊢
    clear hE
    go_wp2
    go_ret2
    exact ⟨HB1.out, .inr (.inr ⟨HM.out, by rw [HE.out]; rfl⟩)⟩
end Go.Proofs.YtneafcdfnhnpnaaGreatDoor
/- Contracts of natural numbers: trimmed, naturalOf, isOne, compare. -/
namespace Go.Proofs.YtneafcdfnhnpnaaGreatDoor
open Go.RowKit

theorem wcells_length (ws : List Nat) : (wcells ws).length = ws.length := by simp [wcells]
theorem wcells_get (ws : List Nat) (k : Nat) (h : k < ws.length) : (wcells ws)[k]? = some (Value.int .u64 ((ws[k]?.getD 0 : Nat) : Int)) := by
  simp [wcells, h]
theorem wcells_take (ws : List Nat) (k : Nat) : (wcells ws).take k = wcells (ws.take k) := by simp [wcells]

set_option maxHeartbeats 400000 in
theorem trimmed_c (A : Option Addr) (c : Nat) (ws : List Nat) (w : World) (hv : Sl w 1 (.slice A ws.length c) (wcells ws)) :
    Calls Tryz.prog 195 #[.slice A ws.length c] w fun e w' => e = .returned (.slice A (wtrim ws).length c) ∧ Sl w 1 (.slice A (wtrim ws).length c) (wcells (wtrim ws)) ∧ w = w' := by
  have hc := hv.form
  obtain ⟨A0, c0, hv0, hc1, hc2⟩ := hc
  rw [wcells_length] at hc1 hv0
  obtain ⟨rfl, rfl⟩ : A = A0 ∧ c = c0 := by simpa using hv0
  clear hv0
  go_enter Tryz.func195, Tryz.ntmps195
  go_wp2
  go_loop [3] (fun u => ∃ k : Nat, u = .int .i64 k ∧ k ≤ ws.length ∧ Hid (wtrim (ws.take k) = wtrim ws)) (fun u => (intOf u).toNat)
  case atStart => exact ⟨ws.length, rfl, by omega, Lib.hid (by simp)⟩
  case round =>
    obtain ⟨k, rfl, hk, hf⟩ := hrel
    by_cases h0 : 0 < k
    · obtain ⟨j, rfl⟩ : ∃ j, k = j + 1 := ⟨k - 1, by omega⟩
      obtain ⟨b, off, rfl, hb, hcell⟩ := hv.at_ (k := j) (by rw [wcells_length]; omega)
      have hck := hcell j (by rw [wcells_length]; omega)
      rw [wcells_get ws j (by omega)] at hck
      have Ht := Lib.hid (take_succ_nat ws j (by omega))
      generalize hx : ws[j]?.getD 0 = x at hck Ht
      clear hx hcell
      by_cases hz : x = 0
      · subst hz
        go_wp2
        refine ⟨⟨j, rfl, by omega, Lib.hid ?_⟩, by simp [intOf]⟩
        rw [← hf.out, Ht.out, wtrim_concat_zero]
      · have hz' : (((x : Nat) : Int) == 0) = false := by simpa using hz
        have hlen : wtrim ws = ws.take (j + 1) := by rw [← hf.out, Ht.out, wtrim_concat _ _ hz]
        have hsl := hv.take (k := j + 1) (by omega)
        rw [wcells_take, ← hlen] at hsl
        have hn : (wtrim ws).length = j + 1 := by rw [hlen]; simp; omega
        have Hn := Lib.hid hn; clear hn
        clear hlen
        go_wp2
        go_ret
        refine ⟨by rw [Hn.out]; rfl, by rw [Hn.out]; exact hsl, rfl⟩
    · have : k = 0 := by omega
      subst this
      have hn : wtrim ws = [] := by rw [← hf.out]; rfl
      have Hn := Lib.hid hn; clear hn
      have hsl := hv.take (k := 0) (by omega)
      go_wp2
      go_ret
      refine ⟨by rw [Hn.out]; rfl, by rw [Hn.out]; exact hsl, rfl⟩

/-- the order of two numbers as a number -/
def ord3 (x y : Nat) : Int := if x < y then -1 else if y < x then 1 else 0

set_option maxHeartbeats 400000 in
theorem cmpCompare_u64_c (x y : Nat) (w : World) :
    Calls Tryz.prog 245 #[.int .u64 x, .int .u64 y] w fun e w' => e = .returned (.int .i64 (ord3 x y)) ∧ w = w' := by
  have n1 : ∀ (z : Nat) (w : World), Calls Tryz.prog 269 #[.int .u64 z] w fun e w' => e = .returned (.bool false) ∧ w = w' := by
    intro z w
    go_enter Tryz.func269, Tryz.ntmps269
    go_wp2
    go_ret
    exact ⟨by simp, rfl⟩
  have N1 := Lib.hid n1; clear n1
  unfold ord3
  by_cases h : x < y
  · rw [if_pos h]
    go_enter Tryz.func245, Tryz.ntmps245
    go_wp2_with (go_at_call 269; refine (N1.out _ _).mono ?_; rintro e w' ⟨rfl, rfl⟩)
    go_ret
    exact ⟨rfl, rfl⟩
  · rw [if_neg h]
    by_cases h2 : y < x
    · rw [if_pos h2]
      go_enter Tryz.func245, Tryz.ntmps245
      go_wp2_with (go_at_call 269; refine (N1.out _ _).mono ?_; rintro e w' ⟨rfl, rfl⟩)
      go_ret
      exact ⟨rfl, rfl⟩
    · rw [if_neg h2]
      go_enter Tryz.func245, Tryz.ntmps245
      go_wp2_with (go_at_call 269; refine (N1.out _ _).mono ?_; rintro e w' ⟨rfl, rfl⟩)
      go_ret
      exact ⟨rfl, rfl⟩

set_option maxHeartbeats 400000 in
theorem cmpCompare_int_c (x y : Nat) (w : World) :
    Calls Tryz.prog 244 #[.int .i64 x, .int .i64 y] w fun e w' => e = .returned (.int .i64 (ord3 x y)) ∧ w = w' := by
  have n1 : ∀ (z : Int) (w : World), Calls Tryz.prog 268 #[.int .i64 z] w fun e w' => e = .returned (.bool false) ∧ w = w' := by
    intro z w
    go_enter Tryz.func268, Tryz.ntmps268
    go_wp2
    go_ret
    exact ⟨by simp, rfl⟩
  have N1 := Lib.hid n1; clear n1
  unfold ord3
  by_cases h : x < y
  · rw [if_pos h]
    go_enter Tryz.func244, Tryz.ntmps244
    go_wp2_with (go_at_call 268; refine (N1.out _ _).mono ?_; rintro e w' ⟨rfl, rfl⟩)
    go_ret
    exact ⟨rfl, rfl⟩
  · rw [if_neg h]
    by_cases h2 : y < x
    · rw [if_pos h2]
      go_enter Tryz.func244, Tryz.ntmps244
      go_wp2_with (go_at_call 268; refine (N1.out _ _).mono ?_; rintro e w' ⟨rfl, rfl⟩)
      go_ret
      exact ⟨rfl, rfl⟩
    · rw [if_neg h2]
      go_enter Tryz.func244, Tryz.ntmps244
      go_wp2_with (go_at_call 268; refine (N1.out _ _).mono ?_; rintro e w' ⟨rfl, rfl⟩)
      go_ret
      exact ⟨rfl, rfl⟩

end Go.Proofs.YtneafcdfnhnpnaaGreatDoor
/- Contracts of natural numbers, as numbers: naturalOf, isOne, compare. -/
namespace Go.Proofs.YtneafcdfnhnpnaaGreatDoor
open Go.RowKit

/-- the slice v holds the words of the number x -/
def Nt (w : World) (v : Value) (x : Nat) : Prop := ∃ ws, wval ws = x ∧ wok ws ∧ wnorm ws ∧ Sl w 1 v (wcells ws)
section
variable {w w' : World} {v : Value} {x : Nat}
theorem Nt.below (h : Nt w v x) (hb : Below w.heap.size w w') : Nt w' v x := by
  obtain ⟨ws, h1, h2, h3, h4⟩ := h
  exact ⟨ws, h1, h2, h3, h4.below hb⟩
theorem Nt.drewN (h : Nt w v x) (k : Nat) : Nt (w.drewN k) v x := h
theorem Nt.drew (h : Nt w v x) : Nt w.drew v x := h
theorem Nt.nil : Nt w (.slice none 0 0) 0 := ⟨[], rfl, wok_nil, rfl, Sl.nil⟩
theorem Nt.open_ (h : Nt w v x) : ∃ ws A c, v = .slice A ws.length c ∧ wval ws = x ∧ wok ws ∧ wnorm ws ∧ ws.length ≤ c ∧ c ≤ 140737488355328 ∧ Sl w 1 (.slice A ws.length c) (wcells ws) := by
  obtain ⟨ws, h1, h2, h3, h4⟩ := h
  obtain ⟨A, c, rfl, h5, h6⟩ := h4.form
  rw [wcells_length] at h5 h4 ⊢
  exact ⟨ws, A, c, rfl, h1, h2, h3, h5, h6, h4⟩
end
theorem Nt.of_trim {w : World} {A : Option Addr} {c : Nat} {ws : List Nat} (hok : wok ws) (h : Sl w 1 (.slice A (wtrim ws).length c) (wcells (wtrim ws))) : Nt w (.slice A (wtrim ws).length c) (wval ws) :=
  ⟨wtrim ws, wtrim_val ws, wtrim_ok hok, wtrim_norm ws, h⟩

theorem trimmed_nat (A : Option Addr) (n c : Nat) (ws : List Nat) (w : World) (hok : wok ws) (hv : Sl w 1 (.slice A n c) (wcells ws)) :
    Calls Tryz.prog 195 #[.slice A n c] w fun e w' => ∃ v, e = .returned v ∧ Nt w v (wval ws) ∧ w = w' := by
  have hn : n = ws.length := by
    obtain ⟨A', c', h, _⟩ := hv.form
    rw [wcells_length] at h
    simp at h; exact h.2.1
  subst hn
  exact (trimmed_c A c ws w hv).mono fun e w' ⟨h1, h2, h3⟩ => ⟨_, h1, Nt.of_trim hok h2, h3⟩

set_option maxHeartbeats 400000 in
theorem naturalOf_c (x : Nat) (w : World) (hx : x < 18446744073709551616) :
    Calls Tryz.prog 189 #[.int .u64 x] w fun e w' => ∃ v, e = .returned v ∧ Nt w' v x ∧ Below w.heap.size w w' := by
  have hs := Lib.hid (Sl.lit w 148 #[.int .u64 x] 1 rfl (by omega))
  go_enter Tryz.func189, Tryz.ntmps189
  go_wp2_with fail
  refine (trimmed_c _ _ [x] _ hs.out).mono ?_
  rintro e w' ⟨rfl, h, rfl⟩
  go_wp2
  go_ret
  exact ⟨_, rfl, (by have := Nt.of_trim (wok_single.2 hx) h; simpa [wval] using this), (Below.refl _ _).alloc (Nat.le_refl _) _⟩

set_option maxHeartbeats 400000 in
theorem isOne_c (v : Value) (x : Nat) (w : World) (h : Nt w v x) :
    Calls Tryz.prog 139 #[v] w fun e w' => e = .returned (.bool (decide (x = 1))) ∧ w = w' := by
  obtain ⟨ws, A, c, rfl, h1, h2, h3, hc1, hc2, hs⟩ := h.open_
  have hone : ∀ y, ws = [y] → x = y := fun y hy => by subst hy; simpa [wval] using h1.symm
  by_cases hl : ws.length = 1
  · obtain ⟨y, rfl⟩ := List.length_eq_one_iff.1 hl
    have hxy := hone y rfl
    subst hxy
    obtain ⟨b, off, rfl, hb, hcell⟩ := hs.at_ (k := 0) (by simp [wcells])
    have hck : w.cell? ⟨b, off, none⟩ = some (Value.int .u64 (x : Int)) := by simpa [wcells] using hcell 0 (by simp [wcells])
    clear hcell hs h hone h1
    by_cases hx : x = 1
    · subst hx
      go_enter Tryz.func139, Tryz.ntmps139
      go_wp2
      go_ret
      exact ⟨rfl, rfl⟩
    · have hb2 : ((x : Int) == 1) = false := by simpa using (by omega : ¬ (x : Int) = 1)
      have hd := Lib.hid (decide_eq_false hx)
      go_enter Tryz.func139, Tryz.ntmps139
      go_wp2
      go_ret
      exact ⟨by rw [hd.out]; rfl, rfl⟩
  · have hx : ¬ x = 1 := by
      intro hx
      have h4 : ws.length ≤ 1 := wnorm_length h3 (n := 1) (by rw [h1, hx]; decide)
      have h5 : ws = [] := List.length_eq_zero_iff.1 (by omega)
      subst h5
      simp [wval] at h1
      omega
    have hb2 : ((ws.length : Int) == 1) = false := by simpa using (by omega : ¬ (ws.length : Int) = 1)
    have hd := Lib.hid (decide_eq_false hx)
    clear hs h hone
    go_enter Tryz.func139, Tryz.ntmps139
    go_wp2
    go_ret
    exact ⟨by rw [hd.out]; rfl, rfl⟩

set_option maxHeartbeats 800000 in
theorem compare_c (v u : Value) (x y : Nat) (w : World) (h : Nt w v x) (h' : Nt w u y) :
    Calls Tryz.prog 220 #[v, u] w fun e w' => e = .returned (.int .i64 (ord3 x y)) ∧ ∃ n, w' = w.drewN n := by
  obtain ⟨ws, A, c, rfl, h1, h2, h3, hc1, hc2, hs⟩ := h.open_
  obtain ⟨us, B, d, rfl, g1, g2, g3, gc1, gc2, gs⟩ := h'.open_
  subst h1 g1
  by_cases hl : ws.length = us.length
  · have hb : ((ws.length : Int) != (us.length : Int)) = false := by rw [hl]; simp
    have Hl := Lib.hid hl
    clear hl
    go_enter Tryz.func220, Tryz.ntmps220
    go_wp2
    go_loopw [5] (fun i wr => ∃ (k n : Nat), i = .int .i64 ((k : Int) - 1) ∧ k ≤ ws.length ∧ Hid (ws.drop k = us.drop k) ∧ wr = w.drewN n) (fun i _ => (intOf i + 1).toNat)
    case atStart => exact ⟨ws.length, 0, rfl, by omega, Lib.hid (by simp [Hl.out]), rfl⟩
    case round =>
      obtain ⟨k, n, rfl, hk, hd, rfl⟩ := hrel
      by_cases hk0 : k = 0
      · subst hk0
        have he : ws = us := by simpa using hd.out
        have ho : ord3 (wval ws) (wval us) = 0 := by rw [he]; simp [ord3]
        have Ho := Lib.hid ho
        clear he ho
        go_wp2
        go_ret
        exact ⟨by rw [Ho.out]; rfl, n, rfl⟩
      · obtain ⟨j, rfl⟩ : ∃ j, k = j + 1 := ⟨k - 1, by omega⟩
        have hj2 : j < us.length := by have := Hl.out; omega
        obtain ⟨b, off, rfl, hbb, hcell⟩ := hs.at_ (k := j) (by rw [wcells_length]; omega)
        obtain ⟨b', off', rfl, hbb', hcell'⟩ := gs.at_ (k := j) (by rw [wcells_length]; omega)
        have hck := hcell j (by rw [wcells_length]; omega)
        have hck' := hcell' j (by rw [wcells_length]; omega)
        rw [wcells_get ws j (by omega)] at hck
        rw [wcells_get us j (by omega)] at hck'
        have Hlt := fun hlt => Lib.hid (wval_lt_at h2 Hl.out j (by omega) hd.out hlt)
        have Hgt := fun hlt => Lib.hid (wval_lt_at g2 Hl.out.symm j (by omega) hd.out.symm hlt)
        have Hdj : Hid (ws[j]?.getD 0 = us[j]?.getD 0 → ws.drop j = us.drop j) := by
          apply Lib.hid
          intro e
          rw [List.drop_eq_getElem_cons (by omega : j < ws.length), List.drop_eq_getElem_cons hj2, hd.out]
          congr 1
          simpa [List.getElem?_eq_getElem (by omega : j < ws.length), List.getElem?_eq_getElem hj2] using e
        generalize ws[j]?.getD 0 = p at *
        generalize us[j]?.getD 0 = q at *
        clear hcell hcell' hs gs h h'
        have ej : ((j + 1 : Nat) : Int) - 1 = (j : Int) := by omega
        rw [ej]
        by_cases hpq : p = q
        · subst hpq
          go_wp2
          go_quiet (fail)
          go_wp2
          refine ⟨⟨j, n + nq, rfl, by omega, Lib.hid (Hdj.out trivial), by simp⟩, by simp [intOf]⟩
        · have hne : ((p : Int) != (q : Int)) = true := by simpa using (by omega : ¬ (p : Int) = q)
          have Ho : Hid (ord3 p q = ord3 (wval ws) (wval us)) := by
            apply Lib.hid
            unfold ord3
            rcases Nat.lt_or_gt_of_ne hpq with hlt | hlt
            · rw [if_pos hlt, if_pos (Hlt hlt).out]
            · have := (Hgt hlt).out
              rw [if_neg (by omega), if_pos hlt, if_neg (by omega), if_pos this]
          clear Hlt Hgt Hdj
          go_wp2
          go_quiet (fail)
          go_wp2
          have hck2 : ((w.drewN n).drewN nq).cell? ⟨b, off + j, none⟩ = some (Value.int .u64 (p : Int)) := hck
          have hck3 : ((w.drewN n).drewN nq).cell? ⟨b', off' + j, none⟩ = some (Value.int .u64 (q : Int)) := hck'
          have Hw2 : Hid (∃ m, (w.drewN n).drewN nq = w.drewN m) := ⟨n + nq, World.drewN_drewN _ _ _⟩
          clear hck hck'
          generalize (w.drewN n).drewN nq = w2 at *
          go_big_quiet ((go_at_call 245; exact quietSame (cmpCompare_u64_c _ _ _)))
          go_wp2
          go_ret
          obtain ⟨m, rfl⟩ := Hw2
          exact ⟨ret_int Ho.out, m + nq, by simp⟩
  · have hb : ((ws.length : Int) != (us.length : Int)) = true := by simpa using (by omega : ¬ (ws.length : Int) = us.length)
    have Ho : Hid (ord3 ws.length us.length = ord3 (wval ws) (wval us)) := by
      apply Lib.hid
      unfold ord3
      rcases Nat.lt_or_gt_of_ne hl with hlt | hlt
      · rw [if_pos hlt, if_pos (wval_lt_of_length h2 g3 hlt)]
      · have := wval_lt_of_length g2 h3 hlt
        rw [if_neg (by omega), if_pos hlt, if_neg (by omega), if_pos this]
    go_enter Tryz.func220, Tryz.ntmps220
    go_wp2_with (go_at_call 244; refine (cmpCompare_int_c _ _ _).mono ?_; rintro e w' ⟨rfl, rfl⟩)
    go_ret
    exact ⟨ret_int Ho.out, 0, rfl⟩

end Go.Proofs.YtneafcdfnhnpnaaGreatDoor
/- Plain mathematics of sums, differences and products of numbers as lists of words. -/
namespace Go.Proofs.YtneafcdfnhnpnaaGreatDoor

theorem wval_take_succ (ws : List Nat) (k : Nat) : wval (ws.take (k + 1)) = wval (ws.take k) + WB ^ k * ws[k]?.getD 0 := by
  rcases Nat.lt_or_ge k ws.length with h | h
  · rw [take_succ_nat ws k h, wval_concat, List.length_take, Nat.min_eq_left (by omega)]
  · rw [List.take_of_length_le (by omega), List.take_of_length_le h, List.getElem?_eq_none h]; simp
theorem take_set_le (L : List Nat) (k x j : Nat) (h : j ≤ k) : (L.set k x).take j = L.take j := by
  rw [List.take_set_of_le h]
theorem get_set_same (L : List Nat) (k x : Nat) (h : k < L.length) : (L.set k x)[k]?.getD 0 = x := by simp [h]
theorem get_set_other (L : List Nat) (k x j : Nat) (h : k ≠ j) : (L.set k x)[j]?.getD 0 = L[j]?.getD 0 := by simp [h]
theorem wval_set_take (L : List Nat) (k x : Nat) (h : k < L.length) : wval ((L.set k x).take (k + 1)) = wval (L.take k) + WB ^ k * x := by
  rw [wval_take_succ, take_set_le _ _ _ _ (Nat.le_refl _), get_set_same L k x h]
theorem wok_set {L : List Nat} (h : wok L) (k x : Nat) (hx : x < WB) : wok (L.set k x) := by
  intro y hy
  rcases List.mem_or_eq_of_mem_set hy with h1 | h1
  · exact h y h1
  · omega
theorem wok_replicate (n : Nat) : wok (List.replicate n 0) := by
  intro x hx; rw [List.eq_of_mem_replicate hx]; decide
theorem wval_take_le (ws : List Nat) (k : Nat) : wval (ws.take k) ≤ wval ws := by
  conv => rhs; rw [← List.take_append_drop k ws]
  rw [wval_append]; omega

/-- the differences of the first k words are taken; br is what is borrowed -/
def SubInv (xs bs L : List Nat) (k br : Nat) : Prop := L.length = xs.length ∧ wok L ∧ br ≤ 1 ∧ wval (xs.take k) + WB ^ k * br = wval (L.take k) + wval (bs.take k)
theorem SubInv.start (xs bs : List Nat) : SubInv xs bs (List.replicate xs.length 0) 0 0 := ⟨by simp, wok_replicate _, by omega, by simp [wval]⟩
theorem SubInv.step {xs bs L : List Nat} {k br d br' : Nat} (h : SubInv xs bs L k br) (hk : k < xs.length) (hd : d < WB) (hb : br' ≤ 1)
    (he : xs[k]?.getD 0 + WB * br' = d + bs[k]?.getD 0 + br) : SubInv xs bs (L.set k d) (k + 1) br' := by
  obtain ⟨h1, h2, h3, h4⟩ := h
  refine ⟨by simp [h1], wok_set h2 k d hd, hb, ?_⟩
  rw [wval_take_succ xs, wval_take_succ bs, wval_set_take L k d (by omega), Nat.pow_succ]
  have e : WB ^ k * (xs[k]?.getD 0 + WB * br') = WB ^ k * (d + bs[k]?.getD 0 + br) := by rw [he]
  simp only [Nat.mul_add, Nat.mul_assoc] at e ⊢
  omega
theorem SubInv.last {xs bs L : List Nat} {br : Nat} (h : SubInv xs bs L xs.length br) (hl : bs.length ≤ xs.length) (hle : wval bs ≤ wval xs) : wval L = wval xs - wval bs := by
  obtain ⟨h1, h2, h3, h4⟩ := h
  rw [List.take_of_length_le (Nat.le_refl _), List.take_of_length_le (by omega), List.take_of_length_le hl] at h4
  have h5 := wval_lt h2
  rw [h1] at h5
  have : br = 0 := by
    rcases Nat.lt_or_ge br 1 with hb | hb
    · omega
    · have hb1 : br = 1 := by omega
      subst hb1
      omega
  subst this
  omega

/-- the sums of the first k words are taken; c is the carry -/
def AddInv (xs bs L : List Nat) (k c : Nat) : Prop := L.length = xs.length + 1 ∧ wok L ∧ c ≤ 1 ∧ wval (xs.take k) + wval (bs.take k) = wval (L.take k) + WB ^ k * c
theorem AddInv.start (xs bs : List Nat) : AddInv xs bs (List.replicate (xs.length + 1) 0) 0 0 := ⟨by simp, wok_replicate _, by omega, by simp [wval]⟩
theorem AddInv.step {xs bs L : List Nat} {k c d c' : Nat} (h : AddInv xs bs L k c) (hk : k < xs.length) (hd : d < WB) (hb : c' ≤ 1)
    (he : xs[k]?.getD 0 + bs[k]?.getD 0 + c = d + WB * c') : AddInv xs bs (L.set k d) (k + 1) c' := by
  obtain ⟨h1, h2, h3, h4⟩ := h
  refine ⟨by simp [h1], wok_set h2 k d hd, hb, ?_⟩
  rw [wval_take_succ xs, wval_take_succ bs, wval_set_take L k d (by omega), Nat.pow_succ]
  have e : WB ^ k * (xs[k]?.getD 0 + bs[k]?.getD 0 + c) = WB ^ k * (d + WB * c') := by rw [he]
  simp only [Nat.mul_add, Nat.mul_assoc] at e ⊢
  omega
theorem AddInv.last {xs bs L : List Nat} {c : Nat} (h : AddInv xs bs L xs.length c) (hl : bs.length ≤ xs.length) :
    wval (L.set xs.length c) = wval xs + wval bs ∧ wok (L.set xs.length c) ∧ (L.set xs.length c).length = xs.length + 1 := by
  obtain ⟨h1, h2, h3, h4⟩ := h
  rw [List.take_of_length_le (Nat.le_refl _), List.take_of_length_le hl] at h4
  refine ⟨?_, wok_set h2 _ _ (by have : (2 : Nat) ≤ WB := by decide
                                 omega), by simp [h1]⟩
  have := wval_set_take L xs.length c (by omega)
  rw [List.take_of_length_le (by simp [h1])] at this
  omega

/-- the first k words are multiplied -/
def MulInv (xs L : List Nat) (f a k : Nat) : Prop := L.length = xs.length + 1 ∧ wok L ∧ wval (L.take (k + 1)) = wval (xs.take k) * f + a
theorem MulInv.start (xs : List Nat) (f a : Nat) (ha : a < WB) : MulInv xs ((List.replicate (xs.length + 1) 0).set 0 a) f a 0 := by
  refine ⟨by simp, wok_set (wok_replicate _) _ _ ha, ?_⟩
  rw [wval_set_take _ _ _ (by simp)]; simp [wval]
theorem MulInv.step {xs L : List Nat} {f a k d c hi lo : Nat} (h : MulInv xs L f a k) (hk : k < xs.length) (hd : d < WB) (hc : hi + c < WB)
    (hp : xs[k]?.getD 0 * f = hi * WB + lo) (he : L[k]?.getD 0 + lo = d + WB * c) : MulInv xs ((L.set k d).set (k + 1) (hi + c)) f a (k + 1) := by
  obtain ⟨h1, h2, h3⟩ := h
  refine ⟨by simp [h1], wok_set (wok_set h2 k d hd) _ _ hc, ?_⟩
  rw [wval_set_take _ _ _ (by simp; omega), wval_set_take L k d (by omega), wval_take_succ xs, Nat.pow_succ]
  rw [wval_take_succ] at h3
  have e : WB ^ k * (L[k]?.getD 0 + lo) = WB ^ k * (d + WB * c) := by rw [he]
  have e2 : WB ^ k * (xs[k]?.getD 0 * f) = WB ^ k * (hi * WB + lo) := by rw [hp]
  simp only [Nat.mul_add, Nat.add_mul, Nat.mul_assoc] at e e2 h3 ⊢
  rw [Nat.mul_comm hi WB] at e2
  omega
theorem MulInv.last {xs L : List Nat} {f a : Nat} (h : MulInv xs L f a xs.length) : wval L = wval xs * f + a := by
  obtain ⟨h1, h2, h3⟩ := h
  rw [List.take_of_length_le (by omega), List.take_of_length_le (Nat.le_refl _)] at h3
  exact h3
theorem mul_word (x f : Nat) (hx : x < WB) (hf : f < WB) : x * f / WB < WB ∧ x * f / WB * WB + x * f % WB = x * f ∧ x * f % WB < WB ∧ (∀ r < WB, x * f / WB + (r + x * f % WB) / WB < WB) := by
  have h1 : x * f ≤ (WB - 1) * (WB - 1) := Nat.mul_le_mul (by omega) (by omega)
  refine ⟨?_, ?_, Nat.mod_lt _ (by decide), fun r hr => ?_⟩
  · rw [Nat.div_lt_iff_lt_mul (by decide)]; unfold WB at *; omega
  · rw [Nat.mul_comm]; exact Nat.div_add_mod _ _
  · have h2 := Nat.div_add_mod (x * f) WB
    unfold WB at *
    omega

/-- the words from k on are divided; r is the rest -/
def DivInv (xs L : List Nat) (b k r : Nat) : Prop := L.length = xs.length ∧ wok L ∧ r < b ∧ wval (xs.drop k) = wval (L.drop k) * b + r
theorem DivInv.start (xs : List Nat) (b : Nat) (hb : 0 < b) : DivInv xs (List.replicate xs.length 0) b xs.length 0 :=
  ⟨by simp, wok_replicate _, hb, by simp [wval]⟩
theorem drop_cons (L : List Nat) (k : Nat) (h : k < L.length) : L.drop k = L[k]?.getD 0 :: L.drop (k + 1) := by
  rw [List.drop_eq_getElem_cons h, List.getElem?_eq_getElem h]; rfl
theorem DivInv.step {xs L : List Nat} {b k r : Nat} (h : DivInv xs L b (k + 1) r) (hk : k < xs.length) (hb : 0 < b) (hq : (r * WB + xs[k]?.getD 0) / b < WB) :
    DivInv xs (L.set k ((r * WB + xs[k]?.getD 0) / b)) b k ((r * WB + xs[k]?.getD 0) % b) := by
  obtain ⟨h1, h2, h3, h4⟩ := h
  refine ⟨by simp [h1], wok_set h2 _ _ hq, Nat.mod_lt _ hb, ?_⟩
  rw [drop_cons xs k hk, drop_cons (L.set k _) k (by simp; omega), get_set_same _ _ _ (by omega), List.drop_set_of_lt (by omega)]
  simp only [wval, h4]
  have := Nat.div_add_mod (r * WB + xs[k]?.getD 0) b
  generalize (r * WB + xs[k]?.getD 0) / b = q at *
  generalize (r * WB + xs[k]?.getD 0) % b = r' at *
  have e : WB * (wval (L.drop (k + 1)) * b + r) = WB * wval (L.drop (k + 1)) * b + r * WB := by rw [Nat.mul_add, Nat.mul_assoc, Nat.mul_comm WB r]
  rw [e, Nat.add_mul, Nat.mul_comm q b]
  omega
theorem div_word {b r x : Nat} (hr : r < b) (hx : x < WB) : (r * WB + x) / b < WB := by
  rw [Nat.div_lt_iff_lt_mul (by omega), Nat.mul_comm WB b]
  have : (r + 1) * WB ≤ b * WB := Nat.mul_le_mul_right _ hr
  rw [Nat.add_mul] at this
  omega
theorem DivInv.last {xs L : List Nat} {b r : Nat} (h : DivInv xs L b 0 r) : wval L = wval xs / b ∧ r = wval xs % b := by
  obtain ⟨h1, h2, h3, h4⟩ := h
  simp only [List.drop_zero] at h4
  rw [h4]
  refine ⟨?_, ?_⟩
  · rw [Nat.mul_comm, Nat.mul_add_div (by omega), Nat.div_eq_of_lt h3]; omega
  · rw [Nat.mul_comm, Nat.mul_add_mod, Nat.mod_eq_of_lt h3]

theorem wval_set (L : List Nat) (j d : Nat) (h : j < L.length) : wval (L.set j d) + WB ^ j * L[j]?.getD 0 = wval L + WB ^ j * d := by
  rw [wval_split L j h, wval_split (L.set j d) j (by simpa using h), take_set_le _ _ _ _ (Nat.le_refl _), get_set_same L j d h, List.drop_set_of_lt (by omega)]
  simp only [Nat.mul_add]; omega

/-- the first k words of bs, times f, are added to the words of L0 from off on; c is the carry -/
def APInv (bs L0 L : List Nat) (f off k c : Nat) : Prop := L.length = L0.length ∧ wok L ∧ L.drop (off + bs.length) = L0.drop (off + bs.length) ∧ c < WB ∧
  wval L + WB ^ (off + k) * c = wval L0 + WB ^ off * (wval (bs.take k) * f)
theorem APInv.start {bs L0 : List Nat} (f off : Nat) (h : wok L0) : APInv bs L0 L0 f off 0 0 := ⟨rfl, h, rfl, by decide, by simp [wval]⟩
theorem APInv.step {bs L0 L : List Nat} {f off k c d c' : Nat} (h : APInv bs L0 L f off k c) (hk : k < bs.length) (hlen : off + bs.length ≤ L0.length) (hd : d < WB) (hc : c' < WB)
    (he : d + WB * c' = L[off + k]?.getD 0 + c + bs[k]?.getD 0 * f) : APInv bs L0 (L.set (off + k) d) f off (k + 1) c' := by
  obtain ⟨h1, h2, h3, h4, h5⟩ := h
  refine ⟨by simp [h1], wok_set h2 _ _ hd, by rw [List.drop_set_of_lt (by omega)]; exact h3, hc, ?_⟩
  have hs := wval_set L (off + k) d (by omega)
  rw [wval_take_succ bs, show off + (k + 1) = (off + k) + 1 from by omega, Nat.pow_succ]
  have e : WB ^ (off + k) * (d + WB * c') = WB ^ (off + k) * (L[off + k]?.getD 0 + c + bs[k]?.getD 0 * f) := by rw [he]
  have e2 : WB ^ off * (WB ^ k * bs[k]?.getD 0 * f) = WB ^ (off + k) * (bs[k]?.getD 0 * f) := by rw [Nat.pow_add, Nat.mul_assoc, Nat.mul_assoc]
  simp only [Nat.mul_add, Nat.add_mul, e2] at e hs h5 ⊢
  rw [Nat.mul_assoc (WB ^ (off + k)) WB c']
  omega
theorem ap_words (x f c z : Nat) (hx : x < WB) (hf : f < WB) (hc : c < WB) (hz : z < WB) :
    ∃ hi lo l1 o1 d o2 : Nat, x * f = hi * WB + lo ∧ lo < WB ∧ lo + c = l1 + WB * o1 ∧ l1 < WB ∧ o1 ≤ 1 ∧ hi + o1 < WB ∧ z + l1 = d + WB * o2 ∧ d < WB ∧ o2 ≤ 1 ∧ hi + o1 + o2 < WB ∧ d + WB * (hi + o1 + o2) = z + c + x * f := by
  have h1 : x * f ≤ (WB - 1) * (WB - 1) := Nat.mul_le_mul (by omega) (by omega)
  have h2 := Nat.div_add_mod (x * f) WB
  have h3 := Nat.mod_lt (x * f) (show 0 < WB by decide)
  generalize x * f / WB = hi at *
  generalize x * f % WB = lo at *
  generalize x * f = p at *
  unfold WB at *
  refine ⟨hi, lo, (lo + c) % 18446744073709551616, (lo + c) / 18446744073709551616, (z + (lo + c) % 18446744073709551616) % 18446744073709551616, (z + (lo + c) % 18446744073709551616) / 18446744073709551616, ?_, ?_, ?_, ?_, ?_, ?_, ?_, ?_, ?_, ?_, ?_⟩ <;> omega

/-- the product of the first k words of xs and bs, with zeros above -/
def TimesInv (xs bs L : List Nat) (k : Nat) : Prop := L.length = xs.length + bs.length ∧ wok L ∧ wval L = wval (xs.take k) * wval bs ∧ L.drop (k + bs.length) = List.replicate (xs.length - k) 0
theorem TimesInv.start (xs bs : List Nat) : TimesInv xs bs (List.replicate (xs.length + bs.length) 0) 0 := by
  refine ⟨by simp, wok_replicate _, ?_, by simp⟩
  simp only [List.take_zero, wval, Nat.zero_mul]
  induction (xs.length + bs.length) with
  | zero => rfl
  | succ n ih => simp [List.replicate_succ, wval, ih]
theorem TimesInv.step {xs bs L L' : List Nat} {k c : Nat} (h : TimesInv xs bs L k) (hk : k < xs.length) (ha : APInv bs L L' (xs[k]?.getD 0) k bs.length c) :
    TimesInv xs bs (L'.set (k + bs.length) c) (k + 1) := by
  obtain ⟨h1, h2, h3, h4⟩ := h
  obtain ⟨a1, a2, a3, a4, a5⟩ := ha
  have hs := wval_set L' (k + bs.length) c (by omega)
  have hz : L'[k + bs.length]?.getD 0 = 0 := by
    have : L'.drop (k + bs.length) = List.replicate (xs.length - k) 0 := by rw [a3, h4]
    have e : (L'.drop (k + bs.length))[0]?.getD 0 = L'[k + bs.length]?.getD 0 := by simp
    rw [← e, this]
    rw [List.getElem?_replicate]; split <;> rfl
  rw [hz] at hs
  refine ⟨by simp; omega, wok_set a2 _ _ a4, ?_, ?_⟩
  · rw [wval_take_succ xs]
    rw [List.take_of_length_le (Nat.le_refl _), h3] at a5
    simp only [Nat.add_mul]
    rw [Nat.mul_assoc, Nat.mul_comm (xs[k]?.getD 0) (wval bs)]
    omega
  · rw [show k + 1 + bs.length = k + bs.length + 1 from by omega, List.drop_set_of_lt (by omega), ← List.drop_drop, a3, h4, List.drop_replicate]
    congr 1
theorem TimesInv.last {xs bs L : List Nat} (h : TimesInv xs bs L xs.length) : wval L = wval xs * wval bs := by
  obtain ⟨h1, h2, h3, h4⟩ := h
  rw [h3, List.take_of_length_le (Nat.le_refl _)]

end Go.Proofs.YtneafcdfnhnpnaaGreatDoor
/- The division of two words by one. -/
namespace Go.Proofs.YtneafcdfnhnpnaaGreatDoor
open Go.RowKit

theorem mul64_c (x y hi lo : Nat) (w : World) (hx : x < WB) (hy : y < WB) (h : x * y = hi * WB + lo) (hlo : lo < WB) :
    Calls Tryz.prog 193 #[.int .u64 x, .int .u64 y] w fun e w' => e = .returned (.tuple #[.int .u64 hi, .int .u64 lo]) ∧ w = w' := by
  refine (Tryz.bits_Mul64 x y hx hy w).mono fun e w' ⟨h1, h2⟩ => ⟨?_, h2.symm⟩
  have e1 : x * y / 18446744073709551616 = hi := by unfold WB at *; omega
  have e2 : x * y % 18446744073709551616 = lo := by unfold WB at *; omega
  rw [h1, e1, e2]

set_option maxHeartbeats 1000000 in
theorem div64_one (lo y q r : Nat) (w : World) (hl : lo < WB) (h : lo = q * y + r) (hr : r < y) :
    Calls Tryz.prog 234 #[.int .u64 0, .int .u64 lo, .int .u64 y] w fun e w' => e = .returned (.tuple #[.int .u64 q, .int .u64 r]) ∧ ∃ n, w' = w.drewN n := by
  have hy0 : ((y : Int) == 0) = false := by simpa using (by omega : ¬ (y : Int) = 0)
  have hq : lo / y = q := by rw [h, Nat.mul_comm, Nat.mul_add_div (by omega), Nat.div_eq_of_lt hr]; omega
  have hm : lo % y = r := by rw [h, Nat.mul_comm, Nat.mul_add_mod, Nat.mod_eq_of_lt hr]
  have Hq := Lib.hid hq; clear hq
  have Hm := Lib.hid hm; clear hm
  have H := Lib.hid h; clear h
  unfold WB at hl
  go_enter Tryz.func234, Tryz.ntmps234
  go_wp2
  go_quiet (fail)
  go_wp2
  go_ret2
  refine ⟨?_, nq, rfl⟩
  have e1 : ((lo : Int) / (y : Int)) = (q : Int) := by rw [← Hq.out]; rfl
  have e2 : ((lo : Int) % (y : Int)) = (r : Int) := by rw [← Hm.out]; rfl
  have e3 : q ≤ lo := by rw [← Hq.out]; exact Nat.div_le_self _ _
  exact ret2_int (by rw [e1, IntWalk.u64_in _ (by omega)]) e2

/-- what the division of two words by one says for all words -/
def Div64Said : Prop := ∀ (hi lo y q r : Nat) (w : World), hi < y → lo < WB → y < WB → hi * WB + lo = q * y + r → r < y →
    Calls Tryz.prog 234 #[.int .u64 hi, .int .u64 lo, .int .u64 y] w fun e w' => e = .returned (.tuple #[.int .u64 q, .int .u64 r]) ∧ ∃ n, w' = w.drewN n

end Go.Proofs.YtneafcdfnhnpnaaGreatDoor
/- Contracts: sums, differences. -/
namespace Go.Proofs.YtneafcdfnhnpnaaGreatDoor
open Go.RowKit

/-- how many words a number may have -/
@[irreducible] def fitsLim : Nat := 8000000000000
theorem fitsLim_le : fitsLim ≤ 8000000000000 := by unfold fitsLim; exact Nat.le_refl _
theorem fitsLim_ge : 8000000000000 ≤ fitsLim := by unfold fitsLim; exact Nat.le_refl _
/-- numbers short enough for a slice of words -/
def Big (x : Nat) : Prop := x < WB ^ fitsLim
/-- what is still to be said of long numbers: the division of two words by one, long division, common divisors of long numbers -/
structure Deeps : Prop where
  div : Div64Said
  long : ∀ (v u : Value) (x y : Nat) (w : World), Nt w v x → Nt w u y → WB ≤ y → y ≤ x → Big x →
    Calls Tryz.prog 247 #[v, u] w fun e w' => ∃ q r, e = .returned (.tuple #[q, r]) ∧ Nt w' q (x / y) ∧ Nt w' r (x % y) ∧ Below w.heap.size w w'
  gcd : ∀ (v u : Value) (x y : Nat) (w : World), Nt w v x → Nt w u y → WB ≤ x → WB ≤ y → Big x → Big y →
    Calls Tryz.prog 172 #[v, u] w fun e w' => ∃ g, e = .returned g ∧ Nt w' g (Nat.gcd x y) ∧ Below w.heap.size w w'
/-- numbers of one word; or of any length, if all is said of long numbers -/
def Fits (x : Nat) : Prop := x < WB ∨ (Deeps ∧ Big x)
theorem Fits.small {x : Nat} (h : x < WB) : Fits x := .inl h
theorem Fits.big {x : Nat} (h : Fits x) : Big x := by
  rcases h with h | h
  · have h1 : WB ^ 1 ≤ WB ^ fitsLim := Nat.pow_le_pow_right (by decide) (Nat.le_trans (by decide) fitsLim_ge)
    rw [Nat.pow_one] at h1
    exact Nat.lt_of_lt_of_le h h1
  · exact h.2
theorem Fits.deep {x : Nat} (h : Fits x) (hx : WB ≤ x) : Deeps := by
  rcases h with h | h
  · omega
  · exact h.1
theorem Fits.le {x y : Nat} (h : Fits x) (hle : y ≤ x) : Fits y := by
  rcases h with h | h
  · exact .inl (Nat.lt_of_le_of_lt hle h)
  · exact .inr ⟨h.1, Nat.lt_of_le_of_lt hle h.2⟩
theorem Fits.len {ws : List Nat} (h : wnorm ws) {x : Nat} (hx : wval ws = x) (hf : Fits x) : ws.length ≤ 8000000000000 :=
  Nat.le_trans (wnorm_length h (by rw [hx]; exact hf.big)) fitsLim_le
theorem Fits.words {ws : List Nat} (h : wnorm ws) {x : Nat} (hx : wval ws = x) (hf : Fits x) : ws.length ≤ 1 ∨ Deeps := by
  rcases hf with hf | hf
  · exact .inl (wnorm_length h (n := 1) (by rw [hx, Nat.pow_one]; exact hf))
  · exact .inr hf.1
/-- how long a text's number may be -/
def OkLen (n : Nat) : Prop := n ≤ 19 ∨ Deeps
theorem OkLen.le {n m : Nat} (h : OkLen n) (hm : m ≤ n) : OkLen m := by
  rcases h with h | h
  · exact .inl (by omega)
  · exact .inr h
theorem Fits.of_pow {x k : Nat} (h : x < 10 ^ k) (hd : OkLen k) (hk : k ≤ 8000000000000) : Fits x := by
  rcases hd with hd | hd
  · refine .inl (Nat.lt_of_lt_of_le h ?_)
    have : 10 ^ k ≤ 10 ^ 19 := Nat.pow_le_pow_right (by decide) hd
    exact Nat.le_trans this (by decide)
  · refine .inr ⟨hd, ?_⟩
    have h1 : 10 ^ k ≤ WB ^ k := Nat.pow_le_pow_left (by decide) k
    have h2 : WB ^ k ≤ WB ^ fitsLim := Nat.pow_le_pow_right (by decide) (Nat.le_trans hk fitsLim_ge)
    exact Nat.lt_of_lt_of_le h (Nat.le_trans h1 h2)
theorem div64_at (hi lo y q r : Nat) (w : World) (hd : hi = 0 ∨ Deeps) (h1 : hi < y) (h2 : lo < WB) (h3 : y < WB) (h4 : hi * WB + lo = q * y + r) (h5 : r < y) :
    Calls Tryz.prog 234 #[.int .u64 hi, .int .u64 lo, .int .u64 y] w fun e w' => e = .returned (.tuple #[.int .u64 q, .int .u64 r]) ∧ ∃ n, w' = w.drewN n := by
  rcases hd with rfl | hd
  · exact div64_one lo y q r w h2 (by omega) h5
  · exact hd.div hi lo y q r w h1 h2 h3 h4 h5

set_option maxHeartbeats 1000000 in
theorem minus_c (v u : Value) (x y : Nat) (w : World) (h : Nt w v x) (h' : Nt w u y) (hle : y ≤ x) (hf : Fits x) :
    Calls Tryz.prog 229 #[v, u] w fun e w' => ∃ v, e = .returned v ∧ Nt w' v (x - y) ∧ Below w.heap.size w w' := by
  obtain ⟨xs, A, c, rfl, h1, h2, h3, hc1, hc2, hs⟩ := h.open_
  obtain ⟨bs, B, d, rfl, g1, g2, g3, gc1, gc2, gs⟩ := h'.open_
  have hlen := Fits.len h3 h1 hf
  subst h1 g1
  have hbl : bs.length ≤ xs.length := by
    rcases Nat.lt_or_ge xs.length bs.length with hl | hl
    · have := wval_lt_of_length h2 g3 hl; omega
    · exact hl
  have hmk := make_nat w xs.length (by omega)
  clear h h'
  go_enter Tryz.func229, Tryz.ntmps229
  go_wp2
  go_loopw [6, 7, 8, 15] (fun br _ _ i wr => ∃ (k b : Nat) (L : List Nat), i = .int .i64 k ∧ br = .int .u64 b ∧ k ≤ bs.length ∧ Hid (SubInv xs bs L k b) ∧ Own wr w.heap.size 148 (wcells L) ∧ Below w.heap.size w wr) (fun _ _ _ i _ => bs.length - (intOf i).toNat)
  case atStart => exact ⟨0, 0, _, rfl, rfl, by omega, Lib.hid (SubInv.start xs bs), Own.make _ _ _, (Below.refl _ _).alloc (Nat.le_refl _) _⟩
  case round =>
    obtain ⟨k, b, L, rfl, rfl, hk, hI, hO, hB⟩ := hrel
    have hb1 : b ≤ 1 := hI.out.2.2.1
    have hLl : L.length = xs.length := hI.out.1
    by_cases hlt : k < bs.length
    · obtain ⟨b0, off, rfl, hbb, hcell⟩ := hs.at_ (k := k) (by rw [wcells_length]; omega)
      obtain ⟨b1, off1, rfl, hbb1, hcell1⟩ := gs.at_ (k := k) (by rw [wcells_length]; omega)
      have hck := (hB.cell (p := ⟨b0, off + k, none⟩) hbb).trans ((hcell k (by rw [wcells_length]; omega)).trans (wcells_at xs k (by omega)))
      have hck1 := (hB.cell (p := ⟨b1, off1 + k, none⟩) hbb1).trans ((hcell1 k (by rw [wcells_length]; omega)).trans (wcells_at bs k (by omega)))
      have hck2 := (hO.cell k).trans (wcells_at L k (by omega))
      have hfr := hO.free k
      have hwx := wok_get h2 k
      have hwy := wok_get g2 k
      have Hst := fun d br' a1 a2 a3 => Lib.hid (SubInv.step hI.out (d := d) (br' := br') (by omega) a1 a2 a3)
      generalize xs[k]?.getD 0 = x at *
      generalize bs[k]?.getD 0 = y at *
      generalize L[k]?.getD 0 = z at *
      clear hcell hcell1 hs gs hLl
      unfold WB at hwx hwy
      have hlk : k < xs.length := by omega
      go_wp2_with (first | simp only [sub64 (x : Int) (y : Int) (b : Int) (by omega) (by omega) (by omega) (by omega) (by omega) (by omega)])
      obtain ⟨d, br, e1, e2, a1, a2, a3⟩ := sub_words x y b hwx hwy hb1
      rw [e1, e2]
      refine ⟨⟨k + 1, br, _, by go_num, rfl, by omega, Hst d br a1 a2 a3, ?_, hB.setCell (by simp) _⟩, by simp [intOf]; omega⟩
      rw [← wcells_set]; exact hO.put k _
    · have hkk : k = bs.length := by omega
      subst hkk
      go_wp2
      go_loopw [6, 9] (fun br i wr => ∃ (k b : Nat) (L : List Nat), i = .int .i64 k ∧ br = .int .u64 b ∧ bs.length ≤ k ∧ k ≤ xs.length ∧ Hid (SubInv xs bs L k b) ∧ Own wr w.heap.size 148 (wcells L) ∧ Below w.heap.size w wr) (fun _ i _ => xs.length - (intOf i).toNat)
      case atStart => exact ⟨bs.length, b, L, rfl, rfl, by omega, by omega, hI, hO, hB⟩
      case round =>
        clear hI hO hB hb1 hLl
        obtain ⟨k, b, L, rfl, rfl, hk1, hk, hI, hO, hB⟩ := hrel
        have hb1 : b ≤ 1 := hI.out.2.2.1
        have hLl : L.length = xs.length := hI.out.1
        by_cases hlt : k < xs.length
        · obtain ⟨b0, off, rfl, hbb, hcell⟩ := hs.at_ (k := k) (by rw [wcells_length]; omega)
          have hck := (hB.cell (p := ⟨b0, off + k, none⟩) hbb).trans ((hcell k (by rw [wcells_length]; omega)).trans (wcells_at xs k (by omega)))
          have hck2 := (hO.cell k).trans (wcells_at L k (by omega))
          have hfr := hO.free k
          have hwx := wok_get h2 k
          have hz : bs[k]?.getD 0 = 0 := by rw [List.getElem?_eq_none (by omega)]; rfl
          have Hst := fun d br' a1 a2 a3 => Lib.hid (SubInv.step hI.out (d := d) (br' := br') (by omega) a1 a2 a3)
          rw [hz] at Hst
          clear hz
          generalize xs[k]?.getD 0 = x at *
          generalize L[k]?.getD 0 = z at *
          clear hcell hs gs hLl
          unfold WB at hwx
          go_wp2_with (first | simp only [sub64_y0 (x : Int) (b : Int) (by omega) (by omega) (by omega) (by omega)])
          obtain ⟨d, br, e1, e2, a1, a2, a3⟩ := sub_words0 x b hwx hb1
          rw [e1, e2]
          refine ⟨⟨k + 1, br, _, by go_num, rfl, by omega, by omega, Hst d br a1 a2 a3, ?_, hB.setCell (by simp) _⟩, by simp [intOf]; omega⟩
          rw [← wcells_set]; exact hO.put k _
        · have hkk : k = xs.length := by omega
          subst hkk
          have hval := Lib.hid (hI.out.last hbl hle)
          have hok := hI.out.2.1
          have hsl := hO.sl xs.length (by rw [wcells_length]; omega) (by omega)
          go_wp2_with (go_at_call 195; refine (trimmed_nat _ _ _ _ _ hok hsl).mono ?_; rintro e w' ⟨v, rfl, hv, rfl⟩)
          go_ret
          refine ⟨v, rfl, ?_, hB⟩
          rw [← hval.out]; exact hv

set_option maxRecDepth 100000 in
set_option maxHeartbeats 1000000 in
/-- the sum, the longer number first -/
theorem plus_long (v u : Value) (x y : Nat) (xs bs : List Nat) (A B : Option Addr) (c d : Nat) (w : World) (hv : v = .slice A xs.length c) (hu : u = .slice B bs.length d) (h1 : wval xs = x) (h2 : wok xs) (g1 : wval bs = y) (g2 : wok bs)
    (hs : Sl w 1 (.slice A xs.length c) (wcells xs)) (gs : Sl w 1 (.slice B bs.length d) (wcells bs)) (hbl : bs.length ≤ xs.length) (hlen : xs.length ≤ 8000000000000) :
    Calls Tryz.prog 228 #[v, u] w fun e w' => ∃ v, e = .returned v ∧ Nt w' v (x + y) ∧ Below w.heap.size w w' := by
  subst hv hu h1 g1
  have hmk := make_nat w (xs.length + 1) (by omega)
  rw [show ((xs.length + 1 : Nat) : Int) = (xs.length : Int) + 1 from by omega] at hmk
  have hdl : decide (xs.length < bs.length) = false := by simpa using hbl
  go_enter Tryz.func228, Tryz.ntmps228
  go_wp2
  go_loopw [6, 7, 8, 23] (fun cr _ _ i wr => ∃ (k b : Nat) (L : List Nat), i = .int .i64 k ∧ cr = .int .u64 b ∧ k ≤ bs.length ∧ Hid (AddInv xs bs L k b) ∧ Own wr w.heap.size 148 (wcells L) ∧ Below w.heap.size w wr) (fun _ _ _ i _ => bs.length - (intOf i).toNat)
  case atStart => exact ⟨0, 0, _, rfl, rfl, by omega, Lib.hid (AddInv.start xs bs), Own.make _ _ _, (Below.refl _ _).alloc (Nat.le_refl _) _⟩
  case round =>
    obtain ⟨k, b, L, rfl, rfl, hk, hI, hO, hB⟩ := hrel
    have hb1 : b ≤ 1 := hI.out.2.2.1
    have hLl : L.length = xs.length + 1 := hI.out.1
    by_cases hlt : k < bs.length
    · obtain ⟨b0, off, rfl, hbb, hcell⟩ := hs.at_ (k := k) (by rw [wcells_length]; omega)
      obtain ⟨b1, off1, rfl, hbb1, hcell1⟩ := gs.at_ (k := k) (by rw [wcells_length]; omega)
      have hck := (hB.cell (p := ⟨b0, off + k, none⟩) hbb).trans ((hcell k (by rw [wcells_length]; omega)).trans (wcells_at xs k (by omega)))
      have hck1 := (hB.cell (p := ⟨b1, off1 + k, none⟩) hbb1).trans ((hcell1 k (by rw [wcells_length]; omega)).trans (wcells_at bs k (by omega)))
      have hck2 := (hO.cell k).trans (wcells_at L k (by omega))
      have hfr := hO.free k
      have hwx := wok_get h2 k
      have hwy := wok_get g2 k
      have Hst := fun d br' a1 a2 a3 => Lib.hid (AddInv.step hI.out (d := d) (c' := br') (by omega) a1 a2 a3)
      generalize xs[k]?.getD 0 = x at *
      generalize bs[k]?.getD 0 = y at *
      generalize L[k]?.getD 0 = z at *
      clear hcell hcell1 hs gs hLl
      unfold WB at hwx hwy
      have hlk : k < xs.length := by omega
      go_wp2_with (first | simp only [add64 (x : Int) (y : Int) (b : Int) (by omega) (by omega) (by omega) (by omega) (by omega) (by omega)])
      obtain ⟨d, br, e1, e2, a1, a2, a3⟩ := add_words x y b hwx hwy hb1
      rw [e1, e2]
      refine ⟨⟨k + 1, br, _, by go_num, rfl, by omega, Hst d br a1 a2 a3, ?_, hB.setCell (by simp) _⟩, by simp [intOf]; omega⟩
      rw [← wcells_set]; exact hO.put k _
    · have hkk : k = bs.length := by omega
      subst hkk
      go_wp2
      go_loopw [6, 9] (fun br i wr => ∃ (k b : Nat) (L : List Nat), i = .int .i64 k ∧ br = .int .u64 b ∧ bs.length ≤ k ∧ k ≤ xs.length ∧ Hid (AddInv xs bs L k b) ∧ Own wr w.heap.size 148 (wcells L) ∧ Below w.heap.size w wr) (fun _ i _ => xs.length - (intOf i).toNat)
      case atStart => exact ⟨bs.length, b, L, rfl, rfl, by omega, by omega, hI, hO, hB⟩
      case round =>
        clear hI hO hB hb1 hLl
        obtain ⟨k, b, L, rfl, rfl, hk1, hk, hI, hO, hB⟩ := hrel
        have hb1 : b ≤ 1 := hI.out.2.2.1
        have hLl : L.length = xs.length + 1 := hI.out.1
        by_cases hlt : k < xs.length
        · obtain ⟨b0, off, rfl, hbb, hcell⟩ := hs.at_ (k := k) (by rw [wcells_length]; omega)
          have hck := (hB.cell (p := ⟨b0, off + k, none⟩) hbb).trans ((hcell k (by rw [wcells_length]; omega)).trans (wcells_at xs k (by omega)))
          have hck2 := (hO.cell k).trans (wcells_at L k (by omega))
          have hfr := hO.free k
          have hwx := wok_get h2 k
          have hz : bs[k]?.getD 0 = 0 := by rw [List.getElem?_eq_none (by omega)]; rfl
          have Hst := fun d br' a1 a2 a3 => Lib.hid (AddInv.step hI.out (d := d) (c' := br') (by omega) a1 a2 a3)
          rw [hz] at Hst
          clear hz
          generalize xs[k]?.getD 0 = x at *
          generalize L[k]?.getD 0 = z at *
          clear hcell hs gs hLl
          unfold WB at hwx
          go_wp2_with (first | simp only [add64_y0 (x : Int) (b : Int) (by omega) (by omega) (by omega) (by omega)])
          obtain ⟨d, br, e1, e2, a1, a2, a3⟩ := add_words0 x b hwx (by unfold WB; omega)
          rw [e1, e2]
          refine ⟨⟨k + 1, br, _, by go_num, rfl, by omega, by omega, Hst d br a1 a2 (by omega), ?_, hB.setCell (by simp) _⟩, by simp [intOf]; omega⟩
          rw [← wcells_set]; exact hO.put k _
        · have hkk : k = xs.length := by omega
          subst hkk
          have hval := Lib.hid (hI.out.last hbl)
          have hck2 := (hO.cell xs.length).trans (wcells_at L xs.length (by omega))
          generalize L[xs.length]?.getD 0 = z at *
          have hfr := hO.free xs.length
          have hO2 := hO.put xs.length (.int .u64 (b : Int))
          rw [wcells_set] at hO2
          have hsl := Lib.hid (hO2.sl (xs.length + 1) (by rw [wcells_length]; exact hval.out.2.2) (by omega))
          clear hLl
          go_wp2_with (go_at_call 195; refine (trimmed_nat _ _ _ _ _ hval.out.2.1 hsl.out).mono ?_; rintro e w' ⟨v, rfl, hv, rfl⟩)
          go_ret
          refine ⟨v, rfl, ?_, hB.setCell (by simp) _⟩
          rw [← hval.out.1]; exact hv

set_option maxRecDepth 100000 in
set_option maxHeartbeats 1000000 in
/-- the sum, the shorter number first -/
theorem plus_short (v u : Value) (x y : Nat) (zs bs : List Nat) (A B : Option Addr) (c d : Nat) (w : World) (hv : v = .slice A zs.length c) (hu : u = .slice B bs.length d) (h1 : wval zs = x) (h2 : wok zs) (g1 : wval bs = y) (g2 : wok bs)
    (hs : Sl w 1 (.slice A zs.length c) (wcells zs)) (gs : Sl w 1 (.slice B bs.length d) (wcells bs)) (hbl : bs.length < zs.length) (hlen : zs.length ≤ 8000000000000) :
    Calls Tryz.prog 228 #[u, v] w fun e w' => ∃ v, e = .returned v ∧ Nt w' v (x + y) ∧ Below w.heap.size w w' := by
  subst hv hu h1 g1
  have hmk := make_nat w (zs.length + 1) (by omega)
  rw [show ((zs.length + 1 : Nat) : Int) = (zs.length : Int) + 1 from by omega] at hmk
  have hdl : decide (bs.length < zs.length) = true := by simpa using hbl
  go_enter Tryz.func228, Tryz.ntmps228
  go_wp2
  go_loopw [6, 7, 8, 23] (fun cr _ _ i wr => ∃ (k b : Nat) (L : List Nat), i = .int .i64 k ∧ cr = .int .u64 b ∧ k ≤ bs.length ∧ Hid (AddInv zs bs L k b) ∧ Own wr w.heap.size 148 (wcells L) ∧ Below w.heap.size w wr) (fun _ _ _ i _ => bs.length - (intOf i).toNat)
  case atStart => exact ⟨0, 0, _, rfl, rfl, by omega, Lib.hid (AddInv.start zs bs), Own.make _ _ _, (Below.refl _ _).alloc (Nat.le_refl _) _⟩
  case round =>
    obtain ⟨k, b, L, rfl, rfl, hk, hI, hO, hB⟩ := hrel
    have hb1 : b ≤ 1 := hI.out.2.2.1
    have hLl : L.length = zs.length + 1 := hI.out.1
    by_cases hlt : k < bs.length
    · obtain ⟨b0, off, rfl, hbb, hcell⟩ := hs.at_ (k := k) (by rw [wcells_length]; omega)
      obtain ⟨b1, off1, rfl, hbb1, hcell1⟩ := gs.at_ (k := k) (by rw [wcells_length]; omega)
      have hck := (hB.cell (p := ⟨b0, off + k, none⟩) hbb).trans ((hcell k (by rw [wcells_length]; omega)).trans (wcells_at zs k (by omega)))
      have hck1 := (hB.cell (p := ⟨b1, off1 + k, none⟩) hbb1).trans ((hcell1 k (by rw [wcells_length]; omega)).trans (wcells_at bs k (by omega)))
      have hck2 := (hO.cell k).trans (wcells_at L k (by omega))
      have hfr := hO.free k
      have hwx := wok_get h2 k
      have hwy := wok_get g2 k
      have Hst := fun d br' a1 a2 a3 => Lib.hid (AddInv.step hI.out (d := d) (c' := br') (by omega) a1 a2 a3)
      generalize zs[k]?.getD 0 = x at *
      generalize bs[k]?.getD 0 = y at *
      generalize L[k]?.getD 0 = z at *
      clear hcell hcell1 hs gs hLl
      unfold WB at hwx hwy
      have hlk : k < zs.length := by omega
      go_wp2_with (first | simp only [add64 (x : Int) (y : Int) (b : Int) (by omega) (by omega) (by omega) (by omega) (by omega) (by omega)])
      obtain ⟨d, br, e1, e2, a1, a2, a3⟩ := add_words x y b hwx hwy hb1
      rw [e1, e2]
      refine ⟨⟨k + 1, br, _, by go_num, rfl, by omega, Hst d br a1 a2 a3, ?_, hB.setCell (by simp) _⟩, by simp [intOf]; omega⟩
      rw [← wcells_set]; exact hO.put k _
    · have hkk : k = bs.length := by omega
      subst hkk
      go_wp2
      go_loopw [6, 9] (fun br i wr => ∃ (k b : Nat) (L : List Nat), i = .int .i64 k ∧ br = .int .u64 b ∧ bs.length ≤ k ∧ k ≤ zs.length ∧ Hid (AddInv zs bs L k b) ∧ Own wr w.heap.size 148 (wcells L) ∧ Below w.heap.size w wr) (fun _ i _ => zs.length - (intOf i).toNat)
      case atStart => exact ⟨bs.length, b, L, rfl, rfl, by omega, by omega, hI, hO, hB⟩
      case round =>
        clear hI hO hB hb1 hLl
        obtain ⟨k, b, L, rfl, rfl, hk1, hk, hI, hO, hB⟩ := hrel
        have hb1 : b ≤ 1 := hI.out.2.2.1
        have hLl : L.length = zs.length + 1 := hI.out.1
        by_cases hlt : k < zs.length
        · obtain ⟨b0, off, rfl, hbb, hcell⟩ := hs.at_ (k := k) (by rw [wcells_length]; omega)
          have hck := (hB.cell (p := ⟨b0, off + k, none⟩) hbb).trans ((hcell k (by rw [wcells_length]; omega)).trans (wcells_at zs k (by omega)))
          have hck2 := (hO.cell k).trans (wcells_at L k (by omega))
          have hfr := hO.free k
          have hwx := wok_get h2 k
          have hz : bs[k]?.getD 0 = 0 := by rw [List.getElem?_eq_none (by omega)]; rfl
          have Hst := fun d br' a1 a2 a3 => Lib.hid (AddInv.step hI.out (d := d) (c' := br') (by omega) a1 a2 a3)
          rw [hz] at Hst
          clear hz
          generalize zs[k]?.getD 0 = x at *
          generalize L[k]?.getD 0 = z at *
          clear hcell hs gs hLl
          unfold WB at hwx
          go_wp2_with (first | simp only [add64_y0 (x : Int) (b : Int) (by omega) (by omega) (by omega) (by omega)])
          obtain ⟨d, br, e1, e2, a1, a2, a3⟩ := add_words0 x b hwx (by unfold WB; omega)
          rw [e1, e2]
          refine ⟨⟨k + 1, br, _, by go_num, rfl, by omega, by omega, Hst d br a1 a2 (by omega), ?_, hB.setCell (by simp) _⟩, by simp [intOf]; omega⟩
          rw [← wcells_set]; exact hO.put k _
        · have hkk : k = zs.length := by omega
          subst hkk
          have hval := Lib.hid (hI.out.last (Nat.le_of_lt hbl))
          have hck2 := (hO.cell zs.length).trans (wcells_at L zs.length (by omega))
          generalize L[zs.length]?.getD 0 = z at *
          have hfr := hO.free zs.length
          have hO2 := hO.put zs.length (.int .u64 (b : Int))
          rw [wcells_set] at hO2
          have hsl := Lib.hid (hO2.sl (zs.length + 1) (by rw [wcells_length]; exact hval.out.2.2) (by omega))
          clear hLl
          go_wp2_with (go_at_call 195; refine (trimmed_nat _ _ _ _ _ hval.out.2.1 hsl.out).mono ?_; rintro e w' ⟨v, rfl, hv, rfl⟩)
          go_ret
          refine ⟨v, rfl, ?_, hB.setCell (by simp) _⟩
          rw [← hval.out.1]; exact hv

theorem plus_c (v u : Value) (x y : Nat) (w : World) (h : Nt w v x) (h' : Nt w u y) (hf : Fits x) (hg : Fits y) :
    Calls Tryz.prog 228 #[v, u] w fun e w' => ∃ v, e = .returned v ∧ Nt w' v (x + y) ∧ Below w.heap.size w w' := by
  obtain ⟨zs, A, c, hv, h1, h2, h3, _, _, hs⟩ := h.open_
  obtain ⟨bs, B, d, hu, g1, g2, g3, _, _, gs⟩ := h'.open_
  have hlen := Fits.len h3 h1 hf
  have glen := Fits.len g3 g1 hg
  by_cases hl : bs.length ≤ zs.length
  · exact plus_long v u x y zs bs A B c d w hv hu h1 h2 g1 g2 hs gs hl hlen
  · rw [Nat.add_comm]
    exact plus_short u v y x bs zs B A d c w hu hv g1 g2 h1 h2 gs hs (by omega) glen

end Go.Proofs.YtneafcdfnhnpnaaGreatDoor
/- Contracts: a number times a word plus a word; a number divided by a word. -/
namespace Go.Proofs.YtneafcdfnhnpnaaGreatDoor
open Go.RowKit

set_option maxRecDepth 100000 in
set_option maxHeartbeats 1000000 in
theorem timesPlus_c (v : Value) (x f a : Nat) (w : World) (h : Nt w v x) (hfw : f < WB) (haw : a < WB) (hf : Fits x) :
    Calls Tryz.prog 138 #[v, .int .u64 f, .int .u64 a] w fun e w' => ∃ v, e = .returned v ∧ Nt w' v (x * f + a) ∧ Below w.heap.size w w' := by
  obtain ⟨xs, A, c, rfl, h1, h2, h3, hc1, hc2, hs⟩ := h.open_
  have hlen := Fits.len h3 h1 hf
  subst h1
  have hmk := make_nat w (xs.length + 1) (by omega)
  rw [show ((xs.length + 1 : Nat) : Int) = (xs.length : Int) + 1 from by omega] at hmk
  have hstart := Lib.hid (MulInv.start xs f a haw)
  have hown := Own.make w 148 (wcells (List.replicate (xs.length + 1) 0))
  have hown2 := hown.put 0 (.int .u64 (a : Int))
  rw [wcells_set] at hown2
  have hck2 := (hown.cell 0).trans (wcells_at _ 0 (by simp))
  have hfr := hown.free 0
  rw [show (List.replicate (xs.length + 1) 0)[0]?.getD 0 = 0 from by simp] at hck2
  obtain ⟨w1, hw1⟩ : ∃ w1, w1 = w.alloc (.cells (wcells (List.replicate (xs.length + 1) 0)).toArray 148) := ⟨_, rfl⟩
  rw [← hw1] at hmk hown hown2 hck2 hfr
  have hB1 : Below w.heap.size w w1 := by rw [hw1]; exact (Below.refl _ _).alloc (Nat.le_refl _) _
  clear h hw1
  go_enter Tryz.func138, Tryz.ntmps138
  go_wp2
  go_loopw [8, 9, 10, 11, 12, 22] (fun _ _ _ _ _ i wr => ∃ (k : Nat) (L : List Nat), i = .int .i64 k ∧ k ≤ xs.length ∧ Hid (MulInv xs L f a k) ∧ Own wr w.heap.size 148 (wcells L) ∧ Below w.heap.size w wr) (fun _ _ _ _ _ i _ => xs.length - (intOf i).toNat)
  case atStart => exact ⟨0, _, rfl, by omega, hstart, hown2, hB1.setCell (by simp) _⟩
  case round =>
    clear hown hown2 hck2 hfr
    obtain ⟨k, L, rfl, hk, hI, hO, hB⟩ := hrel
    have hLl : L.length = xs.length + 1 := hI.out.1
    by_cases hlt : k < xs.length
    · obtain ⟨b0, off, rfl, hbb, hcell⟩ := hs.at_ (k := k) (by rw [wcells_length]; omega)
      have hck := (hB.cell (p := ⟨b0, off + k, none⟩) hbb).trans ((hcell k (by rw [wcells_length]; omega)).trans (wcells_at xs k (by omega)))
      have hck2 := (hO.cell k).trans (wcells_at L k (by omega))
      have hck3 := (hO.cell (k + 1)).trans (wcells_at L (k + 1) (by omega))
      have hfr := hO.free k
      have hfr3 := hO.free (k + 1)
      have hwx := wok_get h2 k
      have hwz := wok_get hI.out.2.1 k
      obtain ⟨m1, m2, m3, m4⟩ := mul_word _ f hwx hfw
      have Hst := fun d c hi lo a1 a2 a3 a4 => Lib.hid (MulInv.step hI.out (d := d) (c := c) (hi := hi) (lo := lo) (by omega) a1 a2 a3 a4)
      have hm4 := m4 _ hwz
      generalize xs[k]?.getD 0 = x at *
      generalize L[k]?.getD 0 = z at *
      generalize L[k + 1]?.getD 0 = z1 at *
      generalize hhi : x * f / WB = hi at *
      generalize hlo : x * f % WB = lo at *
      obtain ⟨d, cr, e1, e2, a1, a2, a3⟩ := add_words0 z lo hwz m3
      have Hm2 := Lib.hid m2.symm
      have hbd : (hi : Int) + cr ≤ 18446744073709551615 := by
        have : (z + lo) / WB = cr := by unfold WB at *; omega
        unfold WB at *; omega
      have Hs2 := Hst d cr hi lo a1 (by unfold WB; omega) m2.symm a3
      have Hmul := fun w => mul64_c x f hi lo w hwx hfw Hm2.out m3
      have Hadd := fun w => add64_0 (z : Int) (lo : Int) (by omega) (by unfold WB at hwz; omega) (by omega) (by unfold WB at m3; omega) w
      rw [e1, e2] at Hadd
      have HMul := Lib.hid Hmul
      clear Hmul hcell hs hLl m1 m2 m4 hm4 Hst hhi hlo hwx hwz m3 a3 a1 e1 e2
      go_wp2_with (first | (go_at_call 193; refine (HMul.out _).mono ?_; rintro e w' ⟨rfl, rfl⟩))
      refine ⟨⟨k + 1, _, by go_num, by omega, Hs2, ?_, (hB.setCell (by simp) _).setCell (by simp) _⟩, by simp [intOf]; omega⟩
      have := (hO.put k (.int .u64 (d : Int))).put (k + 1) (.int .u64 ((hi + cr : Nat) : Int))
      rw [wcells_set, wcells_set] at this
      simpa using this
    · have hkk : k = xs.length := by omega
      subst hkk
      have hval := Lib.hid hI.out.last
      have hok := hI.out.2.1
      have hsl := Lib.hid (hO.sl (xs.length + 1) (by rw [wcells_length]; omega) (by omega))
      clear hLl
      go_wp2_with (go_at_call 195; refine (trimmed_nat _ _ _ _ _ hok hsl.out).mono ?_; rintro e w' ⟨v, rfl, hv, rfl⟩)
      go_ret
      refine ⟨v, rfl, ?_, hB⟩
      rw [← hval.out]; exact hv

end Go.Proofs.YtneafcdfnhnpnaaGreatDoor
