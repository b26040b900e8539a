/- Contracts: matrices over the rational numbers: width, nextPivot. -/
import Derived.Test.YtneafcdfnhnpnaaGreatDoorZ10
import Derived.Deep.RegionWith
import Derived.Deep.RegionHeld3
import Derived.Deep.DeepCutAuto
import Derived.WalkMore
import Derived.Laws.AppendOwn
import Derived.Below
import Derived.Test.YtneafcdfnhnpnaaGreatDoorZ04
import Derived.Test.YtneafcdfnhnpnaaGreatDoorZ06
import Derived.Test.YtneafcdfnhnpnaaGreatDoorZ09
import Derived.Test.YtneafcdfnhnpnaaGreatDoorZ01
namespace Go.Proofs.YtneafcdfnhnpnaaGreatDoor
open Go.RowKit Go.Lib

theorem qZero_nil (w : World) : (nilAhead 444 172 (.agg #[]) "talisman/algebra.isZero").run Tryz.prog w = .ok (some false) w := by kernel_rfl

/-- a row of a matrix of rational numbers -/
abbrev RowR := RowT Rat
def rowW (n : Nat) (r : RowR) : Value := .slice (some ⟨r.1, 0, none⟩) n r.2.1
/-- a matrix of rational numbers: block g holds its rows, each of which has a block of its own -/
structure MxR (w : World) (g : Nat) (R : List RowR) (n : Nat) : Prop where
  own : Own w g 167 (R.map (rowW n))
  row : ∀ r ∈ R, (∃ es, RowQ w r.1 es r.2.2) ∧ r.2.2.length = n ∧ n ≤ r.2.1 ∧ r.2.1 ≤ 9223372036854775807
  apart : (R.map (·.1)).Nodup
theorem MxR.below {w w' : World} {g : Nat} {R : List RowR} {n : Nat} (h : MxR w g R n) (hb : Below w.heap.size w w') : MxR w' g R n :=
  ⟨h.own.below hb h.own.lt, fun r hr => ⟨by obtain ⟨es, he⟩ := (h.row r hr).1; exact ⟨es, he.below hb⟩, (h.row r hr).2⟩, h.apart⟩
theorem MxR.cellRow {w : World} {g : Nat} {R : List RowR} {n : Nat} (h : MxR w g R n) {i : Nat} {r : RowR} (hr : R[i]? = some r) : w.cell? ⟨g, i, none⟩ = some (rowW n r) := by
  rw [h.own.cell i, List.getElem?_map, hr]; rfl

set_option maxHeartbeats 400000 in
theorem widthR_c (g c n : Nat) (R : List RowR) (w : World) (hM : MxR w g R n) :
    Calls Tryz.prog 159 #[.slice (some ⟨g, 0, none⟩) R.length c] w fun e w' => e = .returned (.int .i64 ((if R = [] then 0 else n : Nat) : Int)) ∧ w = w' := by
  rcases R with _ | ⟨r, R⟩
  · go_enter Tryz.func159, Tryz.ntmps159
    go_wp2
    go_ret
    exact ⟨rfl, rfl⟩
  · have hck := hM.cellRow (i := 0) (r := r) rfl
    have hl : ((((r :: R).length : Nat) : Int) == 0) = false := by simp; omega
    unfold rowW at hck
    have hpos : 0 < (r :: R).length := by simp
    clear hM
    generalize (r :: R).length = m at *
    go_enter Tryz.func159, Tryz.ntmps159
    go_wp2
    go_ret
    exact ⟨rfl, rfl⟩

def numR (R : List RowR) (i j : Nat) : Rat := ((R[i]?.map (·.2.2)).getD [])[j]?.getD 0
theorem numR_eq {R : List RowR} {i j : Nat} {r : RowR} (hr : R[i]? = some r) : numR R i j = r.2.2[j]?.getD 0 := by unfold numR; rw [hr]; rfl
def CleanR (R : List RowR) (t a c : Nat) : Prop := ∀ j, a ≤ j → j < c → ∀ i, t ≤ i → i < R.length → numR R i j = 0
def pivPostR (R : List RowR) (n top from_ : Nat) (w : World) (e : Ending) (w' : World) : Prop :=
  Below w.heap.size w w' ∧ ((∃ i j : Nat, e = .returned (.tuple #[.int .i64 i, .int .i64 j, .bool true]) ∧ top ≤ i ∧ i < R.length ∧ from_ ≤ j ∧ j < n ∧ numR R i j ≠ 0 ∧ (∀ k, top ≤ k → k < i → numR R k j = 0) ∧ CleanR R top from_ j)
    ∨ (∃ i j : Int, e = .returned (.tuple #[.int .i64 i, .int .i64 j, .bool false]) ∧ CleanR R top from_ n))

set_option maxRecDepth 100000 in
set_option maxHeartbeats 4000000 in
theorem nextPivotR_c (g c n : Nat) (R : List RowR) (w : World) (top from_ : Nat) (hM : MxR w g R n) (hR : R ≠ []) (hc : R.length ≤ c) (hc2 : c ≤ 1000000) (ht : top ≤ R.length) (hf : from_ ≤ n) (hn : n ≤ 1000000) :
    Calls Tryz.prog 201 #[.iface 172 (.agg #[]), .slice (some ⟨g, 0, none⟩) R.length c, .int .i64 top, .int .i64 from_] w (pivPostR R n top from_ w) := by
  have hZ := qZero_meth
  have hZn := qZero_nil
  have hmf : ∀ (fn : Fn) (first cap : Array Value) (w : World), (Instr.makeFunc fn first cap).run Tryz.prog w = .ok (.func fn first cap) w := fun _ _ _ _ => rfl
  have HW := Lib.hid (fun W (h : MxR W g R n) => by have := widthR_c g c n R W h; rw [if_neg hR] at this; exact this)
  have HR := Lib.hid hR
  have HM := Lib.hid hM
  clear hR hM
  go_enter Tryz.func201, Tryz.ntmps201
  go_wp2_with fail
  go_step3
  go_wp2_with fail
  try go_step3
  try go_wp2_with fail
  go_loopg [8, 9, 10] (n - from_) (fun gh r j f wr => ∃ (rr : Int) (k : Nat), r = .int .i64 rr ∧ j = .int .i64 k ∧ f = .bool false ∧ from_ ≤ k ∧ k + gh = n ∧ Hid (CleanR R top from_ k) ∧ Hid (MxR wr g R n) ∧ Below w.heap.size w wr)
  case atStart => exact ⟨0, from_, rfl, rfl, rfl, by omega, by omega, Lib.hid (fun j h1 h2 => by omega), HM, Below.refl _ _⟩
  case round =>
    clear HM
    obtain ⟨rr, k, rfl, rfl, rfl, hk1, hk2, hC, hMr, hB⟩ := hrel
    cases gk with
    | zero =>
      have hkn : k = n := by omega
      subst hkn
      go_wp2_with (go_at_call 159; refine (HW.out _ hMr.out).mono ?_; rintro e w2 ⟨rfl, rfl⟩)
      rw [Exit.noGoto_ret]
      go_ret3
      exact ⟨hB, Or.inr ⟨_, _, rfl, hC.out⟩⟩
    | succ gh =>
      have hlt : k < n := by omega
      go_wp2_with (go_at_call 159; refine (HW.out _ hMr.out).mono ?_; rintro e w2 ⟨rfl, rfl⟩)
      go_loopg [8, 10] (R.length - top) (fun h r f wx => ∃ i : Nat, r = .int .i64 i ∧ f = .bool false ∧ top ≤ i ∧ i + h = R.length ∧ Hid (∀ t, top ≤ t → t < i → numR R t k = 0) ∧ Hid (MxR wx g R n) ∧ Hid (Below w.heap.size w wx))
      case atStart => exact ⟨top, rfl, rfl, by omega, by omega, Lib.hid (fun t h1 h2 => by omega), hMr, Lib.hid hB⟩
      case round =>
        clear hMr hB
        obtain ⟨i, rfl, rfl, hi1, hi2, hT, hMx, hBx⟩ := hrel
        cases gk with
        | zero =>
          have hin : ¬ ((i : Int) < (R.length : Int)) := by omega
          have hie : i = R.length := by omega
          have HT := Lib.hid hT.out
          rw [hie] at HT
          have Hcl : Hid (CleanR R top from_ (k + 1)) := Lib.hid (by
            intro j h1 h2 t h3 h4
            rcases Nat.lt_or_ge j k with h5 | h5
            · exact hC.out j h1 h5 t h3 h4
            · have : j = k := by omega
              subst this; exact HT.out t h3 h4)
          clear hie
          go_wp2
          go_roundg gh
          case rel => exact ⟨i, k + 1, rfl, by go_num, rfl, by omega, by omega, Hcl, hMx, hBx.out⟩
          case measure => omega
        | succ h =>
          have hin : (i : Int) < (R.length : Int) := by omega
          have hil : i < R.length := by omega
          obtain ⟨r, hr⟩ : ∃ r, R[i]? = some r := ⟨R[i], List.getElem?_eq_getElem hil⟩
          have hc1 := hMx.out.cellRow hr
          obtain ⟨⟨es, hes⟩, hrl, hcap1, hcap2⟩ := hMx.out.row r (List.mem_of_getElem? hr)
          obtain ⟨e, B1, m1, k1, B2, m2, k2, _, hee, hrt, y0, y1, y2, _, _, _⟩ := hes.at_ (j := k) (by omega)
          have hblk := hes.own.lt
          have hgl := hMx.out.own.lt
          have Hnum := Lib.hid (numR_eq (j := k) hr)
          unfold rowW at hc1
          obtain ⟨rb, rc, rl⟩ := r
          obtain ⟨e0, ea, eb⟩ := e
          have hea : ea = .slice B1 m1 k1 ∧ eb = .slice B2 m2 k2 := by simpa using hee
          obtain ⟨rfl, rfl⟩ := hea
          unfold elV at hrt
          dsimp only at hc1 hrl hcap1 hcap2 hblk Hnum hrt y0 y1 y2
          have Hrt := Lib.hid hrt
          clear hr hee hrt hes
          generalize rl[k]?.getD 0 = x at *
          have hkn' : (k : Int) < (n : Int) := by omega
          have KS : Hid (∀ z, Below wr.heap.size wr z → z.cell? ⟨g, i, none⟩ = some (.slice (some ⟨rb, 0, none⟩) n rc) ∧ z.cell? ⟨rb, k * 3, none⟩ = some (.bool e0) ∧ z.cell? ⟨rb, k * 3 + 1, none⟩ = some (.slice B1 m1 k1) ∧ z.cell? ⟨rb, k * 3 + 2, none⟩ = some (.slice B2 m2 k2) ∧ Below wr.heap.size wr z) := Lib.hid (fun z hb =>
            ⟨(hb.cell (p := ⟨g, i, none⟩) hgl).trans hc1, (hb.cell (p := ⟨rb, k * 3, none⟩) hblk).trans y0, (hb.cell (p := ⟨rb, k * 3 + 1, none⟩) hblk).trans y1, (hb.cell (p := ⟨rb, k * 3 + 2, none⟩) hblk).trans y2, hb⟩)
          have HMr := Lib.hid (fun (w4 : World) (hb : Below wr.drew.heap.size wr.drew w4) => (hMx.out.below (drB hb)))
          have HBr := Lib.hid (fun (w4 : World) (hb : Below wr.drew.heap.size wr.drew w4) => (hBx.out.trans ((drB hb).mono hBx.out.size)))
          go_wp2
          by_cases h0 : x = 0
          · have Hnext : Hid (∀ t, top ≤ t → t < i + 1 → numR R t k = 0) := Lib.hid (by
              intro t h1 h2
              rcases Nat.lt_or_ge t i with h3 | h3
              · exact hT.out t h1 h3
              · have : t = i := by omega
                subst this; rw [Hnum.out]; exact h0)
            have Hde := Lib.hid (decide_eq_true h0)
            clear h0
            go_region_held3 (fun z => z.cell? ⟨g, i, none⟩ = some (.slice (some ⟨rb, 0, none⟩) n rc) ∧ z.cell? ⟨rb, k * 3, none⟩ = some (.bool e0) ∧ z.cell? ⟨rb, k * 3 + 1, none⟩ = some (.slice B1 m1 k1) ∧ z.cell? ⟨rb, k * 3 + 2, none⟩ = some (.slice B2 m2 k2) ∧ Below wr.heap.size wr z)
              (first | exact KS.out _ (Below.refl _ _).drew | exact KS.out _ (drB HB4.out))
              (first | (go_at_call 314; refine (isZeroQ_c _ x _ (Hrt.out.below (Below.refl _ _).drew)).mono ?_; rintro e w4 ⟨rfl, hB4⟩; rw [Hde.out]; have HB4 := Lib.hid hB4; clear hB4))
            all_goals (
              have HM4 := Lib.hid (HMr.out _ HB4.out)
              have HB5 := Lib.hid (HBr.out _ HB4.out)
              clear HB4 KS HMr HBr hMx hBx
              go_wp2
              go_roundg h
              case rel => exact ⟨i + 1, by go_num, rfl, by omega, by omega, Hnext, HM4, HB5⟩
              case measure => omega)
          · have Hx : Hid (numR R i k ≠ 0) := Lib.hid (by rw [Hnum.out]; exact h0)
            have Hde := Lib.hid (decide_eq_false h0)
            clear h0
            go_region_held3 (fun z => z.cell? ⟨g, i, none⟩ = some (.slice (some ⟨rb, 0, none⟩) n rc) ∧ z.cell? ⟨rb, k * 3, none⟩ = some (.bool e0) ∧ z.cell? ⟨rb, k * 3 + 1, none⟩ = some (.slice B1 m1 k1) ∧ z.cell? ⟨rb, k * 3 + 2, none⟩ = some (.slice B2 m2 k2) ∧ Below wr.heap.size wr z)
              (first | exact KS.out _ (Below.refl _ _).drew | exact KS.out _ (drB HB4.out))
              (first | (go_at_call 314; refine (isZeroQ_c _ x _ (Hrt.out.below (Below.refl _ _).drew)).mono ?_; rintro e w4 ⟨rfl, hB4⟩; rw [Hde.out]; have HB4 := Lib.hid hB4; clear hB4))
            all_goals (
              have HB5 := Lib.hid (HBr.out _ HB4.out)
              clear HB4 KS HMr HBr hMx hBx
              go_wp2
              rw [Exit.noGoto_ret]
              go_ret3
              exact ⟨HB5.out, Or.inl ⟨i, k, rfl, hi1, hil, hk1, hlt, Hx.out, fun t h1 h2 => hT.out t h1 h2, hC.out⟩⟩)
end Go.Proofs.YtneafcdfnhnpnaaGreatDoor
/- A law: append to a row of one's own, of the cells of which something is known. -/
namespace Go.Proofs.YtneafcdfnhnpnaaGreatDoor
open Go.RowKit

/-- all cells of the array of a slice, beyond its length too -/
def AllIn (w : World) (Pc : Value → Prop) (v : Value) : Prop := ∀ g cur e, v.ownBlock = some g → w.heap[g]? = some (.cells cur e (0, 0)) → ∀ c ∈ cur.toList, Pc c
theorem AllIn.nil (w : World) (Pc : Value → Prop) : AllIn w Pc (.slice none 0 0) := by intro g cur e h; simp [Value.ownBlock] at h
theorem AllIn.same {w w' : World} {Pc : Value → Prop} {v : Value} (h : AllIn w Pc v) (hk : ∀ g, v.ownBlock = some g → w'.heap[g]? = w.heap[g]?) : AllIn w' Pc v :=
  fun g cur e hg hc => h g cur e hg ((hk g hg).symm.trans hc)
theorem append_all {P : Program} (w : World) (base : Nat) (t ty e : TypeId) (i : TypeInfo) (z : Value) (size bytes : Nat) (ht : P.underlying t = some (.slice e)) (hi : P.info? e = some i) (hz : i.zero = some z)
    (hsize : i.size = size) (hby : i.bytes = bytes) (hzs : z.cells.size = size) (hsz : 0 < size)
    (v : Value) (n : Nat) (xs : List Value) (hown : w.ownsRow base e size v n xs)
    (a : Addr) (m c : Nat) (news : List Value) (hl : news.length = m * size) (hnews : ∀ j u, news[j]? = some u → w.cell? (a.add j) = some u) (h1 : ∀ u ∈ news, u.oneCell' = true)
    (h63 : n + m ≤ maxLen) (hbytes : (n + m) * bytes ≤ 140737488355328) (hm : 0 < m)
    (Pc : Value → Prop) (hall : AllIn w Pc v) (hnw : ∀ u ∈ news, Pc u) (hzc : ∀ u ∈ z.cells.toList, Pc u) {v' : Value} {w' : World} (hr : (Builtin.append_ #[t, t] ty #[v, .slice (some a) m c]).run P w = .ok v' w') : AllIn w' Pc v' := by
  subst hsize
  subst hby
  have hsmall : n + m ≤ 9223372036854775807 := by simp only [maxLen] at h63; omega
  have hzz : ∀ k, ∀ u ∈ (Builtin.zeroCells z.cells k).toList, Pc u := by
    intro k u hu
    unfold Builtin.zeroCells at hu
    have hmem : u ∈ (Array.range (k * z.cells.size)).map (fun j => z.cells[j % z.cells.size]!) := Array.mem_toList_iff.1 hu
    obtain ⟨j, _, rfl⟩ := Array.mem_map.1 hmem
    have hj : j % z.cells.size < z.cells.size := Nat.mod_lt _ (by omega)
    rw [getElem!_pos z.cells _ hj]
    exact hzc _ (Array.mem_toList_iff.2 (Array.getElem_mem hj))
  rcases hown.2 with ⟨rfl, rfl⟩ | ⟨g, cap, cur, rfl, hbg, hg, hnc, hcm, hcs, htake⟩
  · have hr2 := run_append_nil (P := P) w t ty e i z ht hi hz a m c news hl hnews (by omega) (by omega) (by have hb := hbytes; simp only [Nat.zero_add] at hb; omega)
    rw [hr2] at hr
    injection hr with hv hw
    subst hv hw
    intro g cur e' hgb hc u hu
    simp [Value.ownBlock] at hgb
    subst hgb
    have := heap_alloc_new w.drew (.cells (news.toArray ++ Builtin.zeroCells z.cells (grownCap w m 0 e - m)) e)
    rw [show w.drew.heap.size = w.heap.size from rfl] at this
    rw [this] at hc
    injection hc with hc
    injection hc with hc _ _
    subst hc
    rw [Array.toList_append, List.mem_append] at hu
    rcases hu with hu | hu
    · exact hnw u hu
    · exact hzz _ u hu
  · by_cases hroom : n + m ≤ cap
    · have hfit : n * i.size + news.length ≤ cur.size := by rw [hl, hcs, ← Nat.add_mul]; exact Nat.mul_le_mul_right _ hroom
      have hr2 := run_append_room (P := P) w t ty e i ht hi g n cap cur hg a m c news hl hnews h1 hroom hfit
      rw [hr2] at hr
      injection hr with hv hw
      subst hv hw
      intro g' cur' e' hgb hc u hu
      simp [Value.ownBlock] at hgb
      subst hgb
      have := setRow_heap w g cur (cur.toList.take (n * i.size) ++ news ++ cur.toList.drop (n * i.size + news.length)).toArray e (0, 0) hg
      rw [this] at hc
      injection hc with hc
      injection hc with hc _ _
      subst hc
      simp only [List.mem_append] at hu
      rcases hu with (hu | hu) | hu
      · exact hall g cur e rfl hg u (List.mem_of_mem_take hu)
      · exact hnw u hu
      · exact hall g cur e rfl hg u (List.mem_of_mem_drop hu)
    · have holds : ∀ j u, xs[j]? = some u → w.cell? ((⟨g, 0, none⟩ : Addr).add j) = some u := hown.cells (g := g) rfl
      have hr2 := run_append_grow (P := P) w t ty e i z ht hi hz ⟨g, 0, none⟩ n cap xs hown.1 holds a m c news hl hnews (by omega) (by omega) (growslice_fits (by omega) hbytes)
      rw [hr2] at hr
      injection hr with hv hw
      subst hv hw
      intro g' cur' e' hgb hc u hu
      simp [Value.ownBlock] at hgb
      subst hgb
      have := heap_alloc_new w.drew (.cells (xs.toArray ++ news.toArray ++ Builtin.zeroCells z.cells (grownCap w (n + m) cap e - (n + m))) e)
      rw [show w.drew.heap.size = w.heap.size from rfl] at this
      rw [this] at hc
      injection hc with hc
      injection hc with hc _ _
      subst hc
      rw [Array.toList_append, Array.toList_append, List.mem_append, List.mem_append] at hu
      rcases hu with (hu | hu) | hu
      · rw [← htake] at hu
        exact hall g cur e rfl hg u (List.mem_of_mem_take hu)
      · exact hnw u hu
      · exact hzz _ u hu

theorem wpList_append_all {P : Program} (w : World) {ops : Array Oper} {rest : List Oper} {o : Oper} {a : Act} {Q : Exit → Act → World → Prop} (hgd : o.guard = none) (s x : Operand) (t : TypeId)
    (ho : o.op = .call { callee := .builtin .append, args := #[s, x], argTypes := #[t, t] })
    (base : Nat) (e : TypeId) (i : TypeInfo) (z : Value) (size bytes : Nat) (ht : P.underlying t = some (.slice e)) (hi : P.info? e = some i) (hz : i.zero = some z)
    (hsize : i.size = size) (hby : i.bytes = bytes) (hzs : z.cells.size = size) (hsz : 0 < size)
    (v : Value) (n : Nat) (xs : List Value) (hs : a.eval s = v) (hown : w.ownsRow base e size v n xs)
    (ad : Addr) (m c : Nat) (news : List Value) (hx : a.eval x = .slice (some ad) m c) (hl : news.length = m * size) (hnews : ∀ j u, news[j]? = some u → w.cell? (ad.add j) = some u) (h1 : ∀ u ∈ news, u.oneCell' = true)
    (h63 : n + m ≤ maxLen) (hbytes : (n + m) * bytes ≤ 140737488355328) (hbase : base ≤ w.heap.size) (hm : 0 < m)
    (Pc : Value → Prop) (hall : AllIn w Pc v) (hnw : ∀ u ∈ news, Pc u) (hzc : ∀ u ∈ z.cells.toList, Pc u)
    (h : ∀ v' w', w'.ownsRow base e size v' (n + m) (xs ++ news) → w.grownBy w' v.ownBlock → AllIn w' Pc v' → wpList P ops Q rest (a.put o.dst v') w') : wpList P ops Q (o :: rest) a w :=
  wpList_plain hgd fun K hK => by
    obtain ⟨v', w', hr, h2, h3, _⟩ := run_append_own (P := P) w base t o.type e i z size bytes ht hi hz hsize hby hzs hsz v n xs hown ad m c news hl hnews h1 h63 hbytes hbase
    have h4 := append_all w base t o.type e i z size bytes ht hi hz hsize hby hzs hsz v n xs hown ad m c news hl hnews h1 h63 hbytes hm Pc hall hnw hzc hr
    unfold Oper.wp execOp
    simp only [ho, resolve, invoke, builtin, Sem.run_bind, Sem.run_pure, Result.andThen_ok, List.map_toArray, List.map_cons, List.map_nil, hs, hx, hr]
    exact hK _ _ (h v' w' h2 h3 h4)
end Go.Proofs.YtneafcdfnhnpnaaGreatDoor
/- Matrices over the rational numbers: how they stand while elimination works on them. -/
namespace Go.Proofs.YtneafcdfnhnpnaaGreatDoor
open Go.RowKit Go.Lib

/-- no word -/
def NoU (c : Value) : Prop := ∀ n, c ≠ .int .u64 n
theorem NoInt.noU {c : Value} (h : NoInt c) : NoU c := fun n => h _ n
/-- what keeps numbers: old blocks stay, or hold no word -/
def Keeps (w w' : World) : Prop := w.heap.size ≤ w'.heap.size ∧ ∀ b, b < w.heap.size → w'.heap[b]? = w.heap[b]? ∨ ∀ cur e fr, w.heap[b]? = some (.cells cur e fr) → ∀ c ∈ cur.toList, NoU c
theorem cell_mem {w : World} {b o : Nat} {u : Value} (hu : w.cell? ⟨b, o, none⟩ = some u) : ∃ cur e fr, w.heap[b]? = some (.cells cur e fr) ∧ u ∈ cur.toList := by
  unfold World.cell? at hu
  dsimp only at hu
  split at hu
  · rename_i c e fr hc
    simp at hu
    exact ⟨c, e, fr, hc, Array.mem_toList_iff.2 (Array.mem_of_getElem? hu)⟩
  · cases hu
theorem Nt.keeps {w w' : World} {v : Value} {x : Nat} (h : Nt w v x) (hk : Keeps w w') : Nt w' v x := by
  obtain ⟨ws, h1, h2, h3, A, n, c, hv, h4, h5, h6, h7⟩ := h
  refine ⟨ws, h1, h2, h3, A, n, c, hv, h4, h5, h6, fun hn => ?_⟩
  obtain ⟨b, off, hA, hlt, hcell⟩ := h7 hn
  refine ⟨b, off, hA, Nat.lt_of_lt_of_le hlt hk.1, fun j u hu => ?_⟩
  have hj := hcell j u hu
  rcases hk.2 b hlt with hs | hs
  · exact (World.cell?_of_block (a := ⟨b, off + j, none⟩) hs).trans hj
  · obtain ⟨y, _, hy⟩ := List.mem_map.1 (List.mem_of_getElem? hu)
    obtain ⟨cur, e, fr, h8, h9⟩ := cell_mem hj
    exact absurd hy.symm (hs cur e fr h8 u h9 _)
theorem Rt.keeps {w w' : World} {v : Value} {q : Rat} (h : Rt w v q) (hk : Keeps w w') : Rt w' v q := by
  obtain ⟨nv, dv, hv, h1, h2⟩ := h
  exact ⟨nv, dv, hv, h1.keeps hk, h2.keeps hk⟩
section
variable {w w' : World}
theorem Keeps.below (h : Below w.heap.size w w') : Keeps w w' := ⟨h.size, fun b hb => .inl (h.block b hb)⟩
theorem Keeps.but {g : Nat} {t : TypeId} {cs : List Value} (h : But g w w') (hO : Own w g t cs) (hc : ∀ c ∈ cs, NoInt c) : Keeps w w' := by
  refine ⟨h.size, fun b hb => ?_⟩
  by_cases hg : b = g
  · subst hg
    refine .inr fun cur e fr hh c hm => ?_
    unfold Own at hO
    rw [hO] at hh
    injection hh with hh
    injection hh with hh _ _
    subst hh
    exact (hc c (by simpa using hm)).noU
  · exact .inl (h.block b hb hg)
theorem Keeps.grown {base : Nat} {e : TypeId} {size n : Nat} {v : Value} {xs : List Value} (h : w.grownBy w' v.ownBlock) (ho : w.ownsRow base e size v n xs) (ha : AllIn w NoU v) : Keeps w w' := by
  refine ⟨h.size, fun b hb => ?_⟩
  by_cases hg : some b = v.ownBlock
  · refine .inr fun cur e' fr hh c hm => ?_
    rcases ho.2 with ⟨rfl, _⟩ | ⟨g, cap, cur2, rfl, _, hg2, _⟩
    · simp [Value.ownBlock] at hg
    · simp [Value.ownBlock] at hg
      subst hg
      rw [hg2] at hh
      injection hh with hh
      injection hh with h1 h2 h3
      subst h1 h2 h3
      exact ha _ _ _ rfl hg2 c hm
  · exact .inl (h.block b hb hg)
end
theorem rowW_noInt (n : Nat) (R : List RowR) : ∀ c ∈ R.map (rowW n), NoInt c := by
  intro c hc
  obtain ⟨r, _, rfl⟩ := List.mem_map.1 hc
  exact noInt_slice _ _ _
section
variable {w w' : World} {g n : Nat} {R : List RowR}
theorem nodup_blockR {R : List RowR} (h : (R.map (·.1)).Nodup) {i j : Nat} {a b : RowR} (hi : R[i]? = some a) (hj : R[j]? = some b) (hij : i ≠ j) : a.1 ≠ b.1 := by
  intro e
  have h1 : (R.map (·.1))[i]? = some a.1 := by rw [List.getElem?_map, hi]; rfl
  have h2 : (R.map (·.1))[j]? = some a.1 := by rw [List.getElem?_map, hj, e]; rfl
  exact hij ((List.getElem?_inj (List.getElem?_eq_some_iff.1 h1).1 h).1 (h1.trans h2.symm))
theorem MxR.gne (h : MxR w g R n) {r : RowR} (hr : r ∈ R) : g ≠ r.1 := by
  obtain ⟨es, he⟩ := (h.row r hr).1
  exact h.own.apart he.own (by decide)
theorem RowQ.keeps {b : Nat} {es : List El} {qs : List Rat} (h : RowQ w b es qs) (hk : Keeps w w') (hb : w'.heap[b]? = w.heap[b]?) : RowQ w' b es qs :=
  ⟨hb.trans h.own, h.len, h.noi, fun i e q he hq => (h.num i e q he hq).keeps hk⟩
theorem MxR.keep (h : MxR w g R n) (hK : Keeps w w') (hk : ∀ k, k = g ∨ k ∈ R.map (·.1) → w'.heap[k]? = w.heap[k]?) : MxR w' g R n :=
  ⟨(hk g (.inl rfl)).trans h.own, fun r hr => ⟨by obtain ⟨es, he⟩ := (h.row r hr).1; exact ⟨es, he.keeps hK (hk r.1 (.inr (List.mem_map_of_mem hr)))⟩, (h.row r hr).2⟩, h.apart⟩
theorem MxR.setRow (h : MxR w g R n) {i : Nat} {r : RowR} (hr : R[i]? = some r) {L : List Rat} (hO : ∃ es, RowQ w' r.1 es L) (hl : L.length = n) (hb : But r.1 w w') : MxR w' g (setRow R i L) n := by
  obtain ⟨es0, he0⟩ := (h.row r (List.mem_of_getElem? hr)).1
  have hK := Keeps.but hb he0.own he0.noInt
  refine ⟨?_, ?_, ?_⟩
  · have e : (Go.Proofs.YtneafcdfnhnpnaaGreatDoor.setRow R i L).map (rowW n) = R.map (rowW n) := setRow_values i L (fun b c => Value.slice (some ⟨b, 0, none⟩) n c)
    rw [e]
    exact h.own.but hb (h.gne (List.mem_of_getElem? hr))
  · intro x hx
    obtain ⟨k, hk⟩ := List.mem_iff_getElem?.1 hx
    by_cases hik : i = k
    · subst hik
      rw [setRow_at hr] at hk
      obtain rfl := Option.some.inj hk
      have := h.row r (List.mem_of_getElem? hr)
      exact ⟨hO, hl, this.2.2.1, this.2.2.2⟩
    · rw [setRow_other hik] at hk
      have := h.row x (List.mem_of_getElem? hk)
      obtain ⟨es, he⟩ := this.1
      exact ⟨⟨es, he.keeps hK (hb.block x.1 he.own.lt (nodup_blockR h.apart hk hr (fun e => hik e.symm)))⟩, this.2⟩
  · rw [setRow_blocks]; exact h.apart
theorem MxR.swap (h : MxR w g R n) {i j : Nat} {a b : RowR} (hi : R[i]? = some a) (hj : R[j]? = some b) : MxR ((w.setCell ⟨g, i, none⟩ (rowW n b)).setCell ⟨g, j, none⟩ (rowW n a)) g (swapR R i j) n := by
  have hB : But g w ((w.setCell ⟨g, i, none⟩ (rowW n b)).setCell ⟨g, j, none⟩ (rowW n a)) := ((But.refl g w).setCell ⟨g, i, none⟩ rfl _).setCell ⟨g, j, none⟩ rfl _
  have hK := Keeps.but hB h.own (rowW_noInt n R)
  refine ⟨?_, ?_, ?_⟩
  · rw [swapR_some hi hj, List.map_set, List.map_set]
    exact (h.own.put _ _).put _ _
  · intro x hx
    have hx := swapR_mem hx
    have := h.row x hx
    obtain ⟨es, he⟩ := this.1
    exact ⟨⟨es, he.keeps hK (hB.block x.1 he.own.lt (fun e => h.gne hx e.symm))⟩, this.2⟩
  · exact ((swapR_perm R i j).map _).nodup_iff.2 h.apart
theorem MxR.lt (h : MxR w g R n) {k : Nat} (hk : k = g ∨ k ∈ R.map (·.1)) : k < w.heap.size := by
  rcases hk with rfl | hk
  · exact h.own.lt
  · obtain ⟨r, hr, rfl⟩ := List.mem_map.1 hk
    obtain ⟨es, he⟩ := (h.row r hr).1
    exact he.own.lt
end
/-- a list of numbers that a call has made -/
def PivQ (w : World) (base : Nat) (v : Value) (V : List Rat) : Prop :=
  ∃ es : List El, w.ownsRow base 122 3 v V.length (ecells es) ∧ es.length = V.length ∧ AllIn w NoU v ∧ ∀ (i : Nat) (e : El) (q : Rat), es[i]? = some e → V[i]? = some q → Rt w (elV e) q
theorem PivQ.keep {w w' : World} {base : Nat} {v : Value} {V : List Rat} (h : PivQ w base v V) (hK : Keeps w w') (hk : ∀ k, v.ownBlock = some k → w'.heap[k]? = w.heap[k]?) : PivQ w' base v V := by
  obtain ⟨es, h1, h2, h3, h4⟩ := h
  exact ⟨es, oKeep h1 (fun k _ hv => hk k hv), h2, h3.same hk, fun i e q he hq => (h4 i e q he hq).keeps hK⟩
theorem PivQ.form {w : World} {base : Nat} {v : Value} {V : List Rat} (h : PivQ w base v V) : ∃ A c, v = .slice A V.length c ∧ V.length ≤ c ∧ c ≤ maxLen := by
  obtain ⟨es, h1, _⟩ := h; exact oForm h1
theorem PivQ.lt {w : World} {base : Nat} {v : Value} {V : List Rat} (h : PivQ w base v V) (k : Nat) (hk : v.ownBlock = some k) : base ≤ k ∧ k < w.heap.size := by
  obtain ⟨es, h1, _⟩ := h; exact h1.lt k hk
end Go.Proofs.YtneafcdfnhnpnaaGreatDoor
/- (plain part) Contract: clearFirst over the rational numbers. -/
namespace Go.Proofs.YtneafcdfnhnpnaaGreatDoor
open Go.RowKit Go.Lib

/-- g y x at the places from o up to o + k, x from the same places of a second list -/
def zipT {T : Type} (z : T) (g : T → T → T) (o k : Nat) (L P : List T) : List T := L.mapIdx fun j y => if o ≤ j ∧ j < o + k then g y (P[j]?.getD z) else y
section
variable {T : Type} (z : T) (g : T → T → T) (o k : Nat) (L P : List T)
theorem zipT_length : (zipT z g o k L P).length = L.length := by simp [zipT]
theorem zipT_zero : zipT z g o 0 L P = L := by
  apply List.ext_getElem?
  intro j
  simp only [zipT, List.getElem?_mapIdx, Nat.add_zero]
  cases L[j]? with
  | none => rfl
  | some x => simp only [Option.map_some]; rw [if_neg (by omega)]
theorem zipT_at : (zipT z g o k L P)[o + k]? = L[o + k]? := by
  simp only [zipT, List.getElem?_mapIdx, Nat.lt_irrefl, and_false, if_false]
  cases L[o + k]? <;> simp
theorem zipT_succ (y : T) (hy : L[o + k]? = some y) : (zipT z g o k L P).set (o + k) (g y (P[o + k]?.getD z)) = zipT z g o (k + 1) L P := by
  have h := (List.getElem?_eq_some_iff.1 hy).1
  apply List.ext_getElem?
  intro j
  rw [List.getElem?_set]
  simp only [zipT, List.getElem?_mapIdx, List.length_mapIdx]
  by_cases hj : o + k = j
  · subst hj; rw [if_pos rfl, if_pos h, hy]; simp
  · rw [if_neg hj]
    rcases Nat.lt_or_ge j L.length with hl | hl
    · rw [List.getElem?_eq_getElem hl]
      simp only [Option.map_some, Option.some.injEq]
      by_cases h2 : o ≤ j ∧ j < o + k
      · rw [if_pos h2, if_pos (by omega)]
      · rw [if_neg h2, if_neg (by omega)]
    · rw [List.getElem?_eq_none hl]; rfl
theorem zipT_same (y : T) (hy : L[o + k]? = some y) (hf : g y (P[o + k]?.getD z) = y) : zipT z g o (k + 1) L P = zipT z g o k L P := by
  rw [← zipT_succ z g o k L P y hy, hf]
  apply List.ext_getElem?
  intro j
  rw [List.getElem?_set, zipT_length]
  by_cases hj : o + k = j
  · subst hj; rw [zipT_at, hy]; simp [(List.getElem?_eq_some_iff.1 hy).1]
  · rw [if_neg hj]
end
def subQ (f y x : Rat) : Rat := if x = 0 then y else y - f * x
def clearQ (o n : Nat) (L P : List Rat) : List Rat := if L[o]?.getD 0 = 0 then L else zipT 0 (subQ (L[o]?.getD 0)) o n L P
theorem clearQ_row (o n : Nat) (L P : List Rat) (h : o + n = L.length) : clearQ o n L P = clrRow ratF o L P := by
  unfold clearQ clrRow
  have hz : ratF.z = 0 := rfl
  have hi : ∀ x, (ratF.isZ x = true) = (x = 0) := fun x => by simp [ratF]
  rw [hz]
  simp only [hi]
  split
  · rfl
  · unfold zipT
    apply List.ext_getElem?
    intro j
    simp only [List.getElem?_mapIdx]
    rcases Nat.lt_or_ge j L.length with hl | hl
    · rw [List.getElem?_eq_getElem hl]
      simp only [Option.map_some, Option.some.injEq]
      by_cases h2 : o ≤ j
      · rw [if_pos ⟨h2, by omega⟩, if_pos h2]; simp [subQ, ratF]
      · rw [if_neg (by omega), if_neg h2]
    · rw [List.getElem?_eq_none hl]; rfl
theorem qMinus_nil (w : World) : (nilAhead 444 172 (.agg #[]) "talisman/algebra.minus").run Tryz.prog w = .ok (some false) w := by kernel_rfl
/-- what clearFirst's numbers must be for it to go through -/
def ClrOk (o : Nat) (L P : List Rat) : Prop := FitQ (L[o]?.getD 0) ∧ ∀ j, o ≤ j → j < L.length → FitQ (P[j]?.getD 0) ∧ FitP (L[j]?.getD 0) (L[o]?.getD 0 * P[j]?.getD 0)

end Go.Proofs.YtneafcdfnhnpnaaGreatDoor
/- Elimination over the rational numbers: how things stand ahead of a round, and what a round does to it. -/
namespace Go.Proofs.YtneafcdfnhnpnaaGreatDoor
open Go.RowKit Go.Lib

/-- what a round's numbers must be for it to go through -/
def StepOk (row col : Nat) (S : ElS Rat) : Prop :=
  (∀ x ∈ rowOf (elSwap row S) S.cols.length, FitQ x) ∧
  ∀ (i : Nat) (r : RowR), (elDiv ratF row col S)[i]? = some r → i ≠ S.cols.length → ClrOk col r.2.2 (rowOf (elDiv ratF row col S) S.cols.length)
def ElOk (n : Nat) : Nat → Nat → ElS Rat → Prop
  | 0, _, _ => True
  | k + 1, fr, S => match pivF ratF S.rows S.cols.length (n - fr) fr with
    | none => True
    | some (row, col) => StepOk row col S ∧ ElOk n k (col + 1) (elStep ratF row col S)
theorem ElOk.some {n k fr row col : Nat} {S : ElS Rat} (h : ElOk n (k + 1) fr S) (hp : pivF ratF S.rows S.cols.length (n - fr) fr = some (row, col)) : StepOk row col S ∧ ElOk n k (col + 1) (elStep ratF row col S) := by
  unfold ElOk at h; rw [hp] at h; exact h

theorem Keeps.trans {a b c : World} (h : Keeps a b) (k : Keeps b c) : Keeps a c := by
  refine ⟨Nat.le_trans h.1 k.1, fun i hi => ?_⟩
  rcases h.2 i hi with e1 | e1
  · rcases k.2 i (Nat.lt_of_lt_of_le hi h.1) with e2 | e2
    · exact .inl (e2.trans e1)
    · exact .inr fun cur e fr hh c hc => e2 cur e fr (e1.trans hh) c hc
  · exact .inr e1
theorem noInt_oForm {w : World} {base : Nat} {e : TypeId} {size : Nat} {v : Value} {n : Nat} {xs : List Value} (h : w.ownsRow base e size v n xs) : NoInt v := by
  obtain ⟨A, c, rfl, _⟩ := oForm h; exact noInt_slice _ _ _
theorem own_ne {w : World} {base px : Nat} {t e : TypeId} {size n : Nat} {v : Value} {cs xs : List Value} (hO : Own w px t cs) (h : w.ownsRow base e size v n xs) (hte : t ≠ e) : v.ownBlock ≠ some px := by
  intro hv
  rcases h.2 with ⟨rfl, _⟩ | ⟨g, cap, cur, rfl, _, hg, _⟩
  · simp [Value.ownBlock] at hv
  · simp [Value.ownBlock] at hv
    subst hv
    unfold Own at hO
    rw [hO] at hg
    injection hg with hg
    injection hg with _ hg
    exact hte hg
theorem own_ne2 {B B' : Nat} {a : World} {e e' : TypeId} {s s' : Nat} {v v' : Value} {n n' : Nat} {xs xs' : List Value} (h : a.ownsRow B e s v n xs) (h' : a.ownsRow B' e' s' v' n' xs') (hee : e ≠ e') (k : Nat) (hk : v.ownBlock = some k) : v'.ownBlock ≠ some k := by
  intro hk'
  rcases h.2 with ⟨rfl, _⟩ | ⟨g, cap, cur, rfl, _, hg, _⟩
  · simp [Value.ownBlock] at hk
  · rcases h'.2 with ⟨rfl, _⟩ | ⟨g', cap', cur', rfl, _, hg', _⟩
    · simp [Value.ownBlock] at hk'
    · simp [Value.ownBlock] at hk hk'
      subst hk hk'
      rw [hg] at hg'
      injection hg' with hg'
      injection hg' with _ hg'
      exact hee hg'
theorem ecells_snoc (es : List El) (e : El) : ecells (es ++ [e]) = ecells es ++ elC e := by
  induction es with
  | nil => rfl
  | cons a t ih => simp only [List.cons_append, ecells, ih]

/-- how things stand ahead of a round -/
structure ElInvR (n g : Nat) (R : List RowR) (w wr : World) (S : ElS Rat) (fr : Nat) (cv pv : Value) : Prop where
  mx : MxR wr g S.rows n
  out : Own wr w.heap.size 169 [nilV, nilV, nilV, .bool false]
  res : Own wr (w.heap.size + 1) 169 [nilV, cv, pv, .bool S.odd]
  cown : wr.ownsRow (w.heap.size + 2) 3 1 cv S.cols.length (ncells S.cols)
  cin : AllIn wr NoU cv
  pown : PivQ wr (w.heap.size + 2) pv S.piv
  same : S.piv.length = S.cols.length
  len : S.rows.length = R.length
  perm : List.Perm (S.rows.map (·.1)) (R.map (·.1))
  hfr : fr ≤ n
  go : elGo ratF n (R.length - S.cols.length) fr S = elGo ratF n R.length 0 ⟨R, [], [], false⟩
  ok : ElOk n (R.length - S.cols.length) fr S
  buts : ButS (g :: R.map (·.1)) w wr
/-- what eliminate leaves -/
def elimPostR (n g c : Nat) (R : List RowR) (w : World) (e : Ending) (w' : World) : Prop :=
  ∃ S, S = elGo ratF n R.length 0 ⟨R, [], [], false⟩ ∧ ∃ cv pv, e = .returned (.agg #[.slice (some ⟨g, 0, none⟩) S.piv.length c, cv, pv, .bool S.odd]) ∧
    MxR w' g S.rows n ∧ w'.ownsRow w.heap.size 3 1 cv S.cols.length (ncells S.cols) ∧ PivQ w' w.heap.size pv S.piv ∧
    S.piv.length = S.cols.length ∧ S.piv.length ≤ S.rows.length ∧ S.rows.length = R.length ∧ List.Perm (S.rows.map (·.1)) (R.map (·.1)) ∧ ButS (g :: R.map (·.1)) w w'
/-- how things stand when the pivot's row is in its place -/
structure ElMidR (n g : Nat) (R : List RowR) (w wr : World) (C : List Nat) (V : List Rat) (Q : List RowR) (odd : Bool) (cv pv : Value) : Prop where
  mx : MxR wr g Q n
  out : Own wr w.heap.size 169 [nilV, nilV, nilV, .bool false]
  res : Own wr (w.heap.size + 1) 169 [nilV, cv, pv, .bool odd]
  cown : wr.ownsRow (w.heap.size + 2) 3 1 cv C.length (ncells C)
  cin : AllIn wr NoU cv
  pown : PivQ wr (w.heap.size + 2) pv V
  len : Q.length = R.length
  perm : List.Perm (Q.map (·.1)) (R.map (·.1))
  lt : ∀ k, k = g ∨ k ∈ R.map (·.1) → k < w.heap.size
  buts : ButS (g :: R.map (·.1)) w wr
section
variable {n g : Nat} {R Q : List RowR} {w w1 w2 : World} {S : ElS Rat} {C : List Nat} {V : List Rat} {fr i : Nat} {odd : Bool} {cv pv : Value}
theorem ratZ {R : List RowR} {i j : Nat} : ratF.isZ (numT ratF R i j) = decide (numR R i j = 0) := rfl
theorem PivQ.noInt {base : Nat} {v : Value} {V : List Rat} (h : PivQ w base v V) : NoInt v := by
  obtain ⟨es, h1, _⟩ := h; exact noInt_oForm h1
theorem PivQ.below {base : Nat} {v : Value} {V : List Rat} (h : PivQ w base v V) (hb : Below w.heap.size w w1) : PivQ w1 base v V :=
  h.keep (Keeps.below hb) fun k hk => hb.block k (h.lt k hk).2
theorem cinBelow {e : TypeId} {size base m : Nat} {xs : List Value} (h : AllIn w NoU cv) (ho : w.ownsRow base e size cv m xs) (hb : Below w.heap.size w w1) : AllIn w1 NoU cv :=
  h.same fun k hk => hb.block k (ho.lt k hk).2
theorem ElInvR.below (h : ElInvR n g R w w1 S fr cv pv) (hb : Below w1.heap.size w1 w2) : ElInvR n g R w w2 S fr cv pv :=
  ⟨h.mx.below hb, h.out.below hb h.out.lt, h.res.below hb h.res.lt, oBelow h.cown hb, cinBelow h.cin h.cown hb, h.pown.below hb, h.same, h.len, h.perm, h.hfr, h.go, h.ok, h.buts.below hb⟩
theorem ElInvR.mid (HM : MxR w g R n) (h : ElInvR n g R w w1 S fr cv pv) : ElMidR n g R w w1 S.cols S.piv S.rows S.odd cv pv :=
  ⟨h.mx, h.out, h.res, h.cown, h.cin, h.pown, h.len, h.perm, fun _ hk => HM.lt hk, h.buts⟩
theorem ElMidR.below (h : ElMidR n g R w w1 C V Q odd cv pv) (hb : Below w1.heap.size w1 w2) : ElMidR n g R w w2 C V Q odd cv pv :=
  ⟨h.mx.below hb, h.out.below hb h.out.lt, h.res.below hb h.res.lt, oBelow h.cown hb, cinBelow h.cin h.cown hb, h.pown.below hb, h.len, h.perm, h.lt, h.buts.below hb⟩
theorem ElMidR.drew (h : ElMidR n g R w w1 C V Q odd cv pv) : ElMidR n g R w w1.drew C V Q odd cv pv := h.below ((Below.refl _ _).drew)
theorem ElMidR.resNo (h : ElMidR n g R w w1 C V Q odd cv pv) : ∀ c ∈ [nilV, cv, pv, .bool odd], NoInt c := by
  intro c hc
  simp only [List.mem_cons, List.not_mem_nil, or_false] at hc
  rcases hc with rfl | rfl | rfl | rfl
  · exact noInt_slice _ _ _
  · exact noInt_oForm h.cown
  · exact h.pown.noInt
  · exact noInt_bool _
theorem ElMidR.swap (h : ElMidR n g R w w1 C V Q odd cv pv) {i j : Nat} {a b : RowR} (hi : Q[i]? = some a) (hj : Q[j]? = some b) :
    ElMidR n g R w (((w1.setCell ⟨g, i, none⟩ (rowW n b)).setCell ⟨g, j, none⟩ (rowW n a)).drew) C V (swapR Q i j) odd cv pv := by
  have hg := h.lt g (.inl rfl)
  have hB : But g w1 (((w1.setCell ⟨g, i, none⟩ (rowW n b)).setCell ⟨g, j, none⟩ (rowW n a)).drew) := by
    have := ((But.refl g w1).setCell ⟨g, i, none⟩ rfl (rowW n b)).setCell ⟨g, j, none⟩ rfl (rowW n a)
    exact ⟨this.os, this.tape, this.output, this.size, this.block⟩
  have hK := Keeps.but hB h.mx.own (rowW_noInt n Q)
  refine ⟨(h.mx.swap hi hj).below ((Below.refl _ _).drew), h.out.but hB (by omega), h.res.but hB (by omega), oBut h.cown hB (by omega), h.cin.same (fun k hk => hB.block k (h.cown.lt k hk).2 (by have := (h.cown.lt k hk).1; omega)), h.pown.keep hK (fun k hk => hB.block k (h.pown.lt k hk).2 (by have := (h.pown.lt k hk).1; omega)), by rw [swapR_length, h.len], ((swapR_perm Q i j).map _).trans h.perm, h.lt, h.buts.but hB (by simp)⟩
theorem ElMidR.setOdd (h : ElMidR n g R w w1 C V Q odd cv pv) (b : Bool) : ElMidR n g R w (w1.setCell ⟨w.heap.size + 1, 3, none⟩ (.bool b)) C V Q b cv pv := by
  have hB : But (w.heap.size + 1) w1 (w1.setCell ⟨w.heap.size + 1, 3, none⟩ (.bool b)) := (But.refl _ w1).setCell ⟨w.heap.size + 1, 3, none⟩ rfl (.bool b)
  have hK := Keeps.but hB h.res h.resNo
  refine ⟨h.mx.keep hK (fun k hk => hB.block k (h.mx.lt hk) (by have := h.lt k (hk.imp id fun x => h.perm.mem_iff.1 x); omega)), h.out.but hB (by omega), ?_, oBut h.cown hB (by omega), h.cin.same (fun k hk => hB.block k (h.cown.lt k hk).2 (by have := (h.cown.lt k hk).1; omega)), h.pown.keep hK (fun k hk => hB.block k (h.pown.lt k hk).2 (by have := (h.pown.lt k hk).1; omega)), h.len, h.perm, h.lt, h.buts.setNew _ (by simp) _⟩
  exact h.res.put 3 (.bool b)
theorem ElMidR.setRow (h : ElMidR n g R w w1 C V Q odd cv pv) {r : RowR} (hr : Q[i]? = some r) {L : List Rat} (hO : ∃ es, RowQ w2 r.1 es L) (hl : L.length = n) (hb : But r.1 w1 w2) :
    ElMidR n g R w w2 C V (setRow Q i L) odd cv pv := by
  have hrb : r.1 ∈ R.map (·.1) := h.perm.mem_iff.1 (List.mem_map_of_mem (List.mem_of_getElem? hr))
  have hlt := h.lt r.1 (.inr hrb)
  obtain ⟨es0, he0⟩ := (h.mx.row r (List.mem_of_getElem? hr)).1
  have hK := Keeps.but hb he0.own he0.noInt
  exact ⟨h.mx.setRow hr hO hl hb, h.out.but hb (by omega), h.res.but hb (by omega), oBut h.cown hb (by omega), h.cin.same (fun k hk => hb.block k (h.cown.lt k hk).2 (by have := (h.cown.lt k hk).1; omega)), h.pown.keep hK (fun k hk => hb.block k (h.pown.lt k hk).2 (by have := (h.pown.lt k hk).1; omega)), by rw [setRow_length]; exact h.len, by rw [setRow_blocks]; exact h.perm, h.lt, h.buts.but hb (List.mem_cons_of_mem _ hrb)⟩
/-- the number that a round divides by, in a block of its own -/
theorem RowQ.rowKeep {px : Nat} {e : El} {x : Rat} (hp : RowQ w1 px [e] [x]) (hlt : w.heap.size ≤ px) (h : ElMidR n g R w w1 C V Q odd cv pv) {r : RowR} (hr : Q[i]? = some r) (hb : But r.1 w1 w2) : RowQ w2 px [e] [x] := by
  have hrb : r.1 ∈ R.map (·.1) := h.perm.mem_iff.1 (List.mem_map_of_mem (List.mem_of_getElem? hr))
  have := h.lt r.1 (.inr hrb)
  obtain ⟨es0, he0⟩ := (h.mx.row r (List.mem_of_getElem? hr)).1
  exact hp.keeps (Keeps.but hb he0.own he0.noInt) (hb.block px hp.own.lt (by omega))
theorem ElMidR.addCol (h : ElMidR n g R w w1 C V Q odd cv pv) {o : Obj} {v5 : Value} {j : Nat} (hown : w2.ownsRow (w.heap.size + 2) 3 1 v5 (C.length + 1) (ncells C ++ [.int .i64 (j : Int)])) (hall : AllIn w2 NoU v5) (hg : (w1.alloc o).grownBy w2 cv.ownBlock) :
    Own w2 (w.heap.size + 1) 169 [nilV, cv, pv, .bool odd] ∧ ElMidR n g R w (w2.setCell ⟨w.heap.size + 1, 1, none⟩ v5) (C ++ [j]) V Q odd v5 pv ∧
    (∀ (px : Nat) (e : El) (x : Rat), w.heap.size + 2 ≤ px → RowQ w1 px [e] [x] → RowQ (w2.setCell ⟨w.heap.size + 1, 1, none⟩ v5) px [e] [x]) := by
  have ha : Below w1.heap.size w1 (w1.alloc o) := (Below.refl _ _).alloc (Nat.le_refl _) _
  have hm := h.below ha
  have hcv : ∀ k, cv.ownBlock = some k → w.heap.size + 2 ≤ k := fun k hk => (hm.cown.lt k hk).1
  have hX := hm.res.grown hg (fun e => by have := hcv _ e; omega)
  have hlt := h.lt
  have hK1 := Keeps.grown hg hm.cown hm.cin
  have hB : But (w.heap.size + 1) w2 (w2.setCell ⟨w.heap.size + 1, 1, none⟩ v5) := (But.refl _ w2).setCell ⟨w.heap.size + 1, 1, none⟩ rfl v5
  have hK2 := Keeps.but hB hX hm.resNo
  have hK := hK1.trans hK2
  have hsz := hg.size
  have hbl : ∀ k, k < (w1.alloc o).heap.size → k ≠ w.heap.size + 1 → cv.ownBlock ≠ some k → (w2.setCell ⟨w.heap.size + 1, 1, none⟩ v5).heap[k]? = (w1.alloc o).heap[k]? := fun k h1 h2 h3 =>
    (hB.block k (by omega) h2).trans (hg.block k h1 (fun e => h3 e.symm))
  refine ⟨hX, ⟨hm.mx.keep hK (fun k hk => ?_), ?_, hX.put 1 v5, ?_, hall.same (fun k hk => hB.block k (hown.lt k hk).2 (by have := (hown.lt k hk).1; omega)), ?_, h.len, h.perm, h.lt, (hm.buts.grown hg (fun k hk => by have := hcv k hk; omega)).setNew _ (by simp) _⟩, fun px e x hpx hq => ?_⟩
  · have hk' := h.lt k (hk.imp id fun x => h.perm.mem_iff.1 x)
    exact hbl k (hm.mx.lt hk) (by omega) (fun e => by have := hcv k e; omega)
  · exact (hbl _ hm.out.lt (by omega) (fun e => by have := hcv _ e; omega)).trans hm.out
  · rw [ncells_snoc, List.length_append]
    exact oSet hown ⟨w.heap.size + 1, 1, none⟩ (by simp) _
  · refine hm.pown.keep hK fun k hk => hbl k (hm.pown.lt k hk).2 (by have := (hm.pown.lt k hk).1; omega) ?_
    obtain ⟨es, hp, _⟩ := hm.pown
    exact own_ne2 hp hm.cown (by decide) k hk
  · have hq2 := hq.below ha
    exact hq2.keeps hK (hbl px hq2.own.lt (by omega) (own_ne hq2.own hm.cown (by decide)))
theorem ElMidR.addPiv (h : ElMidR n g R w w1 C V Q odd cv pv) {es : List El} (ho : w1.ownsRow (w.heap.size + 2) 122 3 pv V.length (ecells es)) (hl : es.length = V.length) (ha0 : AllIn w1 NoU pv) (hr : ∀ (i : Nat) (e : El) (q : Rat), es[i]? = some e → V[i]? = some q → Rt w1 (elV e) q)
    {o : Obj} {v5 : Value} {e : El} {x : Rat} (hx : Rt w1 (elV e) x) (hown : w2.ownsRow (w.heap.size + 2) 122 3 v5 (V.length + 1) (ecells es ++ elC e)) (hall : AllIn w2 NoU v5) (hg : (w1.alloc o).grownBy w2 pv.ownBlock) :
    Own w2 (w.heap.size + 1) 169 [nilV, cv, pv, .bool odd] ∧ ElMidR n g R w (w2.setCell ⟨w.heap.size + 1, 2, none⟩ v5) C (V ++ [x]) Q odd cv v5 := by
  have ha : Below w1.heap.size w1 (w1.alloc o) := (Below.refl _ _).alloc (Nat.le_refl _) _
  have hm := h.below ha
  have hcv : ∀ k, pv.ownBlock = some k → w.heap.size + 2 ≤ k := fun k hk => (hm.pown.lt k hk).1
  have hX := hm.res.grown hg (fun e => by have := hcv _ e; omega)
  have hlt := h.lt
  have hK1 := Keeps.grown hg (oBelow ho ha) (cinBelow ha0 ho ha)
  have hB : But (w.heap.size + 1) w2 (w2.setCell ⟨w.heap.size + 1, 2, none⟩ v5) := (But.refl _ w2).setCell ⟨w.heap.size + 1, 2, none⟩ rfl v5
  have hK2 := Keeps.but hB hX hm.resNo
  have hK := hK1.trans hK2
  have hsz := hg.size
  have hbl : ∀ k, k < (w1.alloc o).heap.size → k ≠ w.heap.size + 1 → pv.ownBlock ≠ some k → (w2.setCell ⟨w.heap.size + 1, 2, none⟩ v5).heap[k]? = (w1.alloc o).heap[k]? := fun k h1 h2 h3 =>
    (hB.block k (by omega) h2).trans (hg.block k h1 (fun e => h3 e.symm))
  have hcp : ∀ k, cv.ownBlock = some k → pv.ownBlock ≠ some k := fun k hk => own_ne2 h.cown ho (by decide) k hk
  refine ⟨hX, ⟨hm.mx.keep hK (fun k hk => ?_), ?_, hX.put 2 v5, ?_, ?_, ?_, h.len, h.perm, h.lt, (hm.buts.grown hg (fun k hk => by have := hcv k hk; omega)).setNew _ (by simp) _⟩⟩
  · have hk' := h.lt k (hk.imp id fun x => h.perm.mem_iff.1 x)
    exact hbl k (hm.mx.lt hk) (by omega) (fun e => by have := hcv k e; omega)
  · exact (hbl _ hm.out.lt (by omega) (fun e => by have := hcv _ e; omega)).trans hm.out
  · exact oKeep hm.cown fun k hk hv => hbl k hk (by have := (hm.cown.lt k hv).1; omega) (hcp k hv)
  · exact hm.cin.same fun k hv => hbl k (hm.cown.lt k hv).2 (by have := (hm.cown.lt k hv).1; omega) (hcp k hv)
  · refine ⟨es ++ [e], ?_, by simp [hl], hall.same (fun k hk => hB.block k (hown.lt k hk).2 (by have := (hown.lt k hk).1; omega)), fun i e' q he hq => ?_⟩
    · rw [ecells_snoc, List.length_append]
      exact oSet hown ⟨w.heap.size + 1, 2, none⟩ (by simp) _
    · rcases Nat.lt_or_ge i es.length with hi | hi
      · rw [List.getElem?_append_left hi] at he
        rw [List.getElem?_append_left (by omega)] at hq
        exact ((hr i e' q he hq).below ha).keeps hK
      · rw [List.getElem?_append_right hi] at he
        rw [List.getElem?_append_right (by omega)] at hq
        rw [← hl] at hq
        have h0 : i - es.length = 0 := by
          rcases Nat.eq_zero_or_pos (i - es.length) with h0 | h0
          · exact h0
          · rw [List.getElem?_eq_none (by simp; omega)] at he; cases he
        rw [h0] at he hq
        simp at he hq
        subst he hq
        exact (hx.below ha).keeps hK
theorem ElMidR.inv {wf : World} {i j : Nat} {Q' : List RowR} {x : Rat} (h : ElMidR n g R w wf (S.cols ++ [j]) (S.piv ++ [x]) Q' odd cv pv) (hS : elStep ratF i j S = ⟨Q', S.cols ++ [j], S.piv ++ [x], odd⟩) (hs : S.piv.length = S.cols.length) (hj : j < n) (hl : S.cols.length < R.length)
    (hp : pivF ratF S.rows S.cols.length (n - fr) fr = some (i, j)) (hgo : elGo ratF n (R.length - S.cols.length) fr S = elGo ratF n R.length 0 ⟨R, [], [], false⟩) (hok : ElOk n (R.length - S.cols.length) fr S) : ElInvR n g R w wf (elStep ratF i j S) (j + 1) cv pv := by
  have hgo' : elGo ratF n (R.length - (S.cols ++ [j]).length) (j + 1) (elStep ratF i j S) = elGo ratF n R.length 0 ⟨R, [], [], false⟩ := by
    rw [← hgo, show R.length - S.cols.length = (R.length - (S.cols ++ [j]).length) + 1 by simp; omega, elGo_some hp]
  have hok' : ElOk n (R.length - (S.cols ++ [j]).length) (j + 1) (elStep ratF i j S) := by
    rw [show R.length - S.cols.length = (R.length - (S.cols ++ [j]).length) + 1 by simp; omega] at hok
    exact (hok.some hp).2
  rw [hS] at hgo' hok' ⊢
  exact ⟨h.mx, h.out, h.res, h.cown, h.cin, h.pown, by simp [hs], h.len, h.perm, hj, hgo', hok', h.buts⟩
end
theorem elFinishR {n g c : Nat} {R : List RowR} {w wr wf : World} {S : ElS Rat} {fr : Nat} {cv pv : Value} {e : Ending} (HM : MxR w g R n) (hE : ElInvR n g R w wr S fr cv pv) (hS : S.cols.length ≤ R.length)
    (hgo : S = elGo ratF n R.length 0 ⟨R, [], [], false⟩) (hB : Below w.heap.size wr wf) (h2 : ∀ k, k ≠ w.heap.size → k ≠ w.heap.size + 1 → wf.heap[k]? = wr.heap[k]?) (he : e = .returned (.agg #[.slice (some ⟨g, 0, none⟩) S.piv.length c, cv, pv, .bool S.odd])) : elimPostR n g c R w e wf := by
  have hlt : ∀ k, k = g ∨ k ∈ S.rows.map (·.1) → k < w.heap.size := fun k hk => HM.lt (hk.imp id fun h => hE.perm.mem_iff.1 h)
  have hM := hE.mid HM
  have hK : Keeps wr wf := by
    refine ⟨hB.size, fun b hb => ?_⟩
    by_cases h0 : b = w.heap.size
    · subst h0
      refine .inr fun cur e fr hh x hx => ?_
      have := hE.out
      unfold Own at this
      rw [this] at hh
      injection hh with hh
      injection hh with hh _ _
      subst hh
      simp at hx
      rcases hx with rfl | rfl
      · exact (noInt_slice _ _ _).noU
      · exact (noInt_bool _).noU
    · by_cases h1 : b = w.heap.size + 1
      · subst h1
        refine .inr fun cur e fr hh x hx => ?_
        have := hE.res
        unfold Own at this
        rw [this] at hh
        injection hh with hh
        injection hh with hh _ _
        subst hh
        exact (hM.resNo x (by simpa using hx)).noU
      · exact .inl (h2 b h0 h1)
  refine ⟨S, hgo, cv, pv, he, hE.mx.keep hK (fun k hk => hB.block k (hlt k hk)), ?_, ?_, hE.same, ?_, hE.len, hE.perm, hE.buts.belowAt hB⟩
  · exact oMono (oKeep hE.cown fun k _ hv => h2 k (by have := (hE.cown.lt k hv).1; omega) (by have := (hE.cown.lt k hv).1; omega)) (by omega)
  · have hp := hE.pown.keep hK (fun k hv => h2 k (by have := (hE.pown.lt k hv).1; omega) (by have := (hE.pown.lt k hv).1; omega))
    obtain ⟨es, h1, h2, h3, h4⟩ := hp
    exact ⟨es, oMono h1 (by omega), h2, h3, h4⟩
  · rw [hE.same, hE.len]; exact hS
end Go.Proofs.YtneafcdfnhnpnaaGreatDoor
/- Plain mathematics: elimination asks for the numbers alone, not for where the rows lie. -/
namespace Go.Proofs.YtneafcdfnhnpnaaGreatDoor

section
variable {T : Type} {F : Fd T}
/-- the numbers of the rows, wherever these lie -/
def valsT (R : List (RowT T)) : List (List T) := R.map (·.2.2)
theorem rowOf_vals (R : List (RowT T)) (i : Nat) : rowOf R i = (valsT R)[i]?.getD [] := by
  unfold rowOf valsT; rw [List.getElem?_map]
theorem vals_len (R : List (RowT T)) : (valsT R).length = R.length := by simp [valsT]
theorem numT_vals {R Q : List (RowT T)} (h : valsT R = valsT Q) (i j : Nat) : numT F R i j = numT F Q i j := by unfold numT; rw [rowOf_vals, rowOf_vals, h]
theorem len_vals {R Q : List (RowT T)} (h : valsT R = valsT Q) : R.length = Q.length := by rw [← vals_len R, ← vals_len Q, h]
theorem firstRow_vals {R Q : List (RowT T)} (h : valsT R = valsT Q) (j k i : Nat) : firstRow F R j k i = firstRow F Q j k i := by
  induction k generalizing i with
  | zero => rfl
  | succ k ih => unfold firstRow; rw [numT_vals h, ih]
theorem pivF_vals {R Q : List (RowT T)} (h : valsT R = valsT Q) (top k j : Nat) : pivF F R top k j = pivF F Q top k j := by
  induction k generalizing j with
  | zero => rfl
  | succ k ih => unfold pivF; rw [firstRow_vals h, len_vals h, ih]
theorem vals_swap {R Q : List (RowT T)} (h : valsT R = valsT Q) (i j : Nat) : valsT (swapR R i j) = valsT (swapR Q i j) := by
  have e : ∀ R : List (RowT T), valsT (swapR R i j) = swapR (valsT R) i j := fun R => by
    unfold swapR valsT
    rw [List.getElem?_map, List.getElem?_map]
    cases R[i]? <;> cases R[j]? <;> simp [List.map_set]
  rw [e, e, h]
theorem vals_setRow {R Q : List (RowT T)} (h : valsT R = valsT Q) (i : Nat) (L : List T) : valsT (setRow R i L) = valsT (setRow Q i L) := by
  have e : ∀ R : List (RowT T), valsT (setRow R i L) = (valsT R).modify i (fun _ => L) := fun R => by
    unfold setRow valsT
    apply List.ext_getElem?
    intro k
    simp only [List.getElem?_map, List.getElem?_modify]
    cases R[k]? with
    | none => rfl
    | some r => simp only [Option.map_some]; split <;> rfl
  rw [e, e, h]
theorem vals_clrTo {R Q : List (RowT T)} (h : valsT R = valsT Q) (top o : Nat) (P : List T) (k : Nat) : valsT (clrTo F top o P R k) = valsT (clrTo F top o P Q k) := by
  have e : ∀ R : List (RowT T), valsT (clrTo F top o P R k) = (valsT R).mapIdx fun i L => if i < k ∧ i ≠ top then clrRow F o L P else L := fun R => by
    unfold clrTo valsT
    apply List.ext_getElem?
    intro j
    simp only [List.getElem?_map, List.getElem?_mapIdx]
    cases R[j]? with
    | none => rfl
    | some r => simp only [Option.map_some]; split <;> rfl
  rw [e, e, h]
/-- two states have the same numbers -/
structure SameS (S Z : ElS T) : Prop where
  rows : valsT S.rows = valsT Z.rows
  cols : S.cols = Z.cols
  piv : S.piv = Z.piv
  odd : S.odd = Z.odd
variable {S Z : ElS T}
theorem SameS.swap (h : SameS S Z) (row : Nat) : valsT (elSwap row S) = valsT (elSwap row Z) := by
  unfold elSwap; rw [h.cols]
  split
  · exact h.rows
  · exact vals_swap h.rows _ _
theorem SameS.elPiv (h : SameS S Z) (row col : Nat) : elPiv F row col S = elPiv F row col Z := by unfold Proofs.YtneafcdfnhnpnaaGreatDoor.elPiv; rw [numT_vals (h.swap row), h.cols]
theorem SameS.elDiv (h : SameS S Z) (row col : Nat) : valsT (elDiv F row col S) = valsT (elDiv F row col Z) := by
  unfold Proofs.YtneafcdfnhnpnaaGreatDoor.elDiv
  rw [h.elPiv, h.cols, rowOf_vals, rowOf_vals, h.swap row]
  exact vals_setRow (h.swap row) _ _
theorem SameS.step (h : SameS S Z) (row col : Nat) : SameS (elStep F row col S) (elStep F row col Z) := by
  have hd := h.elDiv (F := F) row col
  unfold elStep
  refine ⟨?_, ?_, ?_, ?_⟩
  · dsimp only
    rw [h.cols, rowOf_vals, rowOf_vals, hd, len_vals hd]
    exact vals_clrTo hd _ _ _ _
  · dsimp only; rw [h.cols]
  · dsimp only; rw [h.piv, h.elPiv]
  · dsimp only; rw [h.cols, h.odd]
theorem SameS.go (n : Nat) : ∀ (k fr : Nat) {S Z : ElS T}, SameS S Z → SameS (elGo F n k fr S) (elGo F n k fr Z)
  | 0, _, _, _, h => h
  | k + 1, fr, S, Z, h => by
    unfold elGo
    rw [pivF_vals h.rows, h.cols]
    split
    · exact h
    · exact SameS.go n k _ (h.step _ _)
theorem SameS.nsSet (h : SameS S Z) (zero : T) (col k : Nat) (L : List T) : nsSet F zero S col k L = nsSet F zero Z col k L := by
  induction k with
  | zero => rfl
  | succ k ih => rw [nsSet_succ, nsSet_succ, ih, h.cols, numT_vals h.rows]
theorem SameS.nsBasis (h : SameS S Z) (zero one : T) (n k : Nat) : nsBasis F zero one n S k = nsBasis F zero one n Z k := by
  induction k with
  | zero => rfl
  | succ k ih =>
    unfold Proofs.YtneafcdfnhnpnaaGreatDoor.nsBasis nsList
    rw [ih, h.cols, h.nsSet]
/-- rows that lie nowhere -/
def bareR (M : List (List T)) : List (RowT T) := M.map fun L => (0, 0, L)
theorem bare_vals (M : List (List T)) : valsT (bareR M) = M := by unfold valsT bareR; rw [List.map_map]; simp [Function.comp_def]
theorem same_bare {R : List (RowT T)} {M : List (List T)} (h : valsT R = M) : SameS (⟨R, [], [], false⟩ : ElS T) ⟨bareR M, [], [], false⟩ := ⟨by rw [bare_vals]; exact h, rfl, rfl, rfl⟩
/-- the reduced echelon form of a matrix with n columns -/
def elimM (F : Fd T) (n : Nat) (M : List (List T)) : ElS T := elGo F n M.length 0 ⟨bareR M, [], [], false⟩
theorem elim_same {R : List (RowT T)} {M : List (List T)} (h : valsT R = M) (n : Nat) : SameS (elGo F n R.length 0 ⟨R, [], [], false⟩) (elimM F n M) := by
  unfold elimM
  have hl : R.length = M.length := by rw [← h, vals_len]
  rw [hl]
  exact SameS.go n _ _ (same_bare h)
theorem mapTo_all_vals (f : List T → List T) (R : List (RowT T)) : valsT (mapTo f R R.length) = (valsT R).map f := by
  rw [mapTo_all]; unfold valsT; rw [List.map_map, List.map_map]; rfl
end
section
variable {S Z : ElS Rat}
theorem SameS.stepOk (h : SameS S Z) (row col : Nat) (hz : StepOk row col Z) : StepOk row col S := by
  obtain ⟨h1, h2⟩ := hz
  have hd := h.elDiv (F := ratF) row col
  refine ⟨fun x hx => h1 x ?_, fun i r hr hi => ?_⟩
  · rw [rowOf_vals, ← h.cols, ← h.swap row, ← rowOf_vals]; exact hx
  · have hv : (valsT (Proofs.YtneafcdfnhnpnaaGreatDoor.elDiv ratF row col Z))[i]? = some r.2.2 := by rw [← hd]; unfold valsT; rw [List.getElem?_map, hr]; rfl
    unfold valsT at hv
    rw [List.getElem?_map] at hv
    cases hz : (Proofs.YtneafcdfnhnpnaaGreatDoor.elDiv ratF row col Z)[i]? with
    | none => rw [hz] at hv; cases hv
    | some q =>
      rw [hz] at hv
      have e : q.2.2 = r.2.2 := Option.some.inj hv
      have := h2 i q hz (by rw [← h.cols]; exact hi)
      rw [rowOf_vals, ← hd, ← rowOf_vals, ← h.cols, e] at this
      exact this
theorem SameS.elOk (n : Nat) : ∀ (k fr : Nat) {S Z : ElS Rat}, SameS S Z → ElOk n k fr Z → ElOk n k fr S
  | 0, _, _, _, _, _ => trivial
  | k + 1, fr, S, Z, h, hz => by
    unfold ElOk at hz ⊢
    rw [pivF_vals h.rows, h.cols]
    split
    · trivial
    · rename_i row col hp
      rw [hp] at hz
      exact ⟨h.stepOk _ _ hz.1, SameS.elOk n k _ (h.step _ _) hz.2⟩
/-- the numbers of a matrix stay small while it is eliminated -/
def OkM (n : Nat) (M : List (List Rat)) : Prop := ElOk n M.length 0 ⟨bareR M, [], [], false⟩
theorem OkM.rows {n : Nat} {M : List (List Rat)} (h : OkM n M) {R : List RowR} (hR : valsT R = M) : ElOk n R.length 0 ⟨R, [], [], false⟩ := by
  have hl : R.length = M.length := by rw [← hR, vals_len]
  rw [hl]
  exact SameS.elOk n _ _ (same_bare hR) h
end
end Go.Proofs.YtneafcdfnhnpnaaGreatDoor
/- Rows of rational numbers that a call makes one after another. -/
namespace Go.Proofs.YtneafcdfnhnpnaaGreatDoor
open Go.RowKit Go.Lib

theorem info_slr' : (Tryz.prog.info? 167).map (fun i => (i.zero, i.size, i.bytes)) = some (some (.slice none 0 0), 1, 24) := by kernel_rfl
theorem make_rowsQ (w : World) (n : Nat) (hn : n ≤ 1000000) : (Instr.makeSlice 163 (.int .i64 (n : Int)) (.int .i64 (n : Int))).run Tryz.prog w = .ok (.slice (some ⟨w.heap.size, 0, none⟩) n n) (w.alloc (.cells (List.replicate n nilV).toArray 167)) := by
  have := run_make_row' (P := Tryz.prog) 163 167 nilV 24 Tryz.underlying163 info_slr' rfl .i64 .i64 n (by omega) (by omega) w
  rw [madeCells_eq] at this
  exact this
/-- the first k rows are made -/
structure RowsQTo (w wr : World) (g n : Nat) (M : List (List Rat)) (k : Nat) (R : List RowR) : Prop where
  own : Own wr g 167 (R.map (rowW n) ++ List.replicate (M.length - k) nilV)
  rows : ∀ r ∈ R, (∃ es, RowQ wr r.1 es r.2.2) ∧ r.2.2.length = n ∧ n ≤ r.2.1 ∧ r.2.1 ≤ 9223372036854775807
  new : ∀ r ∈ R, w.heap.size ≤ r.1
  apart : (R.map (·.1)).Nodup
  vals : valsT R = M.take k
theorem RowsQTo.start (w : World) (M : List (List Rat)) (n : Nat) : RowsQTo w (w.alloc (.cells (List.replicate M.length nilV).toArray 167)) w.heap.size n M 0 [] :=
  ⟨by simpa using Own.make w 167 (List.replicate M.length nilV), by simp, by simp, by simp, rfl⟩
theorem RowsQTo.len {w wr : World} {g n : Nat} {M : List (List Rat)} {k : Nat} {R : List RowR} (h : RowsQTo w wr g n M k R) (hk : k ≤ M.length) : R.length = k := by
  have := congrArg List.length h.vals
  rw [vals_len] at this
  simp at this; omega
theorem RowsQTo.below {w wr w1 : World} {g n : Nat} {M : List (List Rat)} {k : Nat} {R : List RowR} (h : RowsQTo w wr g n M k R) (hb : Below wr.heap.size wr w1) : RowsQTo w w1 g n M k R :=
  ⟨h.own.below hb h.own.lt, fun r hr => ⟨by obtain ⟨es, he⟩ := (h.rows r hr).1; exact ⟨es, he.below hb⟩, (h.rows r hr).2⟩, h.new, h.apart, h.vals⟩
theorem RowsQTo.step {w wr w1 : World} {g n gn cn : Nat} {M : List (List Rat)} {k : Nat} {R : List RowR} {r : List Rat} {es : List El} (h : RowsQTo w wr g n M k R) (hk : M[k]? = some r) (hl : r.length = n) (hn : n ≤ cn) (hcn : cn ≤ 9223372036854775807) (hb : Below wr.heap.size wr w1) (hg : wr.heap.size ≤ gn) (hgn : w.heap.size ≤ gn) (hO : RowQ w1 gn es r) :
    RowsQTo w (w1.setCell ⟨g, k, none⟩ (.slice (some ⟨gn, 0, none⟩) n cn)) g n M (k + 1) (R ++ [(gn, cn, r)]) := by
  have hkl : k < M.length := (List.getElem?_eq_some_iff.1 hk).1
  have hR := h.len (by omega)
  have hglt := h.own.lt
  have hO1 := h.own.below hb hglt
  have hBt : But g w1 (w1.setCell ⟨g, k, none⟩ (.slice (some ⟨gn, 0, none⟩) n cn)) := (But.refl g w1).setCell ⟨g, k, none⟩ rfl _
  have hno : ∀ c ∈ R.map (rowW n) ++ List.replicate (M.length - k) nilV, NoInt c := by
    intro c hc
    rcases List.mem_append.1 hc with hc | hc
    · exact rowW_noInt n R c hc
    · rw [List.eq_of_mem_replicate hc]; exact noInt_slice _ _ _
  have hK := Keeps.but hBt hO1 hno
  have hne : ∀ (b : Nat) (es : List El) (q : List Rat), RowQ w1 b es q → b ≠ g := fun b es q hq e => by
    have h1 := hq.own
    unfold Own at h1 hO1
    rw [e] at h1
    rw [hO1] at h1
    injection h1 with h1
    injection h1 with _ h1
    exact absurd h1 (by decide)
  refine ⟨?_, ?_, ?_, ?_, ?_⟩
  · have := hO1.put k (.slice (some ⟨gn, 0, none⟩) n cn)
    rw [List.set_append_right _ _ (by simp [hR]), show M.length - k = (M.length - (k + 1)) + 1 by omega, List.replicate_succ, List.length_map, hR, Nat.sub_self, List.set_cons_zero] at this
    rw [List.map_append, List.append_assoc]
    exact this
  · intro x hx
    rcases List.mem_append.1 hx with hx | hx
    · have := h.rows x hx
      obtain ⟨es', he⟩ := this.1
      have he1 := he.below hb
      exact ⟨⟨es', he1.keeps hK (hBt.block _ he1.own.lt (hne _ _ _ he1))⟩, this.2⟩
    · obtain rfl := List.mem_singleton.1 hx
      exact ⟨⟨es, hO.keeps hK (hBt.block _ hO.own.lt (hne _ _ _ hO))⟩, hl, hn, hcn⟩
  · intro x hx
    rcases List.mem_append.1 hx with hx | hx
    · exact h.new x hx
    · obtain rfl := List.mem_singleton.1 hx; exact hgn
  · rw [List.map_append, List.nodup_append]
    refine ⟨h.apart, by simp, fun a ha b hb' => ?_⟩
    obtain ⟨x, hx, rfl⟩ := List.mem_map.1 ha
    simp at hb'
    obtain ⟨es', he⟩ := (h.rows x hx).1
    have := he.own.lt
    omega
  · unfold valsT; rw [List.map_append]
    have := h.vals
    unfold valsT at this
    rw [this, List.take_add_one, hk]; rfl
theorem RowsQTo.done {w wr : World} {g n : Nat} {M : List (List Rat)} {R : List RowR} (h : RowsQTo w wr g n M M.length R) : MxR wr g R n ∧ valsT R = M ∧ R.length = M.length :=
  ⟨⟨by have := h.own; rw [Nat.sub_self] at this; simpa using this, h.rows, h.apart⟩, by rw [h.vals, List.take_of_length_le (Nat.le_refl _)], h.len (Nat.le_refl _)⟩
theorem ButS.toBelow {s : List Nat} {a b : World} {B : Nat} (h : ButS s a b) (hs : ∀ k ∈ s, B ≤ k) (hB : B ≤ a.heap.size) : Below B a b :=
  ⟨h.os, h.tape, h.output, h.size, fun k hk => h.block k (by omega) (fun hm => by have := hs k hm; omega)⟩
end Go.Proofs.YtneafcdfnhnpnaaGreatDoor
/- Elimination over the rational numbers: small facts that the walk uses. -/
namespace Go.Proofs.YtneafcdfnhnpnaaGreatDoor
open Go.RowKit Go.Lib

theorem noU_i64 (n : Int) : NoU (.int .i64 n) := by intro m h; cases h
theorem news_i64 (n : Int) : ∀ u ∈ [Value.int .i64 n], NoU u := by intro u hu; simp at hu; subst hu; exact noU_i64 n
theorem zero_i64 : ∀ u ∈ (Value.int .i64 0).cells.toList, NoU u := by intro u hu; simp [Value.cells] at hu; subst hu; exact noU_i64 0
def ratZero : Value := .agg #[.bool false, .slice none 0 0, .slice none 0 0]
theorem info_rational : (Tryz.prog.info? 122).map (fun i => (i.zero, i.size, i.bytes)) = some (some ratZero, 3, 56) := by kernel_rfl
theorem zero_rat : ∀ u ∈ ratZero.cells.toList, NoU u := by
  intro u hu
  simp [Value.cells, ratZero] at hu
  rcases hu with rfl | rfl
  · exact (noInt_bool _).noU
  · exact (noInt_slice _ _ _).noU
theorem news_el (s : Bool) (A B : Option Addr) (n m c d : Nat) : ∀ u ∈ [Value.bool s, .slice A n c, .slice B m d], NoU u := by
  intro u hu
  simp at hu
  rcases hu with rfl | rfl | rfl
  · exact (noInt_bool _).noU
  · exact (noInt_slice _ _ _).noU
  · exact (noInt_slice _ _ _).noU
theorem one_el (s : Bool) (A B : Option Addr) (n m c d : Nat) : ∀ u ∈ [Value.bool s, .slice A n c, .slice B m d], u.oneCell' = true := by
  intro u hu
  simp at hu
  rcases hu with rfl | rfl | rfl <;> rfl
theorem cell_three_new (w : World) (a b c : Value) (t : TypeId) : ∀ j u, [a, b, c][j]? = some u → (w.alloc (.cells #[a, b, c] t)).cell? ((⟨w.heap.size, 0, none⟩ : Addr).add j) = some u := by
  intro j u hu
  have h := Own.make w t [a, b, c]
  have e : ((⟨w.heap.size, 0, none⟩ : Addr).add j) = ⟨w.heap.size, j, none⟩ := by
    unfold Addr.add
    split
    · subst j; rfl
    · simp
  rw [e]
  exact (h.cell j).trans hu
theorem StepOk.parts {S : ElS Rat} {i j ib ic : Nat} {il : List Rat} {Q : List RowR} {x : Rat} (h : StepOk i j S) (hQ : elSwap i S = Q) (hr : Q[S.cols.length]? = some (ib, ic, il)) (hx : il[j]?.getD 0 = x) :
    (∀ x ∈ il, FitQ x) ∧ ∀ (k : Nat) (r : RowR), (setRow Q S.cols.length (divRow ratF x j il))[k]? = some r → k ≠ S.cols.length → ClrOk j r.2.2 (divRow ratF x j il) := by
  have e1 : elPiv ratF i j S = x := by unfold elPiv numT; rw [hQ, rowOf_eq hr]; exact hx
  have e2 : elDiv ratF i j S = setRow Q S.cols.length (divRow ratF x j il) := by unfold elDiv; rw [e1, hQ, rowOf_eq hr]
  have e3 : rowOf (elDiv ratF i j S) S.cols.length = divRow ratF x j il := by rw [e2, rowOf_eq (setRow_at hr _)]
  obtain ⟨h1, h2⟩ := h
  rw [hQ, rowOf_eq hr] at h1
  rw [e3, e2] at h2
  exact ⟨h1, h2⟩
end Go.Proofs.YtneafcdfnhnpnaaGreatDoor
/- Rows of rational numbers: copies, zeros; the reversal of a row. -/
namespace Go.Proofs.YtneafcdfnhnpnaaGreatDoor
open Go.RowKit Go.Lib

theorem ecells_append (a b : List El) : ecells (a ++ b) = ecells a ++ ecells b := by
  induction a with
  | nil => rfl
  | cons e t ih => simp only [List.cons_append, ecells, ih]
theorem run_copy_wide {P : Program} (w : World) (dT sT ty elem : TypeId) (size g o dLen dCap : Nat) (a : Addr) (sLen sCap : Nat) (cur : Array Value) (t : TypeId) (m : Nat) (cs : List Value)
    (hu : P.underlying dT = some (.slice elem)) (hs : (P.info? elem).map (·.size) = some size)
    (hg : w.heap[g]? = some (.cells cur t (0, 0))) (hm : Nat.min sLen dLen = m) (hn : cs.length = m * size)
    (hsrc : ∀ j v, cs[j]? = some v → w.cell? (a.add j) = some v) (hfit : o + cs.length ≤ cur.size) (h1 : ∀ v ∈ cs, v.oneCell' = true) :
    (Builtin.copy_ #[dT, sT] ty #[.slice (some ⟨g, o, none⟩) dLen dCap, .slice (some a) sLen sCap]).run P w =
      .ok (goInt m) (w.setRow g (cur.toList.take o ++ cs ++ cur.toList.drop (o + cs.length)).toArray) := by
  have hl := run_loadCells_list (P := P) w a cs hsrc
  have hst := run_storeCells_at P g o t cs 0 cur w hg (by simpa using hfit) h1
  cases hq : P.info? elem with
  | none => simp [hq] at hs
  | some i =>
    have hi : i.size = size := by simpa [hq] using hs
    simp [Builtin.copy_, run_underlying hu, Builtin.lenOf, Builtin.firstCells, sizeOf, typeInfo, hq, hi, hm, ← hn, hl, hst]
theorem wpList_copy_wide {P : Program} {w : World} {ops : Array Oper} {rest : List Oper} {o : Oper} {a : Act} {Q : Exit → Act → World → Prop} (hgd : o.guard = none) (d s : Operand) (dT sT : TypeId)
    (ho : o.op = .call { callee := .builtin .copy, args := #[d, s], argTypes := #[dT, sT] }) (elem : TypeId) (size : Nat) (hu : P.underlying dT = some (.slice elem)) (hsz : (P.info? elem).map (·.size) = some size)
    (g off dLen dCap : Nat) (ad : Addr) (sLen sCap : Nat) (hd : a.eval d = .slice (some ⟨g, off, none⟩) dLen dCap) (hs : a.eval s = .slice (some ad) sLen sCap)
    (cur : List Value) (t : TypeId) (hg : w.heap[g]? = some (.cells cur.toArray t (0, 0))) (m : Nat) (hm : Nat.min sLen dLen = m) (cs : List Value) (hn : cs.length = m * size)
    (hsrc : ∀ j v, cs[j]? = some v → w.cell? (ad.add j) = some v) (hfit : off + cs.length ≤ cur.length) (h1 : ∀ v ∈ cs, v.oneCell' = true) (B : Nat) (w0 : World) (hb : Below B w0 w) (hBg : B ≤ g)
    (h : ∀ w', Hid (w'.heap[g]? = some (.cells (splice cur off cs).toArray t (0, 0))) → Below B w0 w' → wpList P ops Q rest (a.put o.dst (goInt m)) w') : wpList P ops Q (o :: rest) a w := by
  refine wpList_plain hgd fun K hK => ?_
  have hrun := run_copy_wide (P := P) w dT sT o.type elem size g off dLen dCap ad sLen sCap cur.toArray t m cs hu hsz hg hm hn hsrc (by simpa using hfit) h1
  unfold Oper.wp
  simp [execOp, ho, resolve, invoke, builtin, hd, hs, hrun, Result.andThen]
  exact hK _ _ (h _ (show _ = _ by simpa [splice] using setRow_heap w g _ _ t _ hg) (below_setRow hb hBg _))

abbrev zeroEl : El := (false, .slice none 0 0, .slice none 0 0)
theorem made_three (n : Nat) : (madeCells #[Value.bool false, .slice none 0 0, .slice none 0 0] (n * 3)).toList = ecells (List.replicate n zeroEl) := by
  apply List.ext_getElem?
  intro j
  unfold madeCells
  simp only [Array.toList_map, List.getElem?_map, Array.toList_range]
  rcases Nat.lt_or_ge j (n * 3) with hj | hj
  · rw [List.getElem?_range hj]
    have hq : j / 3 < n := by omega
    obtain ⟨h1, h2, h3⟩ := ecells_at (List.replicate n zeroEl) (j / 3) zeroEl (by simp [hq])
    have hd := Nat.div_add_mod j 3
    have hm := Nat.mod_lt j (show 0 < 3 by omega)
    have hc : j % 3 = 0 ∨ j % 3 = 1 ∨ j % 3 = 2 := by omega
    rcases hc with hc | hc | hc
    · have e : j / 3 * 3 = j := by omega
      rw [e] at h1
      rw [h1]; simp [hc]
    · have e : j / 3 * 3 + 1 = j := by omega
      rw [e] at h2
      rw [h2]; simp [hc]
    · have e : j / 3 * 3 + 2 = j := by omega
      rw [e] at h3
      rw [h3]; simp [hc]
  · rw [List.getElem?_eq_none (by simpa using hj), List.getElem?_eq_none (by rw [ecells_length]; simpa using hj)]; rfl
def fillQ (e : El) (n k : Nat) : List Value := ecells (List.replicate k e ++ List.replicate (n - k) zeroEl)
theorem fillQ_length (e : El) {n k : Nat} (h : k ≤ n) : (fillQ e n k).length = n * 3 := by unfold fillQ; rw [ecells_length]; simp; omega
theorem fillQ_splice (e : El) {n k m : Nat} (h : k + m ≤ n) : splice (fillQ e n k) (k * 3) (ecells (List.replicate m e)) = fillQ e n (k + m) := by
  unfold splice fillQ
  rw [ecells_append, List.take_left' (by rw [ecells_length]; simp), ecells_length, List.length_replicate]
  have hz : List.replicate (n - k) zeroEl = List.replicate m zeroEl ++ List.replicate (n - (k + m)) zeroEl := by rw [List.replicate_append_replicate]; congr 1; omega
  rw [hz, ecells_append, ← List.append_assoc (ecells _) (ecells _) (ecells _), List.drop_left' (by rw [List.length_append, ecells_length, ecells_length]; simp), ← ecells_append, ← ecells_append]
  congr 1
  rw [← List.append_assoc, List.replicate_append_replicate]
theorem make_rat (w : World) (e : El) (n : Nat) (hn : n ≤ 1000000) : (Instr.makeSlice 167 (.int .i64 (n : Int)) (.int .i64 (n : Int))).run Tryz.prog w = .ok (.slice (some ⟨w.heap.size, 0, none⟩) n n) (w.alloc (.cells (fillQ e n 0).toArray 122)) := by
  obtain ⟨i, hi, hz, hs, hb⟩ := info_parts info_rational
  have := run_makeSlice (P := Tryz.prog) (w := w) 167 122 i ratZero Tryz.underlying167 hi hz .i64 .i64 (n : Int) (n : Int) (by omega) (by omega) (by rw [hs]; simp; omega) (by rw [hb]; omega) (by omega)
  rw [this, hs]
  have e1 : madeCells ratZero.cells ((n : Int).toNat * 3) = (fillQ e n 0).toArray := by
    rw [Int.toNat_natCast]
    apply Array.toList_inj.1
    show (madeCells #[Value.bool false, .slice none 0 0, .slice none 0 0] (n * 3)).toList = _
    rw [made_three]; simp [fillQ]
  rw [e1]; simp
end Go.Proofs.YtneafcdfnhnpnaaGreatDoor
/- Contracts: lists of texts are read as rational numbers. -/
namespace Go.Proofs.YtneafcdfnhnpnaaGreatDoor
open Go.RowKit Go.Lib

abbrev Txt := List UInt8
def sv (l : Txt) : Value := .string ⟨l.toArray⟩
/-- texts as cells -/
def scells (L : List Txt) : List Value := L.map sv
theorem scells_length (L : List Txt) : (scells L).length = L.length := by simp [scells]
theorem scells_at (L : List Txt) (k : Nat) (h : k < L.length) : (scells L)[k]? = some (sv (L[k]?.getD [])) := by simp [scells, h]
/-- a text that can be read -/
def TxtOk (l : Txt) : Prop := l.length < 4294967281 ∧ OkLen l.length
/-- the first error of a list of texts -/
def rowErr : List Txt → Int
  | [] => 0
  | l :: r => if (readRes l).1 = 0 then rowErr r else (readRes l).1
theorem rowErr_drop (k : Nat) (L : List Txt) {l : Txt} (h : L[k]? = some l) : rowErr (L.drop k) = if (readRes l).1 = 0 then rowErr (L.drop (k + 1)) else (readRes l).1 := by
  obtain ⟨hk, rfl⟩ := List.getElem?_eq_some_iff.1 h
  rw [List.drop_eq_getElem_cons hk]; rfl
def rvals (L : List Txt) : List Rat := L.map fun l => (readRes l).2
theorem rvals_take (L : List Txt) (k : Nat) {l : Txt} (h : L[k]? = some l) : rvals (L.take (k + 1)) = rvals (L.take k) ++ [(readRes l).2] := by
  unfold rvals
  rw [List.take_add_one, h, List.map_append]; rfl
section
variable {w w' : World} {b : Nat} {es : List El} {qs : List Rat}
/-- the cells of a number that is not yet written -/
theorem RowQ.raw (h : RowQ w b es qs) {j : Nat} (hj : j < es.length) : ∃ x y z : Value, w.cell? ⟨b, j * 3, none⟩ = some x ∧ w.cell? ⟨b, j * 3 + 1, none⟩ = some y ∧ w.cell? ⟨b, j * 3 + 2, none⟩ = some z ∧
    w.frozen? ⟨b, j * 3, none⟩ = false ∧ w.frozen? ⟨b, j * 3 + 1, none⟩ = false ∧ w.frozen? ⟨b, j * 3 + 2, none⟩ = false := by
  obtain ⟨h1, h2, h3⟩ := ecells_at es j _ (List.getElem?_eq_getElem hj)
  exact ⟨_, _, _, (h.own.cell _).trans h1, (h.own.cell _).trans h2, (h.own.cell _).trans h3, h.own.free _, h.own.free _, h.own.free _⟩
theorem RowQ.push (h : RowQ w b es qs) {e : El} {q : Rat} (hj : qs.length < es.length) (hq : Rt w (elV e) q) :
    RowQ (((w.setCell ⟨b, qs.length * 3, none⟩ (.bool e.1)).setCell ⟨b, qs.length * 3 + 1, none⟩ e.2.1).setCell ⟨b, qs.length * 3 + 2, none⟩ e.2.2) b (es.set qs.length e) (qs ++ [q]) := by
  have hb := But.set3 w b (qs.length * 3) (.bool e.1) e.2.1 e.2.2
  have hn := h.noInt
  refine ⟨?_, by simp; omega, fun a ha => ?_, fun i a r hi hr => ?_⟩
  · rw [← ecells_set es qs.length e hj]
    exact ((h.own.put _ _).put _ _).put _ _
  · rcases List.mem_or_eq_of_mem_set ha with ha | rfl
    · exact h.noi a ha
    · exact hq.elNo
  · by_cases hij : i = qs.length
    · subst hij
      rw [List.getElem?_set_self hj] at hi
      rw [List.getElem?_append_right (Nat.le_refl _), Nat.sub_self] at hr
      obtain rfl := Option.some.inj hi
      obtain rfl := Option.some.inj hr
      exact hq.stay h.own hn hb
    · have hil : i < (qs ++ [q]).length := (List.getElem?_eq_some_iff.1 hr).1
      rw [List.length_append, List.length_singleton] at hil
      rw [List.getElem?_set_ne (fun e => hij e.symm)] at hi
      rw [List.getElem?_append_left (by omega)] at hr
      exact (h.num i a r hi hr).stay h.own hn hb
end
def convPostQ (L : List Txt) (w : World) (e : Ending) (w' : World) : Prop :=
  Below w.heap.size w w' ∧ ((rowErr L = 0 ∧ ∃ g es, e = .returned (.tuple #[.slice (some ⟨g, 0, none⟩) L.length L.length, .int .i64 0]) ∧ w.heap.size ≤ g ∧ RowQ w' g es (rvals L)) ∨ (rowErr L ≠ 0 ∧ e = .returned (.tuple #[nilV, .int .i64 (rowErr L)])))

set_option maxRecDepth 100000 in
set_option maxHeartbeats 2000000 in
theorem convertQ_c (v : Value) (L : List Txt) (w : World) (hv : SlW w v (scells L)) (hl : L.length ≤ 1000000) (hT : ∀ l ∈ L, TxtOk l) (hG : Glob w) :
    Calls Tryz.prog 199 #[v, .func (.func 102) #[] #[]] w (convPostQ L w) := by
  obtain ⟨A, c, rfl, hc1, hc2, hcell⟩ := hv
  simp only [scells_length] at hc1 hcell ⊢
  have hmk := make_rat w zeroEl L.length hl
  have HO : Hid (RowQ (w.alloc (.cells (fillQ zeroEl L.length 0).toArray 122)) w.heap.size (List.replicate L.length zeroEl) (rvals (L.take 0))) := Lib.hid (by
    refine ⟨?_, by simp [rvals], fun e he => ?_, fun i e q h1 h2 => by simp [rvals] at h2⟩
    · have := Own.make w 122 (fillQ zeroEl L.length 0)
      rw [show fillQ zeroEl L.length 0 = ecells (List.replicate L.length zeroEl) by simp [fillQ]] at this ⊢
      exact this
    · rw [List.eq_of_mem_replicate he]; exact ⟨noInt_slice _ _ _, noInt_slice _ _ _⟩)
  have HT := Lib.hid hT
  have HG := Lib.hid hG
  have HC := Lib.hid hcell
  clear hT hG hcell
  go_enter Tryz.func199, Tryz.ntmps199
  go_wp2_with fail
  clear hmk
  go_loopg [15] L.length (fun gh i wr => ∃ (k : Nat) (es : List El), i = .int .i64 k ∧ k + gh = L.length ∧ Hid (rowErr L = rowErr (L.drop k)) ∧ Hid (RowQ wr w.heap.size es (rvals (L.take k))) ∧ Hid (es.length = L.length) ∧ Hid (Below w.heap.size w wr))
  case atStart => exact ⟨0, _, rfl, by omega, Lib.hid rfl, HO, Lib.hid (by simp), Lib.hid ((Below.refl _ _).alloc (Nat.le_refl _) _)⟩
  case round =>
    clear HO
    obtain ⟨k, es, rfl, hk, hE, hO, hEl, hB⟩ := hrel
    cases gk with
    | zero =>
      have hkl : k = L.length := by omega
      have hin : ¬ ((k : Int) < (L.length : Int)) := by omega
      have HR : Hid (rowErr L = 0) := Lib.hid (by rw [hE.out, hkl, List.drop_length]; rfl)
      have HO := Lib.hid (show RowQ wr w.heap.size es (rvals L) by have := hO.out; rwa [hkl, List.take_of_length_le (Nat.le_refl _)] at this)
      clear hkl hO hE hk
      go_wp2
      go_ret2
      exact ⟨hB.out, .inl ⟨HR.out, _, es, rfl, Nat.le_refl _, HO.out⟩⟩
    | succ gh =>
      have hlt : k < L.length := by omega
      have hlt' : (k : Int) < (L.length : Int) := by omega
      obtain ⟨l, hl0⟩ : ∃ l, L[k]? = some l := ⟨L[k], List.getElem?_eq_getElem hlt⟩
      obtain ⟨b0, off, rfl, hbb, hcell⟩ := HC.out (by omega)
      have hck := (hB.out.cell (p := ⟨b0, off + k, none⟩) hbb).trans ((hcell k hlt).trans (by rw [scells_at L k hlt, hl0]; rfl : (scells L)[k]? = some (sv l)))
      have hql : (rvals (L.take k)).length = k := by simp [rvals]; omega
      have hkes : k < es.length := by rw [hEl.out]; exact hlt
      obtain ⟨x0, x1, x2, c0, c1, c2, f0, f1, f2⟩ := hO.out.raw hkes
      have hbl := hO.out.own.lt
      have HD := Lib.hid (rowErr_drop k L hl0)
      have HV := Lib.hid (rvals_take L k hl0)
      have Hk := Lib.hid hk
      have Hql := Lib.hid hql
      have hok := HT.out l (List.mem_of_getElem? hl0)
      have RD := Lib.hid (read_c l wr hok.1 (HG.out.below hB.out) hok.2)
      unfold sv at hck
      clear hcell hl0 hk hql hok
      go_wp2_with fail
      refine RD.out.mono ?_
      clear RD
      rintro e w1 h
      by_cases h1 : (readRes l).1 = 0
      · obtain ⟨qv, rfl, hq, hB1⟩ : okPost (readRes l).2 wr e w1 := by unfold readPost at h; rw [if_pos h1] at h; exact h
        obtain ⟨s, Q1, n1, d1, Q2, n2, d2, rfl⟩ := hq.shape
        have c0' := (hB1.cell (p := ⟨w.heap.size, k * 3, none⟩) hbl).trans c0
        have c1' := (hB1.cell (p := ⟨w.heap.size, k * 3 + 1, none⟩) hbl).trans c1
        have c2' := (hB1.cell (p := ⟨w.heap.size, k * 3 + 2, none⟩) hbl).trans c2
        have f0' := (hB1.frozen (p := ⟨w.heap.size, k * 3, none⟩) hbl).trans f0
        have f1' := (hB1.frozen (p := ⟨w.heap.size, k * 3 + 1, none⟩) hbl).trans f1
        have f2' := (hB1.frozen (p := ⟨w.heap.size, k * 3 + 2, none⟩) hbl).trans f2
        have hbl1 : w.heap.size < w1.heap.size := Nat.lt_of_lt_of_le hbl hB1.size
        have HE2 : Hid (rowErr L = rowErr (L.drop (k + 1))) := Lib.hid (by rw [hE.out, HD.out, if_pos h1])
        have HO2 : Hid (RowQ (((w1.setCell ⟨w.heap.size, k * 3, none⟩ (.bool s)).setCell ⟨w.heap.size, k * 3 + 1, none⟩ (.slice Q1 n1 d1)).setCell ⟨w.heap.size, k * 3 + 2, none⟩ (.slice Q2 n2 d2)) w.heap.size (es.set k (s, .slice Q1 n1 d1, .slice Q2 n2 d2)) (rvals (L.take (k + 1)))) := Lib.hid (by
          have := (hO.out.below hB1).push (e := (s, .slice Q1 n1 d1, .slice Q2 n2 d2)) (q := (readRes l).2) (by rw [Hql.out]; exact hkes) hq
          rw [Hql.out, ← HV.out] at this
          exact this)
        have HB2 := Lib.hid ((((hB.out.trans (hB1.mono hB.out.size)).setCell (p := ⟨w.heap.size, k * 3, none⟩) (Nat.le_refl _) (.bool s)).setCell (p := ⟨w.heap.size, k * 3 + 1, none⟩) (Nat.le_refl _) (.slice Q1 n1 d1)).setCell (p := ⟨w.heap.size, k * 3 + 2, none⟩) (Nat.le_refl _) (.slice Q2 n2 d2))
        have HL2 : Hid ((es.set k (s, .slice Q1 n1 d1, .slice Q2 n2 d2)).length = L.length) := Lib.hid (by rw [List.length_set]; exact hEl.out)
        generalize es.set k (s, .slice Q1 n1 d1, .slice Q2 n2 d2) = es2 at *
        clear h h1 hq hB1 hO hE hB c0 c1 c2 f0 f1 f2 hkes HV HD
        go_wp2
        go_roundg gh
        case rel => exact ⟨k + 1, es2, by go_num, by have := Hk.out; omega, HE2, HO2, HL2, HB2⟩
        case measure => omega
      · obtain ⟨rfl, hB1⟩ : errPost (readRes l).1 wr e w1 := by unfold readPost at h; rw [if_neg h1] at h; exact h
        have c0' := (hB1.cell (p := ⟨w.heap.size, k * 3, none⟩) hbl).trans c0
        have c1' := (hB1.cell (p := ⟨w.heap.size, k * 3 + 1, none⟩) hbl).trans c1
        have c2' := (hB1.cell (p := ⟨w.heap.size, k * 3 + 2, none⟩) hbl).trans c2
        have f0' := (hB1.frozen (p := ⟨w.heap.size, k * 3, none⟩) hbl).trans f0
        have f1' := (hB1.frozen (p := ⟨w.heap.size, k * 3 + 1, none⟩) hbl).trans f1
        have f2' := (hB1.frozen (p := ⟨w.heap.size, k * 3 + 2, none⟩) hbl).trans f2
        have hbl1 : w.heap.size < w1.heap.size := Nat.lt_of_lt_of_le hbl hB1.size
        have HR : Hid (rowErr L = (readRes l).1) := Lib.hid (by rw [hE.out, HD.out, if_neg h1])
        have HB2 := Lib.hid ((((hB.out.trans (hB1.mono hB.out.size)).setCell (p := ⟨w.heap.size, k * 3, none⟩) (Nat.le_refl _) (.bool false)).setCell (p := ⟨w.heap.size, k * 3 + 1, none⟩) (Nat.le_refl _) (.slice none 0 0)).setCell (p := ⟨w.heap.size, k * 3 + 2, none⟩) (Nat.le_refl _) (.slice none 0 0))
        have h1' : ((readRes l).1 != 0) = true := by simpa using h1
        have H1 := Lib.hid h1
        unfold zeroR
        generalize (readRes l).1 = ec at *
        clear h h1 hB1 hO hE hB c0 c1 c2 f0 f1 f2 hkes HV HD
        go_wp2
        go_ret2
        exact ⟨HB2.out, .inr ⟨by rw [HR.out]; exact H1.out, by rw [HR.out]; rfl⟩⟩
end Go.Proofs.YtneafcdfnhnpnaaGreatDoor
/- Contract: the rows of a matrix of rational numbers are read. -/
namespace Go.Proofs.YtneafcdfnhnpnaaGreatDoor
open Go.RowKit Go.Lib

/-- a list of lists of texts, as it lies in memory -/
def TblT (w : World) (v : Value) (M : List (List Txt)) : Prop :=
  ∃ vs : List Value, SlW w v vs ∧ vs.length = M.length ∧ ∀ (i : Nat) (r : List Txt), M[i]? = some r → ∃ u, vs[i]? = some u ∧ SlW w u (scells r)
theorem TblT.below {w w' : World} {v : Value} {M : List (List Txt)} (h : TblT w v M) (hb : Below w.heap.size w w') : TblT w' v M := by
  obtain ⟨vs, h1, h2, h3⟩ := h
  exact ⟨vs, h1.below hb, h2, fun i r hr => by obtain ⟨u, hu, hs⟩ := h3 i r hr; exact ⟨u, hu, hs.below hb⟩⟩
theorem TblT.form {w : World} {v : Value} {M : List (List Txt)} (h : TblT w v M) : ∃ A c, v = .slice A M.length c ∧ M.length ≤ c ∧ M.length ≤ 140737488355328 := by
  obtain ⟨vs, h1, h2, _⟩ := h
  obtain ⟨A, c, h3, h4, h5⟩ := h1.form
  rw [h2] at h3 h4 h5
  exact ⟨A, c, h3, h4, h5⟩
/-- the first error of rows that are to have n0 texts each -/
def rowsErr (n0 : Nat) : List (List Txt) → Int
  | [] => 0
  | r :: t => if 256 < r.length then 5 else if r.length ≠ n0 then 2 else if rowErr r = 0 then rowsErr n0 t else rowErr r
def matErr (M : List (List Txt)) : Int := if 256 < M.length then 5 else rowsErr ((M[0]?.map (·.length)).getD 0) M
theorem rowsErr_drop (n0 k : Nat) (M : List (List Txt)) {r : List Txt} (hr : M[k]? = some r) : rowsErr n0 (M.drop k) = if 256 < r.length then 5 else if r.length ≠ n0 then 2 else if rowErr r = 0 then rowsErr n0 (M.drop (k + 1)) else rowErr r := by
  obtain ⟨hk, rfl⟩ := List.getElem?_eq_some_iff.1 hr
  rw [List.drop_eq_getElem_cons hk]; rfl
def rrPostQ (M : List (List Txt)) (w : World) (e : Ending) (w' : World) : Prop :=
  Below w.heap.size w w' ∧ ((matErr M = 0 ∧ ∃ (g : Nat) (R : List RowR), e = .returned (.tuple #[.slice (some ⟨g, 0, none⟩) M.length M.length, .int .i64 0]) ∧ w.heap.size ≤ g ∧ (∀ r ∈ R, w.heap.size ≤ r.1) ∧ MxR w' g R ((M[0]?.map (·.length)).getD 0) ∧ valsT R = M.map rvals) ∨
    (matErr M ≠ 0 ∧ e = .returned (.tuple #[nilV, .int .i64 (matErr M)])))

set_option maxRecDepth 100000 in
set_option maxHeartbeats 2000000 in
theorem readRowsQ_c (v : Value) (M : List (List Txt)) (w : World) (hv : TblT w v M) (hT : ∀ r ∈ M, ∀ l ∈ r, TxtOk l) (hG : Glob w) :
    Calls Tryz.prog 145 #[v, .func (.func 102) #[] #[]] w (rrPostQ M w) := by
  obtain ⟨vs, hs, hvl, hrow⟩ := hv
  obtain ⟨A, c, rfl, hc1, hc2⟩ := hs.form
  have HROW := Lib.hid hrow
  have HT := Lib.hid hT
  have HG := Lib.hid hG
  clear hrow hT hG
  rw [hvl] at hc1 hc2 hs ⊢
  by_cases hbig : 256 < M.length
  · have HE : Hid (matErr M = 5) := Lib.hid (by unfold matErr; rw [if_pos hbig])
    have hbi : (256 : Int) < (M.length : Int) := by omega
    clear hs
    go_enter Tryz.func145, Tryz.ntmps145
    go_wp2
    go_ret2
    exact ⟨Below.refl _ _, .inr ⟨by rw [HE.out]; decide, by rw [HE.out]; rfl⟩⟩
  · have hbi : ¬ (256 : Int) < (M.length : Int) := by omega
    obtain ⟨n, hn⟩ : ∃ n, n = (M[0]?.map (·.length)).getD 0 := ⟨_, rfl⟩
    have HN := Lib.hid hn
    have HME : Hid (matErr M = rowsErr n M) := Lib.hid (by unfold matErr; rw [if_neg hbig, hn])
    clear hn
    obtain ⟨V, hV⟩ : ∃ V, V = M.map rvals := ⟨_, rfl⟩
    have HV := Lib.hid hV
    have HVl : Hid (V.length = M.length) := Lib.hid (by rw [hV]; simp)
    clear hV
    have hmk := make_rowsQ w M.length (by omega)
    have HS0 : Hid (RowsQTo w (w.alloc (.cells (List.replicate M.length nilV).toArray 167)) w.heap.size n V 0 []) := Lib.hid (by have := RowsQTo.start w V n; rw [HVl.out] at this; exact this)
    have hB0 : Below w.heap.size w (w.alloc (.cells (List.replicate M.length nilV).toArray 167)) := (Below.refl _ _).alloc (Nat.le_refl _) _
    go_enter Tryz.func145, Tryz.ntmps145
    go_wp2_with fail
    clear hmk
    go_loopg [18] M.length (fun gh i wr => ∃ (k : Nat) (R : List RowR), i = .int .i64 k ∧ k + gh = M.length ∧ Hid (rowsErr n M = rowsErr n (M.drop k)) ∧ Hid (RowsQTo w wr w.heap.size n V k R) ∧ Below w.heap.size w wr)
    case atStart => exact ⟨0, [], rfl, by omega, Lib.hid rfl, HS0, hB0⟩
    case round =>
      clear HS0 hB0
      obtain ⟨k, R, rfl, hk, hE, hTo, hB⟩ := hrel
      cases gk with
      | zero =>
        have hkl : k = M.length := by omega
        have hin : ¬ ((k : Int) < (M.length : Int)) := by omega
        have HR : Hid (matErr M = 0) := Lib.hid (by rw [HME.out, hE.out, hkl, List.drop_length]; rfl)
        have HMX := Lib.hid (show RowsQTo w wr w.heap.size n V V.length R by have := hTo.out; rw [hkl, ← HVl.out] at this; exact this).done
        have HNW := Lib.hid hTo.out.new
        clear hE hTo hk hkl
        go_wp2
        go_ret2
        exact ⟨hB, .inl ⟨HR.out, _, R, rfl, Nat.le_refl _, HNW.out, HN.out ▸ HMX.out.1, HMX.out.2.1.trans HV.out⟩⟩
      | succ gh =>
        have hlt : k < M.length := by omega
        have hlt' : (k : Int) < (M.length : Int) := by omega
        obtain ⟨r, hr⟩ : ∃ r, M[k]? = some r := ⟨M[k], List.getElem?_eq_getElem hlt⟩
        obtain ⟨r0, hr0⟩ : ∃ r, M[0]? = some r := ⟨M[0]'(by omega), List.getElem?_eq_getElem _⟩
        have hn0 : r0.length = n := by rw [HN.out, hr0]; rfl
        obtain ⟨u, hu, hus⟩ := HROW.out k r hr
        obtain ⟨u0, hu0, hus0⟩ := HROW.out 0 r0 hr0
        obtain ⟨b0, off, hA, hbb, hcell⟩ := hs.at_ (k := k) (by omega)
        have hc1' := (hB.cell (p := ⟨b0, off + k, none⟩) hbb).trans ((hcell k (by omega)).trans hu)
        have hc0' := (hB.cell (p := ⟨b0, off, none⟩) hbb).trans ((hcell 0 (by omega)).trans hu0)
        obtain ⟨A1, k1, rfl, hk1, hk2⟩ := hus.form
        obtain ⟨A0, k0, rfl, hk3, hk4⟩ := hus0.form
        simp only [scells_length] at hk1 hk2 hk3 hk4 hus hc1' hc0'
        rw [hn0] at hc0'
        have HD := Lib.hid (rowsErr_drop n k M hr)
        have Hk := Lib.hid hk
        have HVr : Hid (V[k]? = some (rvals r)) := Lib.hid (by rw [HV.out, List.getElem?_map, hr]; rfl)
        have HTr := Lib.hid (HT.out r (List.mem_of_getElem? hr))
        have CV := Lib.hid (fun (hl : r.length ≤ 1000000) W (hw : Below w.heap.size w W) => convertQ_c (.slice A1 r.length k1) r W (hus.below hw) hl HTr.out (HG.out.below hw))
        subst hA
        clear hu hu0 hus hus0 hcell hr hr0 hn0 hk hc1 hs
        by_cases h1 : 256 < r.length
        · have hr1 : (256 : Int) < (r.length : Int) := by omega
          have HR : Hid (matErr M = 5) := Lib.hid (by rw [HME.out, hE.out, HD.out, if_pos h1])
          go_wp2
          go_ret2
          exact ⟨hB, .inr ⟨by rw [HR.out]; decide, by rw [HR.out]; rfl⟩⟩
        · have hr1 : ¬ (256 : Int) < (r.length : Int) := by omega
          by_cases h2 : r.length = n
          · subst h2
            have CV2 := Lib.hid (CV.out (by omega) wr hB)
            have hgl := hTo.out.own.lt
            have hck := (hTo.out.own.cell k).trans (show _ = some nilV by
              rw [List.getElem?_append_right (by rw [List.length_map, hTo.out.len (by rw [HVl.out]; omega)]; exact Nat.le_refl _), List.length_map, hTo.out.len (by rw [HVl.out]; omega), Nat.sub_self, List.getElem?_replicate, if_pos (by rw [HVl.out]; omega)])
            have hfk := hTo.out.own.free k
            have hrn : r.length ≤ 256 := by omega
            go_wp2_with fail
            refine CV2.out.mono ?_
            rintro e w1 ⟨hB1, ⟨hib, gn, esn, rfl, hg, hO1⟩ | ⟨hib, rfl⟩⟩
            · have hck1 := (hB1.cell (p := ⟨w.heap.size, k, none⟩) hgl).trans hck
              have hfk1 := (hB1.frozen (p := ⟨w.heap.size, k, none⟩) hgl).trans hfk
              have HT2 := Lib.hid (hTo.out.step (cn := r.length) HVr.out (by simp [rvals]) (Nat.le_refl _) (by omega) hB1 hg (Nat.le_trans hB.size hg) hO1)
              have HE2 : Hid (rowsErr r.length M = rowsErr r.length (M.drop (k + 1))) := Lib.hid (by rw [hE.out, HD.out, if_neg h1, if_neg (by simp), if_pos hib])
              have HB2 := Lib.hid ((hB.trans (hB1.mono hB.size)).setCell (p := ⟨w.heap.size, k, none⟩) (Nat.le_refl _) (.slice (some ⟨gn, 0, none⟩) r.length r.length))
              clear hTo hE hck hfk hib hO1
              go_wp2
              go_roundg gh
              case rel => exact ⟨k + 1, _, by go_num, by have := Hk.out; omega, HE2, HT2, HB2.out⟩
              case measure => omega
            · have hck1 := (hB1.cell (p := ⟨w.heap.size, k, none⟩) hgl).trans hck
              have hfk1 := (hB1.frozen (p := ⟨w.heap.size, k, none⟩) hgl).trans hfk
              have HR : Hid (matErr M = rowErr r) := Lib.hid (by rw [HME.out, hE.out, HD.out, if_neg h1, if_neg (by simp), if_neg hib])
              have HB2 := Lib.hid ((hB.trans (hB1.mono hB.size)).setCell (p := ⟨w.heap.size, k, none⟩) (Nat.le_refl _) nilV)
              have hne : (rowErr r != 0) = true := by simpa using hib
              have HIB := Lib.hid hib
              generalize rowErr r = ec at *
              clear hTo hE hck hfk hib
              go_wp2
              go_ret2
              exact ⟨HB2.out, .inr ⟨by rw [HR.out]; exact HIB.out, by rw [HR.out]; rfl⟩⟩
          · have hr2 : ((r.length : Int) != (n : Int)) = true := by simp; omega
            have HR : Hid (matErr M = 2) := Lib.hid (by rw [HME.out, hE.out, HD.out, if_neg h1, if_pos h2])
            go_wp2
            go_ret2
            exact ⟨hB, .inr ⟨by rw [HR.out]; decide, by rw [HR.out]; rfl⟩⟩
end Go.Proofs.YtneafcdfnhnpnaaGreatDoor
/- Contracts: the reference's comparisons of tables of integers, of lists and matrices of texts. -/
namespace Go.Proofs.YtneafcdfnhnpnaaGreatDoor
open Go.RowKit Go.Lib

theorem dropT_step {α : Type} [DecidableEq α] {p q : List α} {k : Nat} (hk : k < p.length) (hl : p.length = q.length) (h : (decide (p.drop k = q.drop k)) = decide (p = q)) (he : p[k]? = q[k]?) : decide (p.drop (k + 1) = q.drop (k + 1)) = decide (p = q) := by
  have hq : k < q.length := by omega
  rw [List.getElem?_eq_getElem hk, List.getElem?_eq_getElem hq] at he
  have he := Option.some.inj he
  have e1 : p.drop k = p[k] :: p.drop (k + 1) := List.drop_eq_getElem_cons hk
  have e2 : q.drop k = q[k] :: q.drop (k + 1) := List.drop_eq_getElem_cons hq
  rw [← h, e1, e2, he]
  exact decide_eq_decide.mpr ⟨fun h => by rw [h], fun h => (List.cons.inj h).2⟩
theorem dropT_diff {α : Type} [DecidableEq α] {p q : List α} {k : Nat} (he : p[k]? ≠ q[k]?) : decide (p = q) = false := by
  simp only [decide_eq_false_iff_not]
  intro h; subst h; exact he rfl

set_option maxRecDepth 100000 in
set_option maxHeartbeats 4000000 in
theorem refSameTable_c (v u : Value) (P Q : List (List Int)) (w : World) (hv : TblW w v P) (hu : TblW w u Q) :
    Calls Tryz.prog 54 #[v, u] w fun e w' => e = .returned (.bool (decide (P = Q))) ∧ Below w.heap.size w w' := by
  obtain ⟨vs, hvs, hvl, hvr⟩ := hv
  obtain ⟨us, hus, hul, hur⟩ := hu
  obtain ⟨A, c, rfl, hc1, hc2⟩ := hvs.form
  obtain ⟨B, d, rfl, gc1, gc2⟩ := hus.form
  rw [hvl] at hvs hc1 hc2
  rw [hul] at hus gc1 gc2
  obtain ⟨r, hr⟩ : ∃ r, decide (P = Q) = r := ⟨_, rfl⟩
  have HR := Lib.hid hr
  rw [hr, hvl, hul]
  by_cases hl : P.length = Q.length
  · have hb : ((P.length : Int) != (Q.length : Int)) = false := by rw [hl]; simp
    have HL := Lib.hid hl
    have HVR := Lib.hid hvr
    have HUR := Lib.hid hur
    clear hr hl hvr hur
    go_enter Tryz.func54, Tryz.ntmps54
    go_wp2_with fail
    go_loopg [5] P.length (fun g i wr => ∃ (k : Nat), k + g = P.length ∧ i = .int .i64 k ∧ Hid (decide (P.drop k = Q.drop k) = decide (P = Q)) ∧ Below w.heap.size w wr)
    case atStart => exact ⟨0, by omega, rfl, Lib.hid rfl, Below.refl _ _⟩
    case round =>
      obtain ⟨k, hk, rfl, hD, hB⟩ := hrel
      cases gk with
      | zero =>
        have hin : ¬ ((k : Int) < (P.length : Int)) := by omega
        have HT : Hid (r = true) := Lib.hid (by
          rw [← HR.out, ← hD.out, List.drop_eq_nil_of_le (by omega), List.drop_eq_nil_of_le (by have := HL.out; omega)]; rfl)
        clear hk
        go_wp2
        go_ret
        exact ⟨by rw [HT.out]; rfl, hB⟩
      | succ g =>
        have hlt : k < P.length := by omega
        have hlq : k < Q.length := by have := HL.out; omega
        obtain ⟨v1, hv1, hs1⟩ := HVR.out k _ (List.getElem?_eq_getElem hlt)
        obtain ⟨u1, hu1, ht1⟩ := HUR.out k _ (List.getElem?_eq_getElem hlq)
        obtain ⟨b1, off1, rfl, hbb1, hcell1⟩ := hvs.at_ (k := k) (by rw [hvl]; omega)
        obtain ⟨b2, off2, rfl, hbb2, hcell2⟩ := hus.at_ (k := k) (by rw [hul]; omega)
        have hck1 := (hB.cell (p := ⟨b1, off1 + k, none⟩) hbb1).trans ((hcell1 k (by rw [hvl]; omega)).trans hv1)
        have hck2 := (hB.cell (p := ⟨b2, off2 + k, none⟩) hbb2).trans ((hcell2 k (by rw [hul]; omega)).trans hu1)
        have Hstep := Lib.hid (fun he => dropT_step hlt HL.out hD.out he)
        have Hdiff := Lib.hid (fun he => dropT_diff (p := P) (q := Q) (k := k) he)
        rw [List.getElem?_eq_getElem hlt, List.getElem?_eq_getElem hlq] at Hstep Hdiff
        have Hk := Lib.hid hk
        have hbl1 := Nat.lt_of_lt_of_le hbb1 hB.size
        have hbl2 := Nat.lt_of_lt_of_le hbb2 hB.size
        have SI := Lib.hid (fun (W : World) (hb : Below wr.heap.size wr W) => refSameInts_c v1 u1 P[k] Q[k] W ((hs1.below hB).below hb) ((ht1.below hB).below hb))
        have KS : Hid (∀ z, Below wr.heap.size wr z → z.cell? ⟨b1, off1 + k, none⟩ = some v1 ∧ z.cell? ⟨b2, off2 + k, none⟩ = some u1 ∧ Below wr.heap.size wr z) := Lib.hid (fun z hb =>
          ⟨(hb.cell (p := ⟨b1, off1 + k, none⟩) hbl1).trans hck1, (hb.cell (p := ⟨b2, off2 + k, none⟩) hbl2).trans hck2, hb⟩)
        have KT := Lib.hid (fun (x x' : World) (hb : Below x.heap.size x x') (h5 : Below wr.heap.size wr x) => KS.out x' (h5.trans (hb.mono h5.size)))
        have HB := Lib.hid hB
        clear hcell1 hcell2 hvs hus hk hs1 ht1 hv1 hu1 hB hD
        generalize P[k] = x at *
        generalize Q[k] = y at *
        obtain ⟨bb, hbb⟩ : ∃ bb, decide (x = y) = bb := ⟨_, rfl⟩
        rw [hbb] at SI
        cases bb with
        | true =>
          have Hs := Lib.hid (Hstep.out (by rw [of_decide_eq_true hbb]))
          clear hbb Hstep Hdiff
          go_wp2
          go_region_held3 (fun z => z.cell? ⟨b1, off1 + k, none⟩ = some v1 ∧ z.cell? ⟨b2, off2 + k, none⟩ = some u1 ∧ Below wr.heap.size wr z)
            (first | exact KS.out _ (Below.refl _ _).drew | exact KT.out _ _ (by assumption) (by assumption))
            (first | (go_at_call 93; go_split_ands; refine (SI.out _ (by assumption)).mono ?_; rintro e4 w4 ⟨rfl, hB4⟩))
          have hB' : Below w.heap.size w w4 := by go_split_ands; exact HB.out.trans (by rename_i h; exact h.mono HB.out.size)
          go_wp2
          go_roundg g
          case rel => exact ⟨k + 1, by have := Hk.out; omega, by go_num, Hs, hB'⟩
          case measure => omega
        | false =>
          have Hs := Lib.hid (Hdiff.out (fun h => of_decide_eq_false hbb (Option.some.inj h)))
          clear hbb Hstep Hdiff
          have HF : Hid (r = false) := Lib.hid (by rw [← HR.out]; exact Hs.out)
          go_wp2
          go_region_held3 (fun z => z.cell? ⟨b1, off1 + k, none⟩ = some v1 ∧ z.cell? ⟨b2, off2 + k, none⟩ = some u1 ∧ Below wr.heap.size wr z)
            (first | exact KS.out _ (Below.refl _ _).drew | exact KT.out _ _ (by assumption) (by assumption))
            (first | (go_at_call 93; go_split_ands; refine (SI.out _ (by assumption)).mono ?_; rintro e4 w4 ⟨rfl, hB4⟩))
          have hB' : Below w.heap.size w w4 := by go_split_ands; exact HB.out.trans (by rename_i h; exact h.mono HB.out.size)
          go_wp2
          go_ret
          exact ⟨by rw [HF.out]; rfl, hB'⟩
  · have hb : ((P.length : Int) != (Q.length : Int)) = true := by simpa using (by omega : ¬ (P.length : Int) = Q.length)
    have hne : P ≠ Q := by intro h; subst h; exact hl rfl
    have HF : Hid (r = false) := Lib.hid (by rw [← hr]; simpa using hne)
    clear hr hne hl
    go_enter Tryz.func54, Tryz.ntmps54
    go_wp2
    go_ret
    exact ⟨by rw [HF.out]; rfl, Below.refl _ _⟩
end Go.Proofs.YtneafcdfnhnpnaaGreatDoor
/- Contracts of the law's own small functions. -/
namespace Go.Proofs.YtneafcdfnhnpnaaGreatDoor
open Go.RowKit Go.Lib

theorem list_bad (bad : Int) (v : Value) (w : World) (h : bad ≠ 0) :
    Calls Tryz.prog 51 #[.slice none 0 0, .int .i64 bad, .int .i64 bad, v] w fun e w' => e = .returned (.bool true) ∧ Below w.heap.size w w' := by
  have hb : (bad != 0) = true := by simpa using h
  clear h
  go_enter Tryz.func51, Tryz.ntmps51
  go_wp2
  go_ret
  exact ⟨rfl, Below.refl _ _⟩
theorem list_ok (L : List Int) (v u : Value) (w : World) (hv : SlW w v (icells L)) (hu : SlW w u (icells L)) :
    Calls Tryz.prog 51 #[v, .int .i64 0, .int .i64 0, u] w fun e w' => e = .returned (.bool true) ∧ Below w.heap.size w w' := by
  have SI := Lib.hid (refSameInts_c v u L L w hv hu)
  clear hv hu
  go_enter Tryz.func51, Tryz.ntmps51
  go_wp2_with fail
  refine SI.out.mono ?_
  rintro e w' ⟨rfl, hB⟩
  have HB := Lib.hid hB
  clear hB SI
  go_wp2
  go_ret
  exact ⟨by simp, HB.out⟩
theorem integer_bad (bad x : Int) (w : World) (h : bad ≠ 0) :
    Calls Tryz.prog 25 #[.int .i64 0, .int .i64 bad, .int .i64 bad, .int .i64 x] w fun e w' => e = .returned (.bool true) ∧ Below w.heap.size w w' := by
  have hb : (bad != 0) = true := by simpa using h
  clear h
  go_enter Tryz.func25, Tryz.ntmps25
  go_wp2
  go_ret
  exact ⟨rfl, Below.refl _ _⟩
theorem integer_ok (x : Int) (w : World) :
    Calls Tryz.prog 25 #[.int .i64 x, .int .i64 0, .int .i64 0, .int .i64 x] w fun e w' => e = .returned (.bool true) ∧ Below w.heap.size w w' := by
  go_enter Tryz.func25, Tryz.ntmps25
  go_wp2
  go_ret
  exact ⟨by simp, Below.refl _ _⟩
theorem when_c (b : Bool) (e : Int) (w : World) :
    Calls Tryz.prog 41 #[.bool b, .int .i64 e] w fun r w' => r = .returned (.int .i64 (if b = true then e else 0)) ∧ w = w' := by
  cases b
  · go_enter Tryz.func41, Tryz.ntmps41
    go_wp2
    go_ret
    exact ⟨rfl, rfl⟩
  · go_enter Tryz.func41, Tryz.ntmps41
    go_wp2
    go_ret
    exact ⟨rfl, rfl⟩
/-- the first that is not 0 -/
def firstL : List Int → Int
  | [] => 0
  | x :: l => if x = 0 then firstL l else x
theorem firstL_drop {L : List Int} {k : Nat} (hk : k < L.length) (h : firstL (L.drop k) = firstL L) : firstL L = if L[k]?.getD 0 = 0 then firstL (L.drop (k + 1)) else L[k]?.getD 0 := by
  rw [← h, List.drop_eq_getElem_cons hk, firstL, List.getElem?_eq_getElem hk]; rfl
set_option maxRecDepth 100000 in
theorem lfirst_c (v : Value) (L : List Int) (w : World) (hv : Sl w 1 v (icells L)) :
    Calls Tryz.prog 23 #[v] w fun e w' => e = .returned (.int .i64 (firstL L)) ∧ Below w.heap.size w w' := by
  obtain ⟨A, c, rfl, hc1, hc2⟩ := hv.form
  simp only [icells_length] at hc1 hv ⊢
  have HV := Lib.hid hv
  clear hv
  obtain ⟨r, hr⟩ : ∃ r, firstL L = r := ⟨_, rfl⟩
  have HR := Lib.hid hr
  rw [hr]
  clear hr
  go_enter Tryz.func23, Tryz.ntmps23
  go_wp2_with fail
  go_loopg [3] L.length (fun g i wr => ∃ (k : Nat), k + g = L.length ∧ i = .int .i64 k ∧ Hid (firstL (L.drop k) = firstL L) ∧ Below w.heap.size w wr)
  case atStart => exact ⟨0, by omega, rfl, Lib.hid rfl, Below.refl _ _⟩
  case round =>
    obtain ⟨k, hk, rfl, hD, hB⟩ := hrel
    cases gk with
    | zero =>
      have hin : ¬ ((k : Int) < (L.length : Int)) := by omega
      have HT : Hid (r = 0) := Lib.hid (by rw [← HR.out, ← hD.out, List.drop_eq_nil_of_le (by omega)]; rfl)
      clear hk
      go_wp2
      go_ret
      exact ⟨by rw [HT.out]; rfl, hB⟩
    | succ g =>
      have hlt : (k : Int) < (L.length : Int) := by omega
      have hkl : k < L.length := by omega
      obtain ⟨b1, off1, rfl, hbb1, hcell1⟩ := HV.out.at_ (k := k) (by rw [icells_length]; omega)
      have hck := (hB.cell (p := ⟨b1, off1 + k, none⟩) hbb1).trans ((hcell1 k (by rw [icells_length]; omega)).trans (icells_at L k hkl))
      have HS := Lib.hid (firstL_drop hkl hD.out)
      have HK := Lib.hid hk
      clear hcell1 hk
      generalize L[k]?.getD 0 = x at *
      by_cases hx : x = 0
      · have HD : Hid (firstL (L.drop (k + 1)) = firstL L) := Lib.hid (by have := HS.out; rw [if_pos hx] at this; exact this.symm)
        have hb : (x != 0) = false := by simpa using hx
        clear hx HS
        go_wp2
        go_roundg g
        case rel => exact ⟨k + 1, by have := HK.out; omega, by go_num, HD, hB⟩
        case measure => omega
      · have HX : Hid (r = x) := Lib.hid (by rw [← HR.out, HS.out, if_neg hx])
        have hb : (x != 0) = true := by simpa using hx
        clear hx HS
        go_wp2
        go_ret
        exact ⟨by rw [HX.out]; rfl, hB⟩
end Go.Proofs.YtneafcdfnhnpnaaGreatDoor
/- Contracts: lists of rational numbers are written. -/
namespace Go.Proofs.YtneafcdfnhnpnaaGreatDoor
open Go.RowKit Go.Lib

theorem info_txt : (Tryz.prog.info? 22).map (fun i => (i.zero, i.size, i.bytes)) = some (some (.string ⟨#[]⟩), 1, 16) := by kernel_rfl
theorem scells_replicate (n : Nat) : scells (List.replicate n []) = List.replicate n (.string ⟨#[]⟩) := by simp [scells, sv]
theorem make_txt (w : World) (n : Nat) (hn : n ≤ 1000000) : (Instr.makeSlice 85 (.int .i64 (n : Int)) (.int .i64 (n : Int))).run Tryz.prog w = .ok (.slice (some ⟨w.heap.size, 0, none⟩) n n) (w.alloc (.cells (scells (List.replicate n [])).toArray 22)) := by
  have := run_make_row' (P := Tryz.prog) 85 22 (.string ⟨#[]⟩) 16 Tryz.underlying85 info_txt rfl .i64 .i64 n (by omega) (by omega) w
  rw [madeCells_eq] at this
  rw [scells_replicate]
  exact this
/-- the first k texts are written -/
def txtTo (L : List Rat) (k : Nat) : List Txt := (L.take k).map rtext ++ List.replicate (L.length - k) []
theorem txtTo_length (L : List Rat) (k : Nat) (h : k ≤ L.length) : (txtTo L k).length = L.length := by simp [txtTo]; omega
theorem txtTo_succ (L : List Rat) (k : Nat) (h : k < L.length) : (txtTo L k).set k (rtext (L[k]?.getD 0)) = txtTo L (k + 1) := by
  unfold txtTo
  rw [List.take_add_one, List.getElem?_eq_getElem h, List.map_append, List.set_append_right _ _ (by simp; omega), show L.length - k = (L.length - (k + 1)) + 1 by omega, List.replicate_succ, List.length_map, List.length_take, Nat.min_eq_left (by omega), Nat.sub_self, List.set_cons_zero, List.append_assoc]
  rfl
theorem scells_set (L : List Txt) (k : Nat) (l : Txt) : (scells L).set k (.string ⟨l.toArray⟩) = scells (L.set k l) := by simp [scells, List.map_set, sv]
def writePostL (L : List Rat) (w : World) (e : Ending) (w' : World) : Prop :=
  Below w.heap.size w w' ∧ (((∀ q ∈ L, ¬ tooLong q) ∧ ∃ g, e = .returned (.tuple #[.slice (some ⟨g, 0, none⟩) L.length L.length, .int .i64 0]) ∧ w.heap.size ≤ g ∧ Own w' g 22 (scells (L.map rtext))) ∨ ((∃ q ∈ L, tooLong q) ∧ e = .returned (.tuple #[nilV, .int .i64 4])))

set_option maxRecDepth 100000 in
set_option maxHeartbeats 2000000 in
theorem convertW_c (b n c : Nat) (es : List El) (L : List Rat) (w : World) (hO : RowQ w b es L) (hn : n = L.length) (hl : n ≤ 1000000) (_hc : n ≤ c) (hF : ∀ q ∈ L, FitQ q) (hG : Glob w) :
    Calls Tryz.prog 208 #[.slice (some ⟨b, 0, none⟩) n c, .func (.func 124) #[] #[]] w (writePostL L w) := by
  have hmk := make_txt w n hl
  have HB := Lib.hid (Own.make w 22 (scells (List.replicate n [])))
  have HN := Lib.hid hn
  have HR := Lib.hid hO
  have HF := Lib.hid hF
  have HG := Lib.hid hG
  clear hn hO hF hG
  go_enter Tryz.func208, Tryz.ntmps208
  go_wp2_with fail
  clear hmk
  go_loopg [15] n (fun gh i wr => ∃ k : Nat, i = .int .i64 k ∧ k + gh = n ∧ Hid (∀ q ∈ L.take k, ¬ tooLong q) ∧ Hid (Own wr w.heap.size 22 (scells (txtTo L k))) ∧ Hid (Below w.heap.size w wr))
  case atStart => exact ⟨0, rfl, by omega, Lib.hid (by simp), Lib.hid (by have := HB.out; rw [HN.out] at this ⊢; simpa [txtTo] using this), Lib.hid ((Below.refl _ _).alloc (Nat.le_refl _) _)⟩
  case round =>
    clear HB
    obtain ⟨k, rfl, hk, hI, hO, hB⟩ := hrel
    cases gk with
    | zero =>
      have hkl : k = n := by omega
      have hin : ¬ ((k : Int) < (n : Int)) := by omega
      have HI := Lib.hid (show ∀ q ∈ L, ¬ tooLong q by have := hI.out; rwa [hkl, HN.out, List.take_of_length_le (Nat.le_refl _)] at this)
      have HO := Lib.hid (show Own wr w.heap.size 22 (scells (L.map rtext)) by have := hO.out; rw [hkl, HN.out] at this; simpa [txtTo] using this)
      clear hkl hI hO hk
      go_wp2
      go_ret2
      exact ⟨hB.out, .inl ⟨HI.out, _, by rw [← HN.out]; rfl, Nat.le_refl _, HO.out⟩⟩
    | succ gh =>
      have hlt : k < n := by omega
      have hlt' : (k : Int) < (n : Int) := by omega
      have hltL : k < L.length := by rw [← HN.out]; exact hlt
      obtain ⟨q, hq⟩ : ∃ q, L[k]? = some q := ⟨L[k], List.getElem?_eq_getElem hltL⟩
      obtain ⟨e, A1, n1, c1, A2, n2, c2, zz0, hee, hrt, y0, y1, y2, zz1, zz2, zz3⟩ := (HR.out.below hB.out).at_ (j := k) hltL
      clear zz0 zz1 zz2 zz3
      obtain ⟨e0, ea, eb⟩ := e
      have hea : ea = .slice A1 n1 c1 ∧ eb = .slice A2 n2 c2 := by simpa using hee
      obtain ⟨rfl, rfl⟩ := hea
      clear hee
      unfold elV at hrt
      dsimp only at y0 hrt
      have hbl : b < wr.heap.size := (HR.out.below hB.out).own.lt
      have hqF := HF.out q (List.mem_of_getElem? hq)
      have hck2 := (hO.out.cell k).trans (scells_at _ k (by rw [txtTo_length L k (by omega)]; omega))
      have hfr := hO.out.free k
      have hol := hO.out.lt
      have Hs := Lib.hid (txtTo_succ L k hltL)
      have Ht : Hid (L.take (k + 1) = L.take k ++ [q]) := Lib.hid (by rw [List.take_add_one, hq]; rfl)
      have Hm : Hid (q ∈ L) := Lib.hid (List.mem_of_getElem? hq)
      have Hk := Lib.hid hk
      have hqe : L[k]?.getD 0 = q := by rw [hq]; rfl
      rw [hqe] at hrt Hs
      have hal : Below wr.heap.size wr (wr.alloc (.cells #[.bool e0, .slice A1 n1 c1, .slice A2 n2 c2] 122)) := (Below.refl _ _).alloc (Nat.le_refl _) _
      have WR := Lib.hid (write_c (.agg #[.bool e0, .slice A1 n1 c1, .slice A2 n2 c2]) q _ (hrt.below hal) hqF.1 hqF.2 (HG.out.below (hB.out.trans (hal.mono hB.out.size))))
      generalize (txtTo L k)[k]?.getD [] = y at *
      unfold sv at hck2
      clear hq hqF hqe hk hrt hal
      go_wp2_with fail
      refine WR.out.mono ?_
      clear WR
      rintro e w1 ⟨rfl, hB1⟩
      have hB15 : Below wr.heap.size wr w1 := ((Below.refl wr.heap.size wr).alloc (Nat.le_refl _) _).trans (hB1.mono (by simp))
      have hck3 := (hB15.cell (p := ⟨w.heap.size, k, none⟩) hol).trans hck2
      have hfr3 := (hB15.frozen (p := ⟨w.heap.size, k, none⟩) hol).trans hfr
      have hol3 : w.heap.size < w1.heap.size := Nat.lt_of_lt_of_le hol hB15.size
      by_cases hlong : tooLong q
      · rw [writeEnd_long hlong]
        have HX : Hid (∃ q ∈ L, tooLong q) := Lib.hid ⟨q, Hm.out, hlong⟩
        have HB2 := Lib.hid ((hB.out.trans (hB15.mono hB.out.size)).setCell (p := ⟨w.heap.size, k, none⟩) (Nat.le_refl _) (.string ⟨#[]⟩))
        clear hlong hB1 hB15 hO hB hI y0 y1 y2 hck2 hfr
        go_wp2
        go_ret2
        exact ⟨HB2.out, .inr ⟨HX.out, rfl⟩⟩
      · rw [writeEnd_ok hlong]
        have HI2 : Hid (∀ q ∈ L.take (k + 1), ¬ tooLong q) := Lib.hid (by
          rw [Ht.out]; intro z hz; rcases List.mem_append.1 hz with h | h
          · exact hI.out z h
          · rw [List.mem_singleton.1 h]; exact hlong)
        have HO2 : Hid (Own (w1.setCell ⟨w.heap.size, k, none⟩ (.string ⟨(rtext q).toArray⟩)) w.heap.size 22 (scells (txtTo L (k + 1)))) := Lib.hid (by
          rw [← Hs.out, ← scells_set]; exact (hO.out.below hB15 hol).put _ _)
        have HB2 := Lib.hid ((hB.out.trans (hB15.mono hB.out.size)).setCell (p := ⟨w.heap.size, k, none⟩) (Nat.le_refl _) (.string ⟨(rtext q).toArray⟩))
        clear hlong hB1 hB15 hO hB hI y0 y1 y2 hck2 hfr Hs
        generalize rtext q = tx at *
        go_wp2
        go_roundg gh
        case rel => exact ⟨k + 1, by go_num, by have := Hk.out; omega, HI2, HO2, HB2⟩
        case measure => omega

set_option maxRecDepth 100000 in
set_option maxHeartbeats 1000000 in
theorem writeRow_c (b n c : Nat) (es : List El) (L : List Rat) (w : World) (hO : RowQ w b es L) (hn : n = L.length) (hl : n ≤ 1000000) (_hc : n ≤ c) (hF : ∀ q ∈ L, FitQ q) (hG : Glob w) :
    Calls Tryz.prog 155 #[.slice (some ⟨b, 0, none⟩) n c] w (writePostL L w) := by
  have CW := Lib.hid (convertW_c b n c es L w hO hn hl _hc hF hG)
  clear hO hn hF hG
  go_enter Tryz.func155, Tryz.ntmps155
  go_wp2_with fail
  refine CW.out.mono ?_
  rintro e w1 ⟨hB1, ⟨hok, g, rfl, hg, hO1⟩ | ⟨hno, rfl⟩⟩
  · have HO := Lib.hid hO1
    have HK := Lib.hid hok
    clear hO1 hok CW
    go_wp2
    go_ret2
    exact ⟨hB1, .inl ⟨HK.out, g, rfl, hg, HO.out⟩⟩
  · have HK := Lib.hid hno
    clear hno CW
    go_wp2
    go_ret2
    exact ⟨hB1, .inr ⟨HK.out, rfl⟩⟩
end Go.Proofs.YtneafcdfnhnpnaaGreatDoor
