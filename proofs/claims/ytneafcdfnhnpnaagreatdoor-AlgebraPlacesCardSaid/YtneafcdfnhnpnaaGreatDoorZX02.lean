/- Contracts: two numbers that are read; their comparison. -/
import Derived.Test.YtneafcdfnhnpnaaGreatDoorZX01
import Derived.Test.YtneafcdfnhnpnaaGreatDoorZ10
import Derived.Test.YtneafcdfnhnpnaaGreatDoorZ01
import Derived.Test.YtneafcdfnhnpnaaGreatDoorZ15
namespace Go.Proofs.YtneafcdfnhnpnaaGreatDoor
open Go.RowKit Go.Lib

/-- what read leaves, in its parts -/
def RdV (w : World) (l : List UInt8) (s : Bool) (A : Option Addr) (n c : Nat) (B : Option Addr) (m d : Nat) (k : Int) : Prop :=
  k = (readRes l).1 ∧ (k = 0 → Rt w (.agg #[.bool s, .slice A n c, .slice B m d]) (readRes l).2)
theorem read_parts_of {l : List UInt8} {w w' : World} {e : Ending} (h : readPost (readRes l) w e w') :
    ∃ s A n c B m d k, e = .returned (.tuple #[.agg #[.bool s, .slice A n c, .slice B m d], .int .i64 k]) ∧ RdV w' l s A n c B m d k ∧ Below w.heap.size w w' := by
  unfold readPost at h
  split at h
  · rename_i h0
    obtain ⟨v, rfl, hv, hB⟩ := h
    obtain ⟨s, A, n, c, B, m, d, rfl⟩ := hv.shape
    exact ⟨s, A, n, c, B, m, d, 0, rfl, ⟨h0.symm, fun _ => hv⟩, hB⟩
  · rename_i h0
    obtain ⟨rfl, hB⟩ := h
    exact ⟨false, none, 0, 0, none, 0, 0, _, rfl, ⟨rfl, fun h => absurd h h0⟩, hB⟩
theorem RdV.put3 {w : World} {l : List UInt8} {s : Bool} {A : Option Addr} {n c : Nat} {B : Option Addr} {m d : Nat} {k : Int} {g : Nat} {t : TypeId} {a b cc a' b' c' : Value} (h : RdV w l s A n c B m d k) (hO : Own w g t [a, b, cc]) (ha : NoInt a) (hb : NoInt b) (hc : NoInt cc) (ha' : NoInt a') (hb' : NoInt b') :
    RdV (((w.setCell ⟨g, 0, none⟩ a').setCell ⟨g, 1, none⟩ b').setCell ⟨g, 2, none⟩ c') l s A n c B m d k := ⟨h.1, fun hk => (h.2 hk).put3 hO ha hb hc ha' hb'⟩
theorem RdV.below {w w' : World} {l : List UInt8} {s : Bool} {A : Option Addr} {n c : Nat} {B : Option Addr} {m d : Nat} {k : Int} (h : RdV w l s A n c B m d k) (hb : Below w.heap.size w w') : RdV w' l s A n c B m d k := ⟨h.1, fun hk => (h.2 hk).below hb⟩
def first2 (a b : Int) : Int := if a = 0 then b else a
def twoPost (l1 l2 : List UInt8) (w : World) (e : Ending) (w' : World) : Prop :=
  ∃ s A n c B m d k s' A' n' c' B' m' d' k', e = .returned (.tuple #[.agg #[.bool s, .slice A n c, .slice B m d], .agg #[.bool s', .slice A' n' c', .slice B' m' d'], .int .i64 (first2 k k')]) ∧
    RdV w' l1 s A n c B m d k ∧ RdV w' l2 s' A' n' c' B' m' d' k' ∧ Below w.heap.size w w'
set_option maxRecDepth 100000 in
set_option maxHeartbeats 4000000 in
theorem readTwo_c (l1 l2 : List UInt8) (w : World) (h1 : l1.length < 4294967281) (h2 : l2.length < 4294967281) (hG : Glob w) (o1 : OkLen l1.length) (o2 : OkLen l2.length) :
    Calls Tryz.prog 113 #[.string ⟨l1.toArray⟩, .string ⟨l2.toArray⟩] w (twoPost l1 l2 w) := by
  have R1 := Lib.hid (fun w hG => read_c l1 w h1 hG o1)
  have R2 := Lib.hid (fun w hG => read_c l2 w h2 hG o2)
  have HG := Lib.hid hG
  clear h1 h2 o1 o2 hG
  have HB0 : Hid (Below w.heap.size w ((w.alloc (.cells #[.bool false, .slice none 0 0, .slice none 0 0] 122)).alloc (.cells #[.bool false, .slice none 0 0, .slice none 0 0] 122))) := Lib.hid (((Below.refl _ _).alloc (Nat.le_refl _) _).alloc (by simp) _)
  have HP : Hid (Own ((w.alloc (.cells #[.bool false, .slice none 0 0, .slice none 0 0] 122)).alloc (.cells #[.bool false, .slice none 0 0, .slice none 0 0] 122)) w.heap.size 122 [.bool false, .slice none 0 0, .slice none 0 0]) := Lib.hid ((Own.make w _ _).alloc _)
  have HQ : Hid (Own ((w.alloc (.cells #[.bool false, .slice none 0 0, .slice none 0 0] 122)).alloc (.cells #[.bool false, .slice none 0 0, .slice none 0 0] 122)) (w.heap.size + 1) 122 [.bool false, .slice none 0 0, .slice none 0 0]) := Lib.hid (by
    have h := Own.make (w.alloc (.cells #[.bool false, .slice none 0 0, .slice none 0 0] 122)) 122 [.bool false, .slice none 0 0, .slice none 0 0]
    simpa using h)
  go_enter Tryz.func113, Tryz.ntmps113
  go_wp2_with fail
  refine (R1.out _ (HG.out.below HB0.out)).mono ?_
  clear R1
  rintro e w1 hp
  obtain ⟨s, A, n, c, B, m, d, k, rfl, hv, hB⟩ := read_parts_of hp
  have HP1 := Lib.hid (HP.out.below hB HP.out.lt)
  have HQ1 := Lib.hid (HQ.out.below hB HQ.out.lt)
  have HB1 := Lib.hid (HB0.out.trans (hB.mono HB0.out.size))
  obtain ⟨c0, c1, c2, f0, f1, f2⟩ := HP1.out.three
  have HV1 := Lib.hid (hv.put3 (a' := .bool s) (b' := .slice A n c) (c' := .slice B m d) HP1.out (noInt_bool _) (noInt_slice _ _ _) (noInt_slice _ _ _) (noInt_bool _) (noInt_slice _ _ _))
  have HP2 := Lib.hid (HP1.out.set3 (a' := .bool s) (b' := .slice A n c) (c' := .slice B m d))
  have HQ2 := Lib.hid ((((HQ1.out).but (But.set3 w1 w.heap.size 0 (.bool s) (.slice A n c) (.slice B m d)) (by omega))))
  have HB2 : Hid (Below w.heap.size w (((w1.setCell ⟨w.heap.size, 0, none⟩ (.bool s)).setCell ⟨w.heap.size, 1, none⟩ (.slice A n c)).setCell ⟨w.heap.size, 2, none⟩ (.slice B m d))) := Lib.hid (((HB1.out.setCell (p := ⟨w.heap.size, 0, none⟩) (Nat.le_refl _) _).setCell (p := ⟨w.heap.size, 1, none⟩) (Nat.le_refl _) _).setCell (p := ⟨w.heap.size, 2, none⟩) (Nat.le_refl _) _)
  clear hv hB HP1 HQ1 HB1 HP HQ HB0 hp
  go_wp2_with fail
  obtain ⟨W2, hW2⟩ : ∃ W2, W2 = (((w1.setCell ⟨w.heap.size, 0, none⟩ (.bool s)).setCell ⟨w.heap.size, 1, none⟩ (.slice A n c)).setCell ⟨w.heap.size, 2, none⟩ (.slice B m d)) := ⟨_, rfl⟩
  rw [← hW2] at HV1 HP2 HQ2 HB2 ⊢
  clear hW2 c0 c1 c2 f0 f1 f2
  refine (R2.out _ (HG.out.below HB2.out)).mono ?_
  clear R2
  rintro e w3 hp
  obtain ⟨s', A', n', c', B', m', d', k', rfl, hv, hB⟩ := read_parts_of hp
  have HP3 := Lib.hid (HP2.out.below hB HP2.out.lt)
  have HQ3 := Lib.hid (HQ2.out.below hB HQ2.out.lt)
  have HV3 := Lib.hid (HV1.out.below hB)
  have HB3 := Lib.hid (HB2.out.trans (hB.mono HB2.out.size))
  obtain ⟨c0, c1, c2, f0, f1, f2⟩ := HQ3.out.three
  have HVB := Lib.hid (hv.put3 (a' := .bool s') (b' := .slice A' n' c') (c' := .slice B' m' d') HQ3.out (noInt_bool _) (noInt_slice _ _ _) (noInt_slice _ _ _) (noInt_bool _) (noInt_slice _ _ _))
  have HVA := Lib.hid (HV3.out.put3 (a' := .bool s') (b' := .slice A' n' c') (c' := .slice B' m' d') HQ3.out (noInt_bool _) (noInt_slice _ _ _) (noInt_slice _ _ _) (noInt_bool _) (noInt_slice _ _ _))
  have HQ4 := Lib.hid (HQ3.out.set3 (a' := .bool s') (b' := .slice A' n' c') (c' := .slice B' m' d'))
  have HP4 := Lib.hid ((((HP3.out).but (But.set3 w3 (w.heap.size + 1) 0 (.bool s') (.slice A' n' c') (.slice B' m' d')) (by omega))))
  have HB4 : Hid (Below w.heap.size w (((w3.setCell ⟨w.heap.size + 1, 0, none⟩ (.bool s')).setCell ⟨w.heap.size + 1, 1, none⟩ (.slice A' n' c')).setCell ⟨w.heap.size + 1, 2, none⟩ (.slice B' m' d'))) := Lib.hid (((HB3.out.setCell (p := ⟨w.heap.size + 1, 0, none⟩) (by simp) _).setCell (p := ⟨w.heap.size + 1, 1, none⟩) (by simp) _).setCell (p := ⟨w.heap.size + 1, 2, none⟩) (by simp) _)
  clear hv hB HP3 HQ3 HV3 HB3 HV1 HP2 HQ2 HB2 hp
  go_upto_region 1 with fail
  obtain ⟨W4, hW4⟩ : ∃ W4, W4 = (((w3.setCell ⟨w.heap.size + 1, 0, none⟩ (.bool s')).setCell ⟨w.heap.size + 1, 1, none⟩ (.slice A' n' c')).setCell ⟨w.heap.size + 1, 2, none⟩ (.slice B' m' d')) := ⟨_, rfl⟩
  have HVB2 : Hid (RdV W4 l2 s' A' n' c' B' m' d' k') := Lib.hid (by rw [hW4]; exact HVB.out)
  have HVA2 : Hid (RdV W4 l1 s A n c B m d k) := Lib.hid (by rw [hW4]; exact HVA.out)
  have HQ5 : Hid (Own W4 (w.heap.size + 1) 122 [.bool s', .slice A' n' c', .slice B' m' d']) := Lib.hid (by rw [hW4]; exact HQ4.out)
  have HP5 : Hid (Own W4 w.heap.size 122 [.bool s, .slice A n c, .slice B m d]) := Lib.hid (by rw [hW4]; exact HP4.out)
  have HB5 : Hid (Below w.heap.size w W4) := Lib.hid (by rw [hW4]; exact HB4.out)
  rw [← hW4]
  clear hW4 HVB HVA HQ4 HP4 HB4 c0 c1 c2 f0 f1 f2
  obtain ⟨p0, p1, p2, p3, p4, p5⟩ := HP5.out.three
  obtain ⟨q0, q1, q2, q3, q4, q5⟩ := HQ5.out.three
  have hgs := HB5.out.size
  have hgl := HQ5.out.lt
  have hpl := HP5.out.lt
  generalize hgg : w.heap.size = g at *
  have HGG := Lib.hid hgg
  clear hgg
  have FC : Hid (∀ (W : World) (ty : TypeId), Calls Tryz.prog 111 #[.slice (some ⟨W.heap.size, 0, none⟩) 2 2] (W.alloc (.cells #[.int .i64 k, .int .i64 k'] ty)).drew fun e w' => e = .returned (.int .i64 (first2 k k')) ∧ (W.alloc (.cells #[.int .i64 k, .int .i64 k'] ty)).drew = w') := Lib.hid (fun W ty => by
    have h := first_c _ [k, k'] _ ((Sl.lit W ty #[.int .i64 k, .int .i64 k'] 2 rfl (by omega)).drew)
    have e : firstErr [k, k'] = first2 k k' := by
      unfold first2
      by_cases hk : k = 0
      · subst hk; by_cases hk' : k' = 0 <;> simp [firstErr, hk']
      · simp [firstErr, hk]
    rw [e] at h; exact h)
  have nb := noInt_bool
  have ns := noInt_slice
  have X1 := HVA2.out.put3 (a' := .bool s) (b' := .slice A n c) (c' := .slice B m d) HP5.out (nb _) (ns _ _ _) (ns _ _ _) (nb _) (ns _ _ _)
  have Y1 := HVB2.out.put3 (a' := .bool s) (b' := .slice A n c) (c' := .slice B m d) HP5.out (nb _) (ns _ _ _) (ns _ _ _) (nb _) (ns _ _ _)
  have O1 := HQ5.out.but (But.set3 W4 g 0 (.bool s) (.slice A n c) (.slice B m d)) (by omega)
  have P1 := HP5.out.set3 (a' := .bool s) (b' := .slice A n c) (c' := .slice B m d)
  have X2 := X1.put3 (a' := .bool s') (b' := .slice A' n' c') (c' := .slice B' m' d') O1 (nb _) (ns _ _ _) (ns _ _ _) (nb _) (ns _ _ _)
  have Y2 := Y1.put3 (a' := .bool s') (b' := .slice A' n' c') (c' := .slice B' m' d') O1 (nb _) (ns _ _ _) (ns _ _ _) (nb _) (ns _ _ _)
  have O2 := O1.set3 (a' := .bool s') (b' := .slice A' n' c') (c' := .slice B' m' d')
  have P2 := P1.but (But.set3 _ (g + 1) 0 (.bool s') (.slice A' n' c') (.slice B' m' d')) (by omega)
  have B2 : Below g w ((((((W4.setCell ⟨g, 0, none⟩ (.bool s)).setCell ⟨g, 1, none⟩ (.slice A n c)).setCell ⟨g, 2, none⟩ (.slice B m d)).setCell ⟨g + 1, 0, none⟩ (.bool s')).setCell ⟨g + 1, 1, none⟩ (.slice A' n' c')).setCell ⟨g + 1, 2, none⟩ (.slice B' m' d')) :=
    (((((HB5.out.setCell (p := ⟨g, 0, none⟩) (Nat.le_refl _) _).setCell (p := ⟨g, 1, none⟩) (Nat.le_refl _) _).setCell (p := ⟨g, 2, none⟩) (Nat.le_refl _) _).setCell (p := ⟨g + 1, 0, none⟩) (Nat.le_succ _) _).setCell (p := ⟨g + 1, 1, none⟩) (Nat.le_succ _) _).setCell (p := ⟨g + 1, 2, none⟩) (Nat.le_succ _) _
  have HFIN : Hid (∀ o : Obj, ∃ F, F = ((((((((W4.setCell ⟨g, 0, none⟩ (.bool s)).setCell ⟨g, 1, none⟩ (.slice A n c)).setCell ⟨g, 2, none⟩ (.slice B m d)).setCell ⟨g + 1, 0, none⟩ (.bool s')).setCell ⟨g + 1, 1, none⟩ (.slice A' n' c')).setCell ⟨g + 1, 2, none⟩ (.slice B' m' d')).alloc o).drew) ∧
      RdV F l1 s A n c B m d k ∧ RdV F l2 s' A' n' c' B' m' d' k' ∧ Below g w F ∧ Own F g 122 [.bool s, .slice A n c, .slice B m d] ∧ Own F (g + 1) 122 [.bool s', .slice A' n' c', .slice B' m' d']) := Lib.hid (fun o => by
    have ha := fun (W : World) => ((Below.refl W.heap.size W).alloc (Nat.le_refl _) o).drew
    exact ⟨_, rfl, X2.below (ha _), Y2.below (ha _), (B2.alloc (by simp; omega) o).drew, P2.alloc o, O2.alloc o⟩)
  clear X1 Y1 O1 P1 X2 Y2 O2 P2 B2 nb ns HVB2 HVA2 HQ5 HP5 HB5
  go_region_with (go_at_call 111; refine (FC.out _ _).mono ?_; rintro ee w5 ⟨rfl, rfl⟩)
  all_goals (
    obtain ⟨F, hF, hX, hY, hB, hP, hQ⟩ := HFIN.out (.cells #[.int .i64 k, .int .i64 k'] 24)
    rw [← hF]
    have HX := Lib.hid hX
    have HY := Lib.hid hY
    have HBF := Lib.hid hB
    obtain ⟨z0, z1, z2, _, _, _⟩ := hP.three
    obtain ⟨y0, y1, y2, _, _, _⟩ := hQ.three
    clear hF hX hY hB hP hQ p0 p1 p2 p3 p4 p5 q0 q1 q2 q3 q4 q5 FC HFIN
    go_wp2
    exact bodyPost_ret (v := .tuple #[.agg #[.bool s, .slice A n c, .slice B m d], .agg #[.bool s', .slice A' n' c', .slice B' m' d'], .int .i64 (first2 k k')]) (by simp [results, Tryz.results113, go_sem, z0, z1, z2, y0, y1, y2]) rfl ⟨s, A, n, c, B, m, d, k, s', A', n', c', B', m', d', k', rfl, HX.out, HY.out, by rw [HGG.out]; exact HBF.out⟩)
end Go.Proofs.YtneafcdfnhnpnaaGreatDoor
