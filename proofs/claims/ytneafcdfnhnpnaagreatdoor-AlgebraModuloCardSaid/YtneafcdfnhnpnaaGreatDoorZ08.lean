/- Contract: the number that a text stands for; the texts with an error. -/
import Derived.Test.YtneafcdfnhnpnaaGreatDoorZ07
namespace Go.Proofs.YtneafcdfnhnpnaaGreatDoor
open Go.RowKit Go.Lib

/-- an error without a number -/
def errPost (code : Int) (w : World) (e : Ending) (w' : World) : Prop := e = .returned (.tuple #[zeroR, .int .i64 code]) ∧ Below w.heap.size w w'
def okPost (q : Rat) (w : World) (e : Ending) (w' : World) : Prop := ∃ v, e = .returned (.tuple #[v, .int .i64 0]) ∧ Rt w' v q ∧ Below w.heap.size w w'

set_option maxRecDepth 100000 in
set_option maxHeartbeats 4000000 in
theorem read_badnum_nf (l dg a b : List UInt8) (w : World) (h1 : hasPrefix l [45] = true) (h2 : trimPrefix l [45] = dg) (h3 : cut dg [47] = (a, b, true)) (hdl : dg.length < 4294967281) (hal : a.length < 4294967281) (hG : Glob w)
    (hn : ¬ Numeral a) : Calls Tryz.prog 102 #[.string ⟨l.toArray⟩] w (errPost 1 w) := by
  go_enter Tryz.func102, Tryz.ntmps102
  go_wp2_with fail
  refine (cutPrefix_c l dg true _ h1 h2).mono ?_
  rintro e w' ⟨rfl, rfl⟩
  go_wp2_with fail
  refine (cut_c dg a b true _ h3 hdl (hG.below ((Below.refl _ _).alloc (Nat.le_refl _) _))).mono ?_
  rintro e w' ⟨rfl, n, rfl⟩
  go_wp2_with fail
  refine (isNumeral_no a _ hn hal).mono ?_
  rintro e w1 ⟨rfl, hB1⟩
  have hO1 := (((Own.make w 122 [.bool false, .slice none 0 0, .slice none 0 0]).drewN n).below hB1 (by simp))
  have hW1 : Below w.heap.size w w1 := (below_drewN ((Below.refl w.heap.size w).alloc (Nat.le_refl _) _) n).trans (hB1.mono (by simp))
  obtain ⟨c0, c1, c2, f0, f1, f2⟩ := hO1.three
  go_wp2
  exact bodyPost_ret (v := .tuple #[zeroR, .int .i64 1]) (by simp [results, Tryz.results102, go_sem, c0, c1, c2, zeroR]) rfl ⟨rfl, ((hW1.setCell (by simp) _).setCell (by simp) _).setCell (by simp) _⟩

set_option maxRecDepth 100000 in
set_option maxHeartbeats 4000000 in
theorem read_badnum_nw (l dg a b : List UInt8) (w : World) (h1 : hasPrefix l [45] = true) (h2 : trimPrefix l [45] = dg) (h3 : cut dg [47] = (a, b, false)) (hdl : dg.length < 4294967281) (hal : a.length < 4294967281) (hG : Glob w)
    (hn : ¬ Numeral a) : Calls Tryz.prog 102 #[.string ⟨l.toArray⟩] w (errPost 1 w) := by
  go_enter Tryz.func102, Tryz.ntmps102
  go_wp2_with fail
  refine (cutPrefix_c l dg true _ h1 h2).mono ?_
  rintro e w' ⟨rfl, rfl⟩
  go_wp2_with fail
  refine (cut_c dg a b false _ h3 hdl (hG.below ((Below.refl _ _).alloc (Nat.le_refl _) _))).mono ?_
  rintro e w' ⟨rfl, n, rfl⟩
  go_wp2_with fail
  refine (isNumeral_no a _ hn hal).mono ?_
  rintro e w1 ⟨rfl, hB1⟩
  have hO1 := (((Own.make w 122 [.bool false, .slice none 0 0, .slice none 0 0]).drewN n).below hB1 (by simp))
  have hW1 : Below w.heap.size w w1 := (below_drewN ((Below.refl w.heap.size w).alloc (Nat.le_refl _) _) n).trans (hB1.mono (by simp))
  obtain ⟨c0, c1, c2, f0, f1, f2⟩ := hO1.three
  go_wp2
  exact bodyPost_ret (v := .tuple #[zeroR, .int .i64 1]) (by simp [results, Tryz.results102, go_sem, c0, c1, c2, zeroR]) rfl ⟨rfl, ((hW1.setCell (by simp) _).setCell (by simp) _).setCell (by simp) _⟩

set_option maxRecDepth 100000 in
set_option maxHeartbeats 4000000 in
theorem read_badnum_pf (l dg a b : List UInt8) (w : World) (h1 : hasPrefix l [45] = false) (h2 : trimPrefix l [45] = dg) (h3 : cut dg [47] = (a, b, true)) (hdl : dg.length < 4294967281) (hal : a.length < 4294967281) (hG : Glob w)
    (hn : ¬ Numeral a) : Calls Tryz.prog 102 #[.string ⟨l.toArray⟩] w (errPost 1 w) := by
  go_enter Tryz.func102, Tryz.ntmps102
  go_wp2_with fail
  refine (cutPrefix_c l dg false _ h1 h2).mono ?_
  rintro e w' ⟨rfl, rfl⟩
  go_wp2_with fail
  refine (cut_c dg a b true _ h3 hdl (hG.below ((Below.refl _ _).alloc (Nat.le_refl _) _))).mono ?_
  rintro e w' ⟨rfl, n, rfl⟩
  go_wp2_with fail
  refine (isNumeral_no a _ hn hal).mono ?_
  rintro e w1 ⟨rfl, hB1⟩
  have hO1 := (((Own.make w 122 [.bool false, .slice none 0 0, .slice none 0 0]).drewN n).below hB1 (by simp))
  have hW1 : Below w.heap.size w w1 := (below_drewN ((Below.refl w.heap.size w).alloc (Nat.le_refl _) _) n).trans (hB1.mono (by simp))
  obtain ⟨c0, c1, c2, f0, f1, f2⟩ := hO1.three
  go_wp2
  exact bodyPost_ret (v := .tuple #[zeroR, .int .i64 1]) (by simp [results, Tryz.results102, go_sem, c0, c1, c2, zeroR]) rfl ⟨rfl, ((hW1.setCell (by simp) _).setCell (by simp) _).setCell (by simp) _⟩

set_option maxRecDepth 100000 in
set_option maxHeartbeats 4000000 in
theorem read_badnum_pw (l dg a b : List UInt8) (w : World) (h1 : hasPrefix l [45] = false) (h2 : trimPrefix l [45] = dg) (h3 : cut dg [47] = (a, b, false)) (hdl : dg.length < 4294967281) (hal : a.length < 4294967281) (hG : Glob w)
    (hn : ¬ Numeral a) : Calls Tryz.prog 102 #[.string ⟨l.toArray⟩] w (errPost 1 w) := by
  go_enter Tryz.func102, Tryz.ntmps102
  go_wp2_with fail
  refine (cutPrefix_c l dg false _ h1 h2).mono ?_
  rintro e w' ⟨rfl, rfl⟩
  go_wp2_with fail
  refine (cut_c dg a b false _ h3 hdl (hG.below ((Below.refl _ _).alloc (Nat.le_refl _) _))).mono ?_
  rintro e w' ⟨rfl, n, rfl⟩
  go_wp2_with fail
  refine (isNumeral_no a _ hn hal).mono ?_
  rintro e w1 ⟨rfl, hB1⟩
  have hO1 := (((Own.make w 122 [.bool false, .slice none 0 0, .slice none 0 0]).drewN n).below hB1 (by simp))
  have hW1 : Below w.heap.size w w1 := (below_drewN ((Below.refl w.heap.size w).alloc (Nat.le_refl _) _) n).trans (hB1.mono (by simp))
  obtain ⟨c0, c1, c2, f0, f1, f2⟩ := hO1.three
  go_wp2
  exact bodyPost_ret (v := .tuple #[zeroR, .int .i64 1]) (by simp [results, Tryz.results102, go_sem, c0, c1, c2, zeroR]) rfl ⟨rfl, ((hW1.setCell (by simp) _).setCell (by simp) _).setCell (by simp) _⟩

set_option maxRecDepth 100000 in
set_option maxHeartbeats 4000000 in
theorem read_minuszero_f (l dg a b : List UInt8) (w : World) (h1 : hasPrefix l [45] = true) (h2 : trimPrefix l [45] = dg) (h3 : cut dg [47] = (a, b, true)) (hdl : dg.length < 4294967281) (hal : a.length < 4294967281) (hG : Glob w)
    (hn : Numeral a) (hz : (a == [48]) = true) : Calls Tryz.prog 102 #[.string ⟨l.toArray⟩] w (errPost 1 w) := by
  go_enter Tryz.func102, Tryz.ntmps102
  go_wp2_with fail
  refine (cutPrefix_c l dg true _ h1 h2).mono ?_
  rintro e w' ⟨rfl, rfl⟩
  go_wp2_with fail
  refine (cut_c dg a b true _ h3 hdl (hG.below ((Below.refl _ _).alloc (Nat.le_refl _) _))).mono ?_
  rintro e w' ⟨rfl, n, rfl⟩
  go_wp2_with fail
  refine (isNumeral_yes a _ hn hal).mono ?_
  rintro e w1 ⟨rfl, hB1⟩
  have hO1 := (((Own.make w 122 [.bool false, .slice none 0 0, .slice none 0 0]).drewN n).below hB1 (by simp))
  have hW1 : Below w.heap.size w w1 := (below_drewN ((Below.refl w.heap.size w).alloc (Nat.le_refl _) _) n).trans (hB1.mono (by simp))
  obtain ⟨c0, c1, c2, f0, f1, f2⟩ := hO1.three
  go_wp2
  exact bodyPost_ret (v := .tuple #[zeroR, .int .i64 1]) (by simp [results, Tryz.results102, go_sem, c0, c1, c2, zeroR]) rfl ⟨rfl, ((hW1.setCell (by simp) _).setCell (by simp) _).setCell (by simp) _⟩

set_option maxRecDepth 100000 in
set_option maxHeartbeats 4000000 in
theorem read_minuszero_w (l dg a b : List UInt8) (w : World) (h1 : hasPrefix l [45] = true) (h2 : trimPrefix l [45] = dg) (h3 : cut dg [47] = (a, b, false)) (hdl : dg.length < 4294967281) (hal : a.length < 4294967281) (hG : Glob w)
    (hn : Numeral a) (hz : (a == [48]) = true) : Calls Tryz.prog 102 #[.string ⟨l.toArray⟩] w (errPost 1 w) := by
  go_enter Tryz.func102, Tryz.ntmps102
  go_wp2_with fail
  refine (cutPrefix_c l dg true _ h1 h2).mono ?_
  rintro e w' ⟨rfl, rfl⟩
  go_wp2_with fail
  refine (cut_c dg a b false _ h3 hdl (hG.below ((Below.refl _ _).alloc (Nat.le_refl _) _))).mono ?_
  rintro e w' ⟨rfl, n, rfl⟩
  go_wp2_with fail
  refine (isNumeral_yes a _ hn hal).mono ?_
  rintro e w1 ⟨rfl, hB1⟩
  have hO1 := (((Own.make w 122 [.bool false, .slice none 0 0, .slice none 0 0]).drewN n).below hB1 (by simp))
  have hW1 : Below w.heap.size w w1 := (below_drewN ((Below.refl w.heap.size w).alloc (Nat.le_refl _) _) n).trans (hB1.mono (by simp))
  obtain ⟨c0, c1, c2, f0, f1, f2⟩ := hO1.three
  go_wp2
  exact bodyPost_ret (v := .tuple #[zeroR, .int .i64 1]) (by simp [results, Tryz.results102, go_sem, c0, c1, c2, zeroR]) rfl ⟨rfl, ((hW1.setCell (by simp) _).setCell (by simp) _).setCell (by simp) _⟩

set_option maxRecDepth 100000 in
set_option maxHeartbeats 4000000 in
theorem read_badden_n (l dg a b : List UInt8) (w : World) (h1 : hasPrefix l [45] = true) (h2 : trimPrefix l [45] = dg) (h3 : cut dg [47] = (a, b, true)) (hdl : dg.length < 4294967281) (hal : a.length < 4294967281) (hbl : b.length < 4294967281) (hG : Glob w)
    (hn : Numeral a) (hz : (a == [48]) = false) (hd : ¬ Numeral b) : Calls Tryz.prog 102 #[.string ⟨l.toArray⟩] w (errPost 1 w) := by
  go_enter Tryz.func102, Tryz.ntmps102
  go_wp2_with fail
  refine (cutPrefix_c l dg true _ h1 h2).mono ?_
  rintro e w' ⟨rfl, rfl⟩
  go_wp2_with fail
  refine (cut_c dg a b true _ h3 hdl (hG.below ((Below.refl _ _).alloc (Nat.le_refl _) _))).mono ?_
  rintro e w' ⟨rfl, n, rfl⟩
  go_wp2_with fail
  refine (isNumeral_yes a _ hn hal).mono ?_
  rintro e w1 ⟨rfl, hB1⟩
  have hO1 := (((Own.make w 122 [.bool false, .slice none 0 0, .slice none 0 0]).drewN n).below hB1 (by simp))
  have hW1 : Below w.heap.size w w1 := (below_drewN ((Below.refl w.heap.size w).alloc (Nat.le_refl _) _) n).trans (hB1.mono (by simp))
  go_wp2_with fail
  refine (isNumeral_no b _ hd hbl).mono ?_
  rintro e w2 ⟨rfl, hB2⟩
  replace hO1 := hO1.below hB2 (hO1.lt)
  replace hW1 := hW1.trans (hB2.mono hW1.size)
  obtain ⟨c0, c1, c2, f0, f1, f2⟩ := hO1.three
  go_wp2
  exact bodyPost_ret (v := .tuple #[zeroR, .int .i64 1]) (by simp [results, Tryz.results102, go_sem, c0, c1, c2, zeroR]) rfl ⟨rfl, ((hW1.setCell (by simp) _).setCell (by simp) _).setCell (by simp) _⟩

set_option maxRecDepth 100000 in
set_option maxHeartbeats 4000000 in
theorem read_den0_n (l dg a b : List UInt8) (w : World) (h1 : hasPrefix l [45] = true) (h2 : trimPrefix l [45] = dg) (h3 : cut dg [47] = (a, b, true)) (hdl : dg.length < 4294967281) (hal : a.length < 4294967281) (hbl : b.length < 4294967281) (hG : Glob w)
    (hn : Numeral a) (hz : (a == [48]) = false) (hd : Numeral b) (hb : (b == [48]) = true) : Calls Tryz.prog 102 #[.string ⟨l.toArray⟩] w (errPost 1 w) := by
  go_enter Tryz.func102, Tryz.ntmps102
  go_wp2_with fail
  refine (cutPrefix_c l dg true _ h1 h2).mono ?_
  rintro e w' ⟨rfl, rfl⟩
  go_wp2_with fail
  refine (cut_c dg a b true _ h3 hdl (hG.below ((Below.refl _ _).alloc (Nat.le_refl _) _))).mono ?_
  rintro e w' ⟨rfl, n, rfl⟩
  go_wp2_with fail
  refine (isNumeral_yes a _ hn hal).mono ?_
  rintro e w1 ⟨rfl, hB1⟩
  have hO1 := (((Own.make w 122 [.bool false, .slice none 0 0, .slice none 0 0]).drewN n).below hB1 (by simp))
  have hW1 : Below w.heap.size w w1 := (below_drewN ((Below.refl w.heap.size w).alloc (Nat.le_refl _) _) n).trans (hB1.mono (by simp))
  go_wp2_with fail
  refine (isNumeral_yes b _ hd hbl).mono ?_
  rintro e w2 ⟨rfl, hB2⟩
  replace hO1 := hO1.below hB2 (hO1.lt)
  replace hW1 := hW1.trans (hB2.mono hW1.size)
  obtain ⟨c0, c1, c2, f0, f1, f2⟩ := hO1.three
  go_wp2
  exact bodyPost_ret (v := .tuple #[zeroR, .int .i64 1]) (by simp [results, Tryz.results102, go_sem, c0, c1, c2, zeroR]) rfl ⟨rfl, ((hW1.setCell (by simp) _).setCell (by simp) _).setCell (by simp) _⟩

set_option maxRecDepth 100000 in
set_option maxHeartbeats 4000000 in
theorem read_den1_n (l dg a b : List UInt8) (w : World) (h1 : hasPrefix l [45] = true) (h2 : trimPrefix l [45] = dg) (h3 : cut dg [47] = (a, b, true)) (hdl : dg.length < 4294967281) (hal : a.length < 4294967281) (hbl : b.length < 4294967281) (hG : Glob w)
    (hn : Numeral a) (hz : (a == [48]) = false) (hd : Numeral b) (hb0 : (b == [48]) = false) (hb : (b == [49]) = true) : Calls Tryz.prog 102 #[.string ⟨l.toArray⟩] w (errPost 1 w) := by
  go_enter Tryz.func102, Tryz.ntmps102
  go_wp2_with fail
  refine (cutPrefix_c l dg true _ h1 h2).mono ?_
  rintro e w' ⟨rfl, rfl⟩
  go_wp2_with fail
  refine (cut_c dg a b true _ h3 hdl (hG.below ((Below.refl _ _).alloc (Nat.le_refl _) _))).mono ?_
  rintro e w' ⟨rfl, n, rfl⟩
  go_wp2_with fail
  refine (isNumeral_yes a _ hn hal).mono ?_
  rintro e w1 ⟨rfl, hB1⟩
  have hO1 := (((Own.make w 122 [.bool false, .slice none 0 0, .slice none 0 0]).drewN n).below hB1 (by simp))
  have hW1 : Below w.heap.size w w1 := (below_drewN ((Below.refl w.heap.size w).alloc (Nat.le_refl _) _) n).trans (hB1.mono (by simp))
  go_wp2_with fail
  refine (isNumeral_yes b _ hd hbl).mono ?_
  rintro e w2 ⟨rfl, hB2⟩
  replace hO1 := hO1.below hB2 (hO1.lt)
  replace hW1 := hW1.trans (hB2.mono hW1.size)
  obtain ⟨c0, c1, c2, f0, f1, f2⟩ := hO1.three
  go_wp2
  exact bodyPost_ret (v := .tuple #[zeroR, .int .i64 1]) (by simp [results, Tryz.results102, go_sem, c0, c1, c2, zeroR]) rfl ⟨rfl, ((hW1.setCell (by simp) _).setCell (by simp) _).setCell (by simp) _⟩

set_option maxRecDepth 100000 in
set_option maxHeartbeats 4000000 in
theorem read_longn_n (l dg a b : List UInt8) (w : World) (h1 : hasPrefix l [45] = true) (h2 : trimPrefix l [45] = dg) (h3 : cut dg [47] = (a, b, true)) (hdl : dg.length < 4294967281) (hal : a.length < 4294967281) (hbl : b.length < 4294967281) (hG : Glob w)
    (hn : Numeral a) (hz : (a == [48]) = false) (hd : Numeral b) (hb0 : (b == [48]) = false) (hb1 : (b == [49]) = false) (hlen : 600 < a.length) : Calls Tryz.prog 102 #[.string ⟨l.toArray⟩] w (errPost 4 w) := by
  go_enter Tryz.func102, Tryz.ntmps102
  go_wp2_with fail
  refine (cutPrefix_c l dg true _ h1 h2).mono ?_
  rintro e w' ⟨rfl, rfl⟩
  go_wp2_with fail
  refine (cut_c dg a b true _ h3 hdl (hG.below ((Below.refl _ _).alloc (Nat.le_refl _) _))).mono ?_
  rintro e w' ⟨rfl, n, rfl⟩
  go_wp2_with fail
  refine (isNumeral_yes a _ hn hal).mono ?_
  rintro e w1 ⟨rfl, hB1⟩
  have hO1 := (((Own.make w 122 [.bool false, .slice none 0 0, .slice none 0 0]).drewN n).below hB1 (by simp))
  have hW1 : Below w.heap.size w w1 := (below_drewN ((Below.refl w.heap.size w).alloc (Nat.le_refl _) _) n).trans (hB1.mono (by simp))
  go_wp2_with fail
  refine (isNumeral_yes b _ hd hbl).mono ?_
  rintro e w2 ⟨rfl, hB2⟩
  replace hO1 := hO1.below hB2 (hO1.lt)
  replace hW1 := hW1.trans (hB2.mono hW1.size)
  obtain ⟨c0, c1, c2, f0, f1, f2⟩ := hO1.three
  go_wp2
  exact bodyPost_ret (v := .tuple #[zeroR, .int .i64 4]) (by simp [results, Tryz.results102, go_sem, c0, c1, c2, zeroR]) rfl ⟨rfl, ((hW1.setCell (by simp) _).setCell (by simp) _).setCell (by simp) _⟩

set_option maxRecDepth 100000 in
set_option maxHeartbeats 4000000 in
theorem read_longd_n (l dg a b : List UInt8) (w : World) (h1 : hasPrefix l [45] = true) (h2 : trimPrefix l [45] = dg) (h3 : cut dg [47] = (a, b, true)) (hdl : dg.length < 4294967281) (hal : a.length < 4294967281) (hbl : b.length < 4294967281) (hG : Glob w)
    (hn : Numeral a) (hz : (a == [48]) = false) (hd : Numeral b) (hb0 : (b == [48]) = false) (hb1 : (b == [49]) = false) (hlen : a.length ≤ 600) (hlen2 : 600 < b.length) : Calls Tryz.prog 102 #[.string ⟨l.toArray⟩] w (errPost 4 w) := by
  go_enter Tryz.func102, Tryz.ntmps102
  go_wp2_with fail
  refine (cutPrefix_c l dg true _ h1 h2).mono ?_
  rintro e w' ⟨rfl, rfl⟩
  go_wp2_with fail
  refine (cut_c dg a b true _ h3 hdl (hG.below ((Below.refl _ _).alloc (Nat.le_refl _) _))).mono ?_
  rintro e w' ⟨rfl, n, rfl⟩
  go_wp2_with fail
  refine (isNumeral_yes a _ hn hal).mono ?_
  rintro e w1 ⟨rfl, hB1⟩
  have hO1 := (((Own.make w 122 [.bool false, .slice none 0 0, .slice none 0 0]).drewN n).below hB1 (by simp))
  have hW1 : Below w.heap.size w w1 := (below_drewN ((Below.refl w.heap.size w).alloc (Nat.le_refl _) _) n).trans (hB1.mono (by simp))
  go_wp2_with fail
  refine (isNumeral_yes b _ hd hbl).mono ?_
  rintro e w2 ⟨rfl, hB2⟩
  replace hO1 := hO1.below hB2 (hO1.lt)
  replace hW1 := hW1.trans (hB2.mono hW1.size)
  obtain ⟨c0, c1, c2, f0, f1, f2⟩ := hO1.three
  go_wp2
  exact bodyPost_ret (v := .tuple #[zeroR, .int .i64 4]) (by simp [results, Tryz.results102, go_sem, c0, c1, c2, zeroR]) rfl ⟨rfl, ((hW1.setCell (by simp) _).setCell (by simp) _).setCell (by simp) _⟩

set_option maxRecDepth 100000 in
set_option maxHeartbeats 4000000 in
theorem read_longw_n (l dg a b : List UInt8) (w : World) (h1 : hasPrefix l [45] = true) (h2 : trimPrefix l [45] = dg) (h3 : cut dg [47] = (a, b, false)) (hdl : dg.length < 4294967281) (hal : a.length < 4294967281) (hG : Glob w)
    (hn : Numeral a) (hz : (a == [48]) = false) (hlen : 600 < a.length) : Calls Tryz.prog 102 #[.string ⟨l.toArray⟩] w (errPost 4 w) := by
  go_enter Tryz.func102, Tryz.ntmps102
  go_wp2_with fail
  refine (cutPrefix_c l dg true _ h1 h2).mono ?_
  rintro e w' ⟨rfl, rfl⟩
  go_wp2_with fail
  refine (cut_c dg a b false _ h3 hdl (hG.below ((Below.refl _ _).alloc (Nat.le_refl _) _))).mono ?_
  rintro e w' ⟨rfl, n, rfl⟩
  go_wp2_with fail
  refine (isNumeral_yes a _ hn hal).mono ?_
  rintro e w1 ⟨rfl, hB1⟩
  have hO1 := (((Own.make w 122 [.bool false, .slice none 0 0, .slice none 0 0]).drewN n).below hB1 (by simp))
  have hW1 : Below w.heap.size w w1 := (below_drewN ((Below.refl w.heap.size w).alloc (Nat.le_refl _) _) n).trans (hB1.mono (by simp))
  obtain ⟨c0, c1, c2, f0, f1, f2⟩ := hO1.three
  go_wp2
  exact bodyPost_ret (v := .tuple #[zeroR, .int .i64 4]) (by simp [results, Tryz.results102, go_sem, c0, c1, c2, zeroR]) rfl ⟨rfl, ((hW1.setCell (by simp) _).setCell (by simp) _).setCell (by simp) _⟩

set_option maxRecDepth 100000 in
set_option maxHeartbeats 4000000 in
theorem read_badden_p (l dg a b : List UInt8) (w : World) (h1 : hasPrefix l [45] = false) (h2 : trimPrefix l [45] = dg) (h3 : cut dg [47] = (a, b, true)) (hdl : dg.length < 4294967281) (hal : a.length < 4294967281) (hbl : b.length < 4294967281) (hG : Glob w)
    (hn : Numeral a) (hd : ¬ Numeral b) : Calls Tryz.prog 102 #[.string ⟨l.toArray⟩] w (errPost 1 w) := by
  go_enter Tryz.func102, Tryz.ntmps102
  go_wp2_with fail
  refine (cutPrefix_c l dg false _ h1 h2).mono ?_
  rintro e w' ⟨rfl, rfl⟩
  go_wp2_with fail
  refine (cut_c dg a b true _ h3 hdl (hG.below ((Below.refl _ _).alloc (Nat.le_refl _) _))).mono ?_
  rintro e w' ⟨rfl, n, rfl⟩
  go_wp2_with fail
  refine (isNumeral_yes a _ hn hal).mono ?_
  rintro e w1 ⟨rfl, hB1⟩
  have hO1 := (((Own.make w 122 [.bool false, .slice none 0 0, .slice none 0 0]).drewN n).below hB1 (by simp))
  have hW1 : Below w.heap.size w w1 := (below_drewN ((Below.refl w.heap.size w).alloc (Nat.le_refl _) _) n).trans (hB1.mono (by simp))
  go_wp2_with fail
  refine (isNumeral_no b _ hd hbl).mono ?_
  rintro e w2 ⟨rfl, hB2⟩
  replace hO1 := hO1.below hB2 (hO1.lt)
  replace hW1 := hW1.trans (hB2.mono hW1.size)
  obtain ⟨c0, c1, c2, f0, f1, f2⟩ := hO1.three
  go_wp2
  exact bodyPost_ret (v := .tuple #[zeroR, .int .i64 1]) (by simp [results, Tryz.results102, go_sem, c0, c1, c2, zeroR]) rfl ⟨rfl, ((hW1.setCell (by simp) _).setCell (by simp) _).setCell (by simp) _⟩

set_option maxRecDepth 100000 in
set_option maxHeartbeats 4000000 in
theorem read_den0_p (l dg a b : List UInt8) (w : World) (h1 : hasPrefix l [45] = false) (h2 : trimPrefix l [45] = dg) (h3 : cut dg [47] = (a, b, true)) (hdl : dg.length < 4294967281) (hal : a.length < 4294967281) (hbl : b.length < 4294967281) (hG : Glob w)
    (hn : Numeral a) (hd : Numeral b) (hb : (b == [48]) = true) : Calls Tryz.prog 102 #[.string ⟨l.toArray⟩] w (errPost 1 w) := by
  go_enter Tryz.func102, Tryz.ntmps102
  go_wp2_with fail
  refine (cutPrefix_c l dg false _ h1 h2).mono ?_
  rintro e w' ⟨rfl, rfl⟩
  go_wp2_with fail
  refine (cut_c dg a b true _ h3 hdl (hG.below ((Below.refl _ _).alloc (Nat.le_refl _) _))).mono ?_
  rintro e w' ⟨rfl, n, rfl⟩
  go_wp2_with fail
  refine (isNumeral_yes a _ hn hal).mono ?_
  rintro e w1 ⟨rfl, hB1⟩
  have hO1 := (((Own.make w 122 [.bool false, .slice none 0 0, .slice none 0 0]).drewN n).below hB1 (by simp))
  have hW1 : Below w.heap.size w w1 := (below_drewN ((Below.refl w.heap.size w).alloc (Nat.le_refl _) _) n).trans (hB1.mono (by simp))
  go_wp2_with fail
  refine (isNumeral_yes b _ hd hbl).mono ?_
  rintro e w2 ⟨rfl, hB2⟩
  replace hO1 := hO1.below hB2 (hO1.lt)
  replace hW1 := hW1.trans (hB2.mono hW1.size)
  obtain ⟨c0, c1, c2, f0, f1, f2⟩ := hO1.three
  go_wp2
  exact bodyPost_ret (v := .tuple #[zeroR, .int .i64 1]) (by simp [results, Tryz.results102, go_sem, c0, c1, c2, zeroR]) rfl ⟨rfl, ((hW1.setCell (by simp) _).setCell (by simp) _).setCell (by simp) _⟩

set_option maxRecDepth 100000 in
set_option maxHeartbeats 4000000 in
theorem read_den1_p (l dg a b : List UInt8) (w : World) (h1 : hasPrefix l [45] = false) (h2 : trimPrefix l [45] = dg) (h3 : cut dg [47] = (a, b, true)) (hdl : dg.length < 4294967281) (hal : a.length < 4294967281) (hbl : b.length < 4294967281) (hG : Glob w)
    (hn : Numeral a) (hd : Numeral b) (hb0 : (b == [48]) = false) (hb : (b == [49]) = true) : Calls Tryz.prog 102 #[.string ⟨l.toArray⟩] w (errPost 1 w) := by
  go_enter Tryz.func102, Tryz.ntmps102
  go_wp2_with fail
  refine (cutPrefix_c l dg false _ h1 h2).mono ?_
  rintro e w' ⟨rfl, rfl⟩
  go_wp2_with fail
  refine (cut_c dg a b true _ h3 hdl (hG.below ((Below.refl _ _).alloc (Nat.le_refl _) _))).mono ?_
  rintro e w' ⟨rfl, n, rfl⟩
  go_wp2_with fail
  refine (isNumeral_yes a _ hn hal).mono ?_
  rintro e w1 ⟨rfl, hB1⟩
  have hO1 := (((Own.make w 122 [.bool false, .slice none 0 0, .slice none 0 0]).drewN n).below hB1 (by simp))
  have hW1 : Below w.heap.size w w1 := (below_drewN ((Below.refl w.heap.size w).alloc (Nat.le_refl _) _) n).trans (hB1.mono (by simp))
  go_wp2_with fail
  refine (isNumeral_yes b _ hd hbl).mono ?_
  rintro e w2 ⟨rfl, hB2⟩
  replace hO1 := hO1.below hB2 (hO1.lt)
  replace hW1 := hW1.trans (hB2.mono hW1.size)
  obtain ⟨c0, c1, c2, f0, f1, f2⟩ := hO1.three
  go_wp2
  exact bodyPost_ret (v := .tuple #[zeroR, .int .i64 1]) (by simp [results, Tryz.results102, go_sem, c0, c1, c2, zeroR]) rfl ⟨rfl, ((hW1.setCell (by simp) _).setCell (by simp) _).setCell (by simp) _⟩

set_option maxRecDepth 100000 in
set_option maxHeartbeats 4000000 in
theorem read_longn_p (l dg a b : List UInt8) (w : World) (h1 : hasPrefix l [45] = false) (h2 : trimPrefix l [45] = dg) (h3 : cut dg [47] = (a, b, true)) (hdl : dg.length < 4294967281) (hal : a.length < 4294967281) (hbl : b.length < 4294967281) (hG : Glob w)
    (hn : Numeral a) (hd : Numeral b) (hb0 : (b == [48]) = false) (hb1 : (b == [49]) = false) (hlen : 600 < a.length) : Calls Tryz.prog 102 #[.string ⟨l.toArray⟩] w (errPost 4 w) := by
  go_enter Tryz.func102, Tryz.ntmps102
  go_wp2_with fail
  refine (cutPrefix_c l dg false _ h1 h2).mono ?_
  rintro e w' ⟨rfl, rfl⟩
  go_wp2_with fail
  refine (cut_c dg a b true _ h3 hdl (hG.below ((Below.refl _ _).alloc (Nat.le_refl _) _))).mono ?_
  rintro e w' ⟨rfl, n, rfl⟩
  go_wp2_with fail
  refine (isNumeral_yes a _ hn hal).mono ?_
  rintro e w1 ⟨rfl, hB1⟩
  have hO1 := (((Own.make w 122 [.bool false, .slice none 0 0, .slice none 0 0]).drewN n).below hB1 (by simp))
  have hW1 : Below w.heap.size w w1 := (below_drewN ((Below.refl w.heap.size w).alloc (Nat.le_refl _) _) n).trans (hB1.mono (by simp))
  go_wp2_with fail
  refine (isNumeral_yes b _ hd hbl).mono ?_
  rintro e w2 ⟨rfl, hB2⟩
  replace hO1 := hO1.below hB2 (hO1.lt)
  replace hW1 := hW1.trans (hB2.mono hW1.size)
  obtain ⟨c0, c1, c2, f0, f1, f2⟩ := hO1.three
  go_wp2
  exact bodyPost_ret (v := .tuple #[zeroR, .int .i64 4]) (by simp [results, Tryz.results102, go_sem, c0, c1, c2, zeroR]) rfl ⟨rfl, ((hW1.setCell (by simp) _).setCell (by simp) _).setCell (by simp) _⟩

set_option maxRecDepth 100000 in
set_option maxHeartbeats 4000000 in
theorem read_longd_p (l dg a b : List UInt8) (w : World) (h1 : hasPrefix l [45] = false) (h2 : trimPrefix l [45] = dg) (h3 : cut dg [47] = (a, b, true)) (hdl : dg.length < 4294967281) (hal : a.length < 4294967281) (hbl : b.length < 4294967281) (hG : Glob w)
    (hn : Numeral a) (hd : Numeral b) (hb0 : (b == [48]) = false) (hb1 : (b == [49]) = false) (hlen : a.length ≤ 600) (hlen2 : 600 < b.length) : Calls Tryz.prog 102 #[.string ⟨l.toArray⟩] w (errPost 4 w) := by
  go_enter Tryz.func102, Tryz.ntmps102
  go_wp2_with fail
  refine (cutPrefix_c l dg false _ h1 h2).mono ?_
  rintro e w' ⟨rfl, rfl⟩
  go_wp2_with fail
  refine (cut_c dg a b true _ h3 hdl (hG.below ((Below.refl _ _).alloc (Nat.le_refl _) _))).mono ?_
  rintro e w' ⟨rfl, n, rfl⟩
  go_wp2_with fail
  refine (isNumeral_yes a _ hn hal).mono ?_
  rintro e w1 ⟨rfl, hB1⟩
  have hO1 := (((Own.make w 122 [.bool false, .slice none 0 0, .slice none 0 0]).drewN n).below hB1 (by simp))
  have hW1 : Below w.heap.size w w1 := (below_drewN ((Below.refl w.heap.size w).alloc (Nat.le_refl _) _) n).trans (hB1.mono (by simp))
  go_wp2_with fail
  refine (isNumeral_yes b _ hd hbl).mono ?_
  rintro e w2 ⟨rfl, hB2⟩
  replace hO1 := hO1.below hB2 (hO1.lt)
  replace hW1 := hW1.trans (hB2.mono hW1.size)
  obtain ⟨c0, c1, c2, f0, f1, f2⟩ := hO1.three
  go_wp2
  exact bodyPost_ret (v := .tuple #[zeroR, .int .i64 4]) (by simp [results, Tryz.results102, go_sem, c0, c1, c2, zeroR]) rfl ⟨rfl, ((hW1.setCell (by simp) _).setCell (by simp) _).setCell (by simp) _⟩

set_option maxRecDepth 100000 in
set_option maxHeartbeats 4000000 in
theorem read_longw_p (l dg a b : List UInt8) (w : World) (h1 : hasPrefix l [45] = false) (h2 : trimPrefix l [45] = dg) (h3 : cut dg [47] = (a, b, false)) (hdl : dg.length < 4294967281) (hal : a.length < 4294967281) (hG : Glob w)
    (hn : Numeral a) (hlen : 600 < a.length) : Calls Tryz.prog 102 #[.string ⟨l.toArray⟩] w (errPost 4 w) := by
  go_enter Tryz.func102, Tryz.ntmps102
  go_wp2_with fail
  refine (cutPrefix_c l dg false _ h1 h2).mono ?_
  rintro e w' ⟨rfl, rfl⟩
  go_wp2_with fail
  refine (cut_c dg a b false _ h3 hdl (hG.below ((Below.refl _ _).alloc (Nat.le_refl _) _))).mono ?_
  rintro e w' ⟨rfl, n, rfl⟩
  go_wp2_with fail
  refine (isNumeral_yes a _ hn hal).mono ?_
  rintro e w1 ⟨rfl, hB1⟩
  have hO1 := (((Own.make w 122 [.bool false, .slice none 0 0, .slice none 0 0]).drewN n).below hB1 (by simp))
  have hW1 : Below w.heap.size w w1 := (below_drewN ((Below.refl w.heap.size w).alloc (Nat.le_refl _) _) n).trans (hB1.mono (by simp))
  obtain ⟨c0, c1, c2, f0, f1, f2⟩ := hO1.three
  go_wp2
  exact bodyPost_ret (v := .tuple #[zeroR, .int .i64 4]) (by simp [results, Tryz.results102, go_sem, c0, c1, c2, zeroR]) rfl ⟨rfl, ((hW1.setCell (by simp) _).setCell (by simp) _).setCell (by simp) _⟩

end Go.Proofs.YtneafcdfnhnpnaaGreatDoor
/- Contract: the number that a text stands for; the texts of numbers. -/
namespace Go.Proofs.YtneafcdfnhnpnaaGreatDoor
open Go.RowKit Go.Lib

theorem decVal_pos {l : List UInt8} (h : allDig l) (h0 : l ≠ []) (h1 : l.head? ≠ some 48) : decVal l ≠ 0 := by
  cases l with
  | nil => exact absurd rfl h0
  | cons c r =>
    have e := decVal_append [c] r
    rw [show decVal [c] = c.toNat - 48 from by rw [decVal, decFold_cons, decFold_nil]; omega] at e
    have h2 := h c (by simp)
    have h3 : c.toNat ≠ 48 := by
      intro hc
      apply h1
      simp only [List.head?_cons]
      congr 1
      exact UInt8.toNat_inj.1 hc
    have h4 : 1 * 10 ^ r.length ≤ (c.toNat - 48) * 10 ^ r.length := Nat.mul_le_mul_right _ (by omega)
    have h5 : 1 ≤ 10 ^ r.length := Nat.one_le_pow _ _ (by decide)
    have h6 : [c] ++ r = c :: r := rfl
    rw [h6] at e
    omega
theorem numeral_pos {l : List UInt8} (h : Numeral l) (h0 : (l == [48]) = false) : decVal l ≠ 0 := by
  rcases h.2 with h1 | ⟨h1, h2⟩
  · rw [h1] at h0; simp at h0
  · exact decVal_pos h.1 h1 h2

set_option maxRecDepth 100000 in
set_option maxHeartbeats 4000000 in
theorem read_whole_n (l dg a b : List UInt8) (w : World) (h1 : hasPrefix l [45] = true) (h2 : trimPrefix l [45] = dg) (h3 : cut dg [47] = (a, b, false)) (hdl : dg.length < 4294967281) (hal : a.length < 4294967281) (hG : Glob w) (hDa : OkLen a.length)
    (hn : Numeral a) (hz : (a == [48]) = false) (hb : b = []) (hlen : a.length ≤ 600) : Calls Tryz.prog 102 #[.string ⟨l.toArray⟩] w (okPost (mkR true (decVal a) 1) w) := by
  go_enter Tryz.func102, Tryz.ntmps102
  go_wp2_with fail
  refine (cutPrefix_c l dg true _ h1 h2).mono ?_
  rintro e w' ⟨rfl, rfl⟩
  go_wp2_with fail
  refine (cut_c dg a b false _ h3 hdl (hG.below ((Below.refl _ _).alloc (Nat.le_refl _) _))).mono ?_
  rintro e w' ⟨rfl, n, rfl⟩
  go_wp2_with fail
  refine (isNumeral_yes a _ hn hal).mono ?_
  rintro e w1 ⟨rfl, hB1⟩
  have hO1 := (((Own.make w 122 [.bool false, .slice none 0 0, .slice none 0 0]).drewN n).below hB1 (by simp))
  have hW1 : Below w.heap.size w w1 := (below_drewN ((Below.refl w.heap.size w).alloc (Nat.le_refl _) _) n).trans (hB1.mono (by simp))
  have Hb := Lib.hid hb
  clear hb
  go_wp2_with fail
  refine (parse_c a _ hn.1 (by omega) hDa).mono ?_
  rintro e w2 ⟨nv, rfl, hnv, hB2⟩
  have hO2 := (hO1.below hB2 hO1.lt)
  have hW2 := hW1.trans (hB2.mono hW1.size)
  have hnv2 := hnv.below ((Below.refl _ w2).alloc (Nat.le_refl _) (.cells #[.int .u64 1] 148))
  have hO3 := hO2.alloc (.cells #[.int .u64 1] 148)
  have hone := Nt.one w2 148
  obtain ⟨c0, c1, c2, f0, f1, f2⟩ := hO3.three
  have hR : Rt ((((w2.alloc (.cells #[.int .u64 1] 148)).setCell ⟨w.heap.size, 0, none⟩ (.bool true)).setCell ⟨w.heap.size, 1, none⟩ nv).setCell ⟨w.heap.size, 2, none⟩ (.slice (some ⟨w2.heap.size, 0, none⟩) 1 1)) (.agg #[.bool true, nv, .slice (some ⟨w2.heap.size, 0, none⟩) 1 1]) (mkR true (decVal a) 1) :=
    Rt.mk_ (by decide) (Nat.gcd_one_right _) (fun _ => numeral_pos hn hz) (hnv2.put3 hO3 (noInt_bool _) (noInt_slice _ _ _) (noInt_slice _ _ _) (noInt_bool _) hnv.noInt) (hone.put3 hO3 (noInt_bool _) (noInt_slice _ _ _) (noInt_slice _ _ _) (noInt_bool _) hnv.noInt)
  obtain ⟨A, m, c, hnvs, hm⟩ := hnv.size_
  have HR := Lib.hid hR
  clear hR hone hnv hnv2
  subst hnvs
  go_wp2
  exact bodyPost_ret (v := .tuple #[.agg #[.bool true, .slice A m c, .slice (some ⟨w2.heap.size, 0, none⟩) 1 1], .int .i64 0]) (by simp [results, Tryz.results102, go_sem, c0, c1, c2]) rfl ⟨_, rfl, HR.out, (((hW2.alloc hW2.size _).setCell (by simp) _).setCell (by simp) _).setCell (by simp) _⟩

set_option maxRecDepth 100000 in
set_option maxHeartbeats 4000000 in
theorem read_whole_p (l dg a b : List UInt8) (w : World) (h1 : hasPrefix l [45] = false) (h2 : trimPrefix l [45] = dg) (h3 : cut dg [47] = (a, b, false)) (hdl : dg.length < 4294967281) (hal : a.length < 4294967281) (hG : Glob w) (hDa : OkLen a.length)
    (hn : Numeral a) (hb : b = []) (hlen : a.length ≤ 600) : Calls Tryz.prog 102 #[.string ⟨l.toArray⟩] w (okPost (mkR false (decVal a) 1) w) := by
  go_enter Tryz.func102, Tryz.ntmps102
  go_wp2_with fail
  refine (cutPrefix_c l dg false _ h1 h2).mono ?_
  rintro e w' ⟨rfl, rfl⟩
  go_wp2_with fail
  refine (cut_c dg a b false _ h3 hdl (hG.below ((Below.refl _ _).alloc (Nat.le_refl _) _))).mono ?_
  rintro e w' ⟨rfl, n, rfl⟩
  go_wp2_with fail
  refine (isNumeral_yes a _ hn hal).mono ?_
  rintro e w1 ⟨rfl, hB1⟩
  have hO1 := (((Own.make w 122 [.bool false, .slice none 0 0, .slice none 0 0]).drewN n).below hB1 (by simp))
  have hW1 : Below w.heap.size w w1 := (below_drewN ((Below.refl w.heap.size w).alloc (Nat.le_refl _) _) n).trans (hB1.mono (by simp))
  have Hb := Lib.hid hb
  clear hb
  go_wp2_with fail
  refine (parse_c a _ hn.1 (by omega) hDa).mono ?_
  rintro e w2 ⟨nv, rfl, hnv, hB2⟩
  have hO2 := (hO1.below hB2 hO1.lt)
  have hW2 := hW1.trans (hB2.mono hW1.size)
  have hnv2 := hnv.below ((Below.refl _ w2).alloc (Nat.le_refl _) (.cells #[.int .u64 1] 148))
  have hO3 := hO2.alloc (.cells #[.int .u64 1] 148)
  have hone := Nt.one w2 148
  obtain ⟨c0, c1, c2, f0, f1, f2⟩ := hO3.three
  have hR : Rt ((((w2.alloc (.cells #[.int .u64 1] 148)).setCell ⟨w.heap.size, 0, none⟩ (.bool false)).setCell ⟨w.heap.size, 1, none⟩ nv).setCell ⟨w.heap.size, 2, none⟩ (.slice (some ⟨w2.heap.size, 0, none⟩) 1 1)) (.agg #[.bool false, nv, .slice (some ⟨w2.heap.size, 0, none⟩) 1 1]) (mkR false (decVal a) 1) :=
    Rt.mk_ (by decide) (Nat.gcd_one_right _) (fun h => by cases h) (hnv2.put3 hO3 (noInt_bool _) (noInt_slice _ _ _) (noInt_slice _ _ _) (noInt_bool _) hnv.noInt) (hone.put3 hO3 (noInt_bool _) (noInt_slice _ _ _) (noInt_slice _ _ _) (noInt_bool _) hnv.noInt)
  obtain ⟨A, m, c, hnvs, hm⟩ := hnv.size_
  have HR := Lib.hid hR
  clear hR hone hnv hnv2
  subst hnvs
  go_wp2
  exact bodyPost_ret (v := .tuple #[.agg #[.bool false, .slice A m c, .slice (some ⟨w2.heap.size, 0, none⟩) 1 1], .int .i64 0]) (by simp [results, Tryz.results102, go_sem, c0, c1, c2]) rfl ⟨_, rfl, HR.out, (((hW2.alloc hW2.size _).setCell (by simp) _).setCell (by simp) _).setCell (by simp) _⟩

end Go.Proofs.YtneafcdfnhnpnaaGreatDoor
/- Contract: the number that a text stands for; the texts of fractions. -/
namespace Go.Proofs.YtneafcdfnhnpnaaGreatDoor
open Go.RowKit Go.Lib

set_option maxRecDepth 100000 in
set_option maxHeartbeats 4000000 in
theorem read_notlow_n (l dg a b : List UInt8) (w : World) (h1 : hasPrefix l [45] = true) (h2 : trimPrefix l [45] = dg) (h3 : cut dg [47] = (a, b, true)) (hdl : dg.length < 4294967281) (hal : a.length < 4294967281) (hbl : b.length < 4294967281) (hG : Glob w) (hDa : OkLen a.length) (hDb : OkLen b.length)
    (hn : Numeral a) (hz : (a == [48]) = false) (hd : Numeral b) (hb0 : (b == [48]) = false) (hb1 : (b == [49]) = false) (hlen : a.length ≤ 600) (hlen2 : b.length ≤ 600) (hg : decide (Nat.gcd (decVal a) (decVal b) = 1) = false) : Calls Tryz.prog 102 #[.string ⟨l.toArray⟩] w (errPost 1 w) := by
  go_enter Tryz.func102, Tryz.ntmps102
  go_wp2_with fail
  refine (cutPrefix_c l dg true _ h1 h2).mono ?_
  rintro e w' ⟨rfl, rfl⟩
  go_wp2_with fail
  refine (cut_c dg a b true _ h3 hdl (hG.below ((Below.refl _ _).alloc (Nat.le_refl _) _))).mono ?_
  rintro e w' ⟨rfl, n, rfl⟩
  go_wp2_with fail
  refine (isNumeral_yes a _ hn hal).mono ?_
  rintro e w1 ⟨rfl, hB1⟩
  have hO1 := (((Own.make w 122 [.bool false, .slice none 0 0, .slice none 0 0]).drewN n).below hB1 (by simp))
  have hW1 : Below w.heap.size w w1 := (below_drewN ((Below.refl w.heap.size w).alloc (Nat.le_refl _) _) n).trans (hB1.mono (by simp))
  go_wp2_with fail
  refine (isNumeral_yes b _ hd hbl).mono ?_
  rintro e w2 ⟨rfl, hB2⟩
  replace hO1 := hO1.below hB2 (hO1.lt)
  replace hW1 := hW1.trans (hB2.mono hW1.size)
  go_wp2_with fail
  refine (parse_c a _ hn.1 (by omega) hDa).mono ?_
  rintro e w3 ⟨nv, rfl, hnv, hB3⟩
  go_wp2_with fail
  refine (parse_c b _ hd.1 (by omega) hDb).mono ?_
  rintro e w4 ⟨dv, rfl, hdv, hB4⟩
  have hnv4 := hnv.below hB4
  have hO4 := (hO1.below hB3 hO1.lt).below hB4 (Nat.lt_of_lt_of_le hO1.lt hB3.size)
  have hW4 := (hW1.trans (hB3.mono hW1.size)).trans (hB4.mono (Nat.le_trans hW1.size hB3.size))
  obtain ⟨A, m, c, hnvs, hm⟩ := hnv4.size_
  obtain ⟨A2, m2, c2, hdvs, hm2⟩ := hdv.size_
  have Hnv := Lib.hid hnv4
  have Hdv := Lib.hid hdv
  clear hnv hdv hnv4
  subst hnvs hdvs
  have hb5 : Below w4.heap.size w4 (w4.alloc (.cells #[.bool true, .slice A m c, .slice A2 m2 c2] 122)) := (Below.refl _ _).alloc (Nat.le_refl _) _
  have hO5 := Own.make w4 122 [.bool true, .slice A m c, .slice A2 m2 c2]
  have HO6 := Lib.hid (hO4.alloc (.cells #[.bool true, .slice A m c, .slice A2 m2 c2] 122))
  have hfa := Lib.hid (Fits.of_pow (decVal_lt hn.1) hDa (by omega))
  have hfb := Lib.hid (Fits.of_pow (decVal_lt hd.1) hDb (by omega))
  go_wp2_with fail
  refine (gcd_c _ _ (decVal a) (decVal b) _ (Hnv.out.below hb5) (Hdv.out.below hb5) hfa.out hfb.out).mono ?_
  rintro e w5 ⟨gv, rfl, hgv, hB5⟩
  go_wp2_with fail
  refine (isOne_c _ _ _ hgv).mono ?_
  rintro e w6 ⟨rfl, rfl⟩
  rw [hg]
  have hs5 : w4.heap.size < w5.heap.size := by have := hB5.size; simp at this; omega
  have hO7 := HO6.out.below hB5 (by have := hO4.lt; simp; omega)
  obtain ⟨c0, c1, c2', f0, f1, f2⟩ := hO7.three
  have hW5 := hW4.trans ((hb5.trans (hB5.mono hb5.size)).mono hW4.size)
  go_wp2
  exact bodyPost_ret (v := .tuple #[zeroR, .int .i64 1]) (by simp [results, Tryz.results102, go_sem, c0, c1, c2', zeroR]) rfl ⟨rfl, ((hW5.setCell (by simp) _).setCell (by simp) _).setCell (by simp) _⟩

set_option maxRecDepth 100000 in
set_option maxHeartbeats 4000000 in
theorem read_frac_n (l dg a b : List UInt8) (w : World) (h1 : hasPrefix l [45] = true) (h2 : trimPrefix l [45] = dg) (h3 : cut dg [47] = (a, b, true)) (hdl : dg.length < 4294967281) (hal : a.length < 4294967281) (hbl : b.length < 4294967281) (hG : Glob w) (hDa : OkLen a.length) (hDb : OkLen b.length)
    (hn : Numeral a) (hz : (a == [48]) = false) (hd : Numeral b) (hb0 : (b == [48]) = false) (hb1 : (b == [49]) = false) (hlen : a.length ≤ 600) (hlen2 : b.length ≤ 600) (hg : decide (Nat.gcd (decVal a) (decVal b) = 1) = true) : Calls Tryz.prog 102 #[.string ⟨l.toArray⟩] w (okPost (mkR true (decVal a) (decVal b)) w) := by
  go_enter Tryz.func102, Tryz.ntmps102
  go_wp2_with fail
  refine (cutPrefix_c l dg true _ h1 h2).mono ?_
  rintro e w' ⟨rfl, rfl⟩
  go_wp2_with fail
  refine (cut_c dg a b true _ h3 hdl (hG.below ((Below.refl _ _).alloc (Nat.le_refl _) _))).mono ?_
  rintro e w' ⟨rfl, n, rfl⟩
  go_wp2_with fail
  refine (isNumeral_yes a _ hn hal).mono ?_
  rintro e w1 ⟨rfl, hB1⟩
  have hO1 := (((Own.make w 122 [.bool false, .slice none 0 0, .slice none 0 0]).drewN n).below hB1 (by simp))
  have hW1 : Below w.heap.size w w1 := (below_drewN ((Below.refl w.heap.size w).alloc (Nat.le_refl _) _) n).trans (hB1.mono (by simp))
  go_wp2_with fail
  refine (isNumeral_yes b _ hd hbl).mono ?_
  rintro e w2 ⟨rfl, hB2⟩
  replace hO1 := hO1.below hB2 (hO1.lt)
  replace hW1 := hW1.trans (hB2.mono hW1.size)
  go_wp2_with fail
  refine (parse_c a _ hn.1 (by omega) hDa).mono ?_
  rintro e w3 ⟨nv, rfl, hnv, hB3⟩
  go_wp2_with fail
  refine (parse_c b _ hd.1 (by omega) hDb).mono ?_
  rintro e w4 ⟨dv, rfl, hdv, hB4⟩
  have hnv4 := hnv.below hB4
  have hO4 := (hO1.below hB3 hO1.lt).below hB4 (Nat.lt_of_lt_of_le hO1.lt hB3.size)
  have hW4 := (hW1.trans (hB3.mono hW1.size)).trans (hB4.mono (Nat.le_trans hW1.size hB3.size))
  obtain ⟨A, m, c, hnvs, hm⟩ := hnv4.size_
  obtain ⟨A2, m2, c2, hdvs, hm2⟩ := hdv.size_
  have Hnv := Lib.hid hnv4
  have Hdv := Lib.hid hdv
  clear hnv hdv hnv4
  subst hnvs hdvs
  have hb5 : Below w4.heap.size w4 (w4.alloc (.cells #[.bool true, .slice A m c, .slice A2 m2 c2] 122)) := (Below.refl _ _).alloc (Nat.le_refl _) _
  have hO5 := Own.make w4 122 [.bool true, .slice A m c, .slice A2 m2 c2]
  have HO6 := Lib.hid (hO4.alloc (.cells #[.bool true, .slice A m c, .slice A2 m2 c2] 122))
  have hfa := Lib.hid (Fits.of_pow (decVal_lt hn.1) hDa (by omega))
  have hfb := Lib.hid (Fits.of_pow (decVal_lt hd.1) hDb (by omega))
  go_wp2_with fail
  refine (gcd_c _ _ (decVal a) (decVal b) _ (Hnv.out.below hb5) (Hdv.out.below hb5) hfa.out hfb.out).mono ?_
  rintro e w5 ⟨gv, rfl, hgv, hB5⟩
  go_wp2_with fail
  refine (isOne_c _ _ _ hgv).mono ?_
  rintro e w6 ⟨rfl, rfl⟩
  rw [hg]
  have hs5 : w4.heap.size < w5.heap.size := by have := hB5.size; simp at this; omega
  have hO7 := HO6.out.below hB5 (by have := hO4.lt; simp; omega)
  have hO8 := hO5.below hB5 (by simp)
  obtain ⟨c0, c1, c2', f0, f1, f2⟩ := hO7.three
  obtain ⟨d0, d1, d2, _, _, _⟩ := hO8.three
  have hW5 := hW4.trans ((hb5.trans (hB5.mono hb5.size)).mono hW4.size)
  have hR0 : Rt w5 (.agg #[.bool true, .slice A m c, .slice A2 m2 c2]) (mkR true (decVal a) (decVal b)) :=
    Rt.mk_ (numeral_pos hd hb0) (of_decide_eq_true hg) (fun _ => numeral_pos hn hz) ((Hnv.out.below hb5).below hB5) ((Hdv.out.below hb5).below hB5)
  have HR := Lib.hid (hR0.put3 (a' := .bool true) (b' := .slice A m c) (c' := .slice A2 m2 c2) hO7 (noInt_bool _) (noInt_slice _ _ _) (noInt_slice _ _ _) (noInt_bool _) (noInt_slice _ _ _))
  clear hR0
  go_wp2
  exact bodyPost_ret (v := .tuple #[.agg #[.bool true, .slice A m c, .slice A2 m2 c2], .int .i64 0]) (by simp [results, Tryz.results102, go_sem, c0, c1, c2']) rfl ⟨_, rfl, HR.out, ((hW5.setCell (by simp) _).setCell (by simp) _).setCell (by simp) _⟩

set_option maxRecDepth 100000 in
set_option maxHeartbeats 4000000 in
theorem read_notlow_p (l dg a b : List UInt8) (w : World) (h1 : hasPrefix l [45] = false) (h2 : trimPrefix l [45] = dg) (h3 : cut dg [47] = (a, b, true)) (hdl : dg.length < 4294967281) (hal : a.length < 4294967281) (hbl : b.length < 4294967281) (hG : Glob w) (hDa : OkLen a.length) (hDb : OkLen b.length)
    (hn : Numeral a) (hd : Numeral b) (hb0 : (b == [48]) = false) (hb1 : (b == [49]) = false) (hlen : a.length ≤ 600) (hlen2 : b.length ≤ 600) (hg : decide (Nat.gcd (decVal a) (decVal b) = 1) = false) : Calls Tryz.prog 102 #[.string ⟨l.toArray⟩] w (errPost 1 w) := by
  go_enter Tryz.func102, Tryz.ntmps102
  go_wp2_with fail
  refine (cutPrefix_c l dg false _ h1 h2).mono ?_
  rintro e w' ⟨rfl, rfl⟩
  go_wp2_with fail
  refine (cut_c dg a b true _ h3 hdl (hG.below ((Below.refl _ _).alloc (Nat.le_refl _) _))).mono ?_
  rintro e w' ⟨rfl, n, rfl⟩
  go_wp2_with fail
  refine (isNumeral_yes a _ hn hal).mono ?_
  rintro e w1 ⟨rfl, hB1⟩
  have hO1 := (((Own.make w 122 [.bool false, .slice none 0 0, .slice none 0 0]).drewN n).below hB1 (by simp))
  have hW1 : Below w.heap.size w w1 := (below_drewN ((Below.refl w.heap.size w).alloc (Nat.le_refl _) _) n).trans (hB1.mono (by simp))
  go_wp2_with fail
  refine (isNumeral_yes b _ hd hbl).mono ?_
  rintro e w2 ⟨rfl, hB2⟩
  replace hO1 := hO1.below hB2 (hO1.lt)
  replace hW1 := hW1.trans (hB2.mono hW1.size)
  go_wp2_with fail
  refine (parse_c a _ hn.1 (by omega) hDa).mono ?_
  rintro e w3 ⟨nv, rfl, hnv, hB3⟩
  go_wp2_with fail
  refine (parse_c b _ hd.1 (by omega) hDb).mono ?_
  rintro e w4 ⟨dv, rfl, hdv, hB4⟩
  have hnv4 := hnv.below hB4
  have hO4 := (hO1.below hB3 hO1.lt).below hB4 (Nat.lt_of_lt_of_le hO1.lt hB3.size)
  have hW4 := (hW1.trans (hB3.mono hW1.size)).trans (hB4.mono (Nat.le_trans hW1.size hB3.size))
  obtain ⟨A, m, c, hnvs, hm⟩ := hnv4.size_
  obtain ⟨A2, m2, c2, hdvs, hm2⟩ := hdv.size_
  have Hnv := Lib.hid hnv4
  have Hdv := Lib.hid hdv
  clear hnv hdv hnv4
  subst hnvs hdvs
  have hb5 : Below w4.heap.size w4 (w4.alloc (.cells #[.bool false, .slice A m c, .slice A2 m2 c2] 122)) := (Below.refl _ _).alloc (Nat.le_refl _) _
  have hO5 := Own.make w4 122 [.bool false, .slice A m c, .slice A2 m2 c2]
  have HO6 := Lib.hid (hO4.alloc (.cells #[.bool false, .slice A m c, .slice A2 m2 c2] 122))
  have hfa := Lib.hid (Fits.of_pow (decVal_lt hn.1) hDa (by omega))
  have hfb := Lib.hid (Fits.of_pow (decVal_lt hd.1) hDb (by omega))
  go_wp2_with fail
  refine (gcd_c _ _ (decVal a) (decVal b) _ (Hnv.out.below hb5) (Hdv.out.below hb5) hfa.out hfb.out).mono ?_
  rintro e w5 ⟨gv, rfl, hgv, hB5⟩
  go_wp2_with fail
  refine (isOne_c _ _ _ hgv).mono ?_
  rintro e w6 ⟨rfl, rfl⟩
  rw [hg]
  have hs5 : w4.heap.size < w5.heap.size := by have := hB5.size; simp at this; omega
  have hO7 := HO6.out.below hB5 (by have := hO4.lt; simp; omega)
  obtain ⟨c0, c1, c2', f0, f1, f2⟩ := hO7.three
  have hW5 := hW4.trans ((hb5.trans (hB5.mono hb5.size)).mono hW4.size)
  go_wp2
  exact bodyPost_ret (v := .tuple #[zeroR, .int .i64 1]) (by simp [results, Tryz.results102, go_sem, c0, c1, c2', zeroR]) rfl ⟨rfl, ((hW5.setCell (by simp) _).setCell (by simp) _).setCell (by simp) _⟩

set_option maxRecDepth 100000 in
set_option maxHeartbeats 4000000 in
theorem read_frac_p (l dg a b : List UInt8) (w : World) (h1 : hasPrefix l [45] = false) (h2 : trimPrefix l [45] = dg) (h3 : cut dg [47] = (a, b, true)) (hdl : dg.length < 4294967281) (hal : a.length < 4294967281) (hbl : b.length < 4294967281) (hG : Glob w) (hDa : OkLen a.length) (hDb : OkLen b.length)
    (hn : Numeral a) (hd : Numeral b) (hb0 : (b == [48]) = false) (hb1 : (b == [49]) = false) (hlen : a.length ≤ 600) (hlen2 : b.length ≤ 600) (hg : decide (Nat.gcd (decVal a) (decVal b) = 1) = true) : Calls Tryz.prog 102 #[.string ⟨l.toArray⟩] w (okPost (mkR false (decVal a) (decVal b)) w) := by
  go_enter Tryz.func102, Tryz.ntmps102
  go_wp2_with fail
  refine (cutPrefix_c l dg false _ h1 h2).mono ?_
  rintro e w' ⟨rfl, rfl⟩
  go_wp2_with fail
  refine (cut_c dg a b true _ h3 hdl (hG.below ((Below.refl _ _).alloc (Nat.le_refl _) _))).mono ?_
  rintro e w' ⟨rfl, n, rfl⟩
  go_wp2_with fail
  refine (isNumeral_yes a _ hn hal).mono ?_
  rintro e w1 ⟨rfl, hB1⟩
  have hO1 := (((Own.make w 122 [.bool false, .slice none 0 0, .slice none 0 0]).drewN n).below hB1 (by simp))
  have hW1 : Below w.heap.size w w1 := (below_drewN ((Below.refl w.heap.size w).alloc (Nat.le_refl _) _) n).trans (hB1.mono (by simp))
  go_wp2_with fail
  refine (isNumeral_yes b _ hd hbl).mono ?_
  rintro e w2 ⟨rfl, hB2⟩
  replace hO1 := hO1.below hB2 (hO1.lt)
  replace hW1 := hW1.trans (hB2.mono hW1.size)
  go_wp2_with fail
  refine (parse_c a _ hn.1 (by omega) hDa).mono ?_
  rintro e w3 ⟨nv, rfl, hnv, hB3⟩
  go_wp2_with fail
  refine (parse_c b _ hd.1 (by omega) hDb).mono ?_
  rintro e w4 ⟨dv, rfl, hdv, hB4⟩
  have hnv4 := hnv.below hB4
  have hO4 := (hO1.below hB3 hO1.lt).below hB4 (Nat.lt_of_lt_of_le hO1.lt hB3.size)
  have hW4 := (hW1.trans (hB3.mono hW1.size)).trans (hB4.mono (Nat.le_trans hW1.size hB3.size))
  obtain ⟨A, m, c, hnvs, hm⟩ := hnv4.size_
  obtain ⟨A2, m2, c2, hdvs, hm2⟩ := hdv.size_
  have Hnv := Lib.hid hnv4
  have Hdv := Lib.hid hdv
  clear hnv hdv hnv4
  subst hnvs hdvs
  have hb5 : Below w4.heap.size w4 (w4.alloc (.cells #[.bool false, .slice A m c, .slice A2 m2 c2] 122)) := (Below.refl _ _).alloc (Nat.le_refl _) _
  have hO5 := Own.make w4 122 [.bool false, .slice A m c, .slice A2 m2 c2]
  have HO6 := Lib.hid (hO4.alloc (.cells #[.bool false, .slice A m c, .slice A2 m2 c2] 122))
  have hfa := Lib.hid (Fits.of_pow (decVal_lt hn.1) hDa (by omega))
  have hfb := Lib.hid (Fits.of_pow (decVal_lt hd.1) hDb (by omega))
  go_wp2_with fail
  refine (gcd_c _ _ (decVal a) (decVal b) _ (Hnv.out.below hb5) (Hdv.out.below hb5) hfa.out hfb.out).mono ?_
  rintro e w5 ⟨gv, rfl, hgv, hB5⟩
  go_wp2_with fail
  refine (isOne_c _ _ _ hgv).mono ?_
  rintro e w6 ⟨rfl, rfl⟩
  rw [hg]
  have hs5 : w4.heap.size < w5.heap.size := by have := hB5.size; simp at this; omega
  have hO7 := HO6.out.below hB5 (by have := hO4.lt; simp; omega)
  have hO8 := hO5.below hB5 (by simp)
  obtain ⟨c0, c1, c2', f0, f1, f2⟩ := hO7.three
  obtain ⟨d0, d1, d2, _, _, _⟩ := hO8.three
  have hW5 := hW4.trans ((hb5.trans (hB5.mono hb5.size)).mono hW4.size)
  have hR0 : Rt w5 (.agg #[.bool false, .slice A m c, .slice A2 m2 c2]) (mkR false (decVal a) (decVal b)) :=
    Rt.mk_ (numeral_pos hd hb0) (of_decide_eq_true hg) (fun h => by cases h) ((Hnv.out.below hb5).below hB5) ((Hdv.out.below hb5).below hB5)
  have HR := Lib.hid (hR0.put3 (a' := .bool false) (b' := .slice A m c) (c' := .slice A2 m2 c2) hO7 (noInt_bool _) (noInt_slice _ _ _) (noInt_slice _ _ _) (noInt_bool _) (noInt_slice _ _ _))
  clear hR0
  go_wp2
  exact bodyPost_ret (v := .tuple #[.agg #[.bool false, .slice A m c, .slice A2 m2 c2], .int .i64 0]) (by simp [results, Tryz.results102, go_sem, c0, c1, c2']) rfl ⟨_, rfl, HR.out, ((hW5.setCell (by simp) _).setCell (by simp) _).setCell (by simp) _⟩

end Go.Proofs.YtneafcdfnhnpnaaGreatDoor
