/- Contracts of the reference: slashes, digits, values. -/
import Derived.Test.YtneafcdfnhnpnaaGreatDoorZ09
import Derived.Test.YtneafcdfnhnpnaaGreatDoorZ10
import Derived.Test.YtneafcdfnhnpnaaGreatDoorZ01
namespace Go.Proofs.YtneafcdfnhnpnaaGreatDoor
open Go.RowKit Go.Lib

/-- where the first slash is -/
def slashAt (l : List UInt8) : Nat := l.findIdx (· == 47)
theorem slashAt_le (l : List UInt8) : slashAt l ≤ l.length := List.findIdx_le_length
theorem slash_hit {l : List UInt8} {k : Nat} {c : UInt8} (hc : l[k]? = some c) (h : c = 47) (hk : k ≤ slashAt l) : slashAt l = k := by
  obtain ⟨hl, hg⟩ := List.getElem?_eq_some_iff.1 hc
  rcases Nat.lt_or_ge k (slashAt l) with h1 | h1
  · have := List.not_of_lt_findIdx h1
    rw [hg, h] at this; simp at this
  · omega
theorem slash_step {l : List UInt8} {k : Nat} {c : UInt8} (hc : l[k]? = some c) (h : c ≠ 47) (hk : k ≤ slashAt l) : k + 1 ≤ slashAt l := by
  obtain ⟨hl, hg⟩ := List.getElem?_eq_some_iff.1 hc
  rcases Nat.lt_or_ge k (slashAt l) with h1 | h1
  · exact h1
  · have h2 : slashAt l = k := by omega
    have h3 : slashAt l < l.length := by omega
    have := List.findIdx_getElem (p := (· == 47)) (w := h3)
    have e : l[List.findIdx (fun x => x == 47) l]'h3 = l[k] := by congr 1
    rw [e, hg] at this
    exact absurd (by simpa using this) h
theorem byte_ne {c : UInt8} {n : Nat} (hn : n < 256) (h : c ≠ UInt8.ofNat n) : ((c.toNat : Int) == (n : Int)) = false := by
  have : c.toNat ≠ n := fun e => h (by apply UInt8.toNat_inj.1; rw [e, UInt8.toNat_ofNat']; exact (Nat.mod_eq_of_lt hn).symm)
  simpa using (by omega : ¬ (c.toNat : Int) = n)
theorem byte_eq {c : UInt8} {n : Nat} (hn : n < 256) (h : c = UInt8.ofNat n) : ((c.toNat : Int) == (n : Int)) = true := by
  subst h
  rw [UInt8.toNat_ofNat', Nat.mod_eq_of_lt hn]; simp
def ansInt (n : Nat) (w : World) (e : Ending) (w' : World) : Prop := e = .returned (.int .i64 (n : Int)) ∧ w = w'
def ansBool (b : Bool) (w : World) (e : Ending) (w' : World) : Prop := e = .returned (.bool b) ∧ w = w'

set_option maxHeartbeats 1000000 in
theorem slash_c (s : ByteArray) (w : World) (hs : s.size ≤ 4611686018427387904) :
    Calls Tryz.prog 103 #[.string s] w (ansInt (slashAt s.data.toList) w) := by
  go_enter Tryz.func103, Tryz.ntmps103
  go_wp2
  go_loopg [3, 4, 10, 11, 12] s.size (fun g i _ _ _ _ wr => ∃ pos : Nat, i = .int .i64 pos ∧ pos + g = s.size ∧ Hid (pos ≤ slashAt s.data.toList) ∧ wr = w)
  case atStart => exact ⟨0, rfl, by omega, Lib.hid (Nat.zero_le _), rfl⟩
  case round =>
    obtain ⟨pos, rfl, hp, hd, rfl⟩ := hrel
    cases gk with
    | zero =>
      have hb : ¬ ((pos : Int) < (s.size : Int)) := by omega
      have HE : Hid (slashAt s.data.toList = s.size) := Lib.hid (by
        have h1 := slashAt_le s.data.toList
        have h2 : s.data.toList.length = s.size := by simp
        have := hd.out; omega)
      clear hd
      go_wp2
      go_ret
      exact ⟨by rw [HE.out]; rfl, rfl⟩
    | succ gh =>
      have hlt : pos < s.size := by omega
      have hge := ba_get s pos hlt
      by_cases hc : s[pos] = 47
      · have hb3 : (((s[pos]).toNat : Int) == 47) = true := byte_eq (n := 47) (by decide) hc
        have HE := Lib.hid (slash_hit hge hc hd.out)
        clear hd hc hge
        go_wp2
        go_ret
        exact ⟨by rw [HE.out]; rfl, rfl⟩
      · have hb3 : (((s[pos]).toNat : Int) == 47) = false := byte_ne (n := 47) (by decide) hc
        have HE := Lib.hid (slash_step hge hc hd.out)
        clear hd hc hge
        go_wp2
        go_roundg gh
        case rel => exact ⟨pos + 1, by go_num, by omega, HE, rfl⟩
        case measure => omega

def digTo (l : List UInt8) (k : Nat) : Prop := allDig (l.take k)
theorem digTo.step {l : List UInt8} {k : Nat} {c : UInt8} (h : digTo l k) (hc : l[k]? = some c) (hd : 48 ≤ c.toNat ∧ c.toNat ≤ 57) : digTo l (k + 1) := by
  intro x hx
  rw [List.take_add_one, hc] at hx
  rcases List.mem_append.1 hx with h1 | h1
  · exact h x h1
  · have : x = c := by simpa using h1
    subst this; exact hd
def digBool (l : List UInt8) (w : World) (e : Ending) (w' : World) : Prop := ansBool (decide (allDig l)) w e w'
set_option maxHeartbeats 1000000 in
theorem Digits_c (s : ByteArray) (w : World) (hs : s.size ≤ 4611686018427387904) :
    Calls Tryz.prog 173 #[.string s] w (ansBool (decide (allDig s.data.toList)) w) := by
  go_enter Tryz.func173, Tryz.ntmps173
  go_wp2
  go_loopg [3] s.size (fun g i wr => ∃ pos : Nat, i = .int .i64 pos ∧ pos + g = s.size ∧ Hid (digTo s.data.toList pos) ∧ wr = w)
  case atStart => exact ⟨0, rfl, by omega, Lib.hid (fun c hc => by simp at hc), rfl⟩
  case round =>
    obtain ⟨pos, rfl, hp, hd, rfl⟩ := hrel
    cases gk with
    | zero =>
      have hb : ¬ ((pos : Int) < (s.size : Int)) := by omega
      have HE : Hid (decide (allDig s.data.toList) = true) := Lib.hid (by
        have h1 := hd.out
        unfold digTo at h1
        rw [List.take_of_length_le (by simp; omega)] at h1
        exact decide_eq_true h1)
      clear hd
      go_wp2
      go_ret
      exact ⟨by rw [HE.out]; rfl, rfl⟩
    | succ gh =>
      have hlt : pos < s.size := by omega
      have hge := ba_get s pos hlt
      by_cases h1 : 48 ≤ (s[pos]).toNat
      · by_cases h2 : (s[pos]).toNat ≤ 57
        · have hb1 : decide (((s[pos]).toNat : Int) < 48) = false := by simp; omega
          have hb2 : decide ((57 : Int) < ((s[pos]).toNat : Int)) = false := by simp; omega
          have HE := Lib.hid (hd.out.step hge ⟨h1, h2⟩)
          clear hd h1 h2 hge
          go_wp2
          go_roundg gh
          case rel => exact ⟨pos + 1, by go_num, by omega, HE, rfl⟩
          case measure => omega
        · have hb1 : decide (((s[pos]).toNat : Int) < 48) = false := by simp; omega
          have hb2 : decide ((57 : Int) < ((s[pos]).toNat : Int)) = true := by simp; omega
          have HE : Hid (decide (allDig s.data.toList) = false) := Lib.hid (decide_eq_false fun h => by have := h _ (List.mem_of_getElem? hge); omega)
          clear hd h1 h2 hge
          go_wp2
          go_ret
          exact ⟨by rw [HE.out]; rfl, rfl⟩
      · have hb1 : decide (((s[pos]).toNat : Int) < 48) = true := by simp; omega
        have HE : Hid (decide (allDig s.data.toList) = false) := Lib.hid (decide_eq_false fun h => by have := h _ (List.mem_of_getElem? hge); omega)
        clear hd h1 hge
        go_wp2
        go_ret
        exact ⟨by rw [HE.out]; rfl, rfl⟩
end Go.Proofs.YtneafcdfnhnpnaaGreatDoor
/- Contracts of the reference: decimal notations. -/
namespace Go.Proofs.YtneafcdfnhnpnaaGreatDoor
open Go.RowKit Go.Lib

theorem ba_nil {s : ByteArray} (h : s.size = 0) : s.data.toList = [] := List.length_eq_zero_iff.1 (by simpa using h)
set_option maxHeartbeats 1000000 in
theorem decimalForm_c (s : ByteArray) (w : World) (hs : s.size ≤ 4611686018427387904) :
    Calls Tryz.prog 104 #[.string s] w (ansBool (decide (Numeral s.data.toList)) w) := by
  have DG := Lib.hid (Digits_c s w hs)
  by_cases h0 : s.size = 0
  · have hb0 : ((s.size : Int) == 0) = true := by rw [h0]; rfl
    have HE : Hid (decide (Numeral s.data.toList) = false) := Lib.hid (by rw [ba_nil h0]; decide)
    clear h0
    go_enter Tryz.func104, Tryz.ntmps104
    go_wp2
    go_ret
    exact ⟨by rw [HE.out]; rfl, rfl⟩
  · have hb0 : ((s.size : Int) == 0) = false := by simpa using h0
    have h00 : 0 < s.size := Nat.pos_of_ne_zero h0
    have hge := ba_get s 0 h00
    have hne : s.data.toList ≠ [] := fun e => by rw [e] at hge; simp at hge
    have hhd : s.data.toList.head? = some s[0] := by rw [List.head?_eq_getElem?]; exact hge
    have hll : s.data.toList.length = s.size := by simp
    by_cases h1 : 1 < s.size
    · have h1' : (1 : Int) < (s.size : Int) := by omega
      by_cases hc : s[0] = 48
      · have hb3 : (((s[0]).toNat : Int) == 48) = true := byte_eq (n := 48) (by decide) hc
        have HE : Hid (decide (Numeral s.data.toList) = false) := Lib.hid (decide_eq_false (by
          rintro ⟨_, h | h⟩
          · rw [h] at hll; simp at hll; omega
          · exact h.2 (by rw [hhd, hc])))
        clear h0 h1 hge hne hhd hll hc DG
        go_enter Tryz.func104, Tryz.ntmps104
        go_wp2
        go_ret
        exact ⟨by rw [HE.out]; rfl, rfl⟩
      · have hb3 : (((s[0]).toNat : Int) == 48) = false := byte_ne (n := 48) (by decide) hc
        have HE : Hid (decide (Numeral s.data.toList) = decide (allDig s.data.toList)) := Lib.hid (by
          congr 1
          apply propext
          exact ⟨fun h => h.1, fun h => ⟨h, .inr ⟨hne, by rw [hhd]; intro e; exact hc (Option.some.inj e)⟩⟩⟩)
        clear h0 h1 hge hne hhd hll hc
        go_enter Tryz.func104, Tryz.ntmps104
        go_wp2_with fail
        refine DG.out.mono ?_
        rintro e w1 ⟨rfl, rfl⟩
        go_wp2
        go_ret
        exact ⟨by rw [HE.out]; rfl, rfl⟩
    · have h1' : decide ((1 : Int) < (s.size : Int)) = false := by simp; omega
      have HE : Hid (decide (Numeral s.data.toList) = decide (allDig s.data.toList)) := Lib.hid (by
          congr 1
          apply propext
          refine ⟨fun h => h.1, fun h => ⟨h, ?_⟩⟩
          by_cases hc : s[0] = 48
          · refine .inl ?_
            obtain ⟨a, ha⟩ := List.length_eq_one_iff.1 (by omega : s.data.toList.length = 1)
            rw [ha] at hhd ⊢
            rw [show a = 48 from by rw [← hc]; exact Option.some.inj hhd]
          · exact .inr ⟨hne, by rw [hhd]; intro e; exact hc (Option.some.inj e)⟩)
      clear h0 h1 hge hne hhd hll
      go_enter Tryz.func104, Tryz.ntmps104
      go_wp2_with fail
      refine DG.out.mono ?_
      rintro e w1 ⟨rfl, rfl⟩
      go_wp2
      go_ret
      exact ⟨by rw [HE.out]; rfl, rfl⟩

theorem decVal_snoc {l : List UInt8} {k : Nat} {c : UInt8} (hc : l[k]? = some c) : decVal (l.take (k + 1)) = 10 * decVal (l.take k) + (c.toNat - 48) := by
  rw [List.take_add_one, hc, Option.toList_some, decVal_append]
  have : decVal [c] = c.toNat - 48 := by rw [decVal, decFold_cons, decFold_nil]; omega
  rw [this]; simp; omega
theorem decVal_take_lt {l : List UInt8} (h : allDig l) (k n : Nat) (hk : k ≤ n) : decVal (l.take k) < 10 ^ n := by
  have := decVal_lt (allDig_take h k)
  refine Nat.lt_of_lt_of_le this (Nat.pow_le_pow_right (by decide) ?_)
  rw [List.length_take]; omega
set_option maxHeartbeats 1000000 in
theorem value_c (s : ByteArray) (w : World) (hs : s.size ≤ 18) (hd : allDig s.data.toList) :
    Calls Tryz.prog 180 #[.string s] w (ansInt (decVal s.data.toList) w) := by
  have HD := Lib.hid hd
  clear hd
  go_enter Tryz.func180, Tryz.ntmps180
  go_wp2
  go_loopg [3, 4] s.size (fun g n i wr => ∃ (pos x : Nat), i = .int .i64 pos ∧ n = .int .i64 (x : Int) ∧ pos + g = s.size ∧ Hid (x = decVal (s.data.toList.take pos)) ∧ wr = w)
  case atStart => exact ⟨0, 0, rfl, rfl, by omega, Lib.hid rfl, rfl⟩
  case round =>
    obtain ⟨pos, x, rfl, rfl, hp, hd, rfl⟩ := hrel
    cases gk with
    | zero =>
      have hb : ¬ ((pos : Int) < (s.size : Int)) := by omega
      have HE : Hid (decVal s.data.toList = x) := Lib.hid (by
        have h1 := hd.out
        rw [List.take_of_length_le (by simp; omega)] at h1
        exact h1.symm)
      clear hd
      go_wp2
      go_ret
      exact ⟨by rw [HE.out]; rfl, rfl⟩
    | succ gh =>
      have hlt : pos < s.size := by omega
      have hge := ba_get s pos hlt
      have hx : x < 100000000000000000 := by
        have := decVal_take_lt HD.out pos 17 (by omega)
        rw [← hd.out] at this; exact this
      have hcc := HD.out _ (List.mem_of_getElem? hge)
      have HE : Hid (10 * x + ((s[pos]).toNat - 48) = decVal (s.data.toList.take (pos + 1))) := Lib.hid (by rw [decVal_snoc hge, hd.out])
      clear hd hge
      obtain ⟨d, hdd⟩ : ∃ d, (s[pos]).toNat = d + 48 := ⟨(s[pos]).toNat - 48, by omega⟩
      have HE2 : Hid (10 * x + d = decVal (s.data.toList.take (pos + 1))) := Lib.hid (by rw [← HE.out, hdd]; omega)
      have hd9 : d ≤ 9 := by omega
      clear HE hcc
      go_wp2
      go_roundg gh
      case rel => exact ⟨pos + 1, 10 * x + d, by go_num, by go_num, by omega, HE2, rfl⟩
      case measure => omega
end Go.Proofs.YtneafcdfnhnpnaaGreatDoor
/- Contracts of the reference: writing digits, common divisors. -/
namespace Go.Proofs.YtneafcdfnhnpnaaGreatDoor
open Go.RowKit Go.Lib

theorem digit_text (d : Nat) (h : d < 10) : (ByteArray.mk #[48, 49, 50, 51, 52, 53, 54, 55, 56, 57]).extract d (d + 1) = ⟨#[UInt8.ofNat (48 + d)]⟩ := by
  have : ∀ d : Fin 10, (ByteArray.mk #[48, 49, 50, 51, 52, 53, 54, 55, 56, 57]).extract d.1 (d.1 + 1) = ⟨#[UInt8.ofNat (48 + d.1)]⟩ := by decide +kernel
  exact this ⟨d, h⟩
/-- what is left to write, and what is written, of a number -/
def DecInv (n y : Nat) (acc : List UInt8) : Prop := (y = 0 ∧ acc ≠ [] ∧ decDigits n = acc) ∨ (decDigits n = decDigits y ++ acc ∧ (y = 0 → acc = []))
theorem DecInv.step {n y : Nat} {acc : List UInt8} (h : DecInv n y acc) (hc : 0 < y ∨ acc.length < 1) : DecInv n (y / 10) (UInt8.ofNat (48 + y % 10) :: acc) := by
  rcases h with ⟨h1, h2, h3⟩ | ⟨h1, h2⟩
  · exact absurd (List.length_eq_zero_iff.1 (by omega)) h2
  · by_cases h10 : y < 10
    · refine .inl ⟨by omega, by simp, ?_⟩
      rw [h1, decDigits_one h10, Nat.mod_eq_of_lt h10]; rfl
    · refine .inr ⟨?_, fun e => by omega⟩
      rw [h1, decDigits_big (by omega)]; simp
theorem DecInv.done {n y : Nat} {acc : List UInt8} (h : DecInv n y acc) (h1 : ¬ 0 < y) (h2 : ¬ acc.length < 1) : decDigits n = acc := by
  rcases h with ⟨_, _, h3⟩ | ⟨_, h4⟩
  · exact h3
  · rw [h4 (by omega)] at h2; simp at h2
theorem DecInv.len {n y : Nat} {acc : List UInt8} (h : DecInv n y acc) : acc.length ≤ (decDigits n).length := by
  rcases h with ⟨_, _, h3⟩ | ⟨h3, _⟩
  · rw [h3]; exact Nat.le_refl _
  · rw [h3, List.length_append]; omega
theorem dec_len {n : Nat} (h : n < 10000000000000000000) : (decDigits n).length ≤ 19 := by
  rw [decDigits_length]; exact nDigits_le 18 n h
def ansText (l : List UInt8) (w : World) (e : Ending) (w' : World) : Prop := e = .returned (.string ⟨l.toArray⟩) ∧ Below w.heap.size w w'
theorem cons_text (c : UInt8) (l : List UInt8) : (ByteArray.mk #[c]) ++ (ByteArray.mk l.toArray) = ⟨(c :: l).toArray⟩ := by
  rw [ByteArray.mk_append_mk]; congr 1

set_option maxHeartbeats 1000000 in
theorem decimal1_c (n : Nat) (w : World) (hn : n ≤ 9223372036854775807) :
    Calls Tryz.prog 128 #[.int .i64 n, .int .i64 1] w (ansText (decDigits n) w) := by
  have HL := Lib.hid (dec_len (n := n) (by omega))
  go_enter Tryz.func128, Tryz.ntmps128
  go_wp2
  go_loopg [0, 5] (n + 1) (fun g y s wr => ∃ (m : Nat) (acc : List UInt8), y = .int .i64 m ∧ s = .string ⟨acc.toArray⟩ ∧ m ≤ n ∧ (g = m + 1 ∨ (g = 0 ∧ m = 0 ∧ 1 ≤ acc.length)) ∧ Hid (DecInv n m acc) ∧ Below w.heap.size w wr)
  case atStart => exact ⟨n, [], rfl, rfl, Nat.le_refl _, .inl rfl, Lib.hid (.inr ⟨by simp, fun _ => rfl⟩), Below.refl _ _⟩
  case round =>
    obtain ⟨m, acc, rfl, rfl, hm, hg, hd, hB⟩ := hrel
    have hacc : acc.length ≤ 19 := Nat.le_trans hd.out.len HL.out
    have hal : (ByteArray.mk acc.toArray).size = acc.length := by simp [ByteArray.size]
    by_cases h0 : 0 < m
    · have h0' : (0 : Int) < (m : Int) := by omega
      have HS := Lib.hid (hd.out.step (.inl h0))
      have hq : m / 10 < m := Nat.div_lt_self h0 (by decide)
      have HT := Lib.hid (digit_text (m % 10) (Nat.mod_lt _ (by decide)))
      have hr9 : m % 10 < 10 := Nat.mod_lt _ (by decide)
      clear hd
      go_wp2
      go_roundg (m / 10 + 1)
      case rel => exact ⟨m / 10, _, by go_num, by rw [HT.out, cons_text], by omega, .inl rfl, HS, hB⟩
      case measure => omega
    · have hm0 : m = 0 := by omega
      subst hm0
      by_cases h1 : acc.length < 1
      · have hnil : acc = [] := List.length_eq_zero_iff.1 (by omega)
        subst hnil
        have HS := Lib.hid (hd.out.step (.inr (by decide)))
        have hsz : (ByteArray.mk #[]).size = 0 := rfl
        clear hd
        go_wp2
        go_roundg 0
        case rel => exact ⟨0, _, rfl, rfl, by omega, .inr ⟨rfl, rfl, by decide⟩, HS, hB⟩
        case measure => rcases hg with hg | hg <;> simp_all
      · have HE := Lib.hid (hd.out.done (by omega) h1)
        have h1' : ¬ ((acc.length : Int) < 1) := by omega
        clear hd
        go_wp2
        go_ret
        exact ⟨by rw [HE.out]; rfl, hB⟩
/-- nine digits that are not yet written, and what is written -/
def PadInv (n y : Nat) (acc : List UInt8) : Prop := acc.length ≤ 9 ∧ padk 9 n = padk (9 - acc.length) y ++ acc ∧ y < 10 ^ (9 - acc.length)
theorem PadInv.step {n y : Nat} {acc : List UInt8} (h : PadInv n y acc) (hc : acc.length < 9) : PadInv n (y / 10) (UInt8.ofNat (48 + y % 10) :: acc) := by
  obtain ⟨h1, h2, h3⟩ := h
  obtain ⟨j, hj⟩ : ∃ j, 9 - acc.length = j + 1 := ⟨8 - acc.length, by omega⟩
  rw [hj] at h2 h3
  refine ⟨by simp; omega, ?_, ?_⟩
  · rw [h2, show 9 - (UInt8.ofNat (48 + y % 10) :: acc).length = j from by simp; omega, padk]; simp
  · rw [show 9 - (UInt8.ofNat (48 + y % 10) :: acc).length = j from by simp; omega]
    rw [Nat.pow_succ] at h3; omega
theorem PadInv.done {n y : Nat} {acc : List UInt8} (h : PadInv n y acc) (hc : ¬ acc.length < 9) : padk 9 n = acc ∧ y = 0 := by
  obtain ⟨h1, h2, h3⟩ := h
  rw [show 9 - acc.length = 0 from by omega] at h2 h3
  exact ⟨by rw [h2]; rfl, by simpa using h3⟩
theorem PadInv.pos {n y : Nat} {acc : List UInt8} (h : PadInv n y acc) (hy : 0 < y) : acc.length < 9 := by
  obtain ⟨h1, h2, h3⟩ := h
  rcases Nat.lt_or_ge acc.length 9 with h4 | h4
  · exact h4
  · rw [show 9 - acc.length = 0 from by omega] at h3; simp at h3; omega
set_option maxHeartbeats 1000000 in
theorem decimal9_c (n : Nat) (w : World) (hn : n < 1000000000) :
    Calls Tryz.prog 128 #[.int .i64 n, .int .i64 9] w (ansText (padk 9 n) w) := by
  go_enter Tryz.func128, Tryz.ntmps128
  go_wp2
  go_loopg [0, 5] 9 (fun g y s wr => ∃ (m : Nat) (acc : List UInt8), y = .int .i64 m ∧ s = .string ⟨acc.toArray⟩ ∧ m ≤ n ∧ g + acc.length = 9 ∧ Hid (PadInv n m acc) ∧ Below w.heap.size w wr)
  case atStart => exact ⟨n, [], rfl, rfl, Nat.le_refl _, rfl, Lib.hid ⟨by simp, by simp, by simpa using hn⟩, Below.refl _ _⟩
  case round =>
    obtain ⟨m, acc, rfl, rfl, hm, hg, hd, hB⟩ := hrel
    have hal : (ByteArray.mk acc.toArray).size = acc.length := by simp [ByteArray.size]
    cases gk with
    | zero =>
      obtain ⟨HE0, hm0⟩ := hd.out.done (by omega)
      have HE := Lib.hid HE0
      clear HE0
      have h1' : ¬ ((acc.length : Int) < 9) := by omega
      subst hm0
      clear hd
      go_wp2
      go_ret
      exact ⟨by rw [HE.out]; rfl, hB⟩
    | succ gh =>
      have HS := Lib.hid (hd.out.step (by omega))
      have HT := Lib.hid (digit_text (m % 10) (Nat.mod_lt _ (by decide)))
      have hr9 : m % 10 < 10 := Nat.mod_lt _ (by decide)
      have h1' : ((acc.length : Int) < 9) := by omega
      clear hd
      by_cases h0 : 0 < m
      · have h0' : (0 : Int) < (m : Int) := by omega
        go_wp2
        go_roundg gh
        case rel => exact ⟨m / 10, _, by go_num, by rw [HT.out, cons_text], by omega, by simp; omega, HS, hB⟩
        case measure => omega
      · have hm0 : m = 0 := by omega
        subst hm0
        go_wp2
        go_roundg gh
        case rel => exact ⟨0, _, rfl, by rw [← cons_text]; rfl, by omega, by simp; omega, HS, hB⟩
        case measure => omega
set_option maxHeartbeats 1000000 in
theorem gcdR_c (a b : Nat) (w : World) (ha : a ≤ 9223372036854775807) (hb : b ≤ 9223372036854775807) :
    Calls Tryz.prog 127 #[.int .i64 a, .int .i64 b] w (fun e w' => e = .returned (.int .i64 (Nat.gcd a b : Nat)) ∧ Below w.heap.size w w') := by
  go_enter Tryz.func127, Tryz.ntmps127
  go_wp2
  go_loopg [0, 1] b (fun g x y wr => ∃ (p q : Nat), x = .int .i64 p ∧ y = .int .i64 q ∧ p ≤ 9223372036854775807 ∧ q ≤ 9223372036854775807 ∧ g = q ∧ Hid (Nat.gcd p q = Nat.gcd a b) ∧ Below w.heap.size w wr)
  case atStart => exact ⟨a, b, rfl, rfl, ha, hb, rfl, Lib.hid rfl, Below.refl _ _⟩
  case round =>
    obtain ⟨p, q, rfl, rfl, hp, hq, rfl, hd, hB⟩ := hrel
    by_cases h0 : 0 < gk
    · have h0' : (0 : Int) < (gk : Int) := by omega
      have hlt : p % gk < gk := Nat.mod_lt _ h0
      have HS : Hid (Nat.gcd gk (p % gk) = Nat.gcd a b) := Lib.hid (by rw [← hd.out, Nat.gcd_comm p gk, Nat.gcd_rec gk p, Nat.gcd_comm])
      clear hd
      go_wp2_with (go_quiet (fail))
      go_roundg (p % gk)
      case rel => exact ⟨gk, p % gk, rfl, by go_num, hq, by omega, rfl, HS, below_drewN hB nq⟩
      case measure => exact hlt
    · have hm0 : gk = 0 := by omega
      subst hm0
      have HE : Hid (Nat.gcd a b = p) := Lib.hid (by rw [← hd.out]; simp)
      clear hd
      go_wp2
      go_ret
      exact ⟨by rw [HE.out]; rfl, hB⟩
end Go.Proofs.YtneafcdfnhnpnaaGreatDoor
/- Contracts of the reference: inverses modulo n, prime numbers, greatest common divisors. -/
namespace Go.Proofs.YtneafcdfnhnpnaaGreatDoor
open Go.RowKit Go.Lib

theorem refMod2_c (a n : Int) (w : World) (hn : 1 ≤ n) (hn2 : n ≤ 4000000000000000000) :
    Calls Tryz.prog 134 #[.int .i64 a, .int .i64 n] w fun e w' => e = .returned (.int .i64 (a % n)) ∧ w = w' := by
  go_enter Tryz.func134, Tryz.ntmps134
  go_wp2
  go_ret
  exact ⟨ret_int (rem_eq a n hn hn2), rfl⟩
theorem inv_unique {a n x y : Int} (hx : 0 ≤ x ∧ x < n) (hy : 0 ≤ y ∧ y < n) (h1 : n ∣ (x * a - 1)) (h2 : n ∣ (y * a - 1)) : x = y := by
  have h3 : n ∣ (y * (x * a - 1) - x * (y * a - 1)) := Int.dvd_sub (Int.dvd_mul_of_dvd_right h1) (Int.dvd_mul_of_dvd_right h2)
  have e : y * (x * a - 1) - x * (y * a - 1) = x - y := by
    rw [Int.mul_sub, Int.mul_sub, Int.mul_one, Int.mul_one, ← Int.mul_assoc, ← Int.mul_assoc, Int.mul_comm y x]; omega
  rw [e] at h3
  obtain ⟨k, hk⟩ := h3
  have hk0 : k = 0 := by
    rcases Int.lt_trichotomy k 0 with h | h | h
    · have : n * k ≤ n * (-1) := Int.mul_le_mul_of_nonneg_left (by omega) (by omega)
      omega
    · exact h
    · have : n * 1 ≤ n * k := Int.mul_le_mul_of_nonneg_left (by omega) (by omega)
      omega
  subst hk0; omega
def invRPost (a n : Int) (w : World) (e : Ending) (w' : World) : Prop :=
  ((n = 1 ∧ e = .returned (.tuple #[.int .i64 0, .bool true])) ∨ (n ≠ 1 ∧ Int.gcd a n = 1 ∧ ∃ x : Int, e = .returned (.tuple #[.int .i64 x, .bool true]) ∧ 0 ≤ x ∧ x < n ∧ n ∣ (x * a - 1)) ∨
    (n ≠ 1 ∧ Int.gcd a n ≠ 1 ∧ ∃ x : Int, e = .returned (.tuple #[.int .i64 x, .bool false]))) ∧ Below w.heap.size w w'
set_option maxRecDepth 100000 in
set_option maxHeartbeats 2000000 in
theorem refInverse_c (a n : Int) (w : World) (hn : 1 ≤ n) (hn2 : n ≤ 999999999) :
    Calls Tryz.prog 40 #[.int .i64 a, .int .i64 n] w (invRPost a n w) := by
  by_cases h1 : n = 1
  · subst h1
    go_enter Tryz.func40, Tryz.ntmps40
    go_wp2
    go_ret2
    exact ⟨.inl ⟨rfl, rfl⟩, Below.refl _ _⟩
  · have hb1 : (n == 1) = false := by simpa using h1
    have H1 := Lib.hid h1
    clear h1
    have hst := Lib.hid (EI.start a n hn)
    go_enter Tryz.func40, Tryz.ntmps40
    go_wp2_with (go_at_call 134; refine (refMod2_c _ _ _ hn (by omega)).mono ?_; rintro e w' ⟨rfl, rfl⟩)
    go_loopw [6, 7, 8, 9] (fun u v p q wr => ∃ (r x f g : Int) (k : Nat), u = .int .i64 r ∧ v = .int .i64 x ∧ p = .int .i64 f ∧ q = .int .i64 g ∧ Hid (EI a n r x f g) ∧ wr = w.drewN k) (fun _ v _ _ _ => (RowKit.intOf v).toNat)
    case atStart => exact ⟨n, a % n, 0, 1, 0, rfl, rfl, rfl, rfl, hst, rfl⟩
    case round =>
      obtain ⟨r, x, f, g, k, rfl, rfl, rfl, rfl, hE, rfl⟩ := hrel
      have hx0 : 0 ≤ x := hE.out.1
      have hrx : x < r := hE.out.2.1
      have hrn : r ≤ n := hE.out.2.2.1
      by_cases hx : x = 0
      · subst hx
        obtain ⟨he, hd⟩ := hE.out.last
        have He := Lib.hid he; clear he
        have HD := Lib.hid hd; clear hd
        by_cases hr : r = 1
        · subst hr
          go_wp2_with (go_at_call 134; refine (refMod2_c _ _ _ hn (by omega)).mono ?_; rintro e w' ⟨rfl, rfl⟩)
          go_ret2
          have h1 : Int.gcd a n = 1 := by have := He.out; omega
          refine ⟨.inr (.inl ⟨H1.out, h1, f % n, rfl, Int.emod_nonneg _ (by omega), Int.emod_lt_of_pos _ (by omega), ?_⟩), below_drewN (Below.refl _ _) k⟩
          have hd := HD.out
          rw [h1] at hd
          exact mod_dvd hd
        · have hb : (r == 1) = false := by simpa using hr
          have hgc : Hid (Int.gcd a n ≠ 1) := Lib.hid (fun h1 => hr (by have := He.out; omega))
          go_wp2_with (go_at_call 134; refine (refMod2_c _ _ _ hn (by omega)).mono ?_; rintro e w' ⟨rfl, rfl⟩)
          go_ret2
          exact ⟨.inr (.inr ⟨H1.out, hgc.out, _, rfl⟩), below_drewN (Below.refl _ _) k⟩
      · have hb : (x != 0) = true := by simpa using hx
        obtain ⟨b1, b2, b3, b4, b5, b6, b7, b8, b9⟩ := hE.out.bounds hx
        go_wp2
        have hs := hE.out.step hx
        refine ⟨⟨x, r - r / x * x, g, f - r / x * g, k, rfl, rfl, rfl, rfl, Lib.hid hs, rfl⟩, ?_⟩
        have := hs.1
        have := hs.2.1
        simp [RowKit.intOf]; omega
def prAns (m : Int) (w : World) (e : Ending) (w' : World) : Prop := ∃ b : Bool, e = .returned (.bool b) ∧ (b = true ↔ IsPr m) ∧ w = w'
set_option maxRecDepth 100000 in
set_option maxHeartbeats 2000000 in
theorem refIsPrime_c (m : Nat) (w : World) (hm : (m : Int) ≤ 999999999) :
    Calls Tryz.prog 43 #[.int .i64 m] w (prAns m w) := by
  by_cases h2 : (m : Int) < 2
  · have hn : Hid (¬ IsPr m) := Lib.hid (fun h => by have := h.1; omega)
    go_enter Tryz.func43, Tryz.ntmps43
    go_wp2
    go_ret
    exact ⟨false, rfl, by simp; exact hn.out, rfl⟩
  · have H2 : Hid (2 ≤ m) := Lib.hid (by omega)
    go_enter Tryz.func43, Tryz.ntmps43
    go_wp2
    go_loopg [3] m (fun g i wr => ∃ k : Nat, i = .int .i64 k ∧ k + g = m + 2 ∧ (2 : Int) ≤ k ∧ (k : Int) ≤ 1000000 ∧ Hid (∀ e : Int, 2 ≤ e → e < k → (m : Int) % e ≠ 0) ∧ wr = w)
    case atStart => exact ⟨2, rfl, by omega, by omega, by omega, Lib.hid (fun e h1 h2 => by omega), rfl⟩
    case round =>
      obtain ⟨k, rfl, hk, hk2, hk6, hI, rfl⟩ := hrel
      obtain ⟨z, hz⟩ : ∃ z : Nat, k * k = z := ⟨_, rfl⟩
      have hzb : z ≤ 1000000 * 1000000 := by rw [← hz]; exact Nat.mul_le_mul (by omega) (by omega)
      have hzw : wrap64 ((k : Int) * (k : Int)) = (z : Int) := by rw [← Int.natCast_mul, hz]; exact IntWalk.wrap64_in _ (by omega)
      have HZ := Lib.hid hz
      clear hz
      by_cases hc : z ≤ m
      · have hcI : (z : Int) ≤ (m : Int) := by omega
        have hkm : Hid (k < m ∨ m < 4) := Lib.hid (by
          rcases Nat.lt_or_ge k m with h | h
          · exact .inl h
          · have h3 : k * k ≤ k * 1 := by rw [HZ.out]; omega
            have := Nat.le_of_mul_le_mul_left h3 (by omega)
            omega)
        have hk5 : k < 40000 := by
          rcases Nat.lt_or_ge k 40000 with h | h
          · exact h
          · have : 40000 * 40000 ≤ k * k := Nat.mul_le_mul h h
            rw [HZ.out] at this; omega
        by_cases hd : (m : Int) % (k : Int) = 0
        · have hb : ((m : Int) % (k : Int) == 0) = true := by simpa using hd
          have hkk : k < m := by
            rcases hkm.out with h | h
            · exact h
            · have : k * k ≤ 3 := by rw [HZ.out]; omega
              have h4 : 2 * 2 ≤ k * k := Nat.mul_le_mul (by omega) (by omega)
              omega
          have hn : Hid (¬ IsPr m) := Lib.hid (fun h => h.2 k hk2 (by omega) hd)
          clear hd hkm hk
          go_wp2
          go_ret
          exact ⟨false, rfl, by simp; exact hn.out, rfl⟩
        · have hb : ((m : Int) % (k : Int) == 0) = false := by simpa using hd
          have HS : Hid (∀ e : Int, 2 ≤ e → e < ((k + 1 : Nat) : Int) → (m : Int) % e ≠ 0) := Lib.hid (fun e h1 h2 => by
            rcases Int.lt_or_le e k with h | h
            · exact hI.out e h1 h
            · rw [show e = k from by omega]; exact hd)
          have hgk : 1 ≤ gk := by
            rcases hkm.out with h | h
            · omega
            · have : k * k ≤ 3 := by rw [HZ.out]; omega
              have h4 : 2 * 2 ≤ k * k := Nat.mul_le_mul (by omega) (by omega)
              omega
          clear hd hkm hI
          obtain ⟨gh, rfl⟩ : ∃ gh, gk = gh + 1 := ⟨gk - 1, by omega⟩
          go_wp2
          go_roundg gh
          case rel => exact ⟨k + 1, by go_num, by omega, by omega, by omega, HS, rfl⟩
          case measure => omega
      · have hcI : ¬ (z : Int) ≤ (m : Int) := by omega
        have hn : Hid (IsPr m) := Lib.hid ⟨by have := H2.out; omega, fun x hx hxm => by
          refine no_small (d := (k : Int)) hk2 ?_ hI.out x hx hxm
          have h3 : (m : Int) < (k : Int) * (k : Int) := by rw [← Int.natCast_mul, HZ.out]; omega
          exact Int.ediv_lt_of_lt_mul (by omega) h3⟩
        clear hI hk
        go_wp2
        go_ret
        exact ⟨true, rfl, by simp; exact hn.out, rfl⟩
set_option maxRecDepth 100000 in
set_option maxHeartbeats 2000000 in
theorem refGcd_c (a b : Int) (w : World) (ha : -999999999 ≤ a ∧ a ≤ 999999999) (hb : -999999999 ≤ b ∧ b ≤ 999999999) :
    Calls Tryz.prog 38 #[.int .i64 a, .int .i64 b] w fun e w' => e = .returned (.int .i64 (Int.gcd a b : Nat)) ∧ Below w.heap.size w w' := by
  have GC := Lib.hid (gcdR_c a.natAbs b.natAbs w (by omega) (by omega))
  have ea : max a (-a) = (a.natAbs : Int) := by omega
  have eb : max b (-b) = (b.natAbs : Int) := by omega
  have HA := Lib.hid ea
  have HB := Lib.hid eb
  clear ea eb
  go_enter Tryz.func38, Tryz.ntmps38
  go_wp2_with fail
  rw [HA.out, HB.out]
  refine GC.out.mono ?_
  rintro e w1 ⟨rfl, hB⟩
  go_wp2
  go_ret
  exact ⟨rfl, hB⟩
end Go.Proofs.YtneafcdfnhnpnaaGreatDoor
