/- Contracts of the reference: slashes, digits, values. -/
import Derived.Test.YtneafcdfnhnpnaaGreatDoorZ09
import Derived.Test.YtneafcdfnhnpnaaGreatDoorZ10
import Derived.Test.YtneafcdfnhnpnaaGreatDoorZ01
import Derived.Test.YtneafcdfnhnpnaaGreatDoorZ04
import Derived.Test.YtneafcdfnhnpnaaGreatDoorZ16
import Derived.Test.YtneafcdfnhnpnaaGreatDoorZ06
import Derived.Test.YtneafcdfnhnpnaaGreatDoorZ11
namespace Go.Proofs.YtneafcdfnhnpnaaGreatDoor
open Go.RowKit Go.Lib

/-- where the first slash is -/
def slashAt (l : List UInt8) : Nat := l.findIdx (· == 47)
theorem slashAt_le (l : List UInt8) : slashAt l ≤ l.length := List.findIdx_le_length
theorem slash_hit {l : List UInt8} {k : Nat} {c : UInt8} (hc : l[k]? = some c) (h : c = 47) (hk : k ≤ slashAt l) : slashAt l = k := by
  obtain ⟨hl, hg⟩ := List.getElem?_eq_some_iff.1 hc
  rcases Nat.lt_or_ge k (slashAt l) with h1 | h1
  · have := List.not_of_lt_findIdx h1
    rw [hg, h] at this; simp at this
  · omega
theorem slash_step {l : List UInt8} {k : Nat} {c : UInt8} (hc : l[k]? = some c) (h : c ≠ 47) (hk : k ≤ slashAt l) : k + 1 ≤ slashAt l := by
  obtain ⟨hl, hg⟩ := List.getElem?_eq_some_iff.1 hc
  rcases Nat.lt_or_ge k (slashAt l) with h1 | h1
  · exact h1
  · have h2 : slashAt l = k := by omega
    have h3 : slashAt l < l.length := by omega
    have := List.findIdx_getElem (p := (· == 47)) (w := h3)
    have e : l[List.findIdx (fun x => x == 47) l]'h3 = l[k] := by congr 1
    rw [e, hg] at this
    exact absurd (by simpa using this) h
theorem byte_ne {c : UInt8} {n : Nat} (hn : n < 256) (h : c ≠ UInt8.ofNat n) : ((c.toNat : Int) == (n : Int)) = false := by
  have : c.toNat ≠ n := fun e => h (by apply UInt8.toNat_inj.1; rw [e, UInt8.toNat_ofNat']; exact (Nat.mod_eq_of_lt hn).symm)
  simpa using (by omega : ¬ (c.toNat : Int) = n)
theorem byte_eq {c : UInt8} {n : Nat} (hn : n < 256) (h : c = UInt8.ofNat n) : ((c.toNat : Int) == (n : Int)) = true := by
  subst h
  rw [UInt8.toNat_ofNat', Nat.mod_eq_of_lt hn]; simp
def ansInt (n : Nat) (w : World) (e : Ending) (w' : World) : Prop := e = .returned (.int .i64 (n : Int)) ∧ w = w'
def ansBool (b : Bool) (w : World) (e : Ending) (w' : World) : Prop := e = .returned (.bool b) ∧ w = w'

set_option maxHeartbeats 1000000 in
theorem slash_c (s : ByteArray) (w : World) (hs : s.size ≤ 4611686018427387904) :
    Calls Tryz.prog 103 #[.string s] w (ansInt (slashAt s.data.toList) w) := by
  go_enter Tryz.func103, Tryz.ntmps103
  go_wp2
  go_loopg [3, 4, 10, 11, 12] s.size (fun g i _ _ _ _ wr => ∃ pos : Nat, i = .int .i64 pos ∧ pos + g = s.size ∧ Hid (pos ≤ slashAt s.data.toList) ∧ wr = w)
  case atStart => exact ⟨0, rfl, by omega, Lib.hid (Nat.zero_le _), rfl⟩
  case round =>
    obtain ⟨pos, rfl, hp, hd, rfl⟩ := hrel
    cases gk with
    | zero =>
      have hb : ¬ ((pos : Int) < (s.size : Int)) := by omega
      have HE : Hid (slashAt s.data.toList = s.size) := Lib.hid (by
        have h1 := slashAt_le s.data.toList
        have h2 : s.data.toList.length = s.size := by simp
        have := hd.out; omega)
      clear hd
      go_wp2
      go_ret
      exact ⟨by rw [HE.out]; rfl, rfl⟩
    | succ gh =>
      have hlt : pos < s.size := by omega
      have hge := ba_get s pos hlt
      by_cases hc : s[pos] = 47
      · have hb3 : (((s[pos]).toNat : Int) == 47) = true := byte_eq (n := 47) (by decide) hc
        have HE := Lib.hid (slash_hit hge hc hd.out)
        clear hd hc hge
        go_wp2
        go_ret
        exact ⟨by rw [HE.out]; rfl, rfl⟩
      · have hb3 : (((s[pos]).toNat : Int) == 47) = false := byte_ne (n := 47) (by decide) hc
        have HE := Lib.hid (slash_step hge hc hd.out)
        clear hd hc hge
        go_wp2
        go_roundg gh
        case rel => exact ⟨pos + 1, by go_num, by omega, HE, rfl⟩
        case measure => omega

def digTo (l : List UInt8) (k : Nat) : Prop := allDig (l.take k)
theorem digTo.step {l : List UInt8} {k : Nat} {c : UInt8} (h : digTo l k) (hc : l[k]? = some c) (hd : 48 ≤ c.toNat ∧ c.toNat ≤ 57) : digTo l (k + 1) := by
  intro x hx
  rw [List.take_add_one, hc] at hx
  rcases List.mem_append.1 hx with h1 | h1
  · exact h x h1
  · have : x = c := by simpa using h1
    subst this; exact hd
def digBool (l : List UInt8) (w : World) (e : Ending) (w' : World) : Prop := ansBool (decide (allDig l)) w e w'
set_option maxHeartbeats 1000000 in
theorem Digits_c (s : ByteArray) (w : World) (hs : s.size ≤ 4611686018427387904) :
    Calls Tryz.prog 173 #[.string s] w (ansBool (decide (allDig s.data.toList)) w) := by
  go_enter Tryz.func173, Tryz.ntmps173
  go_wp2
  go_loopg [3] s.size (fun g i wr => ∃ pos : Nat, i = .int .i64 pos ∧ pos + g = s.size ∧ Hid (digTo s.data.toList pos) ∧ wr = w)
  case atStart => exact ⟨0, rfl, by omega, Lib.hid (fun c hc => by simp at hc), rfl⟩
  case round =>
    obtain ⟨pos, rfl, hp, hd, rfl⟩ := hrel
    cases gk with
    | zero =>
      have hb : ¬ ((pos : Int) < (s.size : Int)) := by omega
      have HE : Hid (decide (allDig s.data.toList) = true) := Lib.hid (by
        have h1 := hd.out
        unfold digTo at h1
        rw [List.take_of_length_le (by simp; omega)] at h1
        exact decide_eq_true h1)
      clear hd
      go_wp2
      go_ret
      exact ⟨by rw [HE.out]; rfl, rfl⟩
    | succ gh =>
      have hlt : pos < s.size := by omega
      have hge := ba_get s pos hlt
      by_cases h1 : 48 ≤ (s[pos]).toNat
      · by_cases h2 : (s[pos]).toNat ≤ 57
        · have hb1 : decide (((s[pos]).toNat : Int) < 48) = false := by simp; omega
          have hb2 : decide ((57 : Int) < ((s[pos]).toNat : Int)) = false := by simp; omega
          have HE := Lib.hid (hd.out.step hge ⟨h1, h2⟩)
          clear hd h1 h2 hge
          go_wp2
          go_roundg gh
          case rel => exact ⟨pos + 1, by go_num, by omega, HE, rfl⟩
          case measure => omega
        · have hb1 : decide (((s[pos]).toNat : Int) < 48) = false := by simp; omega
          have hb2 : decide ((57 : Int) < ((s[pos]).toNat : Int)) = true := by simp; omega
          have HE : Hid (decide (allDig s.data.toList) = false) := Lib.hid (decide_eq_false fun h => by have := h _ (List.mem_of_getElem? hge); omega)
          clear hd h1 h2 hge
          go_wp2
          go_ret
          exact ⟨by rw [HE.out]; rfl, rfl⟩
      · have hb1 : decide (((s[pos]).toNat : Int) < 48) = true := by simp; omega
        have HE : Hid (decide (allDig s.data.toList) = false) := Lib.hid (decide_eq_false fun h => by have := h _ (List.mem_of_getElem? hge); omega)
        clear hd h1 hge
        go_wp2
        go_ret
        exact ⟨by rw [HE.out]; rfl, rfl⟩
end Go.Proofs.YtneafcdfnhnpnaaGreatDoor
/- Contracts of the reference: decimal notations. -/
namespace Go.Proofs.YtneafcdfnhnpnaaGreatDoor
open Go.RowKit Go.Lib

theorem ba_nil {s : ByteArray} (h : s.size = 0) : s.data.toList = [] := List.length_eq_zero_iff.1 (by simpa using h)
set_option maxHeartbeats 1000000 in
theorem decimalForm_c (s : ByteArray) (w : World) (hs : s.size ≤ 4611686018427387904) :
    Calls Tryz.prog 104 #[.string s] w (ansBool (decide (Numeral s.data.toList)) w) := by
  have DG := Lib.hid (Digits_c s w hs)
  by_cases h0 : s.size = 0
  · have hb0 : ((s.size : Int) == 0) = true := by rw [h0]; rfl
    have HE : Hid (decide (Numeral s.data.toList) = false) := Lib.hid (by rw [ba_nil h0]; decide)
    clear h0
    go_enter Tryz.func104, Tryz.ntmps104
    go_wp2
    go_ret
    exact ⟨by rw [HE.out]; rfl, rfl⟩
  · have hb0 : ((s.size : Int) == 0) = false := by simpa using h0
    have h00 : 0 < s.size := Nat.pos_of_ne_zero h0
    have hge := ba_get s 0 h00
    have hne : s.data.toList ≠ [] := fun e => by rw [e] at hge; simp at hge
    have hhd : s.data.toList.head? = some s[0] := by rw [List.head?_eq_getElem?]; exact hge
    have hll : s.data.toList.length = s.size := by simp
    by_cases h1 : 1 < s.size
    · have h1' : (1 : Int) < (s.size : Int) := by omega
      by_cases hc : s[0] = 48
      · have hb3 : (((s[0]).toNat : Int) == 48) = true := byte_eq (n := 48) (by decide) hc
        have HE : Hid (decide (Numeral s.data.toList) = false) := Lib.hid (decide_eq_false (by
          rintro ⟨_, h | h⟩
          · rw [h] at hll; simp at hll; omega
          · exact h.2 (by rw [hhd, hc])))
        clear h0 h1 hge hne hhd hll hc DG
        go_enter Tryz.func104, Tryz.ntmps104
        go_wp2
        go_ret
        exact ⟨by rw [HE.out]; rfl, rfl⟩
      · have hb3 : (((s[0]).toNat : Int) == 48) = false := byte_ne (n := 48) (by decide) hc
        have HE : Hid (decide (Numeral s.data.toList) = decide (allDig s.data.toList)) := Lib.hid (by
          congr 1
          apply propext
          exact ⟨fun h => h.1, fun h => ⟨h, .inr ⟨hne, by rw [hhd]; intro e; exact hc (Option.some.inj e)⟩⟩⟩)
        clear h0 h1 hge hne hhd hll hc
        go_enter Tryz.func104, Tryz.ntmps104
        go_wp2_with fail
        refine DG.out.mono ?_
        rintro e w1 ⟨rfl, rfl⟩
        go_wp2
        go_ret
        exact ⟨by rw [HE.out]; rfl, rfl⟩
    · have h1' : decide ((1 : Int) < (s.size : Int)) = false := by simp; omega
      have HE : Hid (decide (Numeral s.data.toList) = decide (allDig s.data.toList)) := Lib.hid (by
          congr 1
          apply propext
          refine ⟨fun h => h.1, fun h => ⟨h, ?_⟩⟩
          by_cases hc : s[0] = 48
          · refine .inl ?_
            obtain ⟨a, ha⟩ := List.length_eq_one_iff.1 (by omega : s.data.toList.length = 1)
            rw [ha] at hhd ⊢
            rw [show a = 48 from by rw [← hc]; exact Option.some.inj hhd]
          · exact .inr ⟨hne, by rw [hhd]; intro e; exact hc (Option.some.inj e)⟩)
      clear h0 h1 hge hne hhd hll
      go_enter Tryz.func104, Tryz.ntmps104
      go_wp2_with fail
      refine DG.out.mono ?_
      rintro e w1 ⟨rfl, rfl⟩
      go_wp2
      go_ret
      exact ⟨by rw [HE.out]; rfl, rfl⟩

theorem decVal_snoc {l : List UInt8} {k : Nat} {c : UInt8} (hc : l[k]? = some c) : decVal (l.take (k + 1)) = 10 * decVal (l.take k) + (c.toNat - 48) := by
  rw [List.take_add_one, hc, Option.toList_some, decVal_append]
  have : decVal [c] = c.toNat - 48 := by rw [decVal, decFold_cons, decFold_nil]; omega
  rw [this]; simp; omega
theorem decVal_take_lt {l : List UInt8} (h : allDig l) (k n : Nat) (hk : k ≤ n) : decVal (l.take k) < 10 ^ n := by
  have := decVal_lt (allDig_take h k)
  refine Nat.lt_of_lt_of_le this (Nat.pow_le_pow_right (by decide) ?_)
  rw [List.length_take]; omega
set_option maxHeartbeats 1000000 in
theorem value_c (s : ByteArray) (w : World) (hs : s.size ≤ 18) (hd : allDig s.data.toList) :
    Calls Tryz.prog 180 #[.string s] w (ansInt (decVal s.data.toList) w) := by
  have HD := Lib.hid hd
  clear hd
  go_enter Tryz.func180, Tryz.ntmps180
  go_wp2
  go_loopg [3, 4] s.size (fun g n i wr => ∃ (pos x : Nat), i = .int .i64 pos ∧ n = .int .i64 (x : Int) ∧ pos + g = s.size ∧ Hid (x = decVal (s.data.toList.take pos)) ∧ wr = w)
  case atStart => exact ⟨0, 0, rfl, rfl, by omega, Lib.hid rfl, rfl⟩
  case round =>
    obtain ⟨pos, x, rfl, rfl, hp, hd, rfl⟩ := hrel
    cases gk with
    | zero =>
      have hb : ¬ ((pos : Int) < (s.size : Int)) := by omega
      have HE : Hid (decVal s.data.toList = x) := Lib.hid (by
        have h1 := hd.out
        rw [List.take_of_length_le (by simp; omega)] at h1
        exact h1.symm)
      clear hd
      go_wp2
      go_ret
      exact ⟨by rw [HE.out]; rfl, rfl⟩
    | succ gh =>
      have hlt : pos < s.size := by omega
      have hge := ba_get s pos hlt
      have hx : x < 100000000000000000 := by
        have := decVal_take_lt HD.out pos 17 (by omega)
        rw [← hd.out] at this; exact this
      have hcc := HD.out _ (List.mem_of_getElem? hge)
      have HE : Hid (10 * x + ((s[pos]).toNat - 48) = decVal (s.data.toList.take (pos + 1))) := Lib.hid (by rw [decVal_snoc hge, hd.out])
      clear hd hge
      obtain ⟨d, hdd⟩ : ∃ d, (s[pos]).toNat = d + 48 := ⟨(s[pos]).toNat - 48, by omega⟩
      have HE2 : Hid (10 * x + d = decVal (s.data.toList.take (pos + 1))) := Lib.hid (by rw [← HE.out, hdd]; omega)
      have hd9 : d ≤ 9 := by omega
      clear HE hcc
      go_wp2
      go_roundg gh
      case rel => exact ⟨pos + 1, 10 * x + d, by go_num, by go_num, by omega, HE2, rfl⟩
      case measure => omega
end Go.Proofs.YtneafcdfnhnpnaaGreatDoor
/- Contracts of the reference: writing digits, common divisors. -/
namespace Go.Proofs.YtneafcdfnhnpnaaGreatDoor
open Go.RowKit Go.Lib

theorem digit_text (d : Nat) (h : d < 10) : (ByteArray.mk #[48, 49, 50, 51, 52, 53, 54, 55, 56, 57]).extract d (d + 1) = ⟨#[UInt8.ofNat (48 + d)]⟩ := by
  have : ∀ d : Fin 10, (ByteArray.mk #[48, 49, 50, 51, 52, 53, 54, 55, 56, 57]).extract d.1 (d.1 + 1) = ⟨#[UInt8.ofNat (48 + d.1)]⟩ := by decide +kernel
  exact this ⟨d, h⟩
/-- what is left to write, and what is written, of a number -/
def DecInv (n y : Nat) (acc : List UInt8) : Prop := (y = 0 ∧ acc ≠ [] ∧ decDigits n = acc) ∨ (decDigits n = decDigits y ++ acc ∧ (y = 0 → acc = []))
theorem DecInv.step {n y : Nat} {acc : List UInt8} (h : DecInv n y acc) (hc : 0 < y ∨ acc.length < 1) : DecInv n (y / 10) (UInt8.ofNat (48 + y % 10) :: acc) := by
  rcases h with ⟨h1, h2, h3⟩ | ⟨h1, h2⟩
  · exact absurd (List.length_eq_zero_iff.1 (by omega)) h2
  · by_cases h10 : y < 10
    · refine .inl ⟨by omega, by simp, ?_⟩
      rw [h1, decDigits_one h10, Nat.mod_eq_of_lt h10]; rfl
    · refine .inr ⟨?_, fun e => by omega⟩
      rw [h1, decDigits_big (by omega)]; simp
theorem DecInv.done {n y : Nat} {acc : List UInt8} (h : DecInv n y acc) (h1 : ¬ 0 < y) (h2 : ¬ acc.length < 1) : decDigits n = acc := by
  rcases h with ⟨_, _, h3⟩ | ⟨_, h4⟩
  · exact h3
  · rw [h4 (by omega)] at h2; simp at h2
theorem DecInv.len {n y : Nat} {acc : List UInt8} (h : DecInv n y acc) : acc.length ≤ (decDigits n).length := by
  rcases h with ⟨_, _, h3⟩ | ⟨h3, _⟩
  · rw [h3]; exact Nat.le_refl _
  · rw [h3, List.length_append]; omega
theorem dec_len {n : Nat} (h : n < 10000000000000000000) : (decDigits n).length ≤ 19 := by
  rw [decDigits_length]; exact nDigits_le 18 n h
def ansText (l : List UInt8) (w : World) (e : Ending) (w' : World) : Prop := e = .returned (.string ⟨l.toArray⟩) ∧ Below w.heap.size w w'
theorem cons_text (c : UInt8) (l : List UInt8) : (ByteArray.mk #[c]) ++ (ByteArray.mk l.toArray) = ⟨(c :: l).toArray⟩ := by
  rw [ByteArray.mk_append_mk]; congr 1

set_option maxHeartbeats 1000000 in
theorem decimal1_c (n : Nat) (w : World) (hn : n ≤ 9223372036854775807) :
    Calls Tryz.prog 128 #[.int .i64 n, .int .i64 1] w (ansText (decDigits n) w) := by
  have HL := Lib.hid (dec_len (n := n) (by omega))
  go_enter Tryz.func128, Tryz.ntmps128
  go_wp2
  go_loopg [0, 5] (n + 1) (fun g y s wr => ∃ (m : Nat) (acc : List UInt8), y = .int .i64 m ∧ s = .string ⟨acc.toArray⟩ ∧ m ≤ n ∧ (g = m + 1 ∨ (g = 0 ∧ m = 0 ∧ 1 ≤ acc.length)) ∧ Hid (DecInv n m acc) ∧ Below w.heap.size w wr)
  case atStart => exact ⟨n, [], rfl, rfl, Nat.le_refl _, .inl rfl, Lib.hid (.inr ⟨by simp, fun _ => rfl⟩), Below.refl _ _⟩
  case round =>
    obtain ⟨m, acc, rfl, rfl, hm, hg, hd, hB⟩ := hrel
    have hacc : acc.length ≤ 19 := Nat.le_trans hd.out.len HL.out
    have hal : (ByteArray.mk acc.toArray).size = acc.length := by simp [ByteArray.size]
    by_cases h0 : 0 < m
    · have h0' : (0 : Int) < (m : Int) := by omega
      have HS := Lib.hid (hd.out.step (.inl h0))
      have hq : m / 10 < m := Nat.div_lt_self h0 (by decide)
      have HT := Lib.hid (digit_text (m % 10) (Nat.mod_lt _ (by decide)))
      have hr9 : m % 10 < 10 := Nat.mod_lt _ (by decide)
      clear hd
      go_wp2
      go_roundg (m / 10 + 1)
      case rel => exact ⟨m / 10, _, by go_num, by rw [HT.out, cons_text], by omega, .inl rfl, HS, hB⟩
      case measure => omega
    · have hm0 : m = 0 := by omega
      subst hm0
      by_cases h1 : acc.length < 1
      · have hnil : acc = [] := List.length_eq_zero_iff.1 (by omega)
        subst hnil
        have HS := Lib.hid (hd.out.step (.inr (by decide)))
        have hsz : (ByteArray.mk #[]).size = 0 := rfl
        clear hd
        go_wp2
        go_roundg 0
        case rel => exact ⟨0, _, rfl, rfl, by omega, .inr ⟨rfl, rfl, by decide⟩, HS, hB⟩
        case measure => rcases hg with hg | hg <;> simp_all
      · have HE := Lib.hid (hd.out.done (by omega) h1)
        have h1' : ¬ ((acc.length : Int) < 1) := by omega
        clear hd
        go_wp2
        go_ret
        exact ⟨by rw [HE.out]; rfl, hB⟩
/-- nine digits that are not yet written, and what is written -/
def PadInv (n y : Nat) (acc : List UInt8) : Prop := acc.length ≤ 9 ∧ padk 9 n = padk (9 - acc.length) y ++ acc ∧ y < 10 ^ (9 - acc.length)
theorem PadInv.step {n y : Nat} {acc : List UInt8} (h : PadInv n y acc) (hc : acc.length < 9) : PadInv n (y / 10) (UInt8.ofNat (48 + y % 10) :: acc) := by
  obtain ⟨h1, h2, h3⟩ := h
  obtain ⟨j, hj⟩ : ∃ j, 9 - acc.length = j + 1 := ⟨8 - acc.length, by omega⟩
  rw [hj] at h2 h3
  refine ⟨by simp; omega, ?_, ?_⟩
  · rw [h2, show 9 - (UInt8.ofNat (48 + y % 10) :: acc).length = j from by simp; omega, padk]; simp
  · rw [show 9 - (UInt8.ofNat (48 + y % 10) :: acc).length = j from by simp; omega]
    rw [Nat.pow_succ] at h3; omega
theorem PadInv.done {n y : Nat} {acc : List UInt8} (h : PadInv n y acc) (hc : ¬ acc.length < 9) : padk 9 n = acc ∧ y = 0 := by
  obtain ⟨h1, h2, h3⟩ := h
  rw [show 9 - acc.length = 0 from by omega] at h2 h3
  exact ⟨by rw [h2]; rfl, by simpa using h3⟩
theorem PadInv.pos {n y : Nat} {acc : List UInt8} (h : PadInv n y acc) (hy : 0 < y) : acc.length < 9 := by
  obtain ⟨h1, h2, h3⟩ := h
  rcases Nat.lt_or_ge acc.length 9 with h4 | h4
  · exact h4
  · rw [show 9 - acc.length = 0 from by omega] at h3; simp at h3; omega
set_option maxHeartbeats 1000000 in
theorem decimal9_c (n : Nat) (w : World) (hn : n < 1000000000) :
    Calls Tryz.prog 128 #[.int .i64 n, .int .i64 9] w (ansText (padk 9 n) w) := by
  go_enter Tryz.func128, Tryz.ntmps128
  go_wp2
  go_loopg [0, 5] 9 (fun g y s wr => ∃ (m : Nat) (acc : List UInt8), y = .int .i64 m ∧ s = .string ⟨acc.toArray⟩ ∧ m ≤ n ∧ g + acc.length = 9 ∧ Hid (PadInv n m acc) ∧ Below w.heap.size w wr)
  case atStart => exact ⟨n, [], rfl, rfl, Nat.le_refl _, rfl, Lib.hid ⟨by simp, by simp, by simpa using hn⟩, Below.refl _ _⟩
  case round =>
    obtain ⟨m, acc, rfl, rfl, hm, hg, hd, hB⟩ := hrel
    have hal : (ByteArray.mk acc.toArray).size = acc.length := by simp [ByteArray.size]
    cases gk with
    | zero =>
      obtain ⟨HE0, hm0⟩ := hd.out.done (by omega)
      have HE := Lib.hid HE0
      clear HE0
      have h1' : ¬ ((acc.length : Int) < 9) := by omega
      subst hm0
      clear hd
      go_wp2
      go_ret
      exact ⟨by rw [HE.out]; rfl, hB⟩
    | succ gh =>
      have HS := Lib.hid (hd.out.step (by omega))
      have HT := Lib.hid (digit_text (m % 10) (Nat.mod_lt _ (by decide)))
      have hr9 : m % 10 < 10 := Nat.mod_lt _ (by decide)
      have h1' : ((acc.length : Int) < 9) := by omega
      clear hd
      by_cases h0 : 0 < m
      · have h0' : (0 : Int) < (m : Int) := by omega
        go_wp2
        go_roundg gh
        case rel => exact ⟨m / 10, _, by go_num, by rw [HT.out, cons_text], by omega, by simp; omega, HS, hB⟩
        case measure => omega
      · have hm0 : m = 0 := by omega
        subst hm0
        go_wp2
        go_roundg gh
        case rel => exact ⟨0, _, rfl, by rw [← cons_text]; rfl, by omega, by simp; omega, HS, hB⟩
        case measure => omega
set_option maxHeartbeats 1000000 in
theorem gcdR_c (a b : Nat) (w : World) (ha : a ≤ 9223372036854775807) (hb : b ≤ 9223372036854775807) :
    Calls Tryz.prog 127 #[.int .i64 a, .int .i64 b] w (fun e w' => e = .returned (.int .i64 (Nat.gcd a b : Nat)) ∧ Below w.heap.size w w') := by
  go_enter Tryz.func127, Tryz.ntmps127
  go_wp2
  go_loopg [0, 1] b (fun g x y wr => ∃ (p q : Nat), x = .int .i64 p ∧ y = .int .i64 q ∧ p ≤ 9223372036854775807 ∧ q ≤ 9223372036854775807 ∧ g = q ∧ Hid (Nat.gcd p q = Nat.gcd a b) ∧ Below w.heap.size w wr)
  case atStart => exact ⟨a, b, rfl, rfl, ha, hb, rfl, Lib.hid rfl, Below.refl _ _⟩
  case round =>
    obtain ⟨p, q, rfl, rfl, hp, hq, rfl, hd, hB⟩ := hrel
    by_cases h0 : 0 < gk
    · have h0' : (0 : Int) < (gk : Int) := by omega
      have hlt : p % gk < gk := Nat.mod_lt _ h0
      have HS : Hid (Nat.gcd gk (p % gk) = Nat.gcd a b) := Lib.hid (by rw [← hd.out, Nat.gcd_comm p gk, Nat.gcd_rec gk p, Nat.gcd_comm])
      clear hd
      go_wp2_with (go_quiet (fail))
      go_roundg (p % gk)
      case rel => exact ⟨gk, p % gk, rfl, by go_num, hq, by omega, rfl, HS, below_drewN hB nq⟩
      case measure => exact hlt
    · have hm0 : gk = 0 := by omega
      subst hm0
      have HE : Hid (Nat.gcd a b = p) := Lib.hid (by rw [← hd.out]; simp)
      clear hd
      go_wp2
      go_ret
      exact ⟨by rw [HE.out]; rfl, hB⟩
end Go.Proofs.YtneafcdfnhnpnaaGreatDoor
/- Plain mathematics of the texts of numbers: what is written is read again. -/
namespace Go.Proofs.YtneafcdfnhnpnaaGreatDoor
open Go.Lib

theorem ofNat_digit {d : Nat} (h : d < 10) : (UInt8.ofNat (48 + d)).toNat = 48 + d := by rw [UInt8.toNat_ofNat']; omega
theorem dec_all (n : Nat) : allDig (decDigits n) := by
  induction n using Nat.strongRecOn with
  | _ n ih =>
    by_cases h : n < 10
    · rw [decDigits_one h]
      intro c hc
      obtain rfl := List.mem_singleton.1 hc
      rw [ofNat_digit h]; omega
    · rw [decDigits_big (by omega)]
      intro c hc
      rcases List.mem_append.1 hc with hc | hc
      · exact ih (n / 10) (by omega) c hc
      · obtain rfl := List.mem_singleton.1 hc
        rw [ofNat_digit (Nat.mod_lt _ (by decide))]; omega
theorem dec_val (n : Nat) : decVal (decDigits n) = n := by
  induction n using Nat.strongRecOn with
  | _ n ih =>
    by_cases h : n < 10
    · rw [decDigits_one h, decVal, decFold_cons, decFold_nil, ofNat_digit h]; omega
    · rw [decDigits_big (by omega), decVal_append, ih (n / 10) (by omega), decVal, decFold_cons, decFold_nil, ofNat_digit (Nat.mod_lt _ (by decide))]
      simp only [List.length_singleton, Nat.pow_one]; omega
theorem dec_ne (n : Nat) : decDigits n ≠ [] := by
  by_cases h : n < 10
  · rw [decDigits_one h]; simp
  · rw [decDigits_big (by omega)]; simp
theorem dec_head {n : Nat} (hn : n ≠ 0) : (decDigits n).head? ≠ some 48 := by
  induction n using Nat.strongRecOn with
  | _ n ih =>
    by_cases h : n < 10
    · rw [decDigits_one h]
      intro e
      have := congrArg UInt8.toNat (Option.some.inj e)
      rw [ofNat_digit h] at this
      have h2 : (48 : UInt8).toNat = 48 := rfl
      omega
    · rw [decDigits_big (by omega), List.head?_append]
      have := ih (n / 10) (by omega) (by omega)
      cases h3 : (decDigits (n / 10)).head? with
      | none => exact absurd (List.head?_eq_none_iff.1 h3) (dec_ne _)
      | some c => rw [h3] at this; simpa using this
theorem dec_num (n : Nat) : Numeral (decDigits n) := by
  refine ⟨dec_all n, ?_⟩
  by_cases h : n = 0
  · subst h; exact .inl (decDigits_one (by decide))
  · exact .inr ⟨dec_ne n, dec_head h⟩
theorem dig_no {l : List UInt8} (h : allDig l) (c : UInt8) (hc : c.toNat < 48 ∨ 57 < c.toNat) : c ∉ l := fun hm => by have := h c hm; omega
theorem numeral_snoc {l : List UInt8} {c : UInt8} (h : Numeral (l ++ [c])) (hl : l ≠ []) : Numeral l ∧ l ≠ [48] := by
  obtain ⟨h1, h2⟩ := h
  have ha : allDig l := fun x hx => h1 x (List.mem_append_left _ hx)
  rcases h2 with h2 | ⟨_, h2⟩
  · have := congrArg List.length h2
    simp at this
    exact absurd (by simpa using this) hl
  · cases l with
    | nil => exact absurd rfl hl
    | cons a t =>
      simp at h2
      exact ⟨⟨ha, .inr ⟨by simp, by simpa using h2⟩⟩, by intro e; injection e with e1 e2; exact h2 e1⟩
/-- a numeral is what is written of its value -/
theorem numeral_dec : ∀ (k : Nat) (l : List UInt8), l.length = k → Numeral l → l = decDigits (decVal l) := by
  intro k
  induction k with
  | zero =>
    intro l hl h
    have := List.length_eq_zero_iff.1 hl
    subst this
    rcases h.2 with h | h
    · cases h
    · exact absurd rfl h.1
  | succ k ih =>
    intro l hl h
    have hne : l ≠ [] := by intro e; rw [e] at hl; simp at hl
    obtain ⟨p, c, rfl⟩ : ∃ p c, l = p ++ [c] := ⟨l.dropLast, l.getLast hne, (List.dropLast_concat_getLast hne).symm⟩
    have hc := h.1 c (by simp)
    obtain ⟨d, hd⟩ : ∃ d, c.toNat = 48 + d := ⟨c.toNat - 48, by omega⟩
    have hcd : c = UInt8.ofNat (48 + d) := by apply UInt8.toNat_inj.1; rw [ofNat_digit (by omega), hd]
    have hv : decVal [c] = d := by rw [decVal, decFold_cons, decFold_nil]; omega
    by_cases hp : p = []
    · subst hp
      rw [List.nil_append, hv, decDigits_one (by omega), hcd]
    · obtain ⟨h3, h4⟩ := numeral_snoc h hp
      have h5 := ih p (by simpa using hl) h3
      have hpos : 0 < decVal p := by
        rcases Nat.eq_zero_or_pos (decVal p) with h6 | h6
        · rw [h6] at h5; exact absurd (h5.trans (decDigits_one (by decide))) h4
        · exact h6
      rw [decVal_append, hv]
      simp only [List.length_singleton, Nat.pow_one]
      rw [decDigits_big (by omega), show (decVal p * 10 + d) / 10 = decVal p from by omega, show (decVal p * 10 + d) % 10 = d from by omega, ← h5, hcd]
theorem slash_none {l : List UInt8} (h : allDig l) : slashAt l = l.length := by
  unfold slashAt
  refine List.findIdx_eq_length.2 fun x hx => ?_
  have := h x hx
  simp only [beq_eq_false_iff_ne]
  rintro rfl
  exact absurd this.1 (by decide)
theorem slash_app {l r : List UInt8} (h : allDig l) : slashAt (l ++ 47 :: r) = l.length := by
  have := slash_none h
  unfold slashAt at this ⊢
  rw [List.findIdx_append, this, if_neg (by omega)]
  rw [List.findIdx_cons]; simp
end Go.Proofs.YtneafcdfnhnpnaaGreatDoor
/- Contracts of the reference: quotients of machine integers. -/
namespace Go.Proofs.YtneafcdfnhnpnaaGreatDoor
open Go.RowKit Go.Lib

/-- a number as its text, from its parts -/
def ptext (neg : Bool) (n d : Nat) : List UInt8 := (if neg then [45] else []) ++ decDigits n ++ (if d = 1 then [] else 47 :: decDigits d)
theorem rtext_low {a : Int} {d : Nat} (hd : d ≠ 0) (hc : Nat.gcd a.natAbs d = 1) : rtext (mkRat a d) = ptext (decide (a < 0)) a.natAbs d := by
  obtain ⟨h1, h2⟩ := mkRat_low hd hc
  unfold rtext ptext
  rw [h1, h2]
  by_cases h : a < 0
  · rw [if_pos h, decide_eq_true h]; rfl
  · rw [if_neg h, decide_eq_false h]; rfl
theorem tdiv_parts (a : Int) (d : Nat) (hd : 0 < d) : ∃ (g n1 d1 : Nat), Nat.gcd a.natAbs d = g ∧ 0 < g ∧ g ≤ d ∧ d / g = d1 ∧ d1 ≤ d ∧ 0 < d1 ∧ n1 ≤ a.natAbs ∧ a.tdiv g = sg (decide (a < 0)) n1 ∧ (a < 0 → 0 < n1) ∧ rtext (mkRat a d) = ptext (decide (a < 0)) n1 d1 := by
  have hg : 0 < Nat.gcd a.natAbs d := Nat.gcd_pos_of_pos_right _ hd
  obtain ⟨n1, hn⟩ := Nat.gcd_dvd_left a.natAbs d
  obtain ⟨d1, hd1⟩ := Nat.gcd_dvd_right a.natAbs d
  generalize hgg : Nat.gcd a.natAbs d = g at *
  have e1 : d / g = d1 := by rw [hd1, Nat.mul_div_cancel_left _ hg]
  have hd10 : 0 < d1 := by rcases Nat.eq_zero_or_pos d1 with h | h; subst h; omega; exact h
  have hd1le : d1 ≤ d := by rw [← e1]; exact Nat.div_le_self _ _
  have hn1 : n1 ≤ a.natAbs := by rw [hn]; exact Nat.le_mul_of_pos_left _ hg
  have hco : Nat.gcd n1 d1 = 1 := by
    have h := hgg
    rw [hn, hd1, Nat.gcd_mul_left] at h
    exact Nat.eq_of_mul_eq_mul_left hg (by rw [h, Nat.mul_one])
  have ha : a = sg (decide (a < 0)) n1 * g := by
    unfold sg
    by_cases h : a < 0
    · rw [if_pos (decide_eq_true h)]
      have : (a.natAbs : Int) = (g : Int) * (n1 : Int) := by rw [hn]; simp
      rw [Int.neg_mul, Int.mul_comm, ← this]; omega
    · rw [if_neg (by simpa using h)]
      have : (a.natAbs : Int) = (g : Int) * (n1 : Int) := by rw [hn]; simp
      rw [Int.mul_comm, ← this]; omega
  have hpos : a < 0 → 0 < n1 := by
    intro h
    rcases Nat.eq_zero_or_pos n1 with h1 | h1
    · rw [h1, Nat.mul_zero] at hn; omega
    · exact h1
  refine ⟨g, n1, d1, rfl, hg, Nat.le_of_dvd hd ⟨d1, hd1⟩, e1, hd1le, hd10, hn1, ?_, hpos, ?_⟩
  · conv => lhs; rw [ha]
    exact Int.mul_tdiv_cancel _ (by omega)
  · have hs : (sg (decide (a < 0)) n1).natAbs = n1 := by unfold sg; split <;> simp
    have hneg : decide (sg (decide (a < 0)) n1 < 0) = decide (a < 0) := by
      unfold sg
      by_cases h : a < 0
      · have := hpos h
        simp [h]; try omega
      · simp [h]; try omega
    have h2 : mkRat a d = mkRat (sg (decide (a < 0)) n1) d1 := by
      rw [show d = g * d1 from hd1]
      conv => lhs; rw [ha, Int.mul_comm]
      exact Rat.mkRat_mul_left (by omega)
    rw [h2, rtext_low (by omega) (by rw [hs]; exact hco), hneg, hs]

set_option maxRecDepth 100000 in
set_option maxHeartbeats 2000000 in
theorem Of_w (a : Int) (d g n n1 d1 : Nat) (neg : Bool) (w : World) (ha : -4000000000000000000 ≤ a ∧ a ≤ 4000000000000000000) (hd0 : (0 : Int) < d) (hd : (d : Int) ≤ 4000000000000000000) (hmx : Hid (max a (-a) = (n : Int))) (hg : Nat.gcd n d = g) (hg0 : (0 : Int) < g) (hgl : (g : Int) ≤ 4000000000000000000)
    (hq : a.tdiv (g : Int) = sg neg n1) (hn1 : (n1 : Int) ≤ 4000000000000000000) (hp : neg = true → (0 : Int) < n1) (hdq : wrap64 ((d : Int) / (g : Int)) = (d1 : Int)) (hd1 : (d1 : Int) ≤ 4000000000000000000) (hd10 : (0 : Int) < d1) :
    Calls Tryz.prog 35 #[.int .i64 a, .int .i64 d] w (ansText (ptext neg n1 d1) w) := by
  have GC := Lib.hid (fun w => gcdR_c n d w (by have := hmx.out; omega) (by omega))
  rw [hg] at GC
  clear hg
  have DN := Lib.hid (fun w => decimal1_c n1 w (by omega))
  have DD := Lib.hid (fun w => decimal1_c d1 w (by omega))
  have hL1 := dec_len (n := n1) (by omega)
  have hL2 := dec_len (n := d1) (by omega)
  cases neg with
  | false =>
    have hq2 : a.tdiv (g : Int) = (n1 : Int) := hq
    clear hq
    clear hp
    by_cases h1 : (1 : Int) < d1
    · have HX : Hid (ptext false n1 d1 = decDigits n1 ++ [47] ++ decDigits d1) := Lib.hid (by unfold ptext; rw [if_neg (by omega : ¬ d1 = 1)]; simp)
      go_enter Tryz.func35, Tryz.ntmps35
      go_wp2_with fail
      rw [hmx.out]
      refine (GC.out _).mono ?_
      clear GC
      rintro e w1 ⟨rfl, hB1⟩
      go_wp2_with (go_quiet (fail))
      have hB1' := below_drewN hB1 nq
      rw [show max ((n1 : Int)) (-(n1 : Int)) = n1 from by omega]
      refine (DN.out _).mono ?_
      clear DN
      rintro e w2 ⟨rfl, hB2⟩
      go_wp2_with fail
      refine (DD.out _).mono ?_
      clear DD
      rintro e w3 ⟨rfl, hB3⟩
      go_wp2
      go_ret
      refine ⟨?_, hB1'.trans ((hB2.mono hB1'.size).trans (hB3.mono (Nat.le_trans hB1'.size hB2.size)))⟩
      rw [HX.out]
      simp [ByteArray.mk_append_mk]
    · have HX : Hid (ptext false n1 d1 = decDigits n1) := Lib.hid (by unfold ptext; rw [if_pos (by omega : d1 = 1)]; simp)
      go_enter Tryz.func35, Tryz.ntmps35
      go_wp2_with fail
      rw [hmx.out]
      refine (GC.out _).mono ?_
      clear GC
      rintro e w1 ⟨rfl, hB1⟩
      go_wp2_with (go_quiet (fail))
      have hB1' := below_drewN hB1 nq
      rw [show max ((n1 : Int)) (-(n1 : Int)) = n1 from by omega]
      refine (DN.out _).mono ?_
      clear DN
      rintro e w2 ⟨rfl, hB2⟩
      go_wp2
      go_ret
      refine ⟨?_, hB1'.trans (hB2.mono hB1'.size)⟩
      rw [HX.out]
      simp [ByteArray.mk_append_mk]
  | true =>
    have hq2 : a.tdiv (g : Int) = -(n1 : Int) := hq
    clear hq
    have hp2 := hp rfl
    clear hp
    by_cases h1 : (1 : Int) < d1
    · have HX : Hid (ptext true n1 d1 = [45] ++ decDigits n1 ++ [47] ++ decDigits d1) := Lib.hid (by unfold ptext; rw [if_neg (by omega : ¬ d1 = 1)]; simp)
      go_enter Tryz.func35, Tryz.ntmps35
      go_wp2_with fail
      rw [hmx.out]
      refine (GC.out _).mono ?_
      clear GC
      rintro e w1 ⟨rfl, hB1⟩
      go_wp2_with (go_quiet (fail))
      have hB1' := below_drewN hB1 nq
      rw [show max (-(n1 : Int)) ((n1 : Int)) = n1 from by omega]
      refine (DN.out _).mono ?_
      clear DN
      rintro e w2 ⟨rfl, hB2⟩
      go_wp2_with fail
      refine (DD.out _).mono ?_
      clear DD
      rintro e w3 ⟨rfl, hB3⟩
      go_wp2
      go_ret
      refine ⟨?_, hB1'.trans ((hB2.mono hB1'.size).trans (hB3.mono (Nat.le_trans hB1'.size hB2.size)))⟩
      rw [HX.out]
      simp [ByteArray.mk_append_mk]
    · have HX : Hid (ptext true n1 d1 = [45] ++ decDigits n1) := Lib.hid (by unfold ptext; rw [if_pos (by omega : d1 = 1)]; simp)
      go_enter Tryz.func35, Tryz.ntmps35
      go_wp2_with fail
      rw [hmx.out]
      refine (GC.out _).mono ?_
      clear GC
      rintro e w1 ⟨rfl, hB1⟩
      go_wp2_with (go_quiet (fail))
      have hB1' := below_drewN hB1 nq
      rw [show max (-(n1 : Int)) ((n1 : Int)) = n1 from by omega]
      refine (DN.out _).mono ?_
      clear DN
      rintro e w2 ⟨rfl, hB2⟩
      go_wp2
      go_ret
      refine ⟨?_, hB1'.trans (hB2.mono hB1'.size)⟩
      rw [HX.out]
      simp [ByteArray.mk_append_mk]
theorem OfR_c (a : Int) (d : Nat) (w : World) (ha : -4000000000000000000 ≤ a ∧ a ≤ 4000000000000000000) (hd0 : 0 < d) (hd : (d : Int) ≤ 4000000000000000000) :
    Calls Tryz.prog 35 #[.int .i64 a, .int .i64 d] w (ansText (rtext (mkRat a d)) w) := by
  obtain ⟨g, n1, d1, h1, h2, h3, h4, h5, h6, h7, h8, h9, h10⟩ := tdiv_parts a d hd0
  rw [h10]
  have e : ((d : Int) / (g : Int)) = (d1 : Int) := by rw [← h4]; rfl
  refine Of_w a d g a.natAbs n1 d1 (decide (a < 0)) w ha (by omega) hd (Lib.hid (by omega)) h1 (by omega) (by omega) h8 (by omega) (fun h => by have := h9 (of_decide_eq_true h); omega) ?_ (by omega) (by omega)
  rw [e]
  exact IntWalk.wrap64_in _ (by omega)
end Go.Proofs.YtneafcdfnhnpnaaGreatDoor
/- Contract of the reference: the parts of short numbers. -/
namespace Go.Proofs.YtneafcdfnhnpnaaGreatDoor
open Go.RowKit Go.Lib

def quickEnd (neg : Bool) (n d : Nat) (w : World) (e : Ending) (w' : World) : Prop := e = .returned (.tuple #[.int .i64 (sg neg n), .int .i64 d, .bool true]) ∧ w = w'
theorem size_of {s : ByteArray} {l : List UInt8} (h : s.data.toList = l) : s.size = l.length := by rw [← h]; simp
theorem ext_of {s : ByteArray} {l : List UInt8} (h : s.data.toList = l) (a b : Nat) : (s.extract a b).data.toList = (l.take b).drop a := by
  rw [← h]; simp [List.drop_take]
theorem first_of {s : ByteArray} {c : UInt8} {l : List UInt8} (h : s.data.toList = c :: l) (h0 : 0 < s.size) : s[0] = c := by
  have := ba_get s 0 h0
  rw [h] at this
  simpa using this.symm
theorem not45 {c : UInt8} (h : 48 ≤ c.toNat ∧ c.toNat ≤ 57) : ((c.toNat : Int) == 45) = false := by simpa using (by omega : ¬ (c.toNat : Int) = 45)
theorem dec_len9 {n : Nat} (h : n < 1000000000) : (decDigits n).length ≤ 9 := by rw [decDigits_length]; exact nDigits_le 8 n h
theorem dec_len0 (n : Nat) : 0 < (decDigits n).length := List.length_pos_iff.2 (dec_ne n)

theorem body_facts {t : ByteArray} {n d : Nat} (ht : t.data.toList = decDigits n ++ 47 :: decDigits d) (hn : n < 1000000000) (hd : d < 1000000000) :
    ∃ k : Nat, (0 : Int) < k ∧ (k : Int) ≤ 9 ∧ (k : Int) + 1 ≤ (t.size : Int) ∧ (k : Int) < (t.size : Int) ∧ (t.size : Int) - k ≤ 10 ∧ t.size ≤ 20 ∧ (∀ w, Calls Tryz.prog 103 #[.string t] w (ansInt k w)) ∧
      (∀ w, Calls Tryz.prog 180 #[.string (t.extract 0 k)] w (ansInt n w)) ∧ (∀ w, Calls Tryz.prog 180 #[.string (t.extract (k + 1) t.size)] w (ansInt d w)) := by
  have hz := size_of ht
  have hl := dec_len9 hn
  have hl0 := dec_len0 n
  have hm := dec_len9 hd
  rw [List.length_append, List.length_cons] at hz
  refine ⟨(decDigits n).length, by omega, by omega, by omega, by omega, by omega, by omega, fun w => ?_, fun w => ?_, fun w => ?_⟩
  · have h := slash_c t w (by omega)
    rw [ht, slash_app (dec_all n)] at h; exact h
  · have e : (t.extract 0 (decDigits n).length).data.toList = decDigits n := by rw [ext_of ht]; simp
    have h := value_c (t.extract 0 (decDigits n).length) w (by rw [size_of e]; omega) (by rw [e]; exact dec_all n)
    rw [e, dec_val] at h; exact h
  · have e : (t.extract ((decDigits n).length + 1) t.size).data.toList = decDigits d := by
      rw [ext_of ht, List.take_of_length_le (by rw [List.length_append, List.length_cons]; omega), List.drop_append]; simp
    have h := value_c (t.extract ((decDigits n).length + 1) t.size) w (by rw [size_of e]; omega) (by rw [e]; exact dec_all d)
    rw [e, dec_val] at h; exact h
theorem whole_facts {t : ByteArray} {n : Nat} (ht : t.data.toList = decDigits n) (hn : n < 1000000000) :
    (0 : Int) < t.size ∧ (t.size : Int) ≤ 9 ∧ (∀ w, Calls Tryz.prog 103 #[.string t] w (ansInt t.size w)) ∧ (∀ w, Calls Tryz.prog 180 #[.string t] w (ansInt n w)) := by
  have hz := size_of ht
  have hl := dec_len9 hn
  have hl0 := dec_len0 n
  refine ⟨by omega, by omega, fun w => ?_, fun w => ?_⟩
  · have h := slash_c t w (by omega)
    rw [ht, slash_none (dec_all n), ← hz] at h; exact h
  · have h := value_c t w (by omega) (by rw [ht]; exact dec_all n)
    rw [ht, dec_val] at h; exact h
theorem head_dec {s : ByteArray} {n : Nat} {r : List UInt8} (hs : s.data.toList = decDigits n ++ r) : ∃ h : 0 < s.size, (((s[0]'h).toNat : Int) == 45) = false := by
  have hz := size_of hs
  have hl0 := dec_len0 n
  rw [List.length_append] at hz
  have h0 : 0 < s.size := by omega
  have hge := ba_get s 0 h0
  refine ⟨h0, not45 (dec_all n _ ?_)⟩
  rw [hs, List.getElem?_append_left hl0] at hge
  exact List.mem_of_getElem? hge

set_option maxRecDepth 100000 in
set_option maxHeartbeats 2000000 in
theorem quick_pw (s : ByteArray) (n : Nat) (w : World) (hs : s.data.toList = decDigits n) (hn : n < 1000000000) :
    Calls Tryz.prog 116 #[.string s] w (quickEnd false n 1 w) := by
  have HN := Lib.hid hn
  clear hn
  have hb := hs
  obtain ⟨h0, hc⟩ := head_dec (n := n) (r := []) (by rw [hs]; simp)
  obtain ⟨k0, k9, k5, k6⟩ := whole_facts hb HN.out
  have SL := Lib.hid k5
  have V1 := Lib.hid k6
  clear k5 k6
  have hz20 : (s.size : Int) ≤ 20 := by omega
  have hz0 : (0 : Int) < (s.size : Int) := by omega
  clear hs hb
  have HNL : (n : Int) ≤ 4000000000000000000 := by have := HN.out; omega
  go_enter Tryz.func116, Tryz.ntmps116
  go_wp2_with fail
  refine (SL.out _).mono ?_
  rintro e w1 ⟨rfl, rfl⟩
  go_wp2_with fail
  refine (V1.out _).mono ?_
  rintro e w1 ⟨rfl, rfl⟩
  go_wp2
  go_ret3
  exact ⟨rfl, rfl⟩
set_option maxRecDepth 100000 in
set_option maxHeartbeats 2000000 in
theorem quick_pf (s : ByteArray) (n d : Nat) (w : World) (hs : s.data.toList = decDigits n ++ 47 :: decDigits d) (hn : n < 1000000000) (hd : d < 1000000000) :
    Calls Tryz.prog 116 #[.string s] w (quickEnd false n d w) := by
  have HN := Lib.hid hn
  clear hn
  have HD := Lib.hid hd
  clear hd
  have hb := hs
  obtain ⟨h0, hc⟩ := head_dec (r := 47 :: decDigits d) (by rw [hs])
  obtain ⟨k, k0, k9, k1, k2, k3, k4, k5, k6, k7⟩ := body_facts hb HN.out HD.out
  have SL := Lib.hid k5
  have V1 := Lib.hid k6
  have V2 := Lib.hid k7
  clear k5 k6 k7
  have hz20 : (s.size : Int) ≤ 20 := by omega
  have hz0 : (0 : Int) < (s.size : Int) := by omega
  clear hs hb
  have HNL : (n : Int) ≤ 4000000000000000000 := by have := HN.out; omega
  go_enter Tryz.func116, Tryz.ntmps116
  go_wp2_with fail
  refine (SL.out _).mono ?_
  rintro e w1 ⟨rfl, rfl⟩
  go_wp2_with fail
  refine (V1.out _).mono ?_
  rintro e w1 ⟨rfl, rfl⟩
  go_wp2_with fail
  refine (V2.out _).mono ?_
  rintro e w1 ⟨rfl, rfl⟩
  go_wp2
  go_ret3
  exact ⟨rfl, rfl⟩
set_option maxRecDepth 100000 in
set_option maxHeartbeats 2000000 in
theorem quick_nw (s : ByteArray) (n : Nat) (w : World) (hs : s.data.toList = 45 :: (decDigits n)) (hn : n < 1000000000) :
    Calls Tryz.prog 116 #[.string s] w (quickEnd true n 1 w) := by
  have HN := Lib.hid hn
  clear hn
  obtain ⟨t, ht⟩ : ∃ t, s.extract 1 s.size = t := ⟨_, rfl⟩
  have hb : t.data.toList = decDigits n := by rw [← ht, ext_of hs, size_of hs, List.take_of_length_le (Nat.le_refl _)]; rfl
  have HTE := Lib.hid ht
  clear ht
  have hsz : s.size = t.size + 1 := by rw [size_of hs, size_of hb]; rfl
  have h0 : 0 < s.size := by omega
  have hc : (((s[0]).toNat : Int) == 45) = true := by rw [first_of hs h0]; rfl
  obtain ⟨k0, k9, k5, k6⟩ := whole_facts hb HN.out
  have SL := Lib.hid k5
  have V1 := Lib.hid k6
  clear k5 k6
  have hz20 : (s.size : Int) ≤ 20 := by omega
  have hz0 : (0 : Int) < (s.size : Int) := by omega
  have hz1 : (1 : Int) ≤ (s.size : Int) := by omega
  clear hsz
  clear hs hb
  have HNL : (n : Int) ≤ 4000000000000000000 := by have := HN.out; omega
  go_enter Tryz.func116, Tryz.ntmps116
  go_wp2_with fail
  rw [HTE.out]
  clear HTE
  refine (SL.out _).mono ?_
  rintro e w1 ⟨rfl, rfl⟩
  go_wp2_with fail
  refine (V1.out _).mono ?_
  rintro e w1 ⟨rfl, rfl⟩
  go_wp2
  go_ret3
  exact ⟨rfl, rfl⟩
set_option maxRecDepth 100000 in
set_option maxHeartbeats 2000000 in
theorem quick_nf (s : ByteArray) (n d : Nat) (w : World) (hs : s.data.toList = 45 :: (decDigits n ++ 47 :: decDigits d)) (hn : n < 1000000000) (hd : d < 1000000000) :
    Calls Tryz.prog 116 #[.string s] w (quickEnd true n d w) := by
  have HN := Lib.hid hn
  clear hn
  have HD := Lib.hid hd
  clear hd
  obtain ⟨t, ht⟩ : ∃ t, s.extract 1 s.size = t := ⟨_, rfl⟩
  have hb : t.data.toList = decDigits n ++ 47 :: decDigits d := by rw [← ht, ext_of hs, size_of hs, List.take_of_length_le (Nat.le_refl _)]; rfl
  have HTE := Lib.hid ht
  clear ht
  have hsz : s.size = t.size + 1 := by rw [size_of hs, size_of hb]; rfl
  have h0 : 0 < s.size := by omega
  have hc : (((s[0]).toNat : Int) == 45) = true := by rw [first_of hs h0]; rfl
  obtain ⟨k, k0, k9, k1, k2, k3, k4, k5, k6, k7⟩ := body_facts hb HN.out HD.out
  have SL := Lib.hid k5
  have V1 := Lib.hid k6
  have V2 := Lib.hid k7
  clear k5 k6 k7
  have hz20 : (s.size : Int) ≤ 20 := by omega
  have hz0 : (0 : Int) < (s.size : Int) := by omega
  have hz1 : (1 : Int) ≤ (s.size : Int) := by omega
  clear hsz
  clear hs hb
  have HNL : (n : Int) ≤ 4000000000000000000 := by have := HN.out; omega
  go_enter Tryz.func116, Tryz.ntmps116
  go_wp2_with fail
  rw [HTE.out]
  clear HTE
  refine (SL.out _).mono ?_
  rintro e w1 ⟨rfl, rfl⟩
  go_wp2_with fail
  refine (V1.out _).mono ?_
  rintro e w1 ⟨rfl, rfl⟩
  go_wp2_with fail
  refine (V2.out _).mono ?_
  rintro e w1 ⟨rfl, rfl⟩
  go_wp2
  go_ret3
  exact ⟨rfl, rfl⟩
/-- a number of at most nine digits above and below -/
def Short9 (q : Rat) : Prop := q.num.natAbs < 1000000000 ∧ q.den < 1000000000
theorem quick_c (q : Rat) (w : World) (h : Short9 q) :
    Calls Tryz.prog 116 #[.string ⟨(rtext q).toArray⟩] w (fun e w' => e = .returned (.tuple #[.int .i64 q.num, .int .i64 (q.den : Int), .bool true]) ∧ w = w') := by
  obtain ⟨h1, h2⟩ := h
  by_cases hn : q.num < 0
  · have e : sg true q.num.natAbs = q.num := by unfold sg; rw [if_pos rfl]; omega
    by_cases hd : q.den = 1
    · have h := quick_nw ⟨(rtext q).toArray⟩ q.num.natAbs w (by unfold rtext; rw [if_pos hn, if_pos hd]; simp) h1
      unfold quickEnd at h
      rw [e] at h; rw [hd]; exact h
    · have h := quick_nf ⟨(rtext q).toArray⟩ q.num.natAbs q.den w (by unfold rtext; rw [if_pos hn, if_neg hd]; simp) h1 h2
      unfold quickEnd at h
      rw [e] at h; exact h
  · have e : sg false q.num.natAbs = q.num := by unfold sg; rw [if_neg (by decide)]; omega
    by_cases hd : q.den = 1
    · have h := quick_pw ⟨(rtext q).toArray⟩ q.num.natAbs w (by unfold rtext; rw [if_neg hn, if_pos hd]; simp) h1
      unfold quickEnd at h
      rw [e] at h; rw [hd]; exact h
    · have h := quick_pf ⟨(rtext q).toArray⟩ q.num.natAbs q.den w (by unfold rtext; rw [if_neg hn, if_neg hd]; simp) h1 h2
      unfold quickEnd at h
      rw [e] at h; exact h
end Go.Proofs.YtneafcdfnhnpnaaGreatDoor
/- Contracts of the reference: sums and products of short numbers. -/
namespace Go.Proofs.YtneafcdfnhnpnaaGreatDoor
open Go.RowKit Go.Lib

theorem prod_bound {a b : Int} (ha : a.natAbs < 1000000000) (hb : b.natAbs < 1000000000) : -1000000000000000000 ≤ a * b ∧ a * b ≤ 1000000000000000000 := by
  have h : (a * b).natAbs ≤ 1000000000 * 1000000000 := by
    rw [Int.natAbs_mul]
    exact Nat.mul_le_mul (Nat.le_of_lt ha) (Nat.le_of_lt hb)
  omega
theorem nat_bound {a b : Nat} (ha : a < 1000000000) (hb : b < 1000000000) : a * b ≤ 1000000000000000000 :=
  Nat.le_trans (Nat.mul_le_mul (Nat.le_of_lt ha) (Nat.le_of_lt hb)) (by decide)
def quickAns (n : Int) (d : Int) (w : World) (e : Ending) (w' : World) : Prop := e = .returned (.tuple #[.int .i64 n, .int .i64 d, .bool true]) ∧ w = w'

set_option maxRecDepth 100000 in
set_option maxHeartbeats 2000000 in
theorem Add_w (s t : ByteArray) (l : List UInt8) (n d m e X1 X2 X3 : Int) (w : World) (hs : Hid (∀ w, Calls Tryz.prog 116 #[.string s] w (quickAns n d w))) (ht : Hid (∀ w, Calls Tryz.prog 116 #[.string t] w (quickAns m e w)))
    (h1 : wrap64 (n * e) = X1) (h2 : wrap64 (m * d) = X2) (h3 : wrap64 (d * e) = X3) (b1 : -1000000000000000000 ≤ X1 ∧ X1 ≤ 1000000000000000000) (b2 : -1000000000000000000 ≤ X2 ∧ X2 ≤ 1000000000000000000)
    (hO : Hid (∀ w, Calls Tryz.prog 35 #[.int .i64 (X1 + X2), .int .i64 X3] w (ansText l w))) :
    Calls Tryz.prog 26 #[.string s, .string t] w (ansText l w) := by
  go_enter Tryz.func26, Tryz.ntmps26
  go_wp2_with fail
  refine (hs.out _).mono ?_
  rintro e1 w1 ⟨rfl, rfl⟩
  go_wp2_with fail
  refine (ht.out _).mono ?_
  rintro e1 w1 ⟨rfl, rfl⟩
  go_wp2_with fail
  refine (hO.out _).mono ?_
  rintro e1 w1 ⟨rfl, hB⟩
  go_wp2
  go_ret
  exact ⟨rfl, hB⟩
set_option maxRecDepth 100000 in
set_option maxHeartbeats 2000000 in
theorem Mul_w (s t : ByteArray) (l : List UInt8) (n d m e X1 X3 : Int) (w : World) (hs : Hid (∀ w, Calls Tryz.prog 116 #[.string s] w (quickAns n d w))) (ht : Hid (∀ w, Calls Tryz.prog 116 #[.string t] w (quickAns m e w)))
    (h1 : wrap64 (n * m) = X1) (h3 : wrap64 (d * e) = X3)
    (hO : Hid (∀ w, Calls Tryz.prog 35 #[.int .i64 X1, .int .i64 X3] w (ansText l w))) :
    Calls Tryz.prog 28 #[.string s, .string t] w (ansText l w) := by
  go_enter Tryz.func28, Tryz.ntmps28
  go_wp2_with fail
  refine (hs.out _).mono ?_
  rintro e1 w1 ⟨rfl, rfl⟩
  go_wp2_with fail
  refine (ht.out _).mono ?_
  rintro e1 w1 ⟨rfl, rfl⟩
  go_wp2_with fail
  refine (hO.out _).mono ?_
  rintro e1 w1 ⟨rfl, hB⟩
  go_wp2
  go_ret
  exact ⟨rfl, hB⟩
theorem Add_c (p q : Rat) (w : World) (hp : Short9 p) (hq : Short9 q) :
    Calls Tryz.prog 26 #[.string ⟨(rtext p).toArray⟩, .string ⟨(rtext q).toArray⟩] w (ansText (rtext (p + q)) w) := by
  have e1 := prod_bound (a := p.num) (b := (q.den : Int)) hp.1 hq.2
  have e2 := prod_bound (a := q.num) (b := (p.den : Int)) hq.1 hp.2
  have e3 := nat_bound hp.2 hq.2
  have hdp := Nat.mul_pos p.den_pos q.den_pos
  refine Add_w _ _ _ p.num p.den q.num q.den (p.num * q.den) (q.num * p.den) ((p.den * q.den : Nat) : Int) w (Lib.hid fun w => quick_c p w hp) (Lib.hid fun w => quick_c q w hq)
    (IntWalk.wrap64_in _ (by omega)) (IntWalk.wrap64_in _ (by omega)) (by rw [← Int.natCast_mul]; exact IntWalk.wrap64_in _ (by omega)) e1 e2 (Lib.hid fun w => ?_)
  have h := OfR_c (p.num * q.den + q.num * p.den) (p.den * q.den) w (by omega) hdp (by omega)
  rw [← Rat.add_def'] at h
  exact h
theorem Mul_c (p q : Rat) (w : World) (hp : Short9 p) (hq : Short9 q) :
    Calls Tryz.prog 28 #[.string ⟨(rtext p).toArray⟩, .string ⟨(rtext q).toArray⟩] w (ansText (rtext (p * q)) w) := by
  have e1 := prod_bound (a := p.num) (b := q.num) hp.1 hq.1
  have e3 := nat_bound hp.2 hq.2
  have hdp := Nat.mul_pos p.den_pos q.den_pos
  refine Mul_w _ _ _ p.num p.den q.num q.den (p.num * q.num) ((p.den * q.den : Nat) : Int) w (Lib.hid fun w => quick_c p w hp) (Lib.hid fun w => quick_c q w hq)
    (IntWalk.wrap64_in _ (by omega)) (by rw [← Int.natCast_mul]; exact IntWalk.wrap64_in _ (by omega)) (Lib.hid fun w => ?_)
  have h := OfR_c (p.num * q.num) (p.den * q.den) w (by omega) hdp (by omega)
  rw [← Rat.mul_def'] at h
  exact h
end Go.Proofs.YtneafcdfnhnpnaaGreatDoor
/- The reference's integers: digits to the base 10^9; contracts of trim and signed. -/
namespace Go.Proofs.YtneafcdfnhnpnaaGreatDoor
open Go.RowKit Go.Lib

/-- one more than the greatest digit -/
abbrev B9 : Nat := 1000000000
def bval : List Nat → Nat
  | [] => 0
  | x :: r => x + B9 * bval r
def bok (ws : List Nat) : Prop := ∀ x ∈ ws, x < B9
theorem bok_nil : bok [] := fun x hx => by simp at hx
theorem bok_append {a b : List Nat} : bok (a ++ b) ↔ bok a ∧ bok b := by
  unfold bok; simp only [List.mem_append]
  exact ⟨fun h => ⟨fun x hx => h x (.inl hx), fun x hx => h x (.inr hx)⟩, fun h x hx => hx.elim (h.1 x) (h.2 x)⟩
theorem bok_single {x : Nat} : bok [x] ↔ x < B9 := by unfold bok; simp
theorem bok_take {ws : List Nat} (h : bok ws) (k : Nat) : bok (ws.take k) := fun x hx => h x (List.mem_of_mem_take hx)
theorem bok_get {ws : List Nat} (h : bok ws) (k : Nat) : ws[k]?.getD 0 < B9 := by
  rcases Nat.lt_or_ge k ws.length with hk | hk
  · rw [List.getElem?_eq_getElem hk]; exact h _ (List.getElem_mem hk)
  · rw [List.getElem?_eq_none hk]; decide
theorem bval_append (a b : List Nat) : bval (a ++ b) = bval a + B9 ^ a.length * bval b := by
  induction a with
  | nil => simp [bval]
  | cons x r ih =>
    simp only [List.cons_append, bval, ih, List.length_cons, Nat.pow_succ]
    rw [Nat.mul_add, ← Nat.mul_assoc, Nat.mul_comm B9 (_ ^ _), Nat.add_assoc]
theorem bval_concat (l : List Nat) (x : Nat) : bval (l ++ [x]) = bval l + B9 ^ l.length * x := by rw [bval_append]; simp [bval]
theorem btrim_val (ws : List Nat) : bval (wtrim ws) = bval ws := by
  refine snoc_ind (P := fun ws => bval (wtrim ws) = bval ws) rfl (fun l x ih => ?_) ws
  by_cases h : x = 0
  · subst h; rw [wtrim_concat_zero, ih, bval_append]; simp [bval]
  · rw [wtrim_concat l x h]
theorem btrim_ok {ws : List Nat} (h : bok ws) : bok (wtrim ws) := by
  intro x hx
  apply h
  unfold wtrim at hx
  rw [List.mem_reverse] at hx
  exact List.mem_reverse.1 ((List.dropWhile_sublist _).mem hx)
theorem bval_lt {ws : List Nat} (h : bok ws) : bval ws < B9 ^ ws.length := by
  induction ws with
  | nil => simp [bval]
  | cons x r ih =>
    have hx := h x (by simp)
    have hr := ih (fun y hy => h y (by simp [hy]))
    simp only [bval, List.length_cons, Nat.pow_succ]
    have : B9 * (bval r + 1) ≤ B9 * B9 ^ r.length := Nat.mul_le_mul_left _ hr
    rw [Nat.mul_comm (_ ^ _) B9]
    rw [Nat.mul_add, Nat.mul_one] at this
    omega
theorem bnorm_last {ws : List Nat} (h : wnorm ws) (hne : ws ≠ []) : B9 ^ (ws.length - 1) ≤ bval ws := by
  revert h hne
  refine snoc_ind (P := fun ws => wnorm ws → ws ≠ [] → B9 ^ (ws.length - 1) ≤ bval ws) (fun _ h => absurd rfl h) (fun l x _ h _ => ?_) ws
  by_cases hx : x = 0
  · subst hx
    unfold wnorm at h
    rw [wtrim_concat_zero] at h
    have := wtrim_length_le l
    rw [h] at this
    simp at this
    omega
  · rw [bval_concat]
    have : B9 ^ l.length * 1 ≤ B9 ^ l.length * x := Nat.mul_le_mul_left _ (by omega)
    simp; omega
theorem bnorm_pos {ws : List Nat} (h : wnorm ws) : bval ws = 0 ↔ ws = [] := by
  constructor
  · intro h0
    rcases List.eq_nil_or_concat ws with rfl | ⟨l, x, rfl⟩
    · rfl
    · have := bnorm_last h (by simp)
      have hp : 0 < B9 ^ ((l.concat x).length - 1) := Nat.pow_pos (by decide)
      omega
  · rintro rfl; rfl
theorem ncells_length (ws : List Nat) : (ncells ws).length = ws.length := by simp [ncells]
theorem ncells_get (ws : List Nat) (k : Nat) (h : k < ws.length) : (ncells ws)[k]? = some (Value.int .i64 ((ws[k]?.getD 0 : Nat) : Int)) := by
  simp [ncells, h]
theorem ncells_take (ws : List Nat) (k : Nat) : (ncells ws).take k = ncells (ws.take k) := by simp [ncells]

theorem SlW.take {w : World} {A : Option Addr} {n c k : Nat} {xs : List Value} (h : SlW w (.slice A n c) xs) (hk : k ≤ xs.length) : SlW w (.slice A k c) (xs.take k) := by
  obtain ⟨A', c', hv, h1, h2, h3⟩ := h
  obtain ⟨rfl, rfl, rfl⟩ : A = A' ∧ n = xs.length ∧ c = c' := by simpa using hv
  have hl : (xs.take k).length = k := by rw [List.length_take]; omega
  refine ⟨A, c, by rw [hl], by omega, by omega, fun hn => ?_⟩
  obtain ⟨b, off, hA, hb, hc⟩ := h3 (by omega)
  refine ⟨b, off, hA, hb, fun j hj => ?_⟩
  rw [hc j (by omega), List.getElem?_take, if_pos (by omega)]
set_option maxHeartbeats 1000000 in
theorem trimR_c (A : Option Addr) (c : Nat) (ws : List Nat) (w : World) (hv : SlW w (.slice A ws.length c) (ncells ws)) :
    Calls Tryz.prog 226 #[.slice A ws.length c] w fun e w' => e = .returned (.slice A (wtrim ws).length c) ∧ SlW w (.slice A (wtrim ws).length c) (ncells (wtrim ws)) ∧ w = w' := by
  have hc := hv.form
  obtain ⟨A0, c0, hv0, hc1, hc2⟩ := hc
  rw [ncells_length] at hc1 hc2 hv0
  obtain ⟨rfl, rfl⟩ : A = A0 ∧ c = c0 := by simpa using hv0
  clear hv0
  go_enter Tryz.func226, Tryz.ntmps226
  go_wp2
  go_loopg [0] ws.length (fun g u wr => ∃ k : Nat, u = .slice A k c ∧ k ≤ ws.length ∧ g = k ∧ Hid (wtrim (ws.take k) = wtrim ws) ∧ wr = w)
  case atStart => exact ⟨ws.length, rfl, by omega, rfl, Lib.hid (by simp), rfl⟩
  case round =>
    obtain ⟨k, rfl, hk, rfl, hf, rfl⟩ := hrel
    by_cases h0 : 0 < gk
    · obtain ⟨j, rfl⟩ : ∃ j, gk = j + 1 := ⟨gk - 1, by omega⟩
      obtain ⟨b, off, rfl, hb, hcell⟩ := hv.at_ (k := j) (by rw [ncells_length]; omega)
      have hck := hcell j (by rw [ncells_length]; omega)
      rw [ncells_get ws j (by omega)] at hck
      have Ht := Lib.hid (take_succ_nat ws j (by omega))
      generalize hx : ws[j]?.getD 0 = x at hck Ht
      clear hx hcell
      by_cases hz : x = 0
      · subst hz
        have HS : Hid (wtrim (ws.take j) = wtrim ws) := Lib.hid (by rw [← hf.out, Ht.out, wtrim_concat_zero])
        clear hf Ht
        go_wp2
        go_roundg j
        case rel => exact ⟨j, rfl, by omega, rfl, HS, rfl⟩
        case measure => omega
      · have hz' : (((x : Nat) : Int) == 0) = false := by simpa using hz
        have hlen : wtrim ws = ws.take (j + 1) := by rw [← hf.out, Ht.out, wtrim_concat _ _ hz]
        have hsl := hv.take (k := j + 1) (by rw [ncells_length]; omega)
        rw [ncells_take, ← hlen] at hsl
        have hn : (wtrim ws).length = j + 1 := by rw [hlen]; simp; omega
        have Hn := Lib.hid hn; clear hn
        have HSL := Lib.hid hsl
        clear hlen hsl hf Ht hz
        go_wp2
        go_ret
        refine ⟨by rw [Hn.out]; rfl, by rw [Hn.out]; exact HSL.out, rfl⟩
    · have : gk = 0 := by omega
      subst this
      have hn : wtrim ws = [] := by rw [← hf.out]; rfl
      have Hn := Lib.hid hn; clear hn
      have HSL := Lib.hid (hv.take (k := 0) (by omega))
      clear hf
      go_wp2
      go_ret
      refine ⟨by rw [Hn.out]; rfl, by rw [Hn.out]; exact HSL.out, rfl⟩
/-- the value is an integer of the reference -/
def Ri (w : World) (v : Value) (x : Int) : Prop := ∃ dv ws, v = .agg #[.bool (decide (x < 0)), dv] ∧ bval ws = x.natAbs ∧ bok ws ∧ wnorm ws ∧ SlW w dv (ncells ws)
theorem Ri.below {w w' : World} {v : Value} {x : Int} (h : Ri w v x) (hb : Below w.heap.size w w') : Ri w' v x := by
  obtain ⟨dv, ws, h1, h2, h3, h4, h5⟩ := h
  exact ⟨dv, ws, h1, h2, h3, h4, h5.below hb⟩
theorem sg_natAbs (neg : Bool) (n : Nat) : (sg neg n).natAbs = n := by unfold sg; split <;> simp
theorem sg_neg (neg : Bool) (n : Nat) : decide (sg neg n < 0) = (neg && decide (0 < n)) := by
  unfold sg
  cases neg
  · simp
  · simp
theorem wtrim_take (ws : List Nat) : wtrim ws = ws.take (wtrim ws).length := by
  refine snoc_ind (P := fun ws => wtrim ws = ws.take (wtrim ws).length) rfl (fun l x ih => ?_) ws
  by_cases h : x = 0
  · subst h
    rw [wtrim_concat_zero, List.take_append_of_le_length (wtrim_length_le l)]
    exact ih
  · rw [wtrim_concat l x h, List.take_of_length_le (Nat.le_refl _)]
theorem new2 (w : World) (t : TypeId) (a b : Value) : (w.alloc (.cells #[a, b] t)).cell? ⟨w.heap.size, 0, none⟩ = some a ∧ (w.alloc (.cells #[a, b] t)).cell? ⟨w.heap.size, 1, none⟩ = some b := by
  constructor <;> rw [World.cell?_alloc_at _ _ _ _ rfl] <;> rfl
def riPost (x : Int) (w : World) (e : Ending) (w' : World) : Prop := ∃ v, e = .returned v ∧ Ri w' v x ∧ Below w.heap.size w w'
set_option maxRecDepth 100000 in
set_option maxHeartbeats 2000000 in
theorem signed_c (neg : Bool) (dv : Value) (ws : List Nat) (w : World) (hok : bok ws) (hv : SlW w dv (ncells ws)) :
    Calls Tryz.prog 183 #[.bool neg, dv] w (riPost (sg neg (bval ws)) w) := by
  obtain ⟨A, c, rfl, hc1, hc2⟩ := hv.form
  rw [ncells_length] at *
  have HV := Lib.hid hv
  clear hv
  have HOK := Lib.hid hok
  clear hok
  have HS : Hid (SlW w (.slice A (wtrim ws).length c) (ncells (wtrim ws))) := Lib.hid (by
    have h := HV.out.take (k := (wtrim ws).length) (by rw [ncells_length]; exact wtrim_length_le ws)
    rw [ncells_take, ← wtrim_take] at h; exact h)
  have HP : Hid (decide (0 < bval ws) = decide (0 < (wtrim ws).length)) := Lib.hid (by
    rw [← btrim_val]
    have := bnorm_pos (wtrim_norm ws)
    cases h : wtrim ws with
    | nil => rfl
    | cons a r =>
      have h1 : bval (a :: r) ≠ 0 := fun e => by rw [← h] at e; have := this.1 e; rw [h] at this; cases this
      simp; omega)
  have HF : Hid (∀ b : Bool, b = (neg && decide (0 < (wtrim ws).length)) → riPost (sg neg (bval ws)) w (.returned (.agg #[.bool b, .slice A (wtrim ws).length c])) (w.alloc (.cells #[.bool b, .slice A (wtrim ws).length c] 127))) := Lib.hid (fun b hb => by
    have hB : Below w.heap.size w (w.alloc (.cells #[.bool b, .slice A (wtrim ws).length c] 127)) := (Below.refl _ _).alloc (Nat.le_refl _) _
    exact ⟨_, rfl, ⟨_, wtrim ws, by rw [sg_neg, HP.out, hb], by rw [sg_natAbs, btrim_val], btrim_ok HOK.out, wtrim_norm ws, HS.out.below hB⟩, hB⟩)
  have HL := Lib.hid (wtrim_length_le ws)
  go_enter Tryz.func183, Tryz.ntmps183
  go_wp2_with fail
  refine (trimR_c A c ws _ (HV.out.below ((Below.refl _ _).alloc (Nat.le_refl _) _))).mono ?_
  rintro e w1 ⟨rfl, hs, rfl⟩
  clear hs
  cases neg with
  | true =>
    go_wp2
    obtain ⟨z0, z1⟩ := new2 w 127 (.bool (decide (0 < (wtrim ws).length))) (.slice A (wtrim ws).length c)
    exact bodyPost_ret (v := .agg #[.bool (decide (0 < (wtrim ws).length)), .slice A (wtrim ws).length c]) (by simp [results, Tryz.results183, go_sem, z0, z1]) rfl (HF.out _ (by simp))
  | false =>
    go_wp2
    obtain ⟨z0, z1⟩ := new2 w 127 (.bool false) (.slice A (wtrim ws).length c)
    exact bodyPost_ret (v := .agg #[.bool false, .slice A (wtrim ws).length c]) (by simp [results, Tryz.results183, go_sem, z0, z1]) rfl (HF.out _ (by simp))
end Go.Proofs.YtneafcdfnhnpnaaGreatDoor
/- Contracts of the reference: integers from machine integers. -/
namespace Go.Proofs.YtneafcdfnhnpnaaGreatDoor
open Go.RowKit Go.Lib

theorem SlW.putN {w : World} {dv : Value} {ws : List Nat} {g i : Nat} {t : TypeId} {cs : List Value} (h : SlW w dv (ncells ws)) (hO : Own w g t cs) (hc : ∀ c ∈ cs, NoInt c) (u : Value) : SlW (w.setCell ⟨g, i, none⟩ u) dv (ncells ws) := by
  obtain ⟨A, c, hv, h4, h5, h7⟩ := h
  refine ⟨A, c, hv, h4, h5, fun hn => ?_⟩
  obtain ⟨b, off, hA, hb, hcell⟩ := h7 hn
  refine ⟨b, off, hA, by simpa using hb, fun j hj0 => ?_⟩
  have hj := hcell j hj0
  have hne : b ≠ g := by
    rintro rfl
    rw [hO.cell, List.getElem?_eq_getElem hj0] at hj
    have hm := hc _ (List.mem_of_getElem? hj)
    obtain ⟨y, _, hy⟩ := List.mem_map.1 (List.getElem_mem hj0)
    exact hm _ _ hy.symm
  rw [World.cell?_setCell_other _ _ _ _ (by intro e; injection e with e1; exact hne e1.symm)]
  exact hj
theorem Ri.put2 {w : World} {v : Value} {x : Int} {g : Nat} {t : TypeId} {a b a' b' : Value} (h : Ri w v x) (hO : Own w g t [a, b]) (ha : NoInt a) (hb : NoInt b) (ha' : NoInt a') :
    Ri ((w.setCell ⟨g, 0, none⟩ a').setCell ⟨g, 1, none⟩ b') v x := by
  obtain ⟨dv, ws, h1, h2, h3, h4, h5⟩ := h
  have k1 := h5.putN (i := 0) hO (by simp only [List.mem_cons, List.not_mem_nil, or_false]; rintro c (rfl | rfl) <;> assumption) a'
  have hO1 := hO.put 0 a'
  exact ⟨dv, ws, h1, h2, h3, h4, k1.putN (i := 1) hO1 (by simp only [List.set, List.mem_cons, List.not_mem_nil, or_false]; rintro c (rfl | rfl) <;> assumption) b'⟩
theorem Own.two {w : World} {g : Nat} {t : TypeId} {a b : Value} (h : Own w g t [a, b]) :
    w.cell? ⟨g, 0, none⟩ = some a ∧ w.cell? ⟨g, 1, none⟩ = some b ∧ w.frozen? ⟨g, 0, none⟩ = false ∧ w.frozen? ⟨g, 1, none⟩ = false :=
  ⟨h.cell 0, h.cell 1, h.free 0, h.free 1⟩
theorem Own.set2 {w : World} {g : Nat} {t : TypeId} {a b a' b' : Value} (h : Own w g t [a, b]) : Own ((w.setCell ⟨g, 0, none⟩ a').setCell ⟨g, 1, none⟩ b') g t [a', b'] := (h.put 0 a').put 1 b'
/-- an integer's struct is a bool and a slice -/
theorem Ri.open_ {w : World} {v : Value} {x : Int} (h : Ri w v x) : ∃ A n c, v = .agg #[.bool (decide (x < 0)), .slice A n c] ∧ n ≤ c ∧ n ≤ 140737488355328 := by
  obtain ⟨dv, ws, h1, h2, h3, h4, h5⟩ := h
  obtain ⟨A, c, rfl, hc1, hc2⟩ := h5.form
  exact ⟨A, _, c, h1, hc1, hc2⟩
/-- digits that are split off, and what is left -/
def WInv (N m : Nat) (ws : List Nat) : Prop := bval ws + B9 ^ ws.length * m = N ∧ bok ws
theorem WInv.step {N m : Nat} {ws : List Nat} (h : WInv N m ws) : WInv N (m / 1000000000) (ws ++ [m % 1000000000]) := by
  obtain ⟨h1, h2⟩ := h
  refine ⟨?_, bok_append.2 ⟨h2, bok_single.2 (Nat.mod_lt _ (by decide))⟩⟩
  rw [bval_concat, List.length_append, List.length_singleton, Nat.pow_succ, Nat.mul_assoc, Nat.add_assoc, ← Nat.mul_add, Nat.mod_add_div, h1]
theorem WInv.len {N m : Nat} {ws : List Nat} (h : WInv N m ws) (hm : 0 < m) (hN : N < 1000000000000000000000000000) : ws.length < 3 := by
  rcases Nat.lt_or_ge ws.length 3 with h1 | h1
  · exact h1
  · have h2 : B9 ^ 3 ≤ B9 ^ ws.length := Nat.pow_le_pow_right (by decide) h1
    have h3 : B9 ^ ws.length * 1 ≤ B9 ^ ws.length * m := Nat.mul_le_mul_left _ hm
    have h4 := h.1
    have h5 : B9 ^ 3 = 1000000000000000000000000000 := by decide
    omega
def wrel (N base : Nat) (g : Nat) (v : Value) (w wr : World) : Prop := ∃ ws : List Nat, WInv N g ws ∧ ws.length ≤ 3 ∧ wr.ownsRow (base + 1) 3 1 v ws.length (ncells ws) ∧ Own wr base 127 [.bool false, .slice none 0 0] ∧ Below w.heap.size w wr
set_option maxRecDepth 100000 in
set_option maxHeartbeats 2000000 in
theorem whole_p (N : Nat) (w : World) (hN : N ≤ 9223372036854775807) :
    Calls Tryz.prog 126 #[.int .i64 (N : Int)] w (riPost (sg false N) w) := by
  obtain ⟨i0, hi, hz0, hz1, hz2⟩ := info_parts info_int
  have HN := Lib.hid hN
  have HNL : Hid (N < 1000000000000000000000000000) := Lib.hid (by omega)
  have hNI : (N : Int) ≤ 9223372036854775807 := by omega
  clear hN
  go_enter Tryz.func126, Tryz.ntmps126
  go_wp2_with fail
  go_loopg [0, 3, 5] N (fun g u v _ wr => u = .int .i64 (g : Int) ∧ (g : Int) ≤ (N : Int) ∧ Hid (wrel N w.heap.size g v w wr))
  case atStart => exact ⟨rfl, Int.le_refl _, Lib.hid ⟨[], ⟨by simp [bval], bok_nil⟩, by decide, World.ownsRow_nil _ _ _ _, Own.make _ _ _, (Below.refl _ _).alloc (Nat.le_refl _) _⟩⟩
  case round =>
    obtain ⟨rfl, hgN, hR⟩ := hrel
    obtain ⟨ws, hI, hl, hO, hOw, hB⟩ := hR.out
    clear hR
    obtain ⟨A7, k7, hvf, hv1, hv2⟩ := oForm hO
    have HI := Lib.hid hI
    have HO := Lib.hid hO
    have HOw := Lib.hid hOw
    have HB := Lib.hid hB
    clear hI hO hOw hB
    subst hvf
    by_cases h0 : gk = 0
    · subst h0
      have HV : Hid (bval ws = N) := Lib.hid (by have := HI.out.1; omega)
      have SG := Lib.hid (signed_c false _ ws wr HI.out.2 (oSl HO.out (by omega)))
      rw [HV.out] at SG
      go_wp2_with fail
      refine SG.out.mono ?_
      clear SG
      rintro e w2 ⟨rv, rfl, hri, hB2⟩
      obtain ⟨RA, rn, rc, rfl, hr1, hr2⟩ := hri.open_
      generalize hbz : decide (sg false N < 0) = bz at *
      have HO2 := Lib.hid (HOw.out.below hB2 HOw.out.lt)
      obtain ⟨c0, c1, f0, f1⟩ := HO2.out.two
      have HRF := Lib.hid (hri.put2 (a' := .bool bz) (b' := .slice RA rn rc) HO2.out (noInt_bool _) (noInt_slice _ _ _) (noInt_bool _))
      have HBF : Hid (Below w.heap.size w ((w2.setCell ⟨w.heap.size, 0, none⟩ (.bool bz)).setCell ⟨w.heap.size, 1, none⟩ (.slice RA rn rc))) := Lib.hid (((HB.out.trans (hB2.mono HB.out.size)).setCell (p := ⟨w.heap.size, 0, none⟩) (Nat.le_refl _) _).setCell (p := ⟨w.heap.size, 1, none⟩) (Nat.le_refl _) _)
      clear hri hB2 hbz
      go_wp2
      obtain ⟨z0, z1, _, _⟩ := (HO2.out.set2 (a' := .bool bz) (b' := .slice RA rn rc)).two
      exact bodyPost_ret (v := .agg #[.bool bz, .slice RA rn rc]) (by simp [results, Tryz.results126, go_sem, z0, z1]) rfl ⟨_, rfl, HRF.out, HBF.out⟩
    · have hg0 : (0 : Int) < (gk : Int) := by omega
      have HL := Lib.hid (HI.out.len (by omega) HNL.out)
      have HS := Lib.hid HI.out.step
      have hl3 : ws.length < 3 := HL.out
      have hq : gk / 1000000000 < gk := Nat.div_lt_self (by omega) (by decide)
      have hr9 : gk % 1000000000 < 1000000000 := Nat.mod_lt _ (by decide)
      have hs := HB.out.size
      clear HI
      go_wp2_with (at_builtin; (refine wpList_append_own _ rfl _ _ 50 rfl (w.heap.size + 1) 3 i0 (.int .i64 0) 1 8 Tryz.underlying50 hi hz0 hz1 hz2 rfl (by decide) _ _ _ rfl (HO.out.alloc _) ⟨wr.heap.size, 0, none⟩ 1 1 [.int .i64 ((gk % 1000000000 : Nat) : Int)] rfl rfl (cell_one_new _ _ _) (fun x hx => by simp at hx; subst hx; rfl) (by unfold maxLen; omega) (by omega) (by simp; omega) ?_; intro v' w1 hown' hgrow _))
      have HO' : Hid (w1.ownsRow (w.heap.size + 1) 3 1 v' (ws ++ [(gk % 1000000000)]).length (ncells (ws ++ [(gk % 1000000000)]))) := Lib.hid (by
        rw [ncells_snoc, List.length_append, List.length_singleton]; exact hown')
      have HOw' : Hid (Own w1 w.heap.size 127 [.bool false, .slice none 0 0]) := Lib.hid ((HOw.out.alloc _).grown hgrow (fun e => by have := (HO.out.lt _ e).1; omega))
      have HB' := Lib.hid (Below.grown (HB.out.alloc hs (.cells #[.int .i64 ((gk % 1000000000 : Nat) : Int)] 3)) hgrow (by simp; omega) (fun j hj => by have := (HO.out.lt _ hj).1; omega))
      have HL' : Hid ((ws ++ [(gk % 1000000000)]).length ≤ 3) := Lib.hid (by rw [List.length_append, List.length_singleton]; omega)
      clear hown' hgrow
      go_wp2
      go_roundg (gk / 1000000000)
      case rel => exact ⟨by go_num, by omega, Lib.hid ⟨_, HS.out, HL'.out, HO'.out, HOw'.out, HB'.out⟩⟩
      case measure => exact hq
set_option maxRecDepth 100000 in
set_option maxHeartbeats 2000000 in
theorem whole_n (N : Nat) (w : World) (hN0 : 0 < N) (hN : N ≤ 9223372036854775808) :
    Calls Tryz.prog 126 #[.int .i64 (-(N : Int))] w (riPost (sg true N) w) := by
  obtain ⟨i0, hi, hz0, hz1, hz2⟩ := info_parts info_int
  have HN := Lib.hid hN
  have HNL : Hid (N < 1000000000000000000000000000) := Lib.hid (by omega)
  have hNI : (N : Int) ≤ 9223372036854775808 := by omega
  have hN1 : (0 : Int) < N := by omega
  clear hN0
  clear hN
  go_enter Tryz.func126, Tryz.ntmps126
  go_wp2_with fail
  go_loopg [0, 3, 5] N (fun g u v _ wr => u = .int .i64 (-(g : Int)) ∧ (g : Int) ≤ (N : Int) ∧ Hid (wrel N w.heap.size g v w wr))
  case atStart => exact ⟨rfl, Int.le_refl _, Lib.hid ⟨[], ⟨by simp [bval], bok_nil⟩, by decide, World.ownsRow_nil _ _ _ _, Own.make _ _ _, (Below.refl _ _).alloc (Nat.le_refl _) _⟩⟩
  case round =>
    obtain ⟨rfl, hgN, hR⟩ := hrel
    obtain ⟨ws, hI, hl, hO, hOw, hB⟩ := hR.out
    clear hR
    obtain ⟨A7, k7, hvf, hv1, hv2⟩ := oForm hO
    have HI := Lib.hid hI
    have HO := Lib.hid hO
    have HOw := Lib.hid hOw
    have HB := Lib.hid hB
    clear hI hO hOw hB
    subst hvf
    by_cases h0 : gk = 0
    · subst h0
      have HV : Hid (bval ws = N) := Lib.hid (by have := HI.out.1; omega)
      have SG := Lib.hid (signed_c true _ ws wr HI.out.2 (oSl HO.out (by omega)))
      rw [HV.out] at SG
      go_wp2_with fail
      rw [show decide (0 < N) = true from decide_eq_true (by omega)]
      refine SG.out.mono ?_
      clear SG
      rintro e w2 ⟨rv, rfl, hri, hB2⟩
      obtain ⟨RA, rn, rc, rfl, hr1, hr2⟩ := hri.open_
      generalize hbz : decide (sg true N < 0) = bz at *
      have HO2 := Lib.hid (HOw.out.below hB2 HOw.out.lt)
      obtain ⟨c0, c1, f0, f1⟩ := HO2.out.two
      have HRF := Lib.hid (hri.put2 (a' := .bool bz) (b' := .slice RA rn rc) HO2.out (noInt_bool _) (noInt_slice _ _ _) (noInt_bool _))
      have HBF : Hid (Below w.heap.size w ((w2.setCell ⟨w.heap.size, 0, none⟩ (.bool bz)).setCell ⟨w.heap.size, 1, none⟩ (.slice RA rn rc))) := Lib.hid (((HB.out.trans (hB2.mono HB.out.size)).setCell (p := ⟨w.heap.size, 0, none⟩) (Nat.le_refl _) _).setCell (p := ⟨w.heap.size, 1, none⟩) (Nat.le_refl _) _)
      clear hri hB2 hbz
      go_wp2
      obtain ⟨z0, z1, _, _⟩ := (HO2.out.set2 (a' := .bool bz) (b' := .slice RA rn rc)).two
      exact bodyPost_ret (v := .agg #[.bool bz, .slice RA rn rc]) (by simp [results, Tryz.results126, go_sem, z0, z1]) rfl ⟨_, rfl, HRF.out, HBF.out⟩
    · have hg0 : (0 : Int) < (gk : Int) := by omega
      have HL := Lib.hid (HI.out.len (by omega) HNL.out)
      have HS := Lib.hid HI.out.step
      have hl3 : ws.length < 3 := HL.out
      have hq : gk / 1000000000 < gk := Nat.div_lt_self (by omega) (by decide)
      have hr9 : gk % 1000000000 < 1000000000 := Nat.mod_lt _ (by decide)
      have hs := HB.out.size
      have e1 : (-(gk : Int)).tmod 1000000000 = -((gk % 1000000000 : Nat) : Int) := by rw [Int.neg_tmod]; congr 1
      have e2 : (-(gk : Int)).tdiv 1000000000 = -((gk / 1000000000 : Nat) : Int) := by rw [Int.neg_tdiv]; congr 1
      generalize gk % 1000000000 = r at *
      generalize gk / 1000000000 = q at *
      rcases Nat.eq_zero_or_pos r with hr0 | hr0
      · subst hr0
        have e3 : (-(gk : Int)).tmod 1000000000 = 0 := by rw [e1]; rfl
        clear e1
        clear HI
        go_wp2_with (at_builtin; (refine wpList_append_own _ rfl _ _ 50 rfl (w.heap.size + 1) 3 i0 (.int .i64 0) 1 8 Tryz.underlying50 hi hz0 hz1 hz2 rfl (by decide) _ _ _ rfl (HO.out.alloc _) ⟨wr.heap.size, 0, none⟩ 1 1 [.int .i64 0] rfl rfl (cell_one_new _ _ _) (fun x hx => by simp at hx; subst hx; rfl) (by unfold maxLen; omega) (by omega) (by simp; omega) ?_; intro v' w1 hown' hgrow _))
        have HO' : Hid (w1.ownsRow (w.heap.size + 1) 3 1 v' (ws ++ [0]).length (ncells (ws ++ [0]))) := Lib.hid (by
          rw [ncells_snoc, List.length_append, List.length_singleton]; exact hown')
        have HOw' : Hid (Own w1 w.heap.size 127 [.bool false, .slice none 0 0]) := Lib.hid ((HOw.out.alloc _).grown hgrow (fun e => by have := (HO.out.lt _ e).1; omega))
        have HB' := Lib.hid (Below.grown (HB.out.alloc hs (.cells #[.int .i64 0] 3)) hgrow (by simp; omega) (fun j hj => by have := (HO.out.lt _ hj).1; omega))
        have HL' : Hid ((ws ++ [0]).length ≤ 3) := Lib.hid (by rw [List.length_append, List.length_singleton]; omega)
        clear hown' hgrow
        go_wp2
        go_roundg q
        case rel => exact ⟨by go_num, by omega, Lib.hid ⟨_, HS.out, HL'.out, HO'.out, HOw'.out, HB'.out⟩⟩
        case measure => exact hq
      · have hr1 : (0 : Int) < (r : Int) := by omega
        clear HI
        go_wp2_with (at_builtin; (refine wpList_append_own _ rfl _ _ 50 rfl (w.heap.size + 1) 3 i0 (.int .i64 0) 1 8 Tryz.underlying50 hi hz0 hz1 hz2 rfl (by decide) _ _ _ rfl (HO.out.alloc _) ⟨wr.heap.size, 0, none⟩ 1 1 [.int .i64 (r : Int)] rfl rfl (cell_one_new _ _ _) (fun x hx => by simp at hx; subst hx; rfl) (by unfold maxLen; omega) (by omega) (by simp; omega) ?_; intro v' w1 hown' hgrow _))
        have HO' : Hid (w1.ownsRow (w.heap.size + 1) 3 1 v' (ws ++ [r]).length (ncells (ws ++ [r]))) := Lib.hid (by
          rw [ncells_snoc, List.length_append, List.length_singleton]; exact hown')
        have HOw' : Hid (Own w1 w.heap.size 127 [.bool false, .slice none 0 0]) := Lib.hid ((HOw.out.alloc _).grown hgrow (fun e => by have := (HO.out.lt _ e).1; omega))
        have HB' := Lib.hid (Below.grown (HB.out.alloc hs (.cells #[.int .i64 (r : Int)] 3)) hgrow (by simp; omega) (fun j hj => by have := (HO.out.lt _ hj).1; omega))
        have HL' : Hid ((ws ++ [r]).length ≤ 3) := Lib.hid (by rw [List.length_append, List.length_singleton]; omega)
        clear hown' hgrow
        go_wp2
        go_roundg q
        case rel => exact ⟨by go_num, by omega, Lib.hid ⟨_, HS.out, HL'.out, HO'.out, HOw'.out, HB'.out⟩⟩
        case measure => exact hq
theorem whole_c (x : Int) (w : World) (h : -9223372036854775808 ≤ x ∧ x ≤ 9223372036854775807) :
    Calls Tryz.prog 126 #[.int .i64 x] w (riPost x w) := by
  by_cases hx : x < 0
  · have e : x = -(x.natAbs : Int) := by omega
    have h2 := whole_n x.natAbs w (by omega) (by omega)
    have e2 : sg true x.natAbs = x := by unfold sg; rw [if_pos rfl]; omega
    rw [e2, ← e] at h2; exact h2
  · have e : x = (x.natAbs : Int) := by omega
    have h2 := whole_p x.natAbs w (by omega)
    have e2 : sg false x.natAbs = x := by unfold sg; rw [if_neg (by decide)]; omega
    rw [e2, ← e] at h2; exact h2
end Go.Proofs.YtneafcdfnhnpnaaGreatDoor
/- Contracts of the reference: the texts of its integers. -/
namespace Go.Proofs.YtneafcdfnhnpnaaGreatDoor
open Go.RowKit Go.Lib

/-- an integer's text -/
def itext (x : Int) : List UInt8 := (if x < 0 then [45] else []) ++ decDigits x.natAbs
theorem bval_drop (ws : List Nat) (k : Nat) (hk : k < ws.length) : bval (ws.drop k) = ws[k]?.getD 0 + B9 * bval (ws.drop (k + 1)) := by
  rw [List.drop_eq_getElem_cons hk, List.getElem?_eq_getElem hk]; rfl
theorem bval_split (ws : List Nat) (k : Nat) (hk : k ≤ ws.length) : bval ws = bval (ws.take k) + B9 ^ k * bval (ws.drop k) := by
  conv => lhs; rw [← List.take_append_drop k ws]
  rw [bval_append, List.length_take, Nat.min_eq_left hk]
theorem drop_pos {ws : List Nat} (hn : wnorm ws) (hok : bok ws) {k : Nat} (hk : k < ws.length) : 0 < bval (ws.drop k) := by
  rcases Nat.eq_zero_or_pos (bval (ws.drop k)) with h | h
  · have h1 := bnorm_last hn (by intro e; subst e; simp at hk)
    have h2 := bval_split ws k (by omega)
    rw [h, Nat.mul_zero] at h2
    have h3 := bval_lt (bok_take hok k)
    rw [List.length_take, Nat.min_eq_left (by omega)] at h3
    have h4 : B9 ^ k ≤ B9 ^ (ws.length - 1) := Nat.pow_le_pow_right (by decide) (by omega)
    omega
  · exact h
def TInv (ws : List Nat) (k : Nat) (acc : List UInt8) : Prop := acc = decDigits (bval (ws.drop k))
theorem TInv.step {ws : List Nat} {k : Nat} {acc : List UInt8} (hn : wnorm ws) (hok : bok ws) (hk : k + 1 < ws.length) (h : TInv ws (k + 1) acc) : TInv ws k (acc ++ padk 9 (ws[k]?.getD 0)) := by
  unfold TInv at h ⊢
  have h1 := drop_pos hn hok hk
  have h2 := bok_get hok k
  rw [bval_drop ws k (by omega), Nat.add_comm, Nat.mul_comm, h]
  exact (decDigits_pad 9 _ _ h1 h2).symm
theorem TInv.len {ws : List Nat} {k : Nat} {acc : List UInt8} (hok : bok ws) (h : TInv ws k acc) : acc.length ≤ 9 * ws.length + 1 := by
  unfold TInv at h
  rw [h, decDigits_length]
  refine nDigits_le _ _ ?_
  have h1 := bval_lt (ws := ws.drop k) (fun x hx => hok x (List.mem_of_mem_drop hx))
  have h2 : B9 ^ (ws.drop k).length ≤ B9 ^ ws.length := Nat.pow_le_pow_right (by decide) (by rw [List.length_drop]; omega)
  have h3 : B9 ^ ws.length = 10 ^ (9 * ws.length) := by rw [Nat.pow_mul]
  have h4 : 10 ^ (9 * ws.length) ≤ 10 ^ (9 * ws.length + 1) := Nat.pow_le_pow_right (by decide) (by omega)
  omega
set_option maxRecDepth 100000 in
set_option maxHeartbeats 2000000 in
theorem textR_c (v : Value) (x : Int) (w : World) (h : Ri w v x) :
    Calls Tryz.prog 182 #[v] w (ansText (itext x) w) := by
  obtain ⟨dv, ws, rfl, hv, hok, hn, hs⟩ := h
  obtain ⟨A, c, rfl, hc1, hc2⟩ := hs.form
  rw [ncells_length] at hc1 hc2 hs ⊢
  have hb : Below w.heap.size w (w.alloc (.cells #[.bool (decide (x < 0)), .slice A ws.length c] 127)) := (Below.refl _ _).alloc (Nat.le_refl _) _
  have HB0 := Lib.hid hb
  have HOw : Hid (Own (w.alloc (.cells #[.bool (decide (x < 0)), .slice A ws.length c] 127)) w.heap.size 127 [.bool (decide (x < 0)), .slice A ws.length c]) := Lib.hid (Own.make _ _ _)
  have HN := Lib.hid hn
  have HOK := Lib.hid hok
  have HV := Lib.hid hv
  clear hb hn hok hv
  by_cases h0 : ws = []
  · subst h0
    have hx : x = 0 := by have := HV.out; simp [bval] at this; omega
    have HE : Hid (itext x = [48]) := Lib.hid (by rw [hx]; unfold itext; rw [if_neg (by decide)]; exact decDigits_one (by decide))
    clear hx hs
    generalize decide (x < 0) = bx at *
    go_enter Tryz.func182, Tryz.ntmps182
    go_wp2
    go_ret
    exact ⟨by rw [HE.out]; rfl, HB0.out⟩
  · obtain ⟨m, hm⟩ : ∃ m, ws.length = m + 1 := ⟨ws.length - 1, by have := List.length_pos_iff.2 h0; omega⟩
    clear h0
    obtain ⟨b, off, rfl, hblt, hcell⟩ := hs.at_ (k := m) (by rw [ncells_length]; omega)
    have HC : Hid (∀ j, j < ws.length → w.cell? ⟨b, off + j, none⟩ = some (.int .i64 ((ws[j]?.getD 0 : Nat) : Int))) := Lib.hid (fun j hj => by rw [hcell j (by rw [ncells_length]; omega), ncells_get ws j hj])
    clear hcell hs
    generalize hbx : decide (x < 0) = bx at *
    have HX := Lib.hid hbx
    clear hbx
    have ck := HC.out m (by omega)
    have hmb : (m : Int) ≤ 140737488355328 := by omega
    have HT0 : Hid (TInv ws m (decDigits (ws[m]?.getD 0))) := Lib.hid (by
      unfold TInv
      rw [bval_drop ws m (by omega), List.drop_of_length_le (by omega)]; simp [bval])
    have D1 := Lib.hid (fun w => decimal1_c (ws[m]?.getD 0) w (by have := bok_get HOK.out m; unfold B9 at this; omega))
    have HL1 : Hid ((decDigits (ws[m]?.getD 0)).length ≤ 9 * ws.length + 1) := Lib.hid (HT0.out.len HOK.out)
    generalize ws[m]?.getD 0 = top at *
    clear hc2
    rw [hm] at hc1 HOw HB0 HL1 ⊢
    have HM := Lib.hid hm
    clear hm
    go_enter Tryz.func182, Tryz.ntmps182
    go_wp2_with fail
    refine (D1.out _).mono ?_
    clear D1
    rintro e w1 ⟨rfl, hB1⟩
    have HO1 := Lib.hid (HOw.out.below hB1 HOw.out.lt)
    have HB1 := Lib.hid (HB0.out.trans (hB1.mono HB0.out.size))
    obtain ⟨c0, c1, f0, f1⟩ := HO1.out.two
    clear hB1 ck
    go_wp2_with fail
    go_loopg [3, 4] m (fun g s i wr => ∃ acc : List UInt8, s = .string ⟨acc.toArray⟩ ∧ i = .int .i64 ((g : Int) - 1) ∧ (g : Int) ≤ (m : Int) ∧ Hid (TInv ws g acc) ∧ Hid (Own wr w.heap.size 127 [.bool bx, .slice (some ⟨b, off, none⟩) (m + 1) c]) ∧ Hid (Below w.heap.size w wr))
    case atStart => exact ⟨_, rfl, by go_num, Int.le_refl _, HT0, HO1, HB1⟩
    case round =>
      obtain ⟨acc, rfl, rfl, hgm, hT, hO, hB⟩ := hrel
      clear c0 c1 f0 f1
      obtain ⟨c0, c1, f0, f1⟩ := hO.out.two
      have hal := Lib.hid (hT.out.len HOK.out)
      have hal2 : acc.length ≤ 2266637395197953 := by have h1 := hal.out; have h2 := HM.out; omega
      cases gk with
      | zero =>
        have hin : ¬ ((0 : Int) ≤ ((0 : Nat) : Int) - 1) := by omega
        have HE : Hid (acc = decDigits x.natAbs) := Lib.hid (by have := hT.out; unfold TInv at this; rw [this, List.drop_zero, HV.out])
        clear hT hal
        have HBT := Lib.hid hB.out
        cases bx with
        | true =>
          have HE2 : Hid (itext x = 45 :: acc) := Lib.hid (by unfold itext; rw [if_pos (of_decide_eq_true HX.out), HE.out]; rfl)
          go_wp2
          go_ret
          exact ⟨by rw [HE2.out, ← cons_text]; rfl, HBT.out⟩
        | false =>
          have HE2 : Hid (itext x = acc) := Lib.hid (by unfold itext; rw [if_neg (of_decide_eq_false HX.out), HE.out]; rfl)
          go_wp2
          go_ret
          exact ⟨by rw [HE2.out]; rfl, HBT.out⟩
      | succ gh =>
        have hgm2 : gh < m := by omega
        have ck := (hB.out.cell (p := ⟨b, off + gh, none⟩) hblt).trans (HC.out gh (by have := HM.out; omega))
        have HS := Lib.hid (hT.out.step HN.out HOK.out (by have := HM.out; omega))
        have D9 := Lib.hid (fun w => decimal9_c (ws[gh]?.getD 0) w (bok_get HOK.out gh))
        have HPL : (padk 9 (ws[gh]?.getD 0)).length = 9 := padk_length _ _
        have hin : (0 : Int) ≤ ((gh + 1 : Nat) : Int) - 1 := by omega
        have hbs := hB.out.size
        have hbl : b < wr.heap.size := by omega
        clear hT
        generalize ws[gh]?.getD 0 = dg at *
        go_wp2_with fail
        refine (D9.out _).mono ?_
        rintro e w2 ⟨rfl, hB2⟩
        have HO3 := Lib.hid (hO.out.below hB2 hO.out.lt)
        have HB3 := Lib.hid (hB.out.trans (hB2.mono hbs))
        clear hB2 c0 c1 f0 f1
        go_wp2
        go_roundg gh
        case rel => exact ⟨_, by rw [ByteArray.mk_append_mk], by go_num, by omega, HS, HO3, HB3⟩
        case measure => omega
/-- the reference's text of a machine integer -/
theorem FromInt_c (x : Int) (w : World) (h : -9223372036854775808 ≤ x ∧ x ≤ 9223372036854775807) :
    Calls Tryz.prog 142 #[.int .i64 x] w (ansText (itext x) w) := by
  have WC := Lib.hid (whole_c x w h)
  clear h
  go_enter Tryz.func142, Tryz.ntmps142
  go_wp2_with fail
  refine WC.out.mono ?_
  rintro e w1 ⟨v, rfl, hr, hB⟩
  have HR := Lib.hid (textR_c v x w1 hr)
  obtain ⟨RA, rn, rc, rfl, hr1, hr2⟩ := hr.open_
  clear hr
  go_wp2_with fail
  refine HR.out.mono ?_
  rintro e w2 ⟨rfl, hB2⟩
  go_wp2
  go_ret
  exact ⟨rfl, hB.trans (hB2.mono hB.size)⟩
theorem itext_rat (x : Int) : itext x = rtext (x : Rat) := by
  unfold itext rtext
  rw [if_pos (show (x : Rat).den = 1 from rfl), List.append_nil]; rfl
end Go.Proofs.YtneafcdfnhnpnaaGreatDoor
/- Contracts of the reference: sums, products and factorials of short natural numbers. -/
namespace Go.Proofs.YtneafcdfnhnpnaaGreatDoor
open Go.RowKit Go.Lib

theorem rtext_nat (n : Nat) : rtext ((n : Int) : Rat) = decDigits n := by
  rw [← itext_rat]; unfold itext; rw [if_neg (by omega)]; rfl
theorem short_nat {n : Nat} (h : n < 1000000000) : Short9 ((n : Int) : Rat) := ⟨h, (by decide : 1 < 1000000000)⟩
theorem AddN_c (a b : Nat) (w : World) (ha : a < 1000000000) (hb : b < 1000000000) :
    Calls Tryz.prog 26 #[.string ⟨(decDigits a).toArray⟩, .string ⟨(decDigits b).toArray⟩] w (ansText (decDigits (a + b)) w) := by
  have h := Add_c ((a : Int) : Rat) ((b : Int) : Rat) w (short_nat ha) (short_nat hb)
  rw [← Rat.intCast_add, ← Int.natCast_add, rtext_nat, rtext_nat, rtext_nat] at h
  exact h
theorem MulN_c (a b : Nat) (w : World) (ha : a < 1000000000) (hb : b < 1000000000) :
    Calls Tryz.prog 28 #[.string ⟨(decDigits a).toArray⟩, .string ⟨(decDigits b).toArray⟩] w (ansText (decDigits (a * b)) w) := by
  have h := Mul_c ((a : Int) : Rat) ((b : Int) : Rat) w (short_nat ha) (short_nat hb)
  rw [← Rat.intCast_mul, ← Int.natCast_mul, rtext_nat, rtext_nat, rtext_nat] at h
  exact h
theorem FromNat_c (n : Nat) (w : World) (h : n ≤ 9223372036854775807) :
    Calls Tryz.prog 142 #[.int .i64 n] w (ansText (decDigits n) w) := by
  have h2 := FromInt_c (n : Int) w (by omega)
  rw [itext_rat, rtext_nat] at h2
  exact h2
def fac : Nat → Nat
  | 0 => 1
  | n + 1 => (n + 1) * fac n
theorem fac_pos (n : Nat) : 0 < fac n := by
  induction n with
  | zero => decide
  | succ n ih => exact Nat.mul_pos (Nat.succ_pos n) ih
theorem fac_le {m n : Nat} (h : m ≤ n) : fac m ≤ fac n := by
  induction n with
  | zero => rw [Nat.le_zero.1 h]; exact Nat.le_refl _
  | succ n ih =>
    rcases Nat.lt_or_ge n m with h1 | h1
    · rw [show m = n + 1 from by omega]; exact Nat.le_refl _
    · exact Nat.le_trans (ih h1) (Nat.le_mul_of_pos_left _ (Nat.succ_pos n))
theorem fac_lt {n : Nat} (h : n ≤ 12) : fac n < 1000000000 := Nat.lt_of_le_of_lt (fac_le h) (by decide)
set_option maxRecDepth 100000 in
set_option maxHeartbeats 2000000 in
theorem Factorial_c (n : Nat) (w : World) (hn : n ≤ 12) :
    Calls Tryz.prog 63 #[.int .i64 n] w (ansText (decDigits (fac n)) w) := by
  have HN := Lib.hid hn
  have hn12 : (n : Int) ≤ 12 := by omega
  clear hn
  go_enter Tryz.func63, Tryz.ntmps63
  go_wp2
  go_loopg [3, 4] (n + 1) (fun g s i wr => ∃ k : Nat, i = .int .i64 ((k : Int) + 1) ∧ 1 ≤ k ∧ k ≤ 12 ∧ g + k = n + 2 ∧ Hid (s = .string ⟨(decDigits (fac k)).toArray⟩) ∧ Hid (fac n = fac k ∨ k < n) ∧ Below w.heap.size w wr)
  case atStart =>
    refine ⟨1, rfl, Nat.le_refl _, by decide, by omega, Lib.hid (by rw [show fac 1 = 1 from rfl, decDigits_one (by decide)]; rfl), Lib.hid ?_, Below.refl _ _⟩
    rcases Nat.lt_or_ge 1 n with h | h
    · exact .inr h
    · left
      rcases Nat.le_one_iff_eq_zero_or_eq_one.1 h with h1 | h1 <;> subst h1 <;> rfl
  case round =>
    obtain ⟨k, rfl, h1, h12, hg, hs, hk, hB⟩ := hrel
    by_cases hc : k < n
    · have hc' : ((k : Int) + 1 ≤ (n : Int)) := by omega
      have FN := Lib.hid (fun w => FromNat_c (k + 1) w (by omega))
      have HS : Hid (fac (k + 1) = fac k * (k + 1)) := Lib.hid (by rw [fac, Nat.mul_comm])
      have MU := Lib.hid (fun w => MulN_c (fac k) (k + 1) w (fac_lt h12) (by omega))
      rw [← HS.out] at MU
      have HK : Hid (fac n = fac (k + 1) ∨ k + 1 < n) := Lib.hid (by
        rcases Nat.lt_or_ge (k + 1) n with h | h
        · exact .inr h
        · left; rw [show n = k + 1 from by omega])
      have hs2 := hs.out
      subst hs2
      clear hs hk HS
      have hkn : k + 1 ≤ 12 := by have := HN.out; omega
      obtain ⟨gj, rfl⟩ : ∃ gj, gk = gj + 1 := ⟨gk - 1, by omega⟩
      generalize decDigits (fac k) = t1 at *
      go_wp2_with fail
      refine (FN.out _).mono ?_
      rintro e w1 ⟨rfl, hB1⟩
      go_wp2_with fail
      refine (MU.out _).mono ?_
      rintro e w2 ⟨rfl, hB2⟩
      have HB3 := Lib.hid (hB.trans ((hB1.mono hB.size).trans (hB2.mono (Nat.le_trans hB.size hB1.size))))
      clear hB1 hB2 hB
      go_wp2
      go_roundg gj
      case rel => exact ⟨k + 1, by go_num, by omega, hkn, by omega, Lib.hid rfl, HK, HB3.out⟩
      case measure => omega
    · have hc' : ¬ ((k : Int) + 1 ≤ (n : Int)) := by omega
      have HE : Hid (fac n = fac k) := Lib.hid (by rcases hk.out with h | h; exact h; exact absurd h hc)
      have hs2 := hs.out
      subst hs2
      clear hs hk hg
      go_wp2
      go_ret
      exact ⟨by rw [HE.out]; rfl, hB⟩
end Go.Proofs.YtneafcdfnhnpnaaGreatDoor
/- Contracts of the reference: the lexicographic order; valid texts of natural numbers. -/
namespace Go.Proofs.YtneafcdfnhnpnaaGreatDoor
open Go.RowKit Go.Lib

def lexB : List Int → List Int → Bool
  | [], [] => false
  | [], _ :: _ => true
  | _ :: _, [] => false
  | a :: p, b :: q => if a = b then lexB p q else decide (a < b)
theorem lexB_drop {p q : List Int} {k : Nat} (hp : k < p.length) (hq : k < q.length) : lexB (p.drop k) (q.drop k) = if p[k]?.getD 0 = q[k]?.getD 0 then lexB (p.drop (k + 1)) (q.drop (k + 1)) else decide (p[k]?.getD 0 < q[k]?.getD 0) := by
  rw [List.drop_eq_getElem_cons hp, List.drop_eq_getElem_cons hq, List.getElem?_eq_getElem hp, List.getElem?_eq_getElem hq]
  rfl
set_option maxRecDepth 100000 in
set_option maxHeartbeats 2000000 in
theorem refBefore_c (v u : Value) (p q : List Int) (w : World) (hv : SlW w v (icells p)) (hu : SlW w u (icells q)) (hl0 : p.length = q.length) :
    Calls Tryz.prog 95 #[v, u] w fun e w' => e = .returned (.bool (lexB p q)) ∧ Below w.heap.size w w' := by
  obtain ⟨A, c, rfl, hc1, hc2⟩ := hv.form
  obtain ⟨B, d, rfl, gc1, gc2⟩ := hu.form
  simp only [icells_length] at hc1 hc2 hv gc1 gc2 hu ⊢
  obtain ⟨r, hr⟩ : ∃ r, lexB p q = r := ⟨_, rfl⟩
  have HR := Lib.hid hr
  rw [hr]
  have HL := Lib.hid hl0
  have hlI : (q.length : Int) = (p.length : Int) := by omega
  clear hr hl0
  go_enter Tryz.func95, Tryz.ntmps95
  go_wp2_with fail
  go_loopg [5] p.length (fun g i wr => ∃ (k : Nat), k + g = p.length ∧ i = .int .i64 k ∧ Hid (lexB (p.drop k) (q.drop k) = r) ∧ Below w.heap.size w wr)
  case atStart => exact ⟨0, by omega, rfl, Lib.hid HR.out, Below.refl _ _⟩
  case round =>
    obtain ⟨k, hk, rfl, hD, hB⟩ := hrel
    cases gk with
    | zero =>
      have hin : ¬ ((k : Int) < (p.length : Int)) := by omega
      have HT : Hid (r = false) := Lib.hid (by
        rw [← hD.out, List.drop_eq_nil_of_le (by omega), List.drop_eq_nil_of_le (by have := HL.out; omega)]; rfl)
      clear hk
      go_wp2
      go_ret
      exact ⟨by rw [HT.out]; rfl, hB⟩
    | succ g =>
      have hlt : k < p.length := by omega
      have hlq : k < q.length := by have := HL.out; omega
      obtain ⟨b1, off1, rfl, hbb1, hcell1⟩ := hv.at_ (k := k) (by rw [icells_length]; omega)
      obtain ⟨b2, off2, rfl, hbb2, hcell2⟩ := hu.at_ (k := k) (by rw [icells_length]; omega)
      have hck1 := (hB.cell (p := ⟨b1, off1 + k, none⟩) hbb1).trans ((hcell1 k (by rw [icells_length]; omega)).trans (icells_at p k hlt))
      have hck2 := (hB.cell (p := ⟨b2, off2 + k, none⟩) hbb2).trans ((hcell2 k (by rw [icells_length]; omega)).trans (icells_at q k hlq))
      have HX := Lib.hid ((lexB_drop hlt hlq).symm.trans hD.out)
      have Hk := Lib.hid hk
      clear hcell1 hcell2 hv hu hk hD
      generalize p[k]?.getD 0 = x at *
      generalize q[k]?.getD 0 = y at *
      by_cases he : x = y
      · have Hs := Lib.hid (by have h := HX.out; rw [if_pos he] at h; exact h)
        have hxy : (x != y) = false := by simp [he]
        clear he HX
        go_wp2
        go_quiet (fail)
        have hB' := below_drewN hB nq
        go_wp2
        go_roundg g
        case rel => exact ⟨k + 1, by have := Hk.out; omega, by go_num, Hs, hB'⟩
        case measure => omega
      · have Hs := Lib.hid (by have h := HX.out; rw [if_neg he] at h; exact h)
        have hxy : (x != y) = true := by simpa using he
        clear he HX
        go_wp2
        go_quiet (fail)
        have hB' := below_drewN hB nq
        go_wp2
        go_quiet (fail)
        have hB2 := below_drewN hB' nq
        go_wp2
        go_ret
        exact ⟨by rw [← Hs.out]; rfl, hB2⟩
end Go.Proofs.YtneafcdfnhnpnaaGreatDoor
