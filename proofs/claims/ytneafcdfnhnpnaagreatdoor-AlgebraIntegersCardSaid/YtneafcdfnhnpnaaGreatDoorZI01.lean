/- Contracts of the reference: slashes, digits, values. -/
import Derived.Test.YtneafcdfnhnpnaaGreatDoorZ09
import Derived.Test.YtneafcdfnhnpnaaGreatDoorZ10
import Derived.Test.YtneafcdfnhnpnaaGreatDoorZ01
import Derived.Test.YtneafcdfnhnpnaaGreatDoorZ04
namespace Go.Proofs.YtneafcdfnhnpnaaGreatDoor
open Go.RowKit Go.Lib

/-- where the first slash is -/
def slashAt (l : List UInt8) : Nat := l.findIdx (· == 47)
theorem slashAt_le (l : List UInt8) : slashAt l ≤ l.length := List.findIdx_le_length
theorem slash_hit {l : List UInt8} {k : Nat} {c : UInt8} (hc : l[k]? = some c) (h : c = 47) (hk : k ≤ slashAt l) : slashAt l = k := by
  obtain ⟨hl, hg⟩ := List.getElem?_eq_some_iff.1 hc
  rcases Nat.lt_or_ge k (slashAt l) with h1 | h1
  · have := List.not_of_lt_findIdx h1
    rw [hg, h] at this; simp at this
  · omega
theorem slash_step {l : List UInt8} {k : Nat} {c : UInt8} (hc : l[k]? = some c) (h : c ≠ 47) (hk : k ≤ slashAt l) : k + 1 ≤ slashAt l := by
  obtain ⟨hl, hg⟩ := List.getElem?_eq_some_iff.1 hc
  rcases Nat.lt_or_ge k (slashAt l) with h1 | h1
  · exact h1
  · have h2 : slashAt l = k := by omega
    have h3 : slashAt l < l.length := by omega
    have := List.findIdx_getElem (p := (· == 47)) (w := h3)
    have e : l[List.findIdx (fun x => x == 47) l]'h3 = l[k] := by congr 1
    rw [e, hg] at this
    exact absurd (by simpa using this) h
theorem byte_ne {c : UInt8} {n : Nat} (hn : n < 256) (h : c ≠ UInt8.ofNat n) : ((c.toNat : Int) == (n : Int)) = false := by
  have : c.toNat ≠ n := fun e => h (by apply UInt8.toNat_inj.1; rw [e, UInt8.toNat_ofNat']; exact (Nat.mod_eq_of_lt hn).symm)
  simpa using (by omega : ¬ (c.toNat : Int) = n)
theorem byte_eq {c : UInt8} {n : Nat} (hn : n < 256) (h : c = UInt8.ofNat n) : ((c.toNat : Int) == (n : Int)) = true := by
  subst h
  rw [UInt8.toNat_ofNat', Nat.mod_eq_of_lt hn]; simp
def ansInt (n : Nat) (w : World) (e : Ending) (w' : World) : Prop := e = .returned (.int .i64 (n : Int)) ∧ w = w'
def ansBool (b : Bool) (w : World) (e : Ending) (w' : World) : Prop := e = .returned (.bool b) ∧ w = w'

set_option maxHeartbeats 1000000 in
theorem slash_c (s : ByteArray) (w : World) (hs : s.size ≤ 4611686018427387904) :
    Calls Tryz.prog 103 #[.string s] w (ansInt (slashAt s.data.toList) w) := by
  go_enter Tryz.func103, Tryz.ntmps103
  go_wp2
  go_loopg [3, 4, 10, 11, 12] s.size (fun g i _ _ _ _ wr => ∃ pos : Nat, i = .int .i64 pos ∧ pos + g = s.size ∧ Hid (pos ≤ slashAt s.data.toList) ∧ wr = w)
  case atStart => exact ⟨0, rfl, by omega, Lib.hid (Nat.zero_le _), rfl⟩
  case round =>
    obtain ⟨pos, rfl, hp, hd, rfl⟩ := hrel
    cases gk with
    | zero =>
      have hb : ¬ ((pos : Int) < (s.size : Int)) := by omega
      have HE : Hid (slashAt s.data.toList = s.size) := Lib.hid (by
        have h1 := slashAt_le s.data.toList
        have h2 : s.data.toList.length = s.size := by simp
        have := hd.out; omega)
      clear hd
      go_wp2
      go_ret
      exact ⟨by rw [HE.out]; rfl, rfl⟩
    | succ gh =>
      have hlt : pos < s.size := by omega
      have hge := ba_get s pos hlt
      by_cases hc : s[pos] = 47
      · have hb3 : (((s[pos]).toNat : Int) == 47) = true := byte_eq (n := 47) (by decide) hc
        have HE := Lib.hid (slash_hit hge hc hd.out)
        clear hd hc hge
        go_wp2
        go_ret
        exact ⟨by rw [HE.out]; rfl, rfl⟩
      · have hb3 : (((s[pos]).toNat : Int) == 47) = false := byte_ne (n := 47) (by decide) hc
        have HE := Lib.hid (slash_step hge hc hd.out)
        clear hd hc hge
        go_wp2
        go_roundg gh
        case rel => exact ⟨pos + 1, by go_num, by omega, HE, rfl⟩
        case measure => omega

def digTo (l : List UInt8) (k : Nat) : Prop := allDig (l.take k)
theorem digTo.step {l : List UInt8} {k : Nat} {c : UInt8} (h : digTo l k) (hc : l[k]? = some c) (hd : 48 ≤ c.toNat ∧ c.toNat ≤ 57) : digTo l (k + 1) := by
  intro x hx
  rw [List.take_add_one, hc] at hx
  rcases List.mem_append.1 hx with h1 | h1
  · exact h x h1
  · have : x = c := by simpa using h1
    subst this; exact hd
def digBool (l : List UInt8) (w : World) (e : Ending) (w' : World) : Prop := ansBool (decide (allDig l)) w e w'
set_option maxHeartbeats 1000000 in
theorem Digits_c (s : ByteArray) (w : World) (hs : s.size ≤ 4611686018427387904) :
    Calls Tryz.prog 173 #[.string s] w (ansBool (decide (allDig s.data.toList)) w) := by
  go_enter Tryz.func173, Tryz.ntmps173
  go_wp2
  go_loopg [3] s.size (fun g i wr => ∃ pos : Nat, i = .int .i64 pos ∧ pos + g = s.size ∧ Hid (digTo s.data.toList pos) ∧ wr = w)
  case atStart => exact ⟨0, rfl, by omega, Lib.hid (fun c hc => by simp at hc), rfl⟩
  case round =>
    obtain ⟨pos, rfl, hp, hd, rfl⟩ := hrel
    cases gk with
    | zero =>
      have hb : ¬ ((pos : Int) < (s.size : Int)) := by omega
      have HE : Hid (decide (allDig s.data.toList) = true) := Lib.hid (by
        have h1 := hd.out
        unfold digTo at h1
        rw [List.take_of_length_le (by simp; omega)] at h1
        exact decide_eq_true h1)
      clear hd
      go_wp2
      go_ret
      exact ⟨by rw [HE.out]; rfl, rfl⟩
    | succ gh =>
      have hlt : pos < s.size := by omega
      have hge := ba_get s pos hlt
      by_cases h1 : 48 ≤ (s[pos]).toNat
      · by_cases h2 : (s[pos]).toNat ≤ 57
        · have hb1 : decide (((s[pos]).toNat : Int) < 48) = false := by simp; omega
          have hb2 : decide ((57 : Int) < ((s[pos]).toNat : Int)) = false := by simp; omega
          have HE := Lib.hid (hd.out.step hge ⟨h1, h2⟩)
          clear hd h1 h2 hge
          go_wp2
          go_roundg gh
          case rel => exact ⟨pos + 1, by go_num, by omega, HE, rfl⟩
          case measure => omega
        · have hb1 : decide (((s[pos]).toNat : Int) < 48) = false := by simp; omega
          have hb2 : decide ((57 : Int) < ((s[pos]).toNat : Int)) = true := by simp; omega
          have HE : Hid (decide (allDig s.data.toList) = false) := Lib.hid (decide_eq_false fun h => by have := h _ (List.mem_of_getElem? hge); omega)
          clear hd h1 h2 hge
          go_wp2
          go_ret
          exact ⟨by rw [HE.out]; rfl, rfl⟩
      · have hb1 : decide (((s[pos]).toNat : Int) < 48) = true := by simp; omega
        have HE : Hid (decide (allDig s.data.toList) = false) := Lib.hid (decide_eq_false fun h => by have := h _ (List.mem_of_getElem? hge); omega)
        clear hd h1 hge
        go_wp2
        go_ret
        exact ⟨by rw [HE.out]; rfl, rfl⟩
end Go.Proofs.YtneafcdfnhnpnaaGreatDoor
/- Contracts of the reference: decimal notations. -/
namespace Go.Proofs.YtneafcdfnhnpnaaGreatDoor
open Go.RowKit Go.Lib

theorem ba_nil {s : ByteArray} (h : s.size = 0) : s.data.toList = [] := List.length_eq_zero_iff.1 (by simpa using h)
set_option maxHeartbeats 1000000 in
theorem decimalForm_c (s : ByteArray) (w : World) (hs : s.size ≤ 4611686018427387904) :
    Calls Tryz.prog 104 #[.string s] w (ansBool (decide (Numeral s.data.toList)) w) := by
  have DG := Lib.hid (Digits_c s w hs)
  by_cases h0 : s.size = 0
  · have hb0 : ((s.size : Int) == 0) = true := by rw [h0]; rfl
    have HE : Hid (decide (Numeral s.data.toList) = false) := Lib.hid (by rw [ba_nil h0]; decide)
    clear h0
    go_enter Tryz.func104, Tryz.ntmps104
    go_wp2
    go_ret
    exact ⟨by rw [HE.out]; rfl, rfl⟩
  · have hb0 : ((s.size : Int) == 0) = false := by simpa using h0
    have h00 : 0 < s.size := Nat.pos_of_ne_zero h0
    have hge := ba_get s 0 h00
    have hne : s.data.toList ≠ [] := fun e => by rw [e] at hge; simp at hge
    have hhd : s.data.toList.head? = some s[0] := by rw [List.head?_eq_getElem?]; exact hge
    have hll : s.data.toList.length = s.size := by simp
    by_cases h1 : 1 < s.size
    · have h1' : (1 : Int) < (s.size : Int) := by omega
      by_cases hc : s[0] = 48
      · have hb3 : (((s[0]).toNat : Int) == 48) = true := byte_eq (n := 48) (by decide) hc
        have HE : Hid (decide (Numeral s.data.toList) = false) := Lib.hid (decide_eq_false (by
          rintro ⟨_, h | h⟩
          · rw [h] at hll; simp at hll; omega
          · exact h.2 (by rw [hhd, hc])))
        clear h0 h1 hge hne hhd hll hc DG
        go_enter Tryz.func104, Tryz.ntmps104
        go_wp2
        go_ret
        exact ⟨by rw [HE.out]; rfl, rfl⟩
      · have hb3 : (((s[0]).toNat : Int) == 48) = false := byte_ne (n := 48) (by decide) hc
        have HE : Hid (decide (Numeral s.data.toList) = decide (allDig s.data.toList)) := Lib.hid (by
          congr 1
          apply propext
          exact ⟨fun h => h.1, fun h => ⟨h, .inr ⟨hne, by rw [hhd]; intro e; exact hc (Option.some.inj e)⟩⟩⟩)
        clear h0 h1 hge hne hhd hll hc
        go_enter Tryz.func104, Tryz.ntmps104
        go_wp2_with fail
        refine DG.out.mono ?_
        rintro e w1 ⟨rfl, rfl⟩
        go_wp2
        go_ret
        exact ⟨by rw [HE.out]; rfl, rfl⟩
    · have h1' : decide ((1 : Int) < (s.size : Int)) = false := by simp; omega
      have HE : Hid (decide (Numeral s.data.toList) = decide (allDig s.data.toList)) := Lib.hid (by
          congr 1
          apply propext
          refine ⟨fun h => h.1, fun h => ⟨h, ?_⟩⟩
          by_cases hc : s[0] = 48
          · refine .inl ?_
            obtain ⟨a, ha⟩ := List.length_eq_one_iff.1 (by omega : s.data.toList.length = 1)
            rw [ha] at hhd ⊢
            rw [show a = 48 from by rw [← hc]; exact Option.some.inj hhd]
          · exact .inr ⟨hne, by rw [hhd]; intro e; exact hc (Option.some.inj e)⟩)
      clear h0 h1 hge hne hhd hll
      go_enter Tryz.func104, Tryz.ntmps104
      go_wp2_with fail
      refine DG.out.mono ?_
      rintro e w1 ⟨rfl, rfl⟩
      go_wp2
      go_ret
      exact ⟨by rw [HE.out]; rfl, rfl⟩

theorem decVal_snoc {l : List UInt8} {k : Nat} {c : UInt8} (hc : l[k]? = some c) : decVal (l.take (k + 1)) = 10 * decVal (l.take k) + (c.toNat - 48) := by
  rw [List.take_add_one, hc, Option.toList_some, decVal_append]
  have : decVal [c] = c.toNat - 48 := by rw [decVal, decFold_cons, decFold_nil]; omega
  rw [this]; simp; omega
theorem decVal_take_lt {l : List UInt8} (h : allDig l) (k n : Nat) (hk : k ≤ n) : decVal (l.take k) < 10 ^ n := by
  have := decVal_lt (allDig_take h k)
  refine Nat.lt_of_lt_of_le this (Nat.pow_le_pow_right (by decide) ?_)
  rw [List.length_take]; omega
set_option maxHeartbeats 1000000 in
theorem value_c (s : ByteArray) (w : World) (hs : s.size ≤ 18) (hd : allDig s.data.toList) :
    Calls Tryz.prog 180 #[.string s] w (ansInt (decVal s.data.toList) w) := by
  have HD := Lib.hid hd
  clear hd
  go_enter Tryz.func180, Tryz.ntmps180
  go_wp2
  go_loopg [3, 4] s.size (fun g n i wr => ∃ (pos x : Nat), i = .int .i64 pos ∧ n = .int .i64 (x : Int) ∧ pos + g = s.size ∧ Hid (x = decVal (s.data.toList.take pos)) ∧ wr = w)
  case atStart => exact ⟨0, 0, rfl, rfl, by omega, Lib.hid rfl, rfl⟩
  case round =>
    obtain ⟨pos, x, rfl, rfl, hp, hd, rfl⟩ := hrel
    cases gk with
    | zero =>
      have hb : ¬ ((pos : Int) < (s.size : Int)) := by omega
      have HE : Hid (decVal s.data.toList = x) := Lib.hid (by
        have h1 := hd.out
        rw [List.take_of_length_le (by simp; omega)] at h1
        exact h1.symm)
      clear hd
      go_wp2
      go_ret
      exact ⟨by rw [HE.out]; rfl, rfl⟩
    | succ gh =>
      have hlt : pos < s.size := by omega
      have hge := ba_get s pos hlt
      have hx : x < 100000000000000000 := by
        have := decVal_take_lt HD.out pos 17 (by omega)
        rw [← hd.out] at this; exact this
      have hcc := HD.out _ (List.mem_of_getElem? hge)
      have HE : Hid (10 * x + ((s[pos]).toNat - 48) = decVal (s.data.toList.take (pos + 1))) := Lib.hid (by rw [decVal_snoc hge, hd.out])
      clear hd hge
      obtain ⟨d, hdd⟩ : ∃ d, (s[pos]).toNat = d + 48 := ⟨(s[pos]).toNat - 48, by omega⟩
      have HE2 : Hid (10 * x + d = decVal (s.data.toList.take (pos + 1))) := Lib.hid (by rw [← HE.out, hdd]; omega)
      have hd9 : d ≤ 9 := by omega
      clear HE hcc
      go_wp2
      go_roundg gh
      case rel => exact ⟨pos + 1, 10 * x + d, by go_num, by go_num, by omega, HE2, rfl⟩
      case measure => omega
end Go.Proofs.YtneafcdfnhnpnaaGreatDoor
/- Contracts of the reference: writing digits, common divisors. -/
namespace Go.Proofs.YtneafcdfnhnpnaaGreatDoor
open Go.RowKit Go.Lib

theorem digit_text (d : Nat) (h : d < 10) : (ByteArray.mk #[48, 49, 50, 51, 52, 53, 54, 55, 56, 57]).extract d (d + 1) = ⟨#[UInt8.ofNat (48 + d)]⟩ := by
  have : ∀ d : Fin 10, (ByteArray.mk #[48, 49, 50, 51, 52, 53, 54, 55, 56, 57]).extract d.1 (d.1 + 1) = ⟨#[UInt8.ofNat (48 + d.1)]⟩ := by decide +kernel
  exact this ⟨d, h⟩
/-- what is left to write, and what is written, of a number -/
def DecInv (n y : Nat) (acc : List UInt8) : Prop := (y = 0 ∧ acc ≠ [] ∧ decDigits n = acc) ∨ (decDigits n = decDigits y ++ acc ∧ (y = 0 → acc = []))
theorem DecInv.step {n y : Nat} {acc : List UInt8} (h : DecInv n y acc) (hc : 0 < y ∨ acc.length < 1) : DecInv n (y / 10) (UInt8.ofNat (48 + y % 10) :: acc) := by
  rcases h with ⟨h1, h2, h3⟩ | ⟨h1, h2⟩
  · exact absurd (List.length_eq_zero_iff.1 (by omega)) h2
  · by_cases h10 : y < 10
    · refine .inl ⟨by omega, by simp, ?_⟩
      rw [h1, decDigits_one h10, Nat.mod_eq_of_lt h10]; rfl
    · refine .inr ⟨?_, fun e => by omega⟩
      rw [h1, decDigits_big (by omega)]; simp
theorem DecInv.done {n y : Nat} {acc : List UInt8} (h : DecInv n y acc) (h1 : ¬ 0 < y) (h2 : ¬ acc.length < 1) : decDigits n = acc := by
  rcases h with ⟨_, _, h3⟩ | ⟨_, h4⟩
  · exact h3
  · rw [h4 (by omega)] at h2; simp at h2
theorem DecInv.len {n y : Nat} {acc : List UInt8} (h : DecInv n y acc) : acc.length ≤ (decDigits n).length := by
  rcases h with ⟨_, _, h3⟩ | ⟨h3, _⟩
  · rw [h3]; exact Nat.le_refl _
  · rw [h3, List.length_append]; omega
theorem dec_len {n : Nat} (h : n < 10000000000000000000) : (decDigits n).length ≤ 19 := by
  rw [decDigits_length]; exact nDigits_le 18 n h
def ansText (l : List UInt8) (w : World) (e : Ending) (w' : World) : Prop := e = .returned (.string ⟨l.toArray⟩) ∧ Below w.heap.size w w'
theorem cons_text (c : UInt8) (l : List UInt8) : (ByteArray.mk #[c]) ++ (ByteArray.mk l.toArray) = ⟨(c :: l).toArray⟩ := by
  rw [ByteArray.mk_append_mk]; congr 1

set_option maxHeartbeats 1000000 in
theorem decimal1_c (n : Nat) (w : World) (hn : n ≤ 9223372036854775807) :
    Calls Tryz.prog 128 #[.int .i64 n, .int .i64 1] w (ansText (decDigits n) w) := by
  have HL := Lib.hid (dec_len (n := n) (by omega))
  go_enter Tryz.func128, Tryz.ntmps128
  go_wp2
  go_loopg [0, 5] (n + 1) (fun g y s wr => ∃ (m : Nat) (acc : List UInt8), y = .int .i64 m ∧ s = .string ⟨acc.toArray⟩ ∧ m ≤ n ∧ (g = m + 1 ∨ (g = 0 ∧ m = 0 ∧ 1 ≤ acc.length)) ∧ Hid (DecInv n m acc) ∧ Below w.heap.size w wr)
  case atStart => exact ⟨n, [], rfl, rfl, Nat.le_refl _, .inl rfl, Lib.hid (.inr ⟨by simp, fun _ => rfl⟩), Below.refl _ _⟩
  case round =>
    obtain ⟨m, acc, rfl, rfl, hm, hg, hd, hB⟩ := hrel
    have hacc : acc.length ≤ 19 := Nat.le_trans hd.out.len HL.out
    have hal : (ByteArray.mk acc.toArray).size = acc.length := by simp [ByteArray.size]
    by_cases h0 : 0 < m
    · have h0' : (0 : Int) < (m : Int) := by omega
      have HS := Lib.hid (hd.out.step (.inl h0))
      have hq : m / 10 < m := Nat.div_lt_self h0 (by decide)
      have HT := Lib.hid (digit_text (m % 10) (Nat.mod_lt _ (by decide)))
      have hr9 : m % 10 < 10 := Nat.mod_lt _ (by decide)
      clear hd
      go_wp2
      go_roundg (m / 10 + 1)
      case rel => exact ⟨m / 10, _, by go_num, by rw [HT.out, cons_text], by omega, .inl rfl, HS, hB⟩
      case measure => omega
    · have hm0 : m = 0 := by omega
      subst hm0
      by_cases h1 : acc.length < 1
      · have hnil : acc = [] := List.length_eq_zero_iff.1 (by omega)
        subst hnil
        have HS := Lib.hid (hd.out.step (.inr (by decide)))
        have hsz : (ByteArray.mk #[]).size = 0 := rfl
        clear hd
        go_wp2
        go_roundg 0
        case rel => exact ⟨0, _, rfl, rfl, by omega, .inr ⟨rfl, rfl, by decide⟩, HS, hB⟩
        case measure => rcases hg with hg | hg <;> simp_all
      · have HE := Lib.hid (hd.out.done (by omega) h1)
        have h1' : ¬ ((acc.length : Int) < 1) := by omega
        clear hd
        go_wp2
        go_ret
        exact ⟨by rw [HE.out]; rfl, hB⟩
/-- nine digits that are not yet written, and what is written -/
def PadInv (n y : Nat) (acc : List UInt8) : Prop := acc.length ≤ 9 ∧ padk 9 n = padk (9 - acc.length) y ++ acc ∧ y < 10 ^ (9 - acc.length)
theorem PadInv.step {n y : Nat} {acc : List UInt8} (h : PadInv n y acc) (hc : acc.length < 9) : PadInv n (y / 10) (UInt8.ofNat (48 + y % 10) :: acc) := by
  obtain ⟨h1, h2, h3⟩ := h
  obtain ⟨j, hj⟩ : ∃ j, 9 - acc.length = j + 1 := ⟨8 - acc.length, by omega⟩
  rw [hj] at h2 h3
  refine ⟨by simp; omega, ?_, ?_⟩
  · rw [h2, show 9 - (UInt8.ofNat (48 + y % 10) :: acc).length = j from by simp; omega, padk]; simp
  · rw [show 9 - (UInt8.ofNat (48 + y % 10) :: acc).length = j from by simp; omega]
    rw [Nat.pow_succ] at h3; omega
theorem PadInv.done {n y : Nat} {acc : List UInt8} (h : PadInv n y acc) (hc : ¬ acc.length < 9) : padk 9 n = acc ∧ y = 0 := by
  obtain ⟨h1, h2, h3⟩ := h
  rw [show 9 - acc.length = 0 from by omega] at h2 h3
  exact ⟨by rw [h2]; rfl, by simpa using h3⟩
theorem PadInv.pos {n y : Nat} {acc : List UInt8} (h : PadInv n y acc) (hy : 0 < y) : acc.length < 9 := by
  obtain ⟨h1, h2, h3⟩ := h
  rcases Nat.lt_or_ge acc.length 9 with h4 | h4
  · exact h4
  · rw [show 9 - acc.length = 0 from by omega] at h3; simp at h3; omega
set_option maxHeartbeats 1000000 in
theorem decimal9_c (n : Nat) (w : World) (hn : n < 1000000000) :
    Calls Tryz.prog 128 #[.int .i64 n, .int .i64 9] w (ansText (padk 9 n) w) := by
  go_enter Tryz.func128, Tryz.ntmps128
  go_wp2
  go_loopg [0, 5] 9 (fun g y s wr => ∃ (m : Nat) (acc : List UInt8), y = .int .i64 m ∧ s = .string ⟨acc.toArray⟩ ∧ m ≤ n ∧ g + acc.length = 9 ∧ Hid (PadInv n m acc) ∧ Below w.heap.size w wr)
  case atStart => exact ⟨n, [], rfl, rfl, Nat.le_refl _, rfl, Lib.hid ⟨by simp, by simp, by simpa using hn⟩, Below.refl _ _⟩
  case round =>
    obtain ⟨m, acc, rfl, rfl, hm, hg, hd, hB⟩ := hrel
    have hal : (ByteArray.mk acc.toArray).size = acc.length := by simp [ByteArray.size]
    cases gk with
    | zero =>
      obtain ⟨HE0, hm0⟩ := hd.out.done (by omega)
      have HE := Lib.hid HE0
      clear HE0
      have h1' : ¬ ((acc.length : Int) < 9) := by omega
      subst hm0
      clear hd
      go_wp2
      go_ret
      exact ⟨by rw [HE.out]; rfl, hB⟩
    | succ gh =>
      have HS := Lib.hid (hd.out.step (by omega))
      have HT := Lib.hid (digit_text (m % 10) (Nat.mod_lt _ (by decide)))
      have hr9 : m % 10 < 10 := Nat.mod_lt _ (by decide)
      have h1' : ((acc.length : Int) < 9) := by omega
      clear hd
      by_cases h0 : 0 < m
      · have h0' : (0 : Int) < (m : Int) := by omega
        go_wp2
        go_roundg gh
        case rel => exact ⟨m / 10, _, by go_num, by rw [HT.out, cons_text], by omega, by simp; omega, HS, hB⟩
        case measure => omega
      · have hm0 : m = 0 := by omega
        subst hm0
        go_wp2
        go_roundg gh
        case rel => exact ⟨0, _, rfl, by rw [← cons_text]; rfl, by omega, by simp; omega, HS, hB⟩
        case measure => omega
set_option maxHeartbeats 1000000 in
theorem gcdR_c (a b : Nat) (w : World) (ha : a ≤ 9223372036854775807) (hb : b ≤ 9223372036854775807) :
    Calls Tryz.prog 127 #[.int .i64 a, .int .i64 b] w (fun e w' => e = .returned (.int .i64 (Nat.gcd a b : Nat)) ∧ Below w.heap.size w w') := by
  go_enter Tryz.func127, Tryz.ntmps127
  go_wp2
  go_loopg [0, 1] b (fun g x y wr => ∃ (p q : Nat), x = .int .i64 p ∧ y = .int .i64 q ∧ p ≤ 9223372036854775807 ∧ q ≤ 9223372036854775807 ∧ g = q ∧ Hid (Nat.gcd p q = Nat.gcd a b) ∧ Below w.heap.size w wr)
  case atStart => exact ⟨a, b, rfl, rfl, ha, hb, rfl, Lib.hid rfl, Below.refl _ _⟩
  case round =>
    obtain ⟨p, q, rfl, rfl, hp, hq, rfl, hd, hB⟩ := hrel
    by_cases h0 : 0 < gk
    · have h0' : (0 : Int) < (gk : Int) := by omega
      have hlt : p % gk < gk := Nat.mod_lt _ h0
      have HS : Hid (Nat.gcd gk (p % gk) = Nat.gcd a b) := Lib.hid (by rw [← hd.out, Nat.gcd_comm p gk, Nat.gcd_rec gk p, Nat.gcd_comm])
      clear hd
      go_wp2_with (go_quiet (fail))
      go_roundg (p % gk)
      case rel => exact ⟨gk, p % gk, rfl, by go_num, hq, by omega, rfl, HS, below_drewN hB nq⟩
      case measure => exact hlt
    · have hm0 : gk = 0 := by omega
      subst hm0
      have HE : Hid (Nat.gcd a b = p) := Lib.hid (by rw [← hd.out]; simp)
      clear hd
      go_wp2
      go_ret
      exact ⟨by rw [HE.out]; rfl, hB⟩
end Go.Proofs.YtneafcdfnhnpnaaGreatDoor
/- Plain mathematics of the texts of numbers: what is written is read again. -/
namespace Go.Proofs.YtneafcdfnhnpnaaGreatDoor
open Go.Lib

theorem ofNat_digit {d : Nat} (h : d < 10) : (UInt8.ofNat (48 + d)).toNat = 48 + d := by rw [UInt8.toNat_ofNat']; omega
theorem dec_all (n : Nat) : allDig (decDigits n) := by
  induction n using Nat.strongRecOn with
  | _ n ih =>
    by_cases h : n < 10
    · rw [decDigits_one h]
      intro c hc
      obtain rfl := List.mem_singleton.1 hc
      rw [ofNat_digit h]; omega
    · rw [decDigits_big (by omega)]
      intro c hc
      rcases List.mem_append.1 hc with hc | hc
      · exact ih (n / 10) (by omega) c hc
      · obtain rfl := List.mem_singleton.1 hc
        rw [ofNat_digit (Nat.mod_lt _ (by decide))]; omega
theorem dec_val (n : Nat) : decVal (decDigits n) = n := by
  induction n using Nat.strongRecOn with
  | _ n ih =>
    by_cases h : n < 10
    · rw [decDigits_one h, decVal, decFold_cons, decFold_nil, ofNat_digit h]; omega
    · rw [decDigits_big (by omega), decVal_append, ih (n / 10) (by omega), decVal, decFold_cons, decFold_nil, ofNat_digit (Nat.mod_lt _ (by decide))]
      simp only [List.length_singleton, Nat.pow_one]; omega
theorem dec_ne (n : Nat) : decDigits n ≠ [] := by
  by_cases h : n < 10
  · rw [decDigits_one h]; simp
  · rw [decDigits_big (by omega)]; simp
theorem dec_head {n : Nat} (hn : n ≠ 0) : (decDigits n).head? ≠ some 48 := by
  induction n using Nat.strongRecOn with
  | _ n ih =>
    by_cases h : n < 10
    · rw [decDigits_one h]
      intro e
      have := congrArg UInt8.toNat (Option.some.inj e)
      rw [ofNat_digit h] at this
      have h2 : (48 : UInt8).toNat = 48 := rfl
      omega
    · rw [decDigits_big (by omega), List.head?_append]
      have := ih (n / 10) (by omega) (by omega)
      cases h3 : (decDigits (n / 10)).head? with
      | none => exact absurd (List.head?_eq_none_iff.1 h3) (dec_ne _)
      | some c => rw [h3] at this; simpa using this
theorem dec_num (n : Nat) : Numeral (decDigits n) := by
  refine ⟨dec_all n, ?_⟩
  by_cases h : n = 0
  · subst h; exact .inl (decDigits_one (by decide))
  · exact .inr ⟨dec_ne n, dec_head h⟩
theorem dig_no {l : List UInt8} (h : allDig l) (c : UInt8) (hc : c.toNat < 48 ∨ 57 < c.toNat) : c ∉ l := fun hm => by have := h c hm; omega
theorem numeral_snoc {l : List UInt8} {c : UInt8} (h : Numeral (l ++ [c])) (hl : l ≠ []) : Numeral l ∧ l ≠ [48] := by
  obtain ⟨h1, h2⟩ := h
  have ha : allDig l := fun x hx => h1 x (List.mem_append_left _ hx)
  rcases h2 with h2 | ⟨_, h2⟩
  · have := congrArg List.length h2
    simp at this
    exact absurd (by simpa using this) hl
  · cases l with
    | nil => exact absurd rfl hl
    | cons a t =>
      simp at h2
      exact ⟨⟨ha, .inr ⟨by simp, by simpa using h2⟩⟩, by intro e; injection e with e1 e2; exact h2 e1⟩
/-- a numeral is what is written of its value -/
theorem numeral_dec : ∀ (k : Nat) (l : List UInt8), l.length = k → Numeral l → l = decDigits (decVal l) := by
  intro k
  induction k with
  | zero =>
    intro l hl h
    have := List.length_eq_zero_iff.1 hl
    subst this
    rcases h.2 with h | h
    · cases h
    · exact absurd rfl h.1
  | succ k ih =>
    intro l hl h
    have hne : l ≠ [] := by intro e; rw [e] at hl; simp at hl
    obtain ⟨p, c, rfl⟩ : ∃ p c, l = p ++ [c] := ⟨l.dropLast, l.getLast hne, (List.dropLast_concat_getLast hne).symm⟩
    have hc := h.1 c (by simp)
    obtain ⟨d, hd⟩ : ∃ d, c.toNat = 48 + d := ⟨c.toNat - 48, by omega⟩
    have hcd : c = UInt8.ofNat (48 + d) := by apply UInt8.toNat_inj.1; rw [ofNat_digit (by omega), hd]
    have hv : decVal [c] = d := by rw [decVal, decFold_cons, decFold_nil]; omega
    by_cases hp : p = []
    · subst hp
      rw [List.nil_append, hv, decDigits_one (by omega), hcd]
    · obtain ⟨h3, h4⟩ := numeral_snoc h hp
      have h5 := ih p (by simpa using hl) h3
      have hpos : 0 < decVal p := by
        rcases Nat.eq_zero_or_pos (decVal p) with h6 | h6
        · rw [h6] at h5; exact absurd (h5.trans (decDigits_one (by decide))) h4
        · exact h6
      rw [decVal_append, hv]
      simp only [List.length_singleton, Nat.pow_one]
      rw [decDigits_big (by omega), show (decVal p * 10 + d) / 10 = decVal p from by omega, show (decVal p * 10 + d) % 10 = d from by omega, ← h5, hcd]
theorem slash_none {l : List UInt8} (h : allDig l) : slashAt l = l.length := by
  unfold slashAt
  refine List.findIdx_eq_length.2 fun x hx => ?_
  have := h x hx
  simp only [beq_eq_false_iff_ne]
  rintro rfl
  exact absurd this.1 (by decide)
theorem slash_app {l r : List UInt8} (h : allDig l) : slashAt (l ++ 47 :: r) = l.length := by
  have := slash_none h
  unfold slashAt at this ⊢
  rw [List.findIdx_append, this, if_neg (by omega)]
  rw [List.findIdx_cons]; simp
end Go.Proofs.YtneafcdfnhnpnaaGreatDoor
/- Contracts of the reference: quotients of machine integers. -/
namespace Go.Proofs.YtneafcdfnhnpnaaGreatDoor
open Go.RowKit Go.Lib

/-- a number as its text, from its parts -/
def ptext (neg : Bool) (n d : Nat) : List UInt8 := (if neg then [45] else []) ++ decDigits n ++ (if d = 1 then [] else 47 :: decDigits d)
theorem rtext_low {a : Int} {d : Nat} (hd : d ≠ 0) (hc : Nat.gcd a.natAbs d = 1) : rtext (mkRat a d) = ptext (decide (a < 0)) a.natAbs d := by
  obtain ⟨h1, h2⟩ := mkRat_low hd hc
  unfold rtext ptext
  rw [h1, h2]
  by_cases h : a < 0
  · rw [if_pos h, decide_eq_true h]; rfl
  · rw [if_neg h, decide_eq_false h]; rfl
theorem tdiv_parts (a : Int) (d : Nat) (hd : 0 < d) : ∃ (g n1 d1 : Nat), Nat.gcd a.natAbs d = g ∧ 0 < g ∧ g ≤ d ∧ d / g = d1 ∧ d1 ≤ d ∧ 0 < d1 ∧ n1 ≤ a.natAbs ∧ a.tdiv g = sg (decide (a < 0)) n1 ∧ (a < 0 → 0 < n1) ∧ rtext (mkRat a d) = ptext (decide (a < 0)) n1 d1 := by
  have hg : 0 < Nat.gcd a.natAbs d := Nat.gcd_pos_of_pos_right _ hd
  obtain ⟨n1, hn⟩ := Nat.gcd_dvd_left a.natAbs d
  obtain ⟨d1, hd1⟩ := Nat.gcd_dvd_right a.natAbs d
  generalize hgg : Nat.gcd a.natAbs d = g at *
  have e1 : d / g = d1 := by rw [hd1, Nat.mul_div_cancel_left _ hg]
  have hd10 : 0 < d1 := by rcases Nat.eq_zero_or_pos d1 with h | h; subst h; omega; exact h
  have hd1le : d1 ≤ d := by rw [← e1]; exact Nat.div_le_self _ _
  have hn1 : n1 ≤ a.natAbs := by rw [hn]; exact Nat.le_mul_of_pos_left _ hg
  have hco : Nat.gcd n1 d1 = 1 := by
    have h := hgg
    rw [hn, hd1, Nat.gcd_mul_left] at h
    exact Nat.eq_of_mul_eq_mul_left hg (by rw [h, Nat.mul_one])
  have ha : a = sg (decide (a < 0)) n1 * g := by
    unfold sg
    by_cases h : a < 0
    · rw [if_pos (decide_eq_true h)]
      have : (a.natAbs : Int) = (g : Int) * (n1 : Int) := by rw [hn]; simp
      rw [Int.neg_mul, Int.mul_comm, ← this]; omega
    · rw [if_neg (by simpa using h)]
      have : (a.natAbs : Int) = (g : Int) * (n1 : Int) := by rw [hn]; simp
      rw [Int.mul_comm, ← this]; omega
  have hpos : a < 0 → 0 < n1 := by
    intro h
    rcases Nat.eq_zero_or_pos n1 with h1 | h1
    · rw [h1, Nat.mul_zero] at hn; omega
    · exact h1
  refine ⟨g, n1, d1, rfl, hg, Nat.le_of_dvd hd ⟨d1, hd1⟩, e1, hd1le, hd10, hn1, ?_, hpos, ?_⟩
  · conv => lhs; rw [ha]
    exact Int.mul_tdiv_cancel _ (by omega)
  · have hs : (sg (decide (a < 0)) n1).natAbs = n1 := by unfold sg; split <;> simp
    have hneg : decide (sg (decide (a < 0)) n1 < 0) = decide (a < 0) := by
      unfold sg
      by_cases h : a < 0
      · have := hpos h
        simp [h]; try omega
      · simp [h]; try omega
    have h2 : mkRat a d = mkRat (sg (decide (a < 0)) n1) d1 := by
      rw [show d = g * d1 from hd1]
      conv => lhs; rw [ha, Int.mul_comm]
      exact Rat.mkRat_mul_left (by omega)
    rw [h2, rtext_low (by omega) (by rw [hs]; exact hco), hneg, hs]

set_option maxRecDepth 100000 in
set_option maxHeartbeats 2000000 in
theorem Of_w (a : Int) (d g n n1 d1 : Nat) (neg : Bool) (w : World) (ha : -4000000000000000000 ≤ a ∧ a ≤ 4000000000000000000) (hd0 : (0 : Int) < d) (hd : (d : Int) ≤ 4000000000000000000) (hmx : Hid (max a (-a) = (n : Int))) (hg : Nat.gcd n d = g) (hg0 : (0 : Int) < g) (hgl : (g : Int) ≤ 4000000000000000000)
    (hq : a.tdiv (g : Int) = sg neg n1) (hn1 : (n1 : Int) ≤ 4000000000000000000) (hp : neg = true → (0 : Int) < n1) (hdq : wrap64 ((d : Int) / (g : Int)) = (d1 : Int)) (hd1 : (d1 : Int) ≤ 4000000000000000000) (hd10 : (0 : Int) < d1) :
    Calls Tryz.prog 35 #[.int .i64 a, .int .i64 d] w (ansText (ptext neg n1 d1) w) := by
  have GC := Lib.hid (fun w => gcdR_c n d w (by have := hmx.out; omega) (by omega))
  rw [hg] at GC
  clear hg
  have DN := Lib.hid (fun w => decimal1_c n1 w (by omega))
  have DD := Lib.hid (fun w => decimal1_c d1 w (by omega))
  have hL1 := dec_len (n := n1) (by omega)
  have hL2 := dec_len (n := d1) (by omega)
  cases neg with
  | false =>
    have hq2 : a.tdiv (g : Int) = (n1 : Int) := hq
    clear hq
    clear hp
    by_cases h1 : (1 : Int) < d1
    · have HX : Hid (ptext false n1 d1 = decDigits n1 ++ [47] ++ decDigits d1) := Lib.hid (by unfold ptext; rw [if_neg (by omega : ¬ d1 = 1)]; simp)
      go_enter Tryz.func35, Tryz.ntmps35
      go_wp2_with fail
      rw [hmx.out]
      refine (GC.out _).mono ?_
      clear GC
      rintro e w1 ⟨rfl, hB1⟩
      go_wp2_with (go_quiet (fail))
      have hB1' := below_drewN hB1 nq
      rw [show max ((n1 : Int)) (-(n1 : Int)) = n1 from by omega]
      refine (DN.out _).mono ?_
      clear DN
      rintro e w2 ⟨rfl, hB2⟩
      go_wp2_with fail
      refine (DD.out _).mono ?_
      clear DD
      rintro e w3 ⟨rfl, hB3⟩
      go_wp2
      go_ret
      refine ⟨?_, hB1'.trans ((hB2.mono hB1'.size).trans (hB3.mono (Nat.le_trans hB1'.size hB2.size)))⟩
      rw [HX.out]
      simp [ByteArray.mk_append_mk]
    · have HX : Hid (ptext false n1 d1 = decDigits n1) := Lib.hid (by unfold ptext; rw [if_pos (by omega : d1 = 1)]; simp)
      go_enter Tryz.func35, Tryz.ntmps35
      go_wp2_with fail
      rw [hmx.out]
      refine (GC.out _).mono ?_
      clear GC
      rintro e w1 ⟨rfl, hB1⟩
      go_wp2_with (go_quiet (fail))
      have hB1' := below_drewN hB1 nq
      rw [show max ((n1 : Int)) (-(n1 : Int)) = n1 from by omega]
      refine (DN.out _).mono ?_
      clear DN
      rintro e w2 ⟨rfl, hB2⟩
      go_wp2
      go_ret
      refine ⟨?_, hB1'.trans (hB2.mono hB1'.size)⟩
      rw [HX.out]
      simp [ByteArray.mk_append_mk]
  | true =>
    have hq2 : a.tdiv (g : Int) = -(n1 : Int) := hq
    clear hq
    have hp2 := hp rfl
    clear hp
    by_cases h1 : (1 : Int) < d1
    · have HX : Hid (ptext true n1 d1 = [45] ++ decDigits n1 ++ [47] ++ decDigits d1) := Lib.hid (by unfold ptext; rw [if_neg (by omega : ¬ d1 = 1)]; simp)
      go_enter Tryz.func35, Tryz.ntmps35
      go_wp2_with fail
      rw [hmx.out]
      refine (GC.out _).mono ?_
      clear GC
      rintro e w1 ⟨rfl, hB1⟩
      go_wp2_with (go_quiet (fail))
      have hB1' := below_drewN hB1 nq
      rw [show max (-(n1 : Int)) ((n1 : Int)) = n1 from by omega]
      refine (DN.out _).mono ?_
      clear DN
      rintro e w2 ⟨rfl, hB2⟩
      go_wp2_with fail
      refine (DD.out _).mono ?_
      clear DD
      rintro e w3 ⟨rfl, hB3⟩
      go_wp2
      go_ret
      refine ⟨?_, hB1'.trans ((hB2.mono hB1'.size).trans (hB3.mono (Nat.le_trans hB1'.size hB2.size)))⟩
      rw [HX.out]
      simp [ByteArray.mk_append_mk]
    · have HX : Hid (ptext true n1 d1 = [45] ++ decDigits n1) := Lib.hid (by unfold ptext; rw [if_pos (by omega : d1 = 1)]; simp)
      go_enter Tryz.func35, Tryz.ntmps35
      go_wp2_with fail
      rw [hmx.out]
      refine (GC.out _).mono ?_
      clear GC
      rintro e w1 ⟨rfl, hB1⟩
      go_wp2_with (go_quiet (fail))
      have hB1' := below_drewN hB1 nq
      rw [show max (-(n1 : Int)) ((n1 : Int)) = n1 from by omega]
      refine (DN.out _).mono ?_
      clear DN
      rintro e w2 ⟨rfl, hB2⟩
      go_wp2
      go_ret
      refine ⟨?_, hB1'.trans (hB2.mono hB1'.size)⟩
      rw [HX.out]
      simp [ByteArray.mk_append_mk]
theorem OfR_c (a : Int) (d : Nat) (w : World) (ha : -4000000000000000000 ≤ a ∧ a ≤ 4000000000000000000) (hd0 : 0 < d) (hd : (d : Int) ≤ 4000000000000000000) :
    Calls Tryz.prog 35 #[.int .i64 a, .int .i64 d] w (ansText (rtext (mkRat a d)) w) := by
  obtain ⟨g, n1, d1, h1, h2, h3, h4, h5, h6, h7, h8, h9, h10⟩ := tdiv_parts a d hd0
  rw [h10]
  have e : ((d : Int) / (g : Int)) = (d1 : Int) := by rw [← h4]; rfl
  refine Of_w a d g a.natAbs n1 d1 (decide (a < 0)) w ha (by omega) hd (Lib.hid (by omega)) h1 (by omega) (by omega) h8 (by omega) (fun h => by have := h9 (of_decide_eq_true h); omega) ?_ (by omega) (by omega)
  rw [e]
  exact IntWalk.wrap64_in _ (by omega)
end Go.Proofs.YtneafcdfnhnpnaaGreatDoor
/- The reference's integers: digits to the base 10^9; contracts of trim and signed. -/
namespace Go.Proofs.YtneafcdfnhnpnaaGreatDoor
open Go.RowKit Go.Lib

/-- one more than the greatest digit -/
abbrev B9 : Nat := 1000000000
def bval : List Nat → Nat
  | [] => 0
  | x :: r => x + B9 * bval r
def bok (ws : List Nat) : Prop := ∀ x ∈ ws, x < B9
theorem bok_nil : bok [] := fun x hx => by simp at hx
theorem bok_append {a b : List Nat} : bok (a ++ b) ↔ bok a ∧ bok b := by
  unfold bok; simp only [List.mem_append]
  exact ⟨fun h => ⟨fun x hx => h x (.inl hx), fun x hx => h x (.inr hx)⟩, fun h x hx => hx.elim (h.1 x) (h.2 x)⟩
theorem bok_single {x : Nat} : bok [x] ↔ x < B9 := by unfold bok; simp
theorem bok_take {ws : List Nat} (h : bok ws) (k : Nat) : bok (ws.take k) := fun x hx => h x (List.mem_of_mem_take hx)
theorem bok_get {ws : List Nat} (h : bok ws) (k : Nat) : ws[k]?.getD 0 < B9 := by
  rcases Nat.lt_or_ge k ws.length with hk | hk
  · rw [List.getElem?_eq_getElem hk]; exact h _ (List.getElem_mem hk)
  · rw [List.getElem?_eq_none hk]; decide
theorem bval_append (a b : List Nat) : bval (a ++ b) = bval a + B9 ^ a.length * bval b := by
  induction a with
  | nil => simp [bval]
  | cons x r ih =>
    simp only [List.cons_append, bval, ih, List.length_cons, Nat.pow_succ]
    rw [Nat.mul_add, ← Nat.mul_assoc, Nat.mul_comm B9 (_ ^ _), Nat.add_assoc]
theorem bval_concat (l : List Nat) (x : Nat) : bval (l ++ [x]) = bval l + B9 ^ l.length * x := by rw [bval_append]; simp [bval]
theorem btrim_val (ws : List Nat) : bval (wtrim ws) = bval ws := by
  refine snoc_ind (P := fun ws => bval (wtrim ws) = bval ws) rfl (fun l x ih => ?_) ws
  by_cases h : x = 0
  · subst h; rw [wtrim_concat_zero, ih, bval_append]; simp [bval]
  · rw [wtrim_concat l x h]
theorem btrim_ok {ws : List Nat} (h : bok ws) : bok (wtrim ws) := by
  intro x hx
  apply h
  unfold wtrim at hx
  rw [List.mem_reverse] at hx
  exact List.mem_reverse.1 ((List.dropWhile_sublist _).mem hx)
theorem bval_lt {ws : List Nat} (h : bok ws) : bval ws < B9 ^ ws.length := by
  induction ws with
  | nil => simp [bval]
  | cons x r ih =>
    have hx := h x (by simp)
    have hr := ih (fun y hy => h y (by simp [hy]))
    simp only [bval, List.length_cons, Nat.pow_succ]
    have : B9 * (bval r + 1) ≤ B9 * B9 ^ r.length := Nat.mul_le_mul_left _ hr
    rw [Nat.mul_comm (_ ^ _) B9]
    rw [Nat.mul_add, Nat.mul_one] at this
    omega
theorem bnorm_last {ws : List Nat} (h : wnorm ws) (hne : ws ≠ []) : B9 ^ (ws.length - 1) ≤ bval ws := by
  revert h hne
  refine snoc_ind (P := fun ws => wnorm ws → ws ≠ [] → B9 ^ (ws.length - 1) ≤ bval ws) (fun _ h => absurd rfl h) (fun l x _ h _ => ?_) ws
  by_cases hx : x = 0
  · subst hx
    unfold wnorm at h
    rw [wtrim_concat_zero] at h
    have := wtrim_length_le l
    rw [h] at this
    simp at this
    omega
  · rw [bval_concat]
    have : B9 ^ l.length * 1 ≤ B9 ^ l.length * x := Nat.mul_le_mul_left _ (by omega)
    simp; omega
theorem bnorm_pos {ws : List Nat} (h : wnorm ws) : bval ws = 0 ↔ ws = [] := by
  constructor
  · intro h0
    rcases List.eq_nil_or_concat ws with rfl | ⟨l, x, rfl⟩
    · rfl
    · have := bnorm_last h (by simp)
      have hp : 0 < B9 ^ ((l.concat x).length - 1) := Nat.pow_pos (by decide)
      omega
  · rintro rfl; rfl
theorem ncells_length (ws : List Nat) : (ncells ws).length = ws.length := by simp [ncells]
theorem ncells_get (ws : List Nat) (k : Nat) (h : k < ws.length) : (ncells ws)[k]? = some (Value.int .i64 ((ws[k]?.getD 0 : Nat) : Int)) := by
  simp [ncells, h]
theorem ncells_take (ws : List Nat) (k : Nat) : (ncells ws).take k = ncells (ws.take k) := by simp [ncells]

theorem SlW.take {w : World} {A : Option Addr} {n c k : Nat} {xs : List Value} (h : SlW w (.slice A n c) xs) (hk : k ≤ xs.length) : SlW w (.slice A k c) (xs.take k) := by
  obtain ⟨A', c', hv, h1, h2, h3⟩ := h
  obtain ⟨rfl, rfl, rfl⟩ : A = A' ∧ n = xs.length ∧ c = c' := by simpa using hv
  have hl : (xs.take k).length = k := by rw [List.length_take]; omega
  refine ⟨A, c, by rw [hl], by omega, by omega, fun hn => ?_⟩
  obtain ⟨b, off, hA, hb, hc⟩ := h3 (by omega)
  refine ⟨b, off, hA, hb, fun j hj => ?_⟩
  rw [hc j (by omega), List.getElem?_take, if_pos (by omega)]
set_option maxHeartbeats 1000000 in
theorem trimR_c (A : Option Addr) (c : Nat) (ws : List Nat) (w : World) (hv : SlW w (.slice A ws.length c) (ncells ws)) :
    Calls Tryz.prog 226 #[.slice A ws.length c] w fun e w' => e = .returned (.slice A (wtrim ws).length c) ∧ SlW w (.slice A (wtrim ws).length c) (ncells (wtrim ws)) ∧ w = w' := by
  have hc := hv.form
  obtain ⟨A0, c0, hv0, hc1, hc2⟩ := hc
  rw [ncells_length] at hc1 hc2 hv0
  obtain ⟨rfl, rfl⟩ : A = A0 ∧ c = c0 := by simpa using hv0
  clear hv0
  go_enter Tryz.func226, Tryz.ntmps226
  go_wp2
  go_loopg [0] ws.length (fun g u wr => ∃ k : Nat, u = .slice A k c ∧ k ≤ ws.length ∧ g = k ∧ Hid (wtrim (ws.take k) = wtrim ws) ∧ wr = w)
  case atStart => exact ⟨ws.length, rfl, by omega, rfl, Lib.hid (by simp), rfl⟩
  case round =>
    obtain ⟨k, rfl, hk, rfl, hf, rfl⟩ := hrel
    by_cases h0 : 0 < gk
    · obtain ⟨j, rfl⟩ : ∃ j, gk = j + 1 := ⟨gk - 1, by omega⟩
      obtain ⟨b, off, rfl, hb, hcell⟩ := hv.at_ (k := j) (by rw [ncells_length]; omega)
      have hck := hcell j (by rw [ncells_length]; omega)
      rw [ncells_get ws j (by omega)] at hck
      have Ht := Lib.hid (take_succ_nat ws j (by omega))
      generalize hx : ws[j]?.getD 0 = x at hck Ht
      clear hx hcell
      by_cases hz : x = 0
      · subst hz
        have HS : Hid (wtrim (ws.take j) = wtrim ws) := Lib.hid (by rw [← hf.out, Ht.out, wtrim_concat_zero])
        clear hf Ht
        go_wp2
        go_roundg j
        case rel => exact ⟨j, rfl, by omega, rfl, HS, rfl⟩
        case measure => omega
      · have hz' : (((x : Nat) : Int) == 0) = false := by simpa using hz
        have hlen : wtrim ws = ws.take (j + 1) := by rw [← hf.out, Ht.out, wtrim_concat _ _ hz]
        have hsl := hv.take (k := j + 1) (by rw [ncells_length]; omega)
        rw [ncells_take, ← hlen] at hsl
        have hn : (wtrim ws).length = j + 1 := by rw [hlen]; simp; omega
        have Hn := Lib.hid hn; clear hn
        have HSL := Lib.hid hsl
        clear hlen hsl hf Ht hz
        go_wp2
        go_ret
        refine ⟨by rw [Hn.out]; rfl, by rw [Hn.out]; exact HSL.out, rfl⟩
    · have : gk = 0 := by omega
      subst this
      have hn : wtrim ws = [] := by rw [← hf.out]; rfl
      have Hn := Lib.hid hn; clear hn
      have HSL := Lib.hid (hv.take (k := 0) (by omega))
      clear hf
      go_wp2
      go_ret
      refine ⟨by rw [Hn.out]; rfl, by rw [Hn.out]; exact HSL.out, rfl⟩
/-- the value is an integer of the reference -/
def Ri (w : World) (v : Value) (x : Int) : Prop := ∃ dv ws, v = .agg #[.bool (decide (x < 0)), dv] ∧ bval ws = x.natAbs ∧ bok ws ∧ wnorm ws ∧ SlW w dv (ncells ws)
theorem Ri.below {w w' : World} {v : Value} {x : Int} (h : Ri w v x) (hb : Below w.heap.size w w') : Ri w' v x := by
  obtain ⟨dv, ws, h1, h2, h3, h4, h5⟩ := h
  exact ⟨dv, ws, h1, h2, h3, h4, h5.below hb⟩
theorem sg_natAbs (neg : Bool) (n : Nat) : (sg neg n).natAbs = n := by unfold sg; split <;> simp
theorem sg_neg (neg : Bool) (n : Nat) : decide (sg neg n < 0) = (neg && decide (0 < n)) := by
  unfold sg
  cases neg
  · simp
  · simp
theorem wtrim_take (ws : List Nat) : wtrim ws = ws.take (wtrim ws).length := by
  refine snoc_ind (P := fun ws => wtrim ws = ws.take (wtrim ws).length) rfl (fun l x ih => ?_) ws
  by_cases h : x = 0
  · subst h
    rw [wtrim_concat_zero, List.take_append_of_le_length (wtrim_length_le l)]
    exact ih
  · rw [wtrim_concat l x h, List.take_of_length_le (Nat.le_refl _)]
theorem new2 (w : World) (t : TypeId) (a b : Value) : (w.alloc (.cells #[a, b] t)).cell? ⟨w.heap.size, 0, none⟩ = some a ∧ (w.alloc (.cells #[a, b] t)).cell? ⟨w.heap.size, 1, none⟩ = some b := by
  constructor <;> rw [World.cell?_alloc_at _ _ _ _ rfl] <;> rfl
def riPost (x : Int) (w : World) (e : Ending) (w' : World) : Prop := ∃ v, e = .returned v ∧ Ri w' v x ∧ Below w.heap.size w w'
set_option maxRecDepth 100000 in
set_option maxHeartbeats 2000000 in
theorem signed_c (neg : Bool) (dv : Value) (ws : List Nat) (w : World) (hok : bok ws) (hv : SlW w dv (ncells ws)) :
    Calls Tryz.prog 183 #[.bool neg, dv] w (riPost (sg neg (bval ws)) w) := by
  obtain ⟨A, c, rfl, hc1, hc2⟩ := hv.form
  rw [ncells_length] at *
  have HV := Lib.hid hv
  clear hv
  have HOK := Lib.hid hok
  clear hok
  have HS : Hid (SlW w (.slice A (wtrim ws).length c) (ncells (wtrim ws))) := Lib.hid (by
    have h := HV.out.take (k := (wtrim ws).length) (by rw [ncells_length]; exact wtrim_length_le ws)
    rw [ncells_take, ← wtrim_take] at h; exact h)
  have HP : Hid (decide (0 < bval ws) = decide (0 < (wtrim ws).length)) := Lib.hid (by
    rw [← btrim_val]
    have := bnorm_pos (wtrim_norm ws)
    cases h : wtrim ws with
    | nil => rfl
    | cons a r =>
      have h1 : bval (a :: r) ≠ 0 := fun e => by rw [← h] at e; have := this.1 e; rw [h] at this; cases this
      simp; omega)
  have HF : Hid (∀ b : Bool, b = (neg && decide (0 < (wtrim ws).length)) → riPost (sg neg (bval ws)) w (.returned (.agg #[.bool b, .slice A (wtrim ws).length c])) (w.alloc (.cells #[.bool b, .slice A (wtrim ws).length c] 127))) := Lib.hid (fun b hb => by
    have hB : Below w.heap.size w (w.alloc (.cells #[.bool b, .slice A (wtrim ws).length c] 127)) := (Below.refl _ _).alloc (Nat.le_refl _) _
    exact ⟨_, rfl, ⟨_, wtrim ws, by rw [sg_neg, HP.out, hb], by rw [sg_natAbs, btrim_val], btrim_ok HOK.out, wtrim_norm ws, HS.out.below hB⟩, hB⟩)
  have HL := Lib.hid (wtrim_length_le ws)
  go_enter Tryz.func183, Tryz.ntmps183
  go_wp2_with fail
  refine (trimR_c A c ws _ (HV.out.below ((Below.refl _ _).alloc (Nat.le_refl _) _))).mono ?_
  rintro e w1 ⟨rfl, hs, rfl⟩
  clear hs
  cases neg with
  | true =>
    go_wp2
    obtain ⟨z0, z1⟩ := new2 w 127 (.bool (decide (0 < (wtrim ws).length))) (.slice A (wtrim ws).length c)
    exact bodyPost_ret (v := .agg #[.bool (decide (0 < (wtrim ws).length)), .slice A (wtrim ws).length c]) (by simp [results, Tryz.results183, go_sem, z0, z1]) rfl (HF.out _ (by simp))
  | false =>
    go_wp2
    obtain ⟨z0, z1⟩ := new2 w 127 (.bool false) (.slice A (wtrim ws).length c)
    exact bodyPost_ret (v := .agg #[.bool false, .slice A (wtrim ws).length c]) (by simp [results, Tryz.results183, go_sem, z0, z1]) rfl (HF.out _ (by simp))
end Go.Proofs.YtneafcdfnhnpnaaGreatDoor
