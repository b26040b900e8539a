/- Contract of the reference: the error of a number. -/
import Derived.Test.YtneafcdfnhnpnaaGreatDoorZU26
import Derived.Test.YtneafcdfnhnpnaaGreatDoorZU04
import Derived.Test.YtneafcdfnhnpnaaGreatDoorZU15
import Derived.Test.YtneafcdfnhnpnaaGreatDoorZU20
set_option maxRecDepth 100000
set_option maxHeartbeats 4000000
namespace Go.Proofs.YtneafcdfnhnpnaaGreatDoor
open Go.RowKit Go.Lib
theorem occ47 (l:List UInt8) (j:Nat):occAt l [47] j=true↔l[j]? =some 47:=by
 unfold occAt
 rw[←List.head?_drop]
 cases l.drop j with
 | nil=>simp
 | cons a r=>simp[List.isPrefixOf];exact⟨fun h=>h.symm,fun h=>h.symm⟩
theorem slash_is {l:List UInt8} (h:slashAt l<l.length):l[slashAt l]? =some 47:=by
 have h3:List.findIdx (fun x=>x==47) l<l.length:=h
 have:=List.findIdx_getElem (p:=(· ==47)) (w:=h3)
 rw[List.getElem?_eq_getElem h]
 have e:l[slashAt l]=47:=by simpa [slashAt] using this
 exact congrArg some e
theorem slash_before {l:List UInt8} {j:Nat} (h:j<slashAt l):l[j]? ≠some 47:=by
 intro e
 obtain⟨hl,hg⟩:=List.getElem?_eq_some_iff.1 e
 have:=List.not_of_lt_findIdx h
 rw[hg] at this
 simp at this
theorem cut_slash (l:List UInt8):cut l [47]=if slashAt l<l.length then (l.take (slashAt l),l.drop (slashAt l+1),true) else (l,[],false):=by
 have hle:=slashAt_le l
 unfold cut
 rcases index_spec l [47] with ⟨e,hno⟩ | ⟨i,e,hi,ho,hn⟩
 ·have h:¬slashAt l<l.length:=by
   intro h
   have:=(occ47 l (slashAt l)).2 (slash_is h)
   rw[hno _ hle] at this;cases this
  rw[if_neg h,e,if_neg (by decide)]
 ·have h47:=(occ47 l i).1 ho
  have hil:i<l.length:=(List.getElem?_eq_some_iff.1 h47).1
  have hs:slashAt l=i:=by
   rcases Nat.lt_trichotomy (slashAt l) i with h | h | h
   ·exfalso
    have h1:=(occ47 l (slashAt l)).2 (slash_is (by omega))
    have h2:=hn (slashAt l) h
    rw[h1] at h2;cases h2
   ·exact h
   ·exact absurd h47 (slash_before h)
  rw[e,hs,if_pos (by omega),if_pos hil];rfl
def ckPost (c:Int) (w:World) (e:Ending) (w':World):Prop:=e = .returned (.int .i64 c)∧Below w.heap.size w w'
structure CkH (s t:ByteArray) (neg:Bool) (k:Nat) (dA:Bool):Prop where
 hsz:(s.size:Int)≤4000000000000000000
 htz:(t.size:Int)≤4000000000000000000
 hk:(k:Int)≤(t.size:Int)
 hn:neg=true → ∃h:0<s.size,(((s[0]'h).toNat:Int)==45)=true∧s.extract 1 s.size=t
 hp:neg=false→s=t ∧ ∀h:0<s.size,(((s[0]'h).toNat:Int)==45)=false
 SL:∀W,Calls Tryz.prog 103 #[.string t] W (ansInt k W)
 DA:∀W,Calls Tryz.prog 104 #[.string (t.extract 0 k)] W (ansBool dA W)
 ne:dA=true→0<s.size
theorem ck_badA (s t:ByteArray) (neg:Bool) (k:Nat) (w:World) (H:CkH s t neg k false):
  Calls Tryz.prog 17 #[.string s] w (ckPost 1 w):=by
 obtain⟨hsz,htz,hk,hn,hp,SL0,DA0,ne⟩:=H
 have SL:=hid SL0
 have DA:=hid DA0
 clear SL0 DA0
 cases neg with
 | true=>
  obtain⟨h0,hc,hte⟩:=hn rfl
  have h0I:(0:Int)<(s.size:Int):=by omega
  have h1I:(1:Int)≤(s.size:Int):=by omega
  have HTE:=hid hte
  clear hn hp ne hte
  go_enter Tryz.func17,Tryz.ntmps17
  go_wp2_with fail
  rw[HTE.out]
  refine(SL.out _).mono ?_
  rintro e w1 ⟨rfl,rfl⟩
  go_wp2_with fail
  refine(DA.out _).mono ?_
  rintro e w1 ⟨rfl,rfl⟩
  go_wp2
  go_ret
  exact⟨rfl,Below.refl _ _⟩
 | false=>
  obtain⟨rfl,hc0⟩:=hp rfl
  clear hn hp ne
  by_cases h0:0<s.size
  ·have hc:=hc0 h0
   have h0I:(0:Int)<(s.size:Int):=by omega
   clear hc0
   go_enter Tryz.func17,Tryz.ntmps17
   go_wp2_with fail
   refine(SL.out _).mono ?_
   rintro e w1 ⟨rfl,rfl⟩
   go_wp2_with fail
   refine(DA.out _).mono ?_
   rintro e w1 ⟨rfl,rfl⟩
   go_wp2
   go_ret
   exact⟨rfl,Below.refl _ _⟩
  ·have h0I:¬(0:Int)<(s.size:Int):=by omega
   clear hc0
   go_enter Tryz.func17,Tryz.ntmps17
   go_wp2_with fail
   refine(SL.out _).mono ?_
   rintro e w1 ⟨rfl,rfl⟩
   go_wp2_with fail
   refine(DA.out _).mono ?_
   rintro e w1 ⟨rfl,rfl⟩
   go_wp2
   go_ret
   exact⟨rfl,Below.refl _ _⟩
theorem ck_neg0 (s t:ByteArray) (neg:Bool) (k:Nat) (w:World) (H:CkH s t neg k true) (hneg:neg=true) (hz:((t.extract 0 k).toList==[48])=true):
  Calls Tryz.prog 17 #[.string s] w (ckPost 1 w):=by
 obtain⟨hsz,htz,hk,hn,hp,SL0,DA0,ne⟩:=H
 have SL:=hid SL0
 have DA:=hid DA0
 clear SL0 DA0
 cases neg with
 | true=>
  obtain⟨h0,hc,hte⟩:=hn rfl
  have h0I:(0:Int)<(s.size:Int):=by omega
  have h1I:(1:Int)≤(s.size:Int):=by omega
  have HTE:=hid hte
  clear hn hp ne hte
  go_enter Tryz.func17,Tryz.ntmps17
  go_wp2_with fail
  rw[HTE.out]
  refine(SL.out _).mono ?_
  rintro e w1 ⟨rfl,rfl⟩
  go_wp2_with fail
  refine(DA.out _).mono ?_
  rintro e w1 ⟨rfl,rfl⟩
  go_wp2
  go_ret
  exact⟨rfl,Below.refl _ _⟩
 | false=>
  cases hneg
theorem ck_wlong (s t:ByteArray) (neg:Bool) (k:Nat) (w:World) (H:CkH s t neg k true) (hz:neg=true→((t.extract 0 k).toList==[48])=false) (hkk:k=t.size) (hl:(600:Int)<k):
  Calls Tryz.prog 17 #[.string s] w (ckPost 4 w):=by
 obtain⟨hsz,htz,hk,hn,hp,SL0,DA0,ne⟩:=H
 have SL:=hid SL0
 have DA:=hid DA0
 clear SL0 DA0
 have hlt:¬(k:Int)<(t.size:Int):=by omega
 have hd1:(t.size:Int)-(k:Int)-1 = -1:=by omega
 have hd2:¬(600:Int)<(t.size:Int)-(k:Int)-1:=by omega
 clear hkk hd1
 cases neg with
 | true=>
  obtain⟨h0,hc,hte⟩:=hn rfl
  have h0I:(0:Int)<(s.size:Int):=by omega
  have h1I:(1:Int)≤(s.size:Int):=by omega
  have HTE:=hid hte
  clear hn hp ne hte
  have hz1:=hz rfl
  clear hz
  go_enter Tryz.func17,Tryz.ntmps17
  go_wp2_with fail
  rw[HTE.out]
  refine(SL.out _).mono ?_
  rintro e w1 ⟨rfl,rfl⟩
  go_wp2_with fail
  refine(DA.out _).mono ?_
  rintro e w1 ⟨rfl,rfl⟩
  go_wp2
  go_ret
  exact⟨rfl,Below.refl _ _⟩
 | false=>
  obtain⟨rfl,hc0⟩:=hp rfl
  have h0:=ne rfl
  have hc:=hc0 h0
  have h0I:(0:Int)<(s.size:Int):=by omega
  clear hn hp ne hc0 hz
  go_enter Tryz.func17,Tryz.ntmps17
  go_wp2_with fail
  refine(SL.out _).mono ?_
  rintro e w1 ⟨rfl,rfl⟩
  go_wp2_with fail
  refine(DA.out _).mono ?_
  rintro e w1 ⟨rfl,rfl⟩
  go_wp2
  go_ret
  exact⟨rfl,Below.refl _ _⟩
theorem ck_wok (s t:ByteArray) (neg:Bool) (k:Nat) (w:World) (H:CkH s t neg k true) (hz:neg=true→((t.extract 0 k).toList==[48])=false) (hkk:k=t.size) (hl:¬(600:Int)<k):
  Calls Tryz.prog 17 #[.string s] w (ckPost 0 w):=by
 obtain⟨hsz,htz,hk,hn,hp,SL0,DA0,ne⟩:=H
 have SL:=hid SL0
 have DA:=hid DA0
 clear SL0 DA0
 have hlt:¬(k:Int)<(t.size:Int):=by omega
 have hd1:(t.size:Int)-(k:Int)-1 = -1:=by omega
 have hd2:¬(600:Int)<(t.size:Int)-(k:Int)-1:=by omega
 clear hkk hd1
 cases neg with
 | true=>
  obtain⟨h0,hc,hte⟩:=hn rfl
  have h0I:(0:Int)<(s.size:Int):=by omega
  have h1I:(1:Int)≤(s.size:Int):=by omega
  have HTE:=hid hte
  clear hn hp ne hte
  have hz1:=hz rfl
  clear hz
  go_enter Tryz.func17,Tryz.ntmps17
  go_wp2_with fail
  rw[HTE.out]
  refine(SL.out _).mono ?_
  rintro e w1 ⟨rfl,rfl⟩
  go_wp2_with fail
  refine(DA.out _).mono ?_
  rintro e w1 ⟨rfl,rfl⟩
  go_wp2
  go_ret
  exact⟨rfl,Below.refl _ _⟩
 | false=>
  obtain⟨rfl,hc0⟩:=hp rfl
  have h0:=ne rfl
  have hc:=hc0 h0
  have h0I:(0:Int)<(s.size:Int):=by omega
  clear hn hp ne hc0 hz
  go_enter Tryz.func17,Tryz.ntmps17
  go_wp2_with fail
  refine(SL.out _).mono ?_
  rintro e w1 ⟨rfl,rfl⟩
  go_wp2_with fail
  refine(DA.out _).mono ?_
  rintro e w1 ⟨rfl,rfl⟩
  go_wp2
  go_ret
  exact⟨rfl,Below.refl _ _⟩
theorem ck_badB (s t:ByteArray) (neg:Bool) (k:Nat) (w:World) (H:CkH s t neg k true) (hz:neg=true→((t.extract 0 k).toList==[48])=false) (hlt:(k:Int)<(t.size:Int)) (dB:Bool) (DB0:∀W,Calls Tryz.prog 104 #[.string (t.extract (k+1) t.size)] W (ansBool dB W)) (hdB:dB=false):
  Calls Tryz.prog 17 #[.string s] w (ckPost 1 w):=by
 obtain⟨hsz,htz,hk,hn,hp,SL0,DA0,ne⟩:=H
 have SL:=hid SL0
 have DA:=hid DA0
 clear SL0 DA0
 have DB:=hid DB0
 clear DB0
 have hk1:(k:Int)+1≤(t.size:Int):=by omega
 subst hdB
 cases neg with
 | true=>
  obtain⟨h0,hc,hte⟩:=hn rfl
  have h0I:(0:Int)<(s.size:Int):=by omega
  have h1I:(1:Int)≤(s.size:Int):=by omega
  have HTE:=hid hte
  clear hn hp ne hte
  have hz1:=hz rfl
  clear hz
  go_enter Tryz.func17,Tryz.ntmps17
  go_wp2_with fail
  rw[HTE.out]
  refine(SL.out _).mono ?_
  rintro e w1 ⟨rfl,rfl⟩
  go_wp2_with fail
  refine(DA.out _).mono ?_
  rintro e w1 ⟨rfl,rfl⟩
  go_wp2_with fail
  refine(DB.out _).mono ?_
  rintro e w1 ⟨rfl,rfl⟩
  go_wp2
  go_ret
  exact⟨rfl,Below.refl _ _⟩
 | false=>
  obtain⟨rfl,hc0⟩:=hp rfl
  have h0:=ne rfl
  have hc:=hc0 h0
  have h0I:(0:Int)<(s.size:Int):=by omega
  clear hn hp ne hc0 hz
  go_enter Tryz.func17,Tryz.ntmps17
  go_wp2_with fail
  refine(SL.out _).mono ?_
  rintro e w1 ⟨rfl,rfl⟩
  go_wp2_with fail
  refine(DA.out _).mono ?_
  rintro e w1 ⟨rfl,rfl⟩
  go_wp2_with fail
  refine(DB.out _).mono ?_
  rintro e w1 ⟨rfl,rfl⟩
  go_wp2
  go_ret
  exact⟨rfl,Below.refl _ _⟩
theorem ck_den0 (s t:ByteArray) (neg:Bool) (k:Nat) (w:World) (H:CkH s t neg k true) (hz:neg=true→((t.extract 0 k).toList==[48])=false) (hlt:(k:Int)<(t.size:Int)) (dB:Bool) (DB0:∀W,Calls Tryz.prog 104 #[.string (t.extract (k+1) t.size)] W (ansBool dB W)) (hdB:dB=true) (hb0:((t.extract (k+1) t.size).toList==[48])=true):
  Calls Tryz.prog 17 #[.string s] w (ckPost 1 w):=by
 obtain⟨hsz,htz,hk,hn,hp,SL0,DA0,ne⟩:=H
 have SL:=hid SL0
 have DA:=hid DA0
 clear SL0 DA0
 have DB:=hid DB0
 clear DB0
 have hk1:(k:Int)+1≤(t.size:Int):=by omega
 subst hdB
 cases neg with
 | true=>
  obtain⟨h0,hc,hte⟩:=hn rfl
  have h0I:(0:Int)<(s.size:Int):=by omega
  have h1I:(1:Int)≤(s.size:Int):=by omega
  have HTE:=hid hte
  clear hn hp ne hte
  have hz1:=hz rfl
  clear hz
  go_enter Tryz.func17,Tryz.ntmps17
  go_wp2_with fail
  rw[HTE.out]
  refine(SL.out _).mono ?_
  rintro e w1 ⟨rfl,rfl⟩
  go_wp2_with fail
  refine(DA.out _).mono ?_
  rintro e w1 ⟨rfl,rfl⟩
  go_wp2_with fail
  refine(DB.out _).mono ?_
  rintro e w1 ⟨rfl,rfl⟩
  go_wp2
  go_ret
  exact⟨rfl,Below.refl _ _⟩
 | false=>
  obtain⟨rfl,hc0⟩:=hp rfl
  have h0:=ne rfl
  have hc:=hc0 h0
  have h0I:(0:Int)<(s.size:Int):=by omega
  clear hn hp ne hc0 hz
  go_enter Tryz.func17,Tryz.ntmps17
  go_wp2_with fail
  refine(SL.out _).mono ?_
  rintro e w1 ⟨rfl,rfl⟩
  go_wp2_with fail
  refine(DA.out _).mono ?_
  rintro e w1 ⟨rfl,rfl⟩
  go_wp2_with fail
  refine(DB.out _).mono ?_
  rintro e w1 ⟨rfl,rfl⟩
  go_wp2
  go_ret
  exact⟨rfl,Below.refl _ _⟩
theorem ck_den1 (s t:ByteArray) (neg:Bool) (k:Nat) (w:World) (H:CkH s t neg k true) (hz:neg=true→((t.extract 0 k).toList==[48])=false) (hlt:(k:Int)<(t.size:Int)) (dB:Bool) (DB0:∀W,Calls Tryz.prog 104 #[.string (t.extract (k+1) t.size)] W (ansBool dB W)) (hdB:dB=true) (hb0:((t.extract (k+1) t.size).toList==[48])=false) (hb1:((t.extract (k+1) t.size).toList==[49])=true):
  Calls Tryz.prog 17 #[.string s] w (ckPost 1 w):=by
 obtain⟨hsz,htz,hk,hn,hp,SL0,DA0,ne⟩:=H
 have SL:=hid SL0
 have DA:=hid DA0
 clear SL0 DA0
 have DB:=hid DB0
 clear DB0
 have hk1:(k:Int)+1≤(t.size:Int):=by omega
 subst hdB
 cases neg with
 | true=>
  obtain⟨h0,hc,hte⟩:=hn rfl
  have h0I:(0:Int)<(s.size:Int):=by omega
  have h1I:(1:Int)≤(s.size:Int):=by omega
  have HTE:=hid hte
  clear hn hp ne hte
  have hz1:=hz rfl
  clear hz
  go_enter Tryz.func17,Tryz.ntmps17
  go_wp2_with fail
  rw[HTE.out]
  refine(SL.out _).mono ?_
  rintro e w1 ⟨rfl,rfl⟩
  go_wp2_with fail
  refine(DA.out _).mono ?_
  rintro e w1 ⟨rfl,rfl⟩
  go_wp2_with fail
  refine(DB.out _).mono ?_
  rintro e w1 ⟨rfl,rfl⟩
  go_wp2
  go_ret
  exact⟨rfl,Below.refl _ _⟩
 | false=>
  obtain⟨rfl,hc0⟩:=hp rfl
  have h0:=ne rfl
  have hc:=hc0 h0
  have h0I:(0:Int)<(s.size:Int):=by omega
  clear hn hp ne hc0 hz
  go_enter Tryz.func17,Tryz.ntmps17
  go_wp2_with fail
  refine(SL.out _).mono ?_
  rintro e w1 ⟨rfl,rfl⟩
  go_wp2_with fail
  refine(DA.out _).mono ?_
  rintro e w1 ⟨rfl,rfl⟩
  go_wp2_with fail
  refine(DB.out _).mono ?_
  rintro e w1 ⟨rfl,rfl⟩
  go_wp2
  go_ret
  exact⟨rfl,Below.refl _ _⟩
theorem ck_longA (s t:ByteArray) (neg:Bool) (k:Nat) (w:World) (H:CkH s t neg k true) (hz:neg=true→((t.extract 0 k).toList==[48])=false) (hlt:(k:Int)<(t.size:Int)) (dB:Bool) (DB0:∀W,Calls Tryz.prog 104 #[.string (t.extract (k+1) t.size)] W (ansBool dB W)) (hdB:dB=true) (hb0:((t.extract (k+1) t.size).toList==[48])=false) (hb1:((t.extract (k+1) t.size).toList==[49])=false) (hl:(600:Int)<k):
  Calls Tryz.prog 17 #[.string s] w (ckPost 4 w):=by
 obtain⟨hsz,htz,hk,hn,hp,SL0,DA0,ne⟩:=H
 have SL:=hid SL0
 have DA:=hid DA0
 clear SL0 DA0
 have DB:=hid DB0
 clear DB0
 have hk1:(k:Int)+1≤(t.size:Int):=by omega
 subst hdB
 cases neg with
 | true=>
  obtain⟨h0,hc,hte⟩:=hn rfl
  have h0I:(0:Int)<(s.size:Int):=by omega
  have h1I:(1:Int)≤(s.size:Int):=by omega
  have HTE:=hid hte
  clear hn hp ne hte
  have hz1:=hz rfl
  clear hz
  go_enter Tryz.func17,Tryz.ntmps17
  go_wp2_with fail
  rw[HTE.out]
  refine(SL.out _).mono ?_
  rintro e w1 ⟨rfl,rfl⟩
  go_wp2_with fail
  refine(DA.out _).mono ?_
  rintro e w1 ⟨rfl,rfl⟩
  go_wp2_with fail
  refine(DB.out _).mono ?_
  rintro e w1 ⟨rfl,rfl⟩
  go_wp2
  go_ret
  exact⟨rfl,Below.refl _ _⟩
 | false=>
  obtain⟨rfl,hc0⟩:=hp rfl
  have h0:=ne rfl
  have hc:=hc0 h0
  have h0I:(0:Int)<(s.size:Int):=by omega
  clear hn hp ne hc0 hz
  go_enter Tryz.func17,Tryz.ntmps17
  go_wp2_with fail
  refine(SL.out _).mono ?_
  rintro e w1 ⟨rfl,rfl⟩
  go_wp2_with fail
  refine(DA.out _).mono ?_
  rintro e w1 ⟨rfl,rfl⟩
  go_wp2_with fail
  refine(DB.out _).mono ?_
  rintro e w1 ⟨rfl,rfl⟩
  go_wp2
  go_ret
  exact⟨rfl,Below.refl _ _⟩
theorem ck_longB (s t:ByteArray) (neg:Bool) (k:Nat) (w:World) (H:CkH s t neg k true) (hz:neg=true→((t.extract 0 k).toList==[48])=false) (hlt:(k:Int)<(t.size:Int)) (dB:Bool) (DB0:∀W,Calls Tryz.prog 104 #[.string (t.extract (k+1) t.size)] W (ansBool dB W)) (hdB:dB=true) (hb0:((t.extract (k+1) t.size).toList==[48])=false) (hb1:((t.extract (k+1) t.size).toList==[49])=false) (hl:¬(600:Int)<k) (hl2:(600:Int)<(t.size:Int)-k-1):
  Calls Tryz.prog 17 #[.string s] w (ckPost 4 w):=by
 obtain⟨hsz,htz,hk,hn,hp,SL0,DA0,ne⟩:=H
 have SL:=hid SL0
 have DA:=hid DA0
 clear SL0 DA0
 have DB:=hid DB0
 clear DB0
 have hk1:(k:Int)+1≤(t.size:Int):=by omega
 subst hdB
 cases neg with
 | true=>
  obtain⟨h0,hc,hte⟩:=hn rfl
  have h0I:(0:Int)<(s.size:Int):=by omega
  have h1I:(1:Int)≤(s.size:Int):=by omega
  have HTE:=hid hte
  clear hn hp ne hte
  have hz1:=hz rfl
  clear hz
  go_enter Tryz.func17,Tryz.ntmps17
  go_wp2_with fail
  rw[HTE.out]
  refine(SL.out _).mono ?_
  rintro e w1 ⟨rfl,rfl⟩
  go_wp2_with fail
  refine(DA.out _).mono ?_
  rintro e w1 ⟨rfl,rfl⟩
  go_wp2_with fail
  refine(DB.out _).mono ?_
  rintro e w1 ⟨rfl,rfl⟩
  go_wp2
  go_ret
  exact⟨rfl,Below.refl _ _⟩
 | false=>
  obtain⟨rfl,hc0⟩:=hp rfl
  have h0:=ne rfl
  have hc:=hc0 h0
  have h0I:(0:Int)<(s.size:Int):=by omega
  clear hn hp ne hc0 hz
  go_enter Tryz.func17,Tryz.ntmps17
  go_wp2_with fail
  refine(SL.out _).mono ?_
  rintro e w1 ⟨rfl,rfl⟩
  go_wp2_with fail
  refine(DA.out _).mono ?_
  rintro e w1 ⟨rfl,rfl⟩
  go_wp2_with fail
  refine(DB.out _).mono ?_
  rintro e w1 ⟨rfl,rfl⟩
  go_wp2
  go_ret
  exact⟨rfl,Below.refl _ _⟩
theorem ck_common {w:World} {x y:Nat} {b1 b2:Bool} {A1 A2:Option Addr} {m1 m2 c1 c2:Nat} (r1:Ri w (.agg #[.bool b1,.slice A1 m1 c1]) (x:Int)) (r2:Ri w (.agg #[.bool b2,.slice A2 m2 c2]) (y:Int)) (bx:Big9 x) (by_:Big9 y):
  Calls Tryz.prog 106 #[.slice A1 m1 c1,.slice A2 m2 c2] w (dgPost (Nat.gcd x y) w):=by
 obtain⟨dx,hx,hdx⟩:=r1.dg
 obtain⟨dy,hy,hdy⟩:=r2.dg
 have e1:dx = .slice A1 m1 c1:=by
  simp at hx;exact hx.2.symm
 have e2:dy = .slice A2 m2 c2:=by
  simp at hy;exact hy.2.symm
 rw[e1,Int.natAbs_natCast] at hdx
 rw[e2,Int.natAbs_natCast] at hdy
 exact common_c _ _ x y w hdx hdy bx by_
theorem ck_fok (s t:ByteArray) (neg:Bool) (k:Nat) (w:World) (H:CkH s t neg k true) (hz:neg=true→((t.extract 0 k).toList==[48])=false) (hlt:(k:Int)<(t.size:Int)) (dB:Bool) (DB0:∀W,Calls Tryz.prog 104 #[.string (t.extract (k+1) t.size)] W (ansBool dB W)) (hdB:dB=true) (hb0:((t.extract (k+1) t.size).toList==[48])=false) (hb1:((t.extract (k+1) t.size).toList==[49])=false) (hl:¬(600:Int)<k) (hl2:¬(600:Int)<(t.size:Int)-k-1) (x y:Nat) (PT:Hid (∀W,Calls Tryz.prog 105 #[.string t] W (partsPost (x:Int) (y:Int) W))) (bx:Hid (Big9 x)) (by_:Hid (Big9 y)) (_hy:Hid (0<y)) (HG:Hid (Nat.gcd x y=1)):
  Calls Tryz.prog 17 #[.string s] w (ckPost 0 w):=by
 obtain⟨hsz,htz,hk,hn,hp,SL0,DA0,ne⟩:=H
 have SL:=hid SL0
 have DA:=hid DA0
 clear SL0 DA0
 have DB:=hid DB0
 clear DB0
 have hk1:(k:Int)+1≤(t.size:Int):=by omega
 subst hdB
 cases neg with
 | true=>
  obtain⟨h0,hc,hte⟩:=hn rfl
  have h0I:(0:Int)<(s.size:Int):=by omega
  have h1I:(1:Int)≤(s.size:Int):=by omega
  have HTE:=hid hte
  clear hn hp ne hte
  have hz1:=hz rfl
  clear hz
  go_enter Tryz.func17,Tryz.ntmps17
  go_wp2_with fail
  rw[HTE.out]
  refine(SL.out _).mono ?_
  rintro e w1 ⟨rfl,rfl⟩
  go_wp2_with fail
  refine(DA.out _).mono ?_
  rintro e w1 ⟨rfl,rfl⟩
  go_wp2_with fail
  refine(DB.out _).mono ?_
  rintro e w1 ⟨rfl,rfl⟩
  go_wp2_with fail
  refine(PT.out _).mono ?_
  rintro e w1 ⟨vp,vq,rfl,rp,rq,hB1⟩
  obtain⟨Ap,np,cp,rfl,_,_⟩:=rp.open_
  obtain⟨Aq,nq_,cq,rfl,_,_⟩:=rq.open_
  generalize decide ((x:Int)<0)=bp at *
  generalize decide ((y:Int)<0)=bq at *
  obtain⟨W1,hW1,hBW1,hz1,o1,o2,rp1,rq1⟩:=two_new rp rq
  go_upto_region 13 with fail
  rw[←hW1]
  have HB1:=hid (hB1.trans (hBW1.mono hB1.size))
  have CM:=hid (ck_common rp1 rq1 bx.out by_.out)
  obtain⟨a0,a1⟩:=o1.cell2
  obtain⟨b0,b1⟩:=o2.cell2
  clear hW1 hBW1 hz1 o1 o2 rp1 rq1 rp rq hB1 PT
  go_wp2_with fail
  refine CM.out.mono ?_
  rintro e w2 ⟨gv,rfl,hg,hB2⟩
  have HBF:=hid (HB1.out.trans (hB2.mono HB1.out.size))
  clear hB2 CM
  rw[HG.out] at hg
  obtain⟨gb,go_,gc,rfl,hgb,hgc⟩:=hg.one (by decide) (by decide)
  clear hg
  go_wp2
  go_ret
  exact⟨rfl,HBF.out⟩
 | false=>
  obtain⟨rfl,hc0⟩:=hp rfl
  have h0:=ne rfl
  have hc:=hc0 h0
  have h0I:(0:Int)<(s.size:Int):=by omega
  clear hn hp ne hc0 hz
  go_enter Tryz.func17,Tryz.ntmps17
  go_wp2_with fail
  refine(SL.out _).mono ?_
  rintro e w1 ⟨rfl,rfl⟩
  go_wp2_with fail
  refine(DA.out _).mono ?_
  rintro e w1 ⟨rfl,rfl⟩
  go_wp2_with fail
  refine(DB.out _).mono ?_
  rintro e w1 ⟨rfl,rfl⟩
  go_wp2_with fail
  refine(PT.out _).mono ?_
  rintro e w1 ⟨vp,vq,rfl,rp,rq,hB1⟩
  obtain⟨Ap,np,cp,rfl,_,_⟩:=rp.open_
  obtain⟨Aq,nq_,cq,rfl,_,_⟩:=rq.open_
  generalize decide ((x:Int)<0)=bp at *
  generalize decide ((y:Int)<0)=bq at *
  obtain⟨W1,hW1,hBW1,hz1,o1,o2,rp1,rq1⟩:=two_new rp rq
  go_upto_region 13 with fail
  rw[←hW1]
  have HB1:=hid (hB1.trans (hBW1.mono hB1.size))
  have CM:=hid (ck_common rp1 rq1 bx.out by_.out)
  obtain⟨a0,a1⟩:=o1.cell2
  obtain⟨b0,b1⟩:=o2.cell2
  clear hW1 hBW1 hz1 o1 o2 rp1 rq1 rp rq hB1 PT
  go_wp2_with fail
  refine CM.out.mono ?_
  rintro e w2 ⟨gv,rfl,hg,hB2⟩
  have HBF:=hid (HB1.out.trans (hB2.mono HB1.out.size))
  clear hB2 CM
  rw[HG.out] at hg
  obtain⟨gb,go_,gc,rfl,hgb,hgc⟩:=hg.one (by decide) (by decide)
  clear hg
  go_wp2
  go_ret
  exact⟨rfl,HBF.out⟩
theorem ck_fbad (s t:ByteArray) (neg:Bool) (k:Nat) (w:World) (H:CkH s t neg k true) (hz:neg=true→((t.extract 0 k).toList==[48])=false) (hlt:(k:Int)<(t.size:Int)) (dB:Bool) (DB0:∀W,Calls Tryz.prog 104 #[.string (t.extract (k+1) t.size)] W (ansBool dB W)) (hdB:dB=true) (hb0:((t.extract (k+1) t.size).toList==[48])=false) (hb1:((t.extract (k+1) t.size).toList==[49])=false) (hl:¬(600:Int)<k) (hl2:¬(600:Int)<(t.size:Int)-k-1) (x y:Nat) (PT:Hid (∀W,Calls Tryz.prog 105 #[.string t] W (partsPost (x:Int) (y:Int) W))) (bx:Hid (Big9 x)) (by_:Hid (Big9 y)) (hy:Hid (0<y)) (HG:Hid (Nat.gcd x y≠1)):
  Calls Tryz.prog 17 #[.string s] w (ckPost 1 w):=by
 obtain⟨hsz,htz,hk,hn,hp,SL0,DA0,ne⟩:=H
 have SL:=hid SL0
 have DA:=hid DA0
 clear SL0 DA0
 have DB:=hid DB0
 clear DB0
 have hk1:(k:Int)+1≤(t.size:Int):=by omega
 subst hdB
 cases neg with
 | true=>
  obtain⟨h0,hc,hte⟩:=hn rfl
  have h0I:(0:Int)<(s.size:Int):=by omega
  have h1I:(1:Int)≤(s.size:Int):=by omega
  have HTE:=hid hte
  clear hn hp ne hte
  have hz1:=hz rfl
  clear hz
  go_enter Tryz.func17,Tryz.ntmps17
  go_wp2_with fail
  rw[HTE.out]
  refine(SL.out _).mono ?_
  rintro e w1 ⟨rfl,rfl⟩
  go_wp2_with fail
  refine(DA.out _).mono ?_
  rintro e w1 ⟨rfl,rfl⟩
  go_wp2_with fail
  refine(DB.out _).mono ?_
  rintro e w1 ⟨rfl,rfl⟩
  go_wp2_with fail
  refine(PT.out _).mono ?_
  rintro e w1 ⟨vp,vq,rfl,rp,rq,hB1⟩
  obtain⟨Ap,np,cp,rfl,_,_⟩:=rp.open_
  obtain⟨Aq,nq_,cq,rfl,_,_⟩:=rq.open_
  generalize decide ((x:Int)<0)=bp at *
  generalize decide ((y:Int)<0)=bq at *
  obtain⟨W1,hW1,hBW1,hz1,o1,o2,rp1,rq1⟩:=two_new rp rq
  go_upto_region 13 with fail
  rw[←hW1]
  have HB1:=hid (hB1.trans (hBW1.mono hB1.size))
  have CM:=hid (ck_common rp1 rq1 bx.out by_.out)
  obtain⟨a0,a1⟩:=o1.cell2
  obtain⟨b0,b1⟩:=o2.cell2
  clear hW1 hBW1 hz1 o1 o2 rp1 rq1 rp rq hB1 PT
  go_wp2_with fail
  refine CM.out.mono ?_
  rintro e w2 ⟨gv,rfl,hg,hB2⟩
  have HBF:=hid (HB1.out.trans (hB2.mono HB1.out.size))
  clear hB2 CM
  rcases slice1 hg (Nat.gcd_pos_of_pos_right _ hy.out) HG.out with ⟨A9,n9,c9,rfl,hqn,hql⟩ | ⟨qb,qo,qc2,rfl,hqb,hqc,hqv⟩
  ·have hqn2:((n9:Int) != 1)=true:=by simpa using hqn
   clear hg
   go_wp2
   go_ret
   exact⟨rfl,HBF.out⟩
  ·have hqv2:(((Nat.gcd x y:Nat):Int) != 1)=true:=by simpa using hqv
   clear hg
   generalize Nat.gcd x y=g at *
   go_wp2
   go_ret
   exact⟨rfl,HBF.out⟩
 | false=>
  obtain⟨rfl,hc0⟩:=hp rfl
  have h0:=ne rfl
  have hc:=hc0 h0
  have h0I:(0:Int)<(s.size:Int):=by omega
  clear hn hp ne hc0 hz
  go_enter Tryz.func17,Tryz.ntmps17
  go_wp2_with fail
  refine(SL.out _).mono ?_
  rintro e w1 ⟨rfl,rfl⟩
  go_wp2_with fail
  refine(DA.out _).mono ?_
  rintro e w1 ⟨rfl,rfl⟩
  go_wp2_with fail
  refine(DB.out _).mono ?_
  rintro e w1 ⟨rfl,rfl⟩
  go_wp2_with fail
  refine(PT.out _).mono ?_
  rintro e w1 ⟨vp,vq,rfl,rp,rq,hB1⟩
  obtain⟨Ap,np,cp,rfl,_,_⟩:=rp.open_
  obtain⟨Aq,nq_,cq,rfl,_,_⟩:=rq.open_
  generalize decide ((x:Int)<0)=bp at *
  generalize decide ((y:Int)<0)=bq at *
  obtain⟨W1,hW1,hBW1,hz1,o1,o2,rp1,rq1⟩:=two_new rp rq
  go_upto_region 13 with fail
  rw[←hW1]
  have HB1:=hid (hB1.trans (hBW1.mono hB1.size))
  have CM:=hid (ck_common rp1 rq1 bx.out by_.out)
  obtain⟨a0,a1⟩:=o1.cell2
  obtain⟨b0,b1⟩:=o2.cell2
  clear hW1 hBW1 hz1 o1 o2 rp1 rq1 rp rq hB1 PT
  go_wp2_with fail
  refine CM.out.mono ?_
  rintro e w2 ⟨gv,rfl,hg,hB2⟩
  have HBF:=hid (HB1.out.trans (hB2.mono HB1.out.size))
  clear hB2 CM
  rcases slice1 hg (Nat.gcd_pos_of_pos_right _ hy.out) HG.out with ⟨A9,n9,c9,rfl,hqn,hql⟩ | ⟨qb,qo,qc2,rfl,hqb,hqc,hqv⟩
  ·have hqn2:((n9:Int) != 1)=true:=by simpa using hqn
   clear hg
   go_wp2
   go_ret
   exact⟨rfl,HBF.out⟩
  ·have hqv2:(((Nat.gcd x y:Nat):Int) != 1)=true:=by simpa using hqv
   clear hg
   generalize Nat.gcd x y=g at *
   go_wp2
   go_ret
   exact⟨rfl,HBF.out⟩
theorem trim_eq (l:List UInt8):l=(if hasPrefix l [45]=true then [45] else [])++trimPrefix l [45]:=by
 unfold trimPrefix hasPrefix
 cases l with
 | nil=>rfl
 | cons a r=>
  by_cases h:([45].isPrefixOf (a::r))=true
  ·rw[if_pos h,if_pos h]
   have:a=45:=by simp[List.isPrefixOf] at h;exact h.symm
   subst this;rfl
  ·rw[if_neg h,if_neg h];rfl
theorem prefix45 (l:List UInt8) (h:hasPrefix l [45]=false):l[0]? ≠some 45:=by
 unfold hasPrefix at h
 cases l with
 | nil=>simp
 | cons a r=>
  intro e
  have:a=45:=by simpa using e
  subst this
  simp[List.isPrefixOf] at h
@[irreducible] def K600:Nat:=600
theorem K600_eq:K600=600:=by unfold K600;rfl
theorem big9_600 {x:Nat} (h:x<10^K600):Big9 x:=by
 have h0:1000≤lim9:=by unfold lim9;decide
 have h6:=K600_eq
 have h1:10^K600≤10^(9*lim9):=Nat.pow_le_pow_right (by decide) (by omega)
 rw[Nat.pow_mul] at h1
 exact Nat.lt_of_lt_of_le h h1
theorem val600 {a:List UInt8} (h:allDig a) (hl:a.length≤600):decVal a<10^K600:=Nat.lt_of_lt_of_le (decVal_lt h) (Nat.pow_le_pow_right (by decide) (by rw[K600_eq];exact hl))
theorem cut_parts (d:List UInt8):((cut d [47]).2.2=true∧d=(cut d [47]).1++47::(cut d [47]).2.1∧(cut d [47]).1=d.take (slashAt d)∧(cut d [47]).2.1=d.drop (slashAt d+1)∧slashAt d<d.length)∨((cut d [47]).2.2=false∧d=(cut d [47]).1∧slashAt d=d.length):=by
 rw[cut_slash]
 by_cases h:slashAt d<d.length
 ·rw[if_pos h]
  refine .inl ⟨rfl,?_,rfl,rfl,h⟩
  have h1:=slash_is h
  obtain⟨hl,hg⟩:=List.getElem?_eq_some_iff.1 h1
  conv=>lhs;rw[←List.take_append_drop (slashAt d) d,List.drop_eq_getElem_cons hl,hg]
 ·rw[if_neg h]
  exact .inr ⟨rfl,rfl,by have:=slashAt_le d;omega⟩
theorem numeral_val {a:List UInt8} (h:Numeral a):decDigits (decVal a)=a:=(numeral_dec a.length a rfl h).symm
theorem val_ne {a:List UInt8} {n:Nat} {t:List UInt8} (h:Numeral a) (ht:decDigits n=t) (hne:a≠t):decVal a≠n:=fun e=>hne (by rw[←numeral_val h,e,ht])
theorem readRes_text (l:List UInt8) (h:(readRes l).1=0):rtext (readRes l).2=l∧(readRes l).2.num.natAbs<10^K600∧(readRes l).2.den<10^K600:=by
 have hl:=trim_eq l
 have hc:=cut_parts (trimPrefix l [45])
 unfold readRes at h ⊢
 generalize hasPrefix l [45]=neg at *
 generalize trimPrefix l [45]=d at *
 generalize (cut d [47]).1=a at *
 generalize (cut d [47]).2.1=b at *
 generalize (cut d [47]).2.2=f at *
 unfold readParts at h ⊢
 by_cases h1:¬Numeral a∨(neg=true∧a=[48])
 ·rw[if_pos h1] at h;cases h
 rw[if_neg h1] at h ⊢
 have hA:Numeral a:=Decidable.not_not.1 (fun h=>h1 (.inl h))
 have hpos:neg=true→0<decVal a:=fun hn=>by
  have:=val_ne hA (decDigits_one (by decide:(0:Nat)<10)) (fun e=>h1 (.inr ⟨hn,e⟩))
  omega
 have key:∀D:Nat,D≠0→Nat.gcd (decVal a) D=1→rtext (mkR neg (decVal a) D)=(if neg=true then [45] else [])++a++(if D=1 then [] else 47::decDigits D)∧(mkR neg (decVal a) D).num.natAbs=decVal a∧(mkR neg (decVal a) D).den=D:=by
  intro D hD hg
  rw[mkR_eq]
  have hg':Nat.gcd (sg neg (decVal a)).natAbs D=1:=by rw[sg_natAbs];exact hg
  obtain⟨e1,e2⟩:=mkRat_low hD hg'
  rw[rtext_low hD hg',e1,e2,sg_natAbs]
  refine⟨?_,rfl,rfl⟩
  unfold ptext
  rw[sg_neg,numeral_val hA]
  cases neg with
  | true=>rw[decide_eq_true (hpos rfl)];simp
  | false=>simp
 by_cases hf:f=true
 ·rw[if_pos hf] at h ⊢
  by_cases h2:¬Numeral b∨b=[48]∨b=[49]
  ·rw[if_pos h2] at h;cases h
  rw[if_neg h2] at h ⊢
  by_cases h3:600<a.length∨600<b.length
  ·rw[if_pos h3] at h;cases h
  rw[if_neg h3] at h ⊢
  by_cases h4:Nat.gcd (decVal a) (decVal b)=1
  ·rw[if_pos h4] at h ⊢
   have hB:Numeral b:=Decidable.not_not.1 (fun h=>h2 (.inl h))
   have b0:decVal b≠0:=val_ne hB (decDigits_one (by decide:(0:Nat)<10)) (fun e=>h2 (.inr (.inl e)))
   have b1:decVal b≠1:=val_ne hB (decDigits_one (by decide:(1:Nat)<10)) (fun e=>h2 (.inr (.inr e)))
   obtain⟨k1,k2,k3⟩:=key _ b0 h4
   show rtext (mkR neg (decVal a) (decVal b))=l∧(mkR neg (decVal a) (decVal b)).num.natAbs<10^K600∧(mkR neg (decVal a) (decVal b)).den<10^K600
   rw[k1,k2,k3,if_neg b1,numeral_val hB]
   have la:=decVal_lt hA.1
   have lb:=decVal_lt hB.1
   have pa:10^a.length≤10^K600:=Nat.pow_le_pow_right (by decide) (by rw[K600_eq];omega)
   have pb:10^b.length≤10^K600:=Nat.pow_le_pow_right (by decide) (by rw[K600_eq];omega)
   refine⟨?_,Nat.lt_of_lt_of_le la pa,Nat.lt_of_lt_of_le lb pb⟩
   rcases hc with ⟨_,hd,_⟩ | ⟨hf2,_⟩
   ·rw[hl,hd,List.append_assoc]
   ·rw[hf] at hf2;cases hf2
  ·rw[if_neg h4] at h;cases h
 ·rw[if_neg hf] at h ⊢
  by_cases h3:600<a.length
  ·rw[if_pos h3] at h;cases h
  rw[if_neg h3] at h ⊢
  obtain⟨k1,k2,k3⟩:=key 1 (by decide) (Nat.gcd_one_right _)
  show rtext (mkR neg (decVal a) 1)=l∧(mkR neg (decVal a) 1).num.natAbs<10^K600∧(mkR neg (decVal a) 1).den<10^K600
  rw[k1,k2,k3,if_pos rfl,List.append_nil]
  have la:=decVal_lt hA.1
  have pa:10^a.length≤10^K600:=Nat.pow_le_pow_right (by decide) (by rw[K600_eq];omega)
  refine⟨?_,Nat.lt_of_lt_of_le la pa,Nat.one_lt_pow (by rw[K600_eq];decide) (by decide)⟩
  rcases hc with ⟨hf2,_⟩ | ⟨_,hd,_⟩
  ·exact absurd hf2 hf
  ·rw[hl,hd]
theorem refCheck_c (l:List UInt8) (w:World) (hb:l.length≤9000000):Calls Tryz.prog 17 #[.string ⟨l.toArray⟩] w (ckPost (readRes l).1 w):=by
 have hle:=trim_eq l
 have hc:=cut_parts (trimPrefix l [45])
 have hdl:(trimPrefix l [45]).length≤l.length:=trim_len l
 have hpre:=prefix45 l
 unfold readRes
 generalize hasPrefix l [45]=neg at *
 generalize trimPrefix l [45]=d at *
 generalize hss:(⟨l.toArray⟩:ByteArray)=s
 have hs:s.data.toList=l:=by rw[←hss]
 have hsz:=size_of hs
 have hk:=slashAt_le d
 obtain⟨t,ht,htl⟩:∃t:ByteArray,t.data.toList=d∧(neg=true→s.extract 1 s.size=t)∧(neg=false→s=t):=by
  cases neg with
  | true=>
   have hs':s.data.toList=45::d:=by rw[hs,hle];rfl
   exact⟨s.extract 1 s.size,by rw[ext_of hs',size_of hs',List.take_of_length_le (Nat.le_refl _)];rfl,fun _=>rfl,(fun h=>by cases h)⟩
  | false=>exact⟨s,by rw[hs,hle];rfl,(fun h=>by cases h),fun _=>rfl⟩
 have htz:=size_of ht
 have ea:(t.extract 0 (slashAt d)).data.toList=d.take (slashAt d):=by rw[ext_of ht];simp
 have eb:(t.extract (slashAt d+1) t.size).data.toList=d.drop (slashAt d+1):=by rw[ext_of ht,htz,List.take_of_length_le (Nat.le_refl _)]
 have hA:(cut d [47]).1=d.take (slashAt d):=by
  rcases hc with ⟨_,_,h,_⟩ | ⟨_,h,h2⟩
  ·exact h
  ·rw[h2,List.take_of_length_le (Nat.le_refl _)];exact h.symm
 have SL:∀W,Calls Tryz.prog 103 #[.string t] W (ansInt (slashAt d) W):=fun W=>by have h:=slash_c t W (by omega);rw[ht] at h;exact h
 have DA:∀W,Calls Tryz.prog 104 #[.string (t.extract 0 (slashAt d))] W (ansBool (decide (Numeral (d.take (slashAt d)))) W):=fun W=>by
  have h:=decimalForm_c (t.extract 0 (slashAt d)) W (by rw[size_of ea,List.length_take];omega)
  rw[ea] at h;exact h
 have H:∀dA,decide (Numeral (d.take (slashAt d)))=dA→CkH s t neg (slashAt d) dA:=fun dA hdA=>by
  refine⟨by omega,by omega,by omega,fun hn=> ?_,fun hn=>⟨htl.2 hn,fun h0=> ?_⟩,SL,by rw[←hdA];exact DA,fun h=> ?_⟩
  ·subst hn
   have hs':s.data.toList=45::d:=by rw[hs,hle];rfl
   have h0:0<s.size:=by rw[size_of hs'];simp
   exact⟨h0,by rw[first_of hs' h0];rfl,htl.1 rfl⟩
  ·have hge:=ba_get s 0 h0
   rw[hs] at hge
   exact byte_ne (n:=45) (by decide) (fun e=>hpre hn (by rw[hge,e];rfl))
  ·rw[←hdA] at h
   have hN:=of_decide_eq_true h
   have:d.take (slashAt d)≠[]:=by rcases hN.2 with h | h;rw[h];simp;exact h.1
   have h1:0<(d.take (slashAt d)).length:=List.length_pos_iff.2 this
   rw[List.length_take] at h1
   omega
 unfold readParts
 rw[hA]
 by_cases hN:Numeral (d.take (slashAt d))
 ·have HH:=H true (decide_eq_true hN)
  by_cases hz:neg=true∧d.take (slashAt d)=[48]
  ·rw[if_pos (.inr hz)]
   exact ck_neg0 s t neg _ w HH hz.1 (by rw[ByteArray.toList_eq,ea,hz.2];rfl)
  ·rw[if_neg (by rintro (h | h);exact h hN;exact hz h)]
   have NZ:neg=true→((t.extract 0 (slashAt d)).toList==[48])=false:=fun hn=>by
    rw[ByteArray.toList_eq,ea]
    have:d.take (slashAt d)≠[48]:=fun e=>hz ⟨hn,e⟩
    simpa using this
   rcases hc with ⟨hf,hd,_,hB,hlt⟩ | ⟨hf,hd,hk2⟩
   ·rw[if_pos hf,hB]
    have hltI:((slashAt d:Nat):Int)<(t.size:Int):=by omega
    have DB:∀W,Calls Tryz.prog 104 #[.string (t.extract (slashAt d+1) t.size)] W (ansBool (decide (Numeral (d.drop (slashAt d+1)))) W):=fun W=>by
     have h:=decimalForm_c (t.extract (slashAt d+1) t.size) W (by rw[size_of eb,List.length_drop];omega)
     rw[eb] at h;exact h
    by_cases hNB:Numeral (d.drop (slashAt d+1))
    ·have hdB:=decide_eq_true hNB
     by_cases h48:d.drop (slashAt d+1)=[48]
     ·rw[if_pos (.inr (.inl h48))]
      exact ck_den0 s t neg _ w HH NZ hltI _ DB hdB (by rw[ByteArray.toList_eq,eb,h48];rfl)
     ·have h48':((t.extract (slashAt d+1) t.size).toList==[48])=false:=by rw[ByteArray.toList_eq,eb];simpa using h48
      by_cases h49:d.drop (slashAt d+1)=[49]
      ·rw[if_pos (.inr (.inr h49))]
       exact ck_den1 s t neg _ w HH NZ hltI _ DB hdB h48' (by rw[ByteArray.toList_eq,eb,h49];rfl)
      ·have h49':((t.extract (slashAt d+1) t.size).toList==[49])=false:=by rw[ByteArray.toList_eq,eb];simpa using h49
       rw[if_neg (by rintro (h | h | h);exact h hNB;exact h48 h;exact h49 h)]
       have la:(d.take (slashAt d)).length=slashAt d:=by rw[List.length_take];omega
       have lb:(d.drop (slashAt d+1)).length=d.length-(slashAt d+1):=List.length_drop
       by_cases hla:600<slashAt d
       ·rw[if_pos (.inl (by omega))]
        exact ck_longA s t neg _ w HH NZ hltI _ DB hdB h48' h49' (by omega)
       ·by_cases hlb:600<(d.drop (slashAt d+1)).length
        ·rw[if_pos (.inr hlb)]
         exact ck_longB s t neg _ w HH NZ hltI _ DB hdB h48' h49' (by omega) (by omega)
        ·rw[if_neg (by omega)]
         have b0:0<decVal (d.drop (slashAt d+1)):=by
          have:=val_ne hNB (decDigits_one (by decide:(0:Nat)<10)) h48
          omega
         have PT:Hid (∀W,Calls Tryz.prog 105 #[.string t] W (partsPost ((decVal (d.take (slashAt d)):Nat):Int) ((decVal (d.drop (slashAt d+1)):Nat):Int) W)):=hid (fun W=>by
          have na:0<(d.take (slashAt d)).length:=List.length_pos_iff.2 (by rcases hN.2 with h | h;rw[h];simp;exact h.1)
          have nb:0<(d.drop (slashAt d+1)).length:=List.length_pos_iff.2 (by rcases hNB.2 with h | h;rw[h];simp;exact h.1)
          have h:=partsF_c false (d.take (slashAt d)) (d.drop (slashAt d+1)) t W (by rw[ht];conv=>lhs;rw[hd,hA,hB]
                                                                                     rfl) hN.1 hNB.1 na nb (by omega) (by omega)
          have e:sg false (decVal (d.take (slashAt d)))=((decVal (d.take (slashAt d)):Nat):Int):=by unfold sg;rw[if_neg (by decide)]
          rw[e] at h;exact h)
         have B1:=hid (big9_600 (val600 hN.1 (by omega)))
         have B2:=hid (big9_600 (val600 hNB.1 (by omega)))
         by_cases hg:Nat.gcd (decVal (d.take (slashAt d))) (decVal (d.drop (slashAt d+1)))=1
         ·rw[if_pos hg]
          exact ck_fok s t neg _ w HH NZ hltI _ DB hdB h48' h49' (by omega) (by omega) _ _ PT B1 B2 (hid b0) (hid hg)
         ·rw[if_neg hg]
          exact ck_fbad s t neg _ w HH NZ hltI _ DB hdB h48' h49' (by omega) (by omega) _ _ PT B1 B2 (hid b0) (hid hg)
    ·rw[if_pos (.inl hNB)]
     exact ck_badB s t neg _ w HH NZ hltI _ DB (decide_eq_false hNB)
   ·rw[if_neg (by rw[hf];decide)]
    have la:(d.take (slashAt d)).length=d.length:=by rw[List.length_take];omega
    by_cases hla:600<d.length
    ·rw[if_pos (by omega)]
     exact ck_wlong s t neg _ w HH NZ (by omega) (by omega)
    ·rw[if_neg (by omega)]
     exact ck_wok s t neg _ w HH NZ (by omega) (by omega)
 ·rw[if_pos (.inl hN)]
  exact ck_badA s t neg _ w (H false (decide_eq_false hN))
end Go.Proofs.YtneafcdfnhnpnaaGreatDoor
